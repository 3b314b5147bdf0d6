/- The law's own toIntS: a copy in new memory, by its contract. -/
import Derived.Test.YtnojigofojjopaaDoorEqI
import Derived.Laws.MakeOwn
namespace Go.Proofs.YtnojigofojjopaaDoor
open Go.RowKit

theorem set_next {α : Type} (ys rest : List α) (y : α) (j : Nat) (hy : ys.length = j) (hj : j < rest.length) : (ys ++ rest.drop j).set j y = (ys ++ [y]) ++ rest.drop (j + 1) := by
  rw [List.set_append_right _ _ (by omega), hy, Nat.sub_self, List.drop_eq_getElem_cons hj, List.set_cons_zero]
  simp

theorem take_next (zs : List Int) (k : Nat) (h : k < zs.length) : zs.take (k + 1) = zs.take k ++ [zs[k]?.getD 0] := by
  rw [List.take_add_one, List.getElem?_eq_getElem h]; rfl

theorem toI_step (zs : List Int) (cur : List Value) (k len : Nat) (hk : k < len) (hz : len ≤ zs.length) (hc : cur.length = len) :
    ((zs.take k).map (Value.int .i64) ++ cur.drop k).set k (.int .i64 (zs[k]?.getD 0)) = (zs.take (k + 1)).map (Value.int .i64) ++ cur.drop (k + 1) := by
  rw [set_next _ _ _ _ (by rw [List.length_map, List.length_take]; omega) (by omega), take_next zs k (by omega), List.map_append]
  rfl

set_option maxHeartbeats 1600000 in
theorem toI_row (b off len cap : Nat) (zs : List Int) (w : World) (hlen : len ≤ 1099511627776) (hz : len ≤ zs.length) (hcell : ∀ j, j < zs.length → w.cell? ⟨b, off + j, none⟩ = some (.int .i64 (zs.getD j 0))) (h0 : 0 < len) :
    Calls Tryd.prog 7 #[.slice (some ⟨b, off, none⟩) len cap] w fun e w' => ∃ v, e = .returned v ∧ ownsI w' w.heap.size v (zs.take len) ∧ Below w.heap.size w w' := by
  obtain ⟨i0, hi, hz0, hz1, hz2⟩ := info_parts Tryd.info3
  obtain ⟨w1, hmk, hown1, hg1⟩ := run_make_full (P := Tryd.prog) w w.heap.size 22 3 i0 (.int .i64 0) 1 Tryd.underlying22 hi hz0 hz1 .i64 .i64 len (by rw [hz2]; omega) (by unfold maxLen; omega) (Nat.le_refl _)
  have hb : b < w.heap.size := block_lt_of_cell (hcell 0 (by omega))
  have hb1 : Below w.heap.size w w1 := (Below.refl _ _).grown hg1 (Nat.le_refl _) (fun k hk => by cases hk)
  obtain ⟨cur, hcl, hown⟩ : ∃ cur : List Value, cur.length = len ∧ w1.ownsRow w.heap.size 3 1 (.slice (some ⟨w.heap.size, 0, none⟩) len len) len cur := ⟨_, by have := hown1.1; omega, hown1⟩
  clear hown1 hg1 hi hz0 hz1 hz2
  go_enter Tryd.func7, Tryd.ntmps7
  go_wp2
  go_loopw [4] (fun i wr => ∃ k : Nat, k ≤ len ∧ i = .int .i64 k ∧ wr.ownsRow w.heap.size 3 1 (.slice (some ⟨w.heap.size, 0, none⟩) len len) len ((zs.take k).map (Value.int .i64) ++ cur.drop k) ∧ Below w.heap.size w wr) (fun i _ => len - (intOf i).toNat)
  case atStart => exact ⟨0, Nat.zero_le _, rfl, hown, hb1⟩
  case round =>
    obtain ⟨k, hk, rfl, howk, hbk⟩ := hrel
    by_cases hlt : k < len
    · have hc : wr.cell? ⟨b, off + k, none⟩ = some (.int .i64 (zs.getD k 0)) := (hbk.cell (p := ⟨b, off + k, none⟩) hb).trans (hcell k (by omega))
      have hf := howk.frozenAt k
      have hcx : ∃ u, wr.cell? ⟨w.heap.size, k, none⟩ = some u := by
        rw [howk.cellAt k (by omega)]
        exact ⟨_, List.getElem?_eq_getElem (by rw [howk.1]; omega)⟩
      obtain ⟨ux, hcx⟩ := hcx
      have hs := howk.stored k (.int .i64 (zs[k]?.getD 0))
      rw [toI_step zs cur k len hlt hz hcl] at hs
      have hbs : Below w.heap.size w (wr.setCell ⟨w.heap.size, k, none⟩ (.int .i64 (zs[k]?.getD 0))) := hbk.setCell (Nat.le_refl _) _
      clear howk hbk
      go_wp2
      go_roundw
      case rel => exact ⟨k + 1, by omega, by go_num, hs.1, hbs⟩
      case measure => simp [intOf]; omega
    · have hke : k = len := by omega
      subst hke
      rw [List.drop_of_length_le (by omega), List.append_nil] at howk
      go_wp2
      go_ret
      refine ⟨_, rfl, ?_, hbk⟩
      unfold ownsI
      rw [List.length_take, Nat.min_eq_left hz]
      exact howk

set_option maxHeartbeats 1600000 in
theorem toI_empty (a : Option Addr) (cap : Nat) (w : World) :
    Calls Tryd.prog 7 #[.slice a 0 cap] w fun e w' => ∃ v, e = .returned v ∧ ownsI w' w.heap.size v [] ∧ Below w.heap.size w w' := by
  obtain ⟨i0, hi, hz0, hz1, hz2⟩ := info_parts Tryd.info3
  obtain ⟨w1, hmk, hown1, hg1⟩ := run_make_full (P := Tryd.prog) w w.heap.size 22 3 i0 (.int .i64 0) 1 Tryd.underlying22 hi hz0 hz1 .i64 .i64 0 (by omega) (by unfold maxLen; omega) (Nat.le_refl _)
  have hb1 : Below w.heap.size w w1 := (Below.refl _ _).grown hg1 (Nat.le_refl _) (fun k hk => by cases hk)
  have hown : ownsI w1 w.heap.size (.slice (some ⟨w.heap.size, 0, none⟩) 0 0) [] := by
    have e : (madeCells (Value.int .i64 0).cells (0 * 1)).toList = [] := List.eq_nil_of_length_eq_zero (by have := hown1.1; omega)
    rw [e] at hown1
    exact hown1
  have hmk' : (Instr.makeSlice 22 (.int .i64 0) (.int .i64 0)).run Tryd.prog w = .ok (.slice (some ⟨w.heap.size, 0, none⟩) 0 0) w1 := by simpa using hmk
  clear hown1 hg1 hi hz0 hz1 hz2 hmk
  go_enter Tryd.func7, Tryd.ntmps7
  go_wp2
  refine wp_loop_rounds 1 ?_
  rw [rounds_succ]
  go_wp2
  go_ret
  exact ⟨_, rfl, hown, hb1⟩

/-- toIntS: the same bytes in new memory. -/
theorem toI (a : Option Addr) (len cap : Nat) (zs : List Int) (w : World) (hlen : len ≤ 1099511627776) (hr : IsRow .i64 w a len cap zs) :
    Calls Tryd.prog 7 #[.slice a len cap] w fun e w' => ∃ v, e = .returned v ∧ ownsI w' w.heap.size v (zs.take len) ∧ Below w.heap.size w w' := by
  rcases hr with ⟨rfl, rfl, rfl, rfl⟩ | ⟨⟨b, off, spot⟩, rfl, h2, h3, h4, h5, h6⟩
  · exact toI_empty none 0 w
  · by_cases h0 : len = 0
    · subst h0; rw [List.take_zero]; exact toI_empty _ _ w
    · have hc := h5 0 (by omega)
      have hspot : spot = none := by simpa [Addr.add] using World.cell?_spot hc
      subst hspot
      refine toI_row b off len cap zs w hlen (by omega) (fun j hj => ?_) (by omega)
      have := h5 j hj
      by_cases hj0 : j = 0
      · subst hj0; simpa [Addr.add] using this
      · simpa [Addr.add, hj0] using this

end Go.Proofs.YtnojigofojjopaaDoor
