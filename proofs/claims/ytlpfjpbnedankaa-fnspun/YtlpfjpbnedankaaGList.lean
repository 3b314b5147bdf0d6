/- The program's list of a great number, by its contract. -/
import Derived.Test.YtlpfjpbnedankaaGSettle
import Derived.Test.YtlpfjpbnedankaaBase
import Derived.Laws.MakeOwn
namespace Go.Proofs.Ytlpfjpbnedankaa
open Go.RowKit

theorem listed {xs zs : List Int} {k : Nat} (hk : k < xs.length) (hl : zs.length = xs.length) (h : ∀ j, j < k → zs.getD j 0 = xs.getD j 0) : ∀ j, j < k + 1 → (zs.set k (xs.getD k 0)).getD j 0 = xs.getD j 0 := by
  intro j hj
  rw [List.getD_eq_getElem?_getD, List.getElem?_set]
  by_cases e : k = j
  · subst e
    rw [if_pos rfl, if_pos (by omega)]
    rfl
  · rw [if_neg e, ← List.getD_eq_getElem?_getD]
    exact h j (by omega)
theorem all_listed {xs zs : List Int} (hl : zs.length = xs.length) (h : ∀ j, j < xs.length → zs.getD j 0 = xs.getD j 0) : zs = xs := by
  apply List.ext_getElem?
  intro i
  by_cases hi : i < xs.length
  · have := h i hi
    rw [List.getD_eq_getElem?_getD, List.getD_eq_getElem?_getD, List.getElem?_eq_getElem hi, List.getElem?_eq_getElem (by omega)] at this
    rw [List.getElem?_eq_getElem hi, List.getElem?_eq_getElem (by omega)]
    simpa using this
  · rw [List.getElem?_eq_none (by omega), List.getElem?_eq_none (by omega)]

theorem nil_own (w : World) (base : Nat) : ownsI w base (.slice none 0 0) [] := by
  unfold ownsI
  exact ⟨rfl, .inl ⟨rfl, rfl⟩⟩

set_option maxRecDepth 20000 in
set_option maxHeartbeats 3200000 in
/-- limbs: all of them, in a list of its own. -/
theorem gLimbs (b o n : Nat) (w : World) (ha : GA w b o n) :
    Calls Try.prog 74 #[.pointer (some ⟨b, o, none⟩)] w (fun e w' => ∃ v, e = .returned v ∧ ownsI w' w.heap.size v (limbs n) ∧ Below w.heap.size w w') := by
  have hl := ha.len
  have hbl := ha.lt
  have c98 := ha.size
  have hxr := limbs_inR n
  have hWr : ∀ k, k < 98 → ∀ W, Below w.heap.size w W → W.cell? ⟨b, o + k, none⟩ = some (.int .u32 ((limbs n).getD k 0)) := fun k hk W g => (ha.below g hbl).word k hk
  have HW : Hid (∀ k, k < 98 → ∀ W, Below w.heap.size w W → W.cell? ⟨b, o + k, none⟩ = some (.int .u32 ((limbs n).getD k 0))) := hWr
  clear hWr ha
  generalize limbs n = xs at *
  obtain ⟨i0, hi, hz0, hz1, hz2⟩ := info_parts Try.info3
  obtain ⟨w1, hmk, hown1, hg1⟩ := run_make_full (P := Try.prog) w w.heap.size 25 3 i0 (.int .i64 0) 1 Try.underlying25 hi hz0 hz1 .i64 .i64 xs.length (by rw [hz2]; omega) (by unfold maxLen; omega) (by simp)
  have hb1 : Below w.heap.size w w1 := (Below.refl _ _).grown hg1 (by simp) (fun k hk => by cases hk)
  have hz : (madeCells (Value.int .i64 0).cells (xs.length * 1)).toList = (List.replicate xs.length (0 : Int)).map (Value.int .i64) := by
    rw [Nat.mul_one]
    have := toList_madeCells_one (Value.int .i64 0) xs.length
    rw [List.map_replicate]
    exact this
  rw [hz] at hown1
  clear hg1 hi hz0 hz1 hz2 hz
  go_enter Try.func74, Try.ntmps74
  go_wp2
  clear c98 hmk
  go_loopw [12] (fun i wr => ∃ (k : Nat) (zs : List Int), k ≤ xs.length ∧ i = .int .i64 k ∧ zs.length = xs.length ∧ Hid (∀ j, j < k → zs.getD j 0 = xs.getD j 0) ∧ wr.ownsRow w.heap.size 3 1 (.slice (some ⟨w.heap.size, 0, none⟩) xs.length xs.length) xs.length (zs.map (Value.int .i64)) ∧ Below w.heap.size w wr) (fun i _ => xs.length - (intOf i).toNat)
  case atStart => exact ⟨0, List.replicate xs.length 0, Nat.zero_le _, rfl, List.length_replicate, fun j hj => absurd hj (by omega), hown1, hb1⟩
  case round =>
    clear hown1 hb1
    obtain ⟨k, zs, hk, rfl, hzl, HZ, hown, hbw⟩ := hrel
    by_cases hlt : k < xs.length
    · have hlt' : (k : Int) < (xs.length : Int) := by omega
      have cw := HW.out k (by omega) wr hbw
      have hk98 : (k : Int) < 98 := by omega
      have gx := inR_getD hxr k
      have HN := listed hlt hzl HZ.out
      obtain ⟨x, hx⟩ : ∃ x, xs.getD k 0 = x := ⟨_, rfl⟩
      rw [hx] at cw gx HN
      have HN2 : Hid (∀ j, j < k + 1 → (zs.set k x).getD j 0 = xs.getD j 0) := HN
      obtain ⟨gx0, gx1⟩ := gx
      have cz := cellsI_of hown hzl k hlt
      have fz := hown.frozenAt k
      have hs := hown.stored k (.int .i64 x)
      have HS : Hid ((wr.setCell ⟨w.heap.size, k, none⟩ (.int .i64 x)).ownsRow w.heap.size 3 1 (.slice (some ⟨w.heap.size, 0, none⟩) xs.length xs.length) xs.length ((zs.map (Value.int .i64)).set k (.int .i64 x))) := hs.1
      have HG : Hid (Below w.heap.size w wr) := hbw
      clear hx HN hown hs hbw HZ
      go_wp2
      go_roundw
      case rel =>
        refine ⟨k + 1, zs.set k x, by omega, by go_num, by rw [List.length_set, hzl], HN2, by rw [List.map_set]; exact HS.out, ?_⟩
        exact HG.out.setCell (Nat.le_refl _) _
      case measure => simp [intOf]; omega
    · have hke : k = xs.length := by omega
      subst hke
      have HE : Hid (zs = xs) := all_listed hzl HZ.out
      have hlt' : ¬ ((xs.length : Int) < (xs.length : Int)) := by omega
      have HO : Hid (wr.ownsRow w.heap.size 3 1 (.slice (some ⟨w.heap.size, 0, none⟩) xs.length xs.length) xs.length (zs.map (Value.int .i64)) ∧ Below w.heap.size w wr) := ⟨hown, hbw⟩
      clear hown hbw HZ
      go_wp2
      go_ret
      refine ⟨_, rfl, ?_, HO.out.2⟩
      show ownsI wr w.heap.size _ xs
      unfold ownsI
      have := HO.out.1
      rw [HE.out] at this
      exact this

set_option maxHeartbeats 3200000 in
/-- list: the limbs, where there are not too many. -/
theorem gList (n : Nat) (w : World) (hl : (limbs n).length ≤ 98) :
    Calls Try.prog 65 #[.agg (gC n)] w (ansI w (fitR n)) := by
  have N0 := GN.made w n hl
  have A0 := GN.ga N0 hl
  have B0 : Below w.heap.size w (w.alloc (.cells (gC n) 97)) := (Below.refl _ _).alloc (Nat.le_refl _) _
  have c98 := GB.size N0
  by_cases h48 : (limbs n).length ≤ 48
  · have HR : Hid (fitR n = (limbs n, true)) := by show _ = _; unfold fitR; rw [if_pos h48]
    have hc : ¬ ((48 : Int) < ((limbs n).length : Int)) := by omega
    have hs1 : w.heap.size ≤ (w.alloc (.cells (gC n) 97)).heap.size := by simp
    have kL := gLimbs w.heap.size 0 n _ A0
    clear N0 A0
    go_enter Try.func65, Try.ntmps65
    go_wp2_with fail
    refine kL.mono ?_
    rintro e w1 ⟨v1, rfl, o1, b1⟩
    go_wp2
    go_ret2
    exact ⟨_, by rw [HR.out]; rfl, by rw [HR.out]; exact ownsI_mono o1 hs1, B0.trans (b1.mono hs1)⟩
  · have HR : Hid (fitR n = ([], false)) := by show _ = _; unfold fitR; rw [if_neg h48]
    have h48' : (48 : Int) < ((limbs n).length : Int) := by omega
    clear hl
    go_enter Try.func65, Try.ntmps65
    go_wp2
    go_ret2
    exact ⟨_, by rw [HR.out]; rfl, by rw [HR.out]; exact nil_own _ _, B0⟩

end Go.Proofs.Ytlpfjpbnedankaa
