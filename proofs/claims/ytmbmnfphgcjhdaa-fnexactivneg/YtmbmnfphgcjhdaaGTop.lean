/- Several small texts in one: GList, SWhole, GPlus, GLower, SgPM. -/
import Derived.Test.YtmbmnfphgcjhdaaGSettle
import Derived.Test.YtmbmnfphgcjhdaaEqI
import Derived.Laws.MakeOwn
import Derived.Test.YtmbmnfphgcjhdaaSFrom
import Derived.Deep.RegionHeld
import Derived.Test.YtmbmnfphgcjhdaaGReg
import Derived.Test.YtmbmnfphgcjhdaaGCmp
/- The program's list of a great number, by its contract. -/
namespace Go.Proofs.Ytmbmnfphgcjhdaa
open Go.RowKit

theorem listed {xs zs : List Int} {k : Nat} (hk : k < xs.length) (hl : zs.length = xs.length) (h : ∀ j, j < k → zs.getD j 0 = xs.getD j 0) : ∀ j, j < k + 1 → (zs.set k (xs.getD k 0)).getD j 0 = xs.getD j 0 := by
  intro j hj
  rw [List.getD_eq_getElem?_getD, List.getElem?_set]
  by_cases e : k = j
  · subst e
    rw [if_pos rfl, if_pos (by omega)]
    rfl
  · rw [if_neg e, ← List.getD_eq_getElem?_getD]
    exact h j (by omega)
theorem all_listed {xs zs : List Int} (hl : zs.length = xs.length) (h : ∀ j, j < xs.length → zs.getD j 0 = xs.getD j 0) : zs = xs := by
  apply List.ext_getElem?
  intro i
  by_cases hi : i < xs.length
  · have := h i hi
    rw [List.getD_eq_getElem?_getD, List.getD_eq_getElem?_getD, List.getElem?_eq_getElem hi, List.getElem?_eq_getElem (by omega)] at this
    rw [List.getElem?_eq_getElem hi, List.getElem?_eq_getElem (by omega)]
    simpa using this
  · rw [List.getElem?_eq_none (by omega), List.getElem?_eq_none (by omega)]

theorem nil_own (w : World) (base : Nat) : ownsI w base (.slice none 0 0) [] := by
  unfold ownsI
  exact ⟨rfl, .inl ⟨rfl, rfl⟩⟩

set_option maxRecDepth 20000 in
set_option maxHeartbeats 3200000 in
/-- limbs: all of them, in a list of its own. -/
theorem gLimbs (b o n : Nat) (w : World) (ha : GA w b o n) :
    Calls Try.prog 104 #[.pointer (some ⟨b, o, none⟩)] w (fun e w' => ∃ v, e = .returned v ∧ ownsI w' w.heap.size v (limbs n) ∧ Below w.heap.size w w') := by
  have hl := ha.len
  have hbl := ha.lt
  have c98 := ha.size
  have hxr := limbs_inR n
  have hWr : ∀ k, k < 98 → ∀ W, Below w.heap.size w W → W.cell? ⟨b, o + k, none⟩ = some (.int .u32 ((limbs n).getD k 0)) := fun k hk W g => (ha.below g hbl).word k hk
  have HW : Hid (∀ k, k < 98 → ∀ W, Below w.heap.size w W → W.cell? ⟨b, o + k, none⟩ = some (.int .u32 ((limbs n).getD k 0))) := hWr
  clear hWr ha
  generalize limbs n = xs at *
  obtain ⟨i0, hi, hz0, hz1, hz2⟩ := info_parts Try.info3
  obtain ⟨w1, hmk, hown1, hg1⟩ := run_make_full (P := Try.prog) w w.heap.size 22 3 i0 (.int .i64 0) 1 Try.underlying22 hi hz0 hz1 .i64 .i64 xs.length (by rw [hz2]; omega) (by unfold maxLen; omega) (by simp)
  have hb1 : Below w.heap.size w w1 := (Below.refl _ _).grown hg1 (by simp) (fun k hk => by cases hk)
  have hz : (madeCells (Value.int .i64 0).cells (xs.length * 1)).toList = (List.replicate xs.length (0 : Int)).map (Value.int .i64) := by
    rw [Nat.mul_one]
    have := toList_madeCells_one (Value.int .i64 0) xs.length
    rw [List.map_replicate]
    exact this
  rw [hz] at hown1
  clear hg1 hi hz0 hz1 hz2 hz
  go_enter Try.func104, Try.ntmps104
  go_wp2
  clear c98 hmk
  go_loopw [12] (fun i wr => ∃ (k : Nat) (zs : List Int), k ≤ xs.length ∧ i = .int .i64 k ∧ zs.length = xs.length ∧ Hid (∀ j, j < k → zs.getD j 0 = xs.getD j 0) ∧ wr.ownsRow w.heap.size 3 1 (.slice (some ⟨w.heap.size, 0, none⟩) xs.length xs.length) xs.length (zs.map (Value.int .i64)) ∧ Below w.heap.size w wr) (fun i _ => xs.length - (intOf i).toNat)
  case atStart => exact ⟨0, List.replicate xs.length 0, Nat.zero_le _, rfl, List.length_replicate, fun j hj => absurd hj (by omega), hown1, hb1⟩
  case round =>
    clear hown1 hb1
    obtain ⟨k, zs, hk, rfl, hzl, HZ, hown, hbw⟩ := hrel
    by_cases hlt : k < xs.length
    · have hlt' : (k : Int) < (xs.length : Int) := by omega
      have cw := HW.out k (by omega) wr hbw
      have hk98 : (k : Int) < 98 := by omega
      have gx := inR_getD hxr k
      have HN := listed hlt hzl HZ.out
      obtain ⟨x, hx⟩ : ∃ x, xs.getD k 0 = x := ⟨_, rfl⟩
      rw [hx] at cw gx HN
      have HN2 : Hid (∀ j, j < k + 1 → (zs.set k x).getD j 0 = xs.getD j 0) := HN
      obtain ⟨gx0, gx1⟩ := gx
      have cz := cellsI_of hown hzl k hlt
      have fz := hown.frozenAt k
      have hs := hown.stored k (.int .i64 x)
      have HS : Hid ((wr.setCell ⟨w.heap.size, k, none⟩ (.int .i64 x)).ownsRow w.heap.size 3 1 (.slice (some ⟨w.heap.size, 0, none⟩) xs.length xs.length) xs.length ((zs.map (Value.int .i64)).set k (.int .i64 x))) := hs.1
      have HG : Hid (Below w.heap.size w wr) := hbw
      clear hx HN hown hs hbw HZ
      go_wp2
      go_roundw
      case rel =>
        refine ⟨k + 1, zs.set k x, by omega, by go_num, by rw [List.length_set, hzl], HN2, by rw [List.map_set]; exact HS.out, ?_⟩
        exact HG.out.setCell (Nat.le_refl _) _
      case measure => simp [intOf]; omega
    · have hke : k = xs.length := by omega
      subst hke
      have HE : Hid (zs = xs) := all_listed hzl HZ.out
      have hlt' : ¬ ((xs.length : Int) < (xs.length : Int)) := by omega
      have HO : Hid (wr.ownsRow w.heap.size 3 1 (.slice (some ⟨w.heap.size, 0, none⟩) xs.length xs.length) xs.length (zs.map (Value.int .i64)) ∧ Below w.heap.size w wr) := ⟨hown, hbw⟩
      clear hown hbw HZ
      go_wp2
      go_ret
      refine ⟨_, rfl, ?_, HO.out.2⟩
      show ownsI wr w.heap.size _ xs
      unfold ownsI
      have := HO.out.1
      rw [HE.out] at this
      exact this

set_option maxHeartbeats 3200000 in
/-- list: the limbs, where there are not too many. -/
theorem gList (n : Nat) (w : World) (hl : (limbs n).length ≤ 98) :
    Calls Try.prog 94 #[.agg (gC n)] w (ansI w (fitR n)) := by
  have N0 := GN.made w n hl
  have A0 := GN.ga N0 hl
  have B0 : Below w.heap.size w (w.alloc (.cells (gC n) 112)) := (Below.refl _ _).alloc (Nat.le_refl _) _
  have c98 := GB.size N0
  by_cases h48 : (limbs n).length ≤ 48
  · have HR : Hid (fitR n = (limbs n, true)) := by show _ = _; unfold fitR; rw [if_pos h48]
    have hc : ¬ ((48 : Int) < ((limbs n).length : Int)) := by omega
    have hs1 : w.heap.size ≤ (w.alloc (.cells (gC n) 112)).heap.size := by simp
    have kL := gLimbs w.heap.size 0 n _ A0
    clear N0 A0
    go_enter Try.func94, Try.ntmps94
    go_wp2_with fail
    refine kL.mono ?_
    rintro e w1 ⟨v1, rfl, o1, b1⟩
    go_wp2
    go_ret2
    exact ⟨_, by rw [HR.out]; rfl, by rw [HR.out]; exact ownsI_mono o1 hs1, B0.trans (b1.mono hs1)⟩
  · have HR : Hid (fitR n = ([], false)) := by show _ = _; unfold fitR; rw [if_neg h48]
    have h48' : (48 : Int) < ((limbs n).length : Int) := by omega
    clear hl
    go_enter Try.func94, Try.ntmps94
    go_wp2
    go_ret2
    exact ⟨_, by rw [HR.out]; rfl, by rw [HR.out]; exact nil_own _ _, B0⟩

end Go.Proofs.Ytmbmnfphgcjhdaa

/- The program's whole and negated, each by its contract. -/
namespace Go.Proofs.Ytmbmnfphgcjhdaa
open Go.RowKit
set_option linter.unusedSimpArgs false

theorem nilW (w : World) (base : Nat) : ownsW w base (.agg #[.bool false, .slice none 0 0]) (false, []) := ⟨_, rfl, nil_own w base⟩

set_option maxRecDepth 20000 in
set_option maxHeartbeats 1600000 in
/-- whole: sign and limbs, where there are not too many. -/
theorem sWhole (b : Nat) (z : Int) (w : World) (h : SG w b z) :
    Calls Try.prog 79 #[.pointer (some ⟨b, 0, none⟩)] w fun e w' => ∃ v, e = .returned (.tuple #[v, .bool (fitW z).2]) ∧ ownsW w' w.heap.size v (fitW z).1 ∧ Below w.heap.size w w' := by
  have hl := h.mag.len
  have hlt := h.lt
  have B0 := below1 w (.cells #[.bool false, .slice none 0 0] 26)
  have X0 := BoxW.made w (.bool false) (.slice none 0 0) 26
  have S0 := h.below B0 hlt
  have hs0 : (w.alloc (.cells #[.bool false, .slice none 0 0] 26)).heap.size = w.heap.size + 1 := by simp
  have kL := fun W => gList z.natAbs W hl
  clear h
  by_cases h48 : (limbs z.natAbs).length ≤ 48
  · have HF : Hid (fitW z = (mkW z, true)) := by show _ = _; rw [fitW, if_pos h48]
    have hfr : fitR z.natAbs = (limbs z.natAbs, true) := by unfold fitR; rw [if_pos h48]
    simp only [hfr] at kL
    have HM : Hid (mkW z = (decide (z < 0), limbs z.natAbs)) := rfl
    clear h48 hfr
    go_enter Try.func79, Try.ntmps79
    go_wp2_with (first | (go_at_call 94; fail) | ((with_reducible (refine wpL_id ?_)); refine wpA_load rfl (.tmp 9) rfl b 1 z.natAbs rfl S0.mag ?_))
    generalize w.alloc (.cells #[.bool false, .slice none 0 0] 26) = w0 at *
    refine (kL _).mono ?_
    rintro e w1 ⟨v1, rfl, o1, b1⟩
    have S1 := S0.below b1 S0.lt
    have X1 := X0.below b1 (Nat.le_refl _)
    have B1 := B0.trans (b1.mono B0.size)
    obtain ⟨ad, cap, rfl, -⟩ := o1.row
    have c0 := S1.sign
    have d0 := X1.c0
    have d1 := X1.c1
    have f0 := X1.f0
    have f1 := X1.f1
    obtain ⟨g, hg⟩ : ∃ g, decide (z < 0) = g := ⟨_, rfl⟩
    rw [hg] at c0 HM
    obtain ⟨xs, hxs⟩ : ∃ xs, limbs z.natAbs = xs := ⟨_, rfl⟩
    have o1' : ownsI w1 w0.heap.size (.slice ad xs.length cap) xs := by rw [← hxs]; exact o1
    rw [hxs] at HM
    have HO : Hid (ownsI w1 w0.heap.size (.slice ad xs.length cap) xs) := o1'
    have hne : ¬ (b = w.heap.size) := by omega
    have HZ : Hid (limbs z.natAbs = xs) := hxs
    rw [hxs]
    clear o1 o1' S1 X1 S0 X0 b1 kL hxs hg
    go_wp2
    (try simp only [Exit.inBlock, Exit.then])
    refine bodyPost_ret (v := .tuple #[.agg #[.bool g, .slice ad xs.length cap], .bool true]) ?_ rfl ⟨_, by rw [HF.out], ?_, ?_⟩
    · rw [results_cell_tmp rfl]
      go_simp
    · rw [HF.out]
      show ownsW _ _ _ (mkW z)
      rw [HM.out]
      refine ⟨_, rfl, ?_⟩
      have o2 := ownsRow_setCell_below (a := ⟨w.heap.size, 0, none⟩) HO.out (by show w.heap.size < w0.heap.size; omega) (.bool g)
      have o3 := ownsRow_setCell_below (a := ⟨w.heap.size, 1, none⟩) o2 (by show w.heap.size < w0.heap.size; omega) (.slice ad xs.length cap)
      exact ownsRow_mono o3 (by omega)
    · exact (B1.setCell (p := ⟨w.heap.size, 0, none⟩) (Nat.le_refl _) _).setCell (p := ⟨w.heap.size, 1, none⟩) (Nat.le_refl _) _
  · have HF : Hid (fitW z = ((false, []), false)) := by show _ = _; rw [fitW, if_neg h48]
    have hfr : fitR z.natAbs = ([], false) := by unfold fitR; rw [if_neg h48]
    simp only [hfr] at kL
    clear h48 hfr
    go_enter Try.func79, Try.ntmps79
    go_wp2_with (first | (go_at_call 94; fail) | ((with_reducible (refine wpL_id ?_)); refine wpA_load rfl (.tmp 9) rfl b 1 z.natAbs rfl S0.mag ?_))
    generalize w.alloc (.cells #[.bool false, .slice none 0 0] 26) = w0 at *
    refine (kL _).mono ?_
    rintro e w1 ⟨v1, rfl, o1, b1⟩
    have X1 := X0.below b1 (Nat.le_refl _)
    have B1 := B0.trans (b1.mono B0.size)
    have d0 := X1.c0
    have d1 := X1.c1
    have f0 := X1.f0
    have f1 := X1.f1
    clear o1 X1 S0 X0 b1 kL
    go_wp2
    (try simp only [Exit.inBlock, Exit.then])
    refine bodyPost_ret (v := .tuple #[.agg #[.bool false, .slice none 0 0], .bool false]) ?_ rfl ⟨_, by rw [HF.out], ?_, ?_⟩
    · rw [results_cell_tmp rfl]
      go_simp
    · rw [HF.out]
      exact nilW _ _
    · exact (B1.setCell (p := ⟨w.heap.size, 0, none⟩) (Nat.le_refl _) _).setCell (p := ⟨w.heap.size, 1, none⟩) (Nat.le_refl _) _

set_option maxRecDepth 20000 in
set_option maxHeartbeats 1600000 in
/-- negated. -/
theorem sNegated (b : Nat) (z : Int) (w : World) (h : SG w b z) :
    Calls Try.prog 86 #[.pointer (some ⟨b, 0, none⟩)] w fun e w' => ∃ c, e = .returned (.pointer (some ⟨c, 0, none⟩)) ∧ w.heap.size ≤ c ∧ SG w' c (-z) ∧ Below w.heap.size w w' := by
  have hl := h.mag.len
  have kN := fun W => newSigned_c (!(decide (z < 0))) z.natAbs W hl
  have hz : (if (!(decide (z < 0))) = true then -(z.natAbs : Int) else (z.natAbs : Int)) = -z := by by_cases hn : z < 0 <;> simp [hn] <;> omega
  simp only [hz] at kN
  have c0 := h.sign
  have HS := h.mag
  obtain ⟨g, hg⟩ : ∃ g, decide (z < 0) = g := ⟨_, rfl⟩
  rw [hg] at c0
  simp only [hg] at kN
  have hn0 : (⟨b, 0, none⟩ : Addr) = ⟨b, 0, none⟩ := rfl
  clear hz hg hn0 h
  generalize z.natAbs = n at *
  generalize -z = y at *
  go_enter Try.func86, Try.ntmps86
  go_wp2_with fail
  refine wp_region_held_drew (S := fun W => W.cell? ⟨b, 0, none⟩ = some (.bool g) ∧ GA W b 1 n) (by kernel_rfl) ⟨c0, HS.drew⟩ ?_
  intro hHeld
  refine takeH 0 (some 3) (.pointer (some ⟨b, 0, none⟩)) rfl rfl (by kernel_rfl) (by kernel_rfl) (by kernel_rfl) (fun _ _ _ h => h) (yg_move rfl (.tmp 0) rfl _ rfl) (by assumption) ?_
  simp only [Act.put, List.setIfInBounds_toArray, List.set_cons_zero, List.set_cons_succ]
  refine takeH 1 (some 4) (.pointer (some ⟨b, 0, none⟩)) rfl rfl (by kernel_rfl) (by kernel_rfl) (by kernel_rfl) (fun _ _ _ h => h) (Or.inl ⟨rfl, fun W hW => by obtain ⟨c0, -⟩ := hW; go_simp⟩) (by assumption) ?_
  simp only [Act.put, List.setIfInBounds_toArray, List.set_cons_zero, List.set_cons_succ]
  refine takeH 2 (some 5) (.pointer (some ⟨b, 0, none⟩)) rfl rfl (by kernel_rfl) (by kernel_rfl) (by kernel_rfl) (fun _ _ _ h => h) (Or.inl ⟨rfl, fun W hW => by obtain ⟨c0, -⟩ := hW; go_simp⟩) (by assumption) ?_
  simp only [Act.put, List.setIfInBounds_toArray, List.set_cons_zero, List.set_cons_succ]
  refine takeH 3 (some 6) (.bool g) rfl rfl (by kernel_rfl) (by kernel_rfl) (by kernel_rfl) (fun _ _ _ h => h) (Or.inl ⟨rfl, fun W hW => by obtain ⟨c0, -⟩ := hW; go_simp⟩) (by assumption) ?_
  simp only [Act.put, List.setIfInBounds_toArray, List.set_cons_zero, List.set_cons_succ]
  refine takeH 4 (some 7) (.bool (!g)) rfl rfl (by kernel_rfl) (by kernel_rfl) (by kernel_rfl) (fun _ _ _ h => h) (Or.inl ⟨rfl, fun W hW => by obtain ⟨c0, -⟩ := hW; go_simp⟩) (by assumption) ?_
  simp only [Act.put, List.setIfInBounds_toArray, List.set_cons_zero, List.set_cons_succ]
  refine takeH 5 (some 8) (.pointer (some ⟨b, 0, none⟩)) rfl rfl (by kernel_rfl) (by kernel_rfl) (by kernel_rfl) (fun _ _ _ h => h) (yg_move rfl (.tmp 0) rfl _ rfl) (by assumption) ?_
  simp only [Act.put, List.setIfInBounds_toArray, List.set_cons_zero, List.set_cons_succ]
  refine takeH 6 (some 9) (.pointer (some ⟨b, 0, none⟩)) rfl rfl (by kernel_rfl) (by kernel_rfl) (by kernel_rfl) (fun _ _ _ h => h) (Or.inl ⟨rfl, fun W hW => by obtain ⟨c0, -⟩ := hW; go_simp⟩) (by assumption) ?_
  simp only [Act.put, List.setIfInBounds_toArray, List.set_cons_zero, List.set_cons_succ]
  refine takeH 7 (some 10) (.pointer (some ⟨b, 1, none⟩)) rfl rfl (by kernel_rfl) (by kernel_rfl) (by kernel_rfl) (fun _ _ _ h => h) (Or.inl ⟨rfl, fun W hW => by obtain ⟨c0, -⟩ := hW; go_simp⟩) (by assumption) ?_
  simp only [Act.put, List.setIfInBounds_toArray, List.set_cons_zero, List.set_cons_succ]
  refine takeH 8 (some 11) (.agg (gC n)) rfl rfl (by kernel_rfl) (by kernel_rfl) (by kernel_rfl) (fun _ _ _ h => h) (yg_load rfl (.tmp 10) rfl b 1 n rfl (fun W h => h.2)) (by assumption) ?_
  simp only [Act.put, List.setIfInBounds_toArray, List.set_cons_zero, List.set_cons_succ]
  refine oneH 9 rfl (by kernel_rfl) (fun K' hK => ?_)
  go_simp
  refine (kN _).mono ?_
  rintro e w5 ⟨c, rfl, hc, s5, b5⟩
  have S5 : w5.cell? ⟨b, 0, none⟩ = some (.bool g) ∧ GA w5 b 1 n := ⟨(b5.cell (p := ⟨b, 0, none⟩) HS.drew.lt).trans hHeld.1, hHeld.2.below b5 HS.drew.lt⟩
  refine hK _ _ S5 ?_
  clear hK hHeld
  refine takeH 10 (some 2) (.pointer (some ⟨c, 0, none⟩)) rfl rfl (by kernel_rfl) (by kernel_rfl) (by kernel_rfl) (fun _ _ _ h => h) (yg_assign rfl (.tmp 12) rfl _ rfl) (by assumption) ?_
  simp only [Act.put, List.setIfInBounds_toArray, List.set_cons_zero, List.set_cons_succ]
  refine wpAnyH_done (by kernel_rfl) ?_ _
  clear S5 c0
  go_wp2
  go_ret
  exact ⟨c, rfl, hc, s5, (show Below w.heap.size w w.drew from ⟨rfl, rfl, rfl, Nat.le_refl _, fun _ _ => rfl⟩).trans b5⟩

end Go.Proofs.Ytmbmnfphgcjhdaa

/- The program's plus, by its contract. -/
namespace Go.Proofs.Ytmbmnfphgcjhdaa
open Go.RowKit

theorem GB.drewN {w : World} {b : Nat} {ws : List Int} {k : Int} (h : GB w b ws k) (q : Nat) : GB (w.drewN q) b ws k := ⟨h.blk, h.len⟩
theorem Below.drewN {B : Nat} {a w : World} (h : Below B a w) (q : Nat) : Below B a (w.drewN q) := h.trans ⟨rfl, rfl, rfl, Nat.le_refl _, fun _ _ => rfl⟩
theorem take_set_succ {ws : List Int} {k : Nat} (h : k < ws.length) (v : Int) : (ws.set k v).take (k + 1) = ws.take k ++ [v] := by
  rw [List.take_succ_eq_append_getElem (by rw [List.length_set]; exact h), List.take_set_of_le (Nat.le_refl _), List.getElem_set_self]
theorem gset_ne {ws : List Int} {k j : Nat} (v : Int) (h : k ≠ j) : (ws.set k v).getD j 0 = ws.getD j 0 := by
  rw [List.getD_eq_getElem?_getD, List.getElem?_set_ne h, ← List.getD_eq_getElem?_getD]
theorem getD_far {xs : List Int} {j : Nat} (h : xs.length ≤ j) : xs.getD j 0 = 0 := by
  rw [List.getD_eq_getElem?_getD, List.getElem?_eq_none h]; rfl
/-- A great number's block among the new ones is not one of what was there. -/
theorem GA.ne {w : World} {b o n : Nat} (h : GA w b o n) : b ≠ w.heap.size := Nat.ne_of_lt h.lt
/-- behind the sum -/
theorem sum_fin {ws : List Int} {m n k : Nat} (hr : inR (ws.take k)) (h : lval (ws.take k) = lval ((limbs m).take k) + lval ((limbs n).take k)) (h1 : (limbs m).length ≤ k) (h2 : (limbs n).length ≤ k) : num (ws.take k) = m + n := by
  rw [List.take_of_length_le h1, List.take_of_length_le h2, limbs_val, limbs_val] at h
  have := num_val hr
  omega

set_option maxHeartbeats 3200000 in
/-- plus: the sum. -/
theorem gPlus (b ob m n : Nat) (w : World) (hl1 : (limbs m).length ≤ 97) (hl2 : (limbs n).length ≤ 97) (hb : GA w b ob n) :
    Calls Try.prog 97 #[.agg (gC m), .pointer (some ⟨b, ob, none⟩)] w fun e w' => e = .returned (.agg (gC (m + n))) ∧ Below w.heap.size w w' := by
  have hl3 : (limbs (m + n)).length ≤ 98 := by
    have a1 := limbs_lt m
    have a2 := limbs_lt n
    have p1 := Nat.pow_le_pow_right (by omega : 0 < 16777216) hl1
    have p2 := Nat.pow_le_pow_right (by omega : 0 < 16777216) hl2
    refine limbs_len_le (m + n) 98 ?_
    have e : (16777216 : Nat) ^ 98 = 16777216 ^ 97 * 16777216 := rfl
    omega
  have hgc : gC m = gcell (pad (limbs m)) ((limbs m).length : Int) := rfl
  rw [hgc]
  have G0 := (GB.made w (pad (limbs m)) ((limbs m).length : Int) (pad_len (by omega))).alloc (.cells Try.zeroCells112 112)
  have R0 := GB.made0 (w.alloc (.cells (gcell (pad (limbs m)) ((limbs m).length : Int)) 112))
  have hs0 : (w.alloc (.cells (gcell (pad (limbs m)) ((limbs m).length : Int)) 112)).heap.size = w.heap.size + 1 := by simp
  have B0 : Below w.heap.size w ((w.alloc (.cells (gcell (pad (limbs m)) ((limbs m).length : Int)) 112)).alloc (.cells Try.zeroCells112 112)) := ((Below.refl w.heap.size w).alloc (Nat.le_refl _) _).alloc (by simp) _
  rw [hs0] at R0
  have hA := hb.below B0 hb.lt
  have hne : b < w.heap.size := hb.lt
  clear hs0 hgc
  obtain ⟨M, hM⟩ : ∃ M, max (limbs m).length (limbs n).length = M := ⟨_, rfl⟩
  have hM1 : (limbs m).length ≤ M := by omega
  have hM2 : (limbs n).length ≤ M := by omega
  have hM3 : M ≤ 97 := by omega
  have HM : Hid ((if (limbs m).length < (limbs n).length then ((limbs n).length : Int) else ((limbs m).length : Int)) = (M : Int)) := by
    show _ = _
    split <;> omega
  clear hM
  go_enter Try.func97, Try.ntmps97
  go_wp2_with fail
  generalize (w.alloc (.cells (gcell (pad (limbs m)) ((limbs m).length : Int)) 112)).alloc (.cells Try.zeroCells112 112) = w0 at *
  have c1 := G0.size
  have c2 := hA.size
  go_quiet (fail)
  rw [HM.out]
  have hA : GA (w0.drewN nq) b ob n := hA.drewN nq
  have G0 := G0.drewN nq
  have R0 := R0.drewN nq
  have B0 := Below.drewN B0 nq
  generalize w0.drewN nq = w1 at *
  clear HM c1 c2
  go_wp2
  go_loopw [6, 7] (fun c i wr => ∃ (k : Nat) (cc : Int) (ws : List Int), k ≤ M + 1 ∧ i = .int .i64 k ∧ c = .int .u32 cc ∧ 0 ≤ cc ∧ cc ≤ 1 ∧ (M < k → cc = 0) ∧ inR (ws.take k) ∧ (∀ j, k ≤ j → ws.getD j 0 = (limbs m).getD j 0) ∧ Hid (lval (ws.take k) + 16777216 ^ k * cc = lval ((limbs m).take k) + lval ((limbs n).take k)) ∧ GB wr w.heap.size ws ((limbs m).length : Int) ∧ GB wr (w.heap.size + 1) (List.replicate 98 0) 0 ∧ GA wr b ob n ∧ Below w.heap.size w wr) (fun _ i _ => M + 1 - (intOf i).toNat)
  case atStart => exact ⟨0, 0, pad (limbs m), by omega, rfl, rfl, by omega, by omega, fun _ => rfl, by rw [List.take_zero]; exact inR_nil, fun j _ => pad_getD _ _, by show _ = _; simp [lval], G0, R0, hA, B0⟩
  case round =>
    clear G0 R0 hA B0
    obtain ⟨k, cc, ws, hk, rfl, rfl, cc0, cc1, cz, hoR, hw, HL, hG, hR, hA, hB⟩ := hrel
    have hlen := hG.len
    by_cases hlt : k ≤ M
    · have HT : Hid (lval ((limbs m).take (k + 1)) = lval ((limbs m).take k) + 16777216 ^ k * (limbs m).getD k 0 ∧ lval ((limbs n).take (k + 1)) = lval ((limbs n).take k) + 16777216 ^ k * (limbs n).getD k 0) := ⟨lval_take_succ _ k, lval_take_succ _ k⟩
      have gx := inR_getD (limbs_inR m) k
      have gy := inR_getD (limbs_inR n) k
      have hxz : (limbs m).length ≤ k → (limbs m).getD k 0 = 0 := getD_far
      have hyz : (limbs n).length ≤ k → (limbs n).getD k 0 = 0 := getD_far
      have cx := hG.word k (by omega)
      rw [hw k (Nat.le_refl _)] at cx
      have cy := hA.word k (by omega)
      have fx := hG.free k
      have HW : Hid (∀ j, k + 1 ≤ j → ∀ v, (ws.set k v).getD j 0 = (limbs m).getD j 0) := fun j hj v => by rw [gset_ne v (by omega)]; exact hw j (by omega)
      obtain ⟨xk, hxk⟩ : ∃ xk, (limbs m).getD k 0 = xk := ⟨_, rfl⟩
      obtain ⟨yk, hyk⟩ : ∃ yk, (limbs n).getD k 0 = yk := ⟨_, rfl⟩
      rw [hxk] at gx HT hxz cx
      rw [hyk] at gy HT hyz cy
      obtain ⟨gx0, gx1⟩ := gx
      obtain ⟨gy0, gy1⟩ := gy
      have HZ : Hid (((limbs m).length ≤ k → xk = 0) ∧ ((limbs n).length ≤ k → yk = 0)) := ⟨hxz, hyz⟩
      have HG : Hid (GB wr w.heap.size ws ((limbs m).length : Int) ∧ GB wr (w.heap.size + 1) (List.replicate 98 0) 0 ∧ GA wr b ob n ∧ Below w.heap.size w wr) := ⟨hG, hR, hA, hB⟩
      have hk98 : (k : Int) < 98 := by omega
      have hk98' : k < 98 := by omega
      have hlt' : (k : Int) < (M : Int) + 1 := by omega
      clear hxk hyk hxz hyz hG hR hA hB hw
      go_wp2_with fail
      go_quiet (fail)
      have HG2 : Hid (GB (wr.drewN nq) w.heap.size ws ((limbs m).length : Int) ∧ GB (wr.drewN nq) (w.heap.size + 1) (List.replicate 98 0) 0 ∧ GA (wr.drewN nq) b ob n ∧ Below w.heap.size w (wr.drewN nq)) := ⟨HG.out.1.drewN nq, HG.out.2.1.drewN nq, HG.out.2.2.1.drewN nq, Below.drewN HG.out.2.2.2 nq⟩
      clear HG
      go_wp2
      go_roundw
      case rel =>
        refine ⟨k + 1, (xk + yk + cc) / 16777216, ws.set k ((xk + yk + cc) % 16777216), by omega, by go_num, by go_num, by omega, by omega, fun h => ?_, ?_, fun j hj => HW.out j hj _, ?_, ?_, ?_, ?_, ?_⟩
        · have z1 := HZ.out.1 (by omega)
          have z2 := HZ.out.2 (by omega)
          omega
        · rw [take_set_succ (by omega)]
          exact inR_append.2 ⟨hoR, inR_cons.2 ⟨by omega, inR_nil⟩⟩
        · show _ = _
          rw [HT.out.1, HT.out.2, take_set_succ (by omega)]
          exact plus_step k cc _ _ _ (ws.take k) (by rw [List.length_take]; omega) HL.out xk yk rfl
        · exact HG2.out.1.setW k (by omega) _
        · exact HG2.out.2.1.other _ (by show w.heap.size + 1 ≠ w.heap.size; omega) _
        · exact HG2.out.2.2.1.tn ((Tn.refl [w.heap.size] _).cell _ (by simp) _) (by simp; omega)
        · exact HG2.out.2.2.2.setCell (by show w.heap.size ≤ w.heap.size; omega) _
      case measure => simp [intOf]; omega
    · have hke : k = M + 1 := by omega
      subst hke
      have hcz := cz (by omega)
      subst hcz
      have hval : lval (ws.take (M + 1)) = lval ((limbs m).take (M + 1)) + lval ((limbs n).take (M + 1)) := by
        have := HL.out
        rw [Int.mul_zero, Int.add_zero] at this
        exact this
      have hnum := sum_fin hoR hval (by omega) (by omega)
      have kS := gSettle w.heap.size ws ((limbs m).length : Int) (M + 1) wr hG (by omega) hoR (fun j hj => by rw [hw j hj]; exact getD_far (by omega))
      rw [hnum] at kS
      have hlt' : ¬ (((M + 1 : Nat) : Int) < (M : Int) + 1) := by omega
      have hcast : ((M + 1 : Nat) : Int) = (M : Int) + 1 := by omega
      rw [hcast] at kS hlt'
      rw [hcast]
      have HG : Hid (GB wr (w.heap.size + 1) (List.replicate 98 0) 0 ∧ Below w.heap.size w wr) := ⟨hR, hB⟩
      have hbs := hB.size
      clear hval hnum HL hG hR hA hB hw hcast hoR
      go_wp2_with fail
      refine kS.mono ?_
      rintro e w5 ⟨rfl, g5, t5, s5⟩
      have R5 := HG.out.1.tn t5 (by simp)
      have B5 := t5.below HG.out.2 hbs (by simp)
      have A5 := GN.ga g5 hl3
      go_wp2_with (first | (refine wpA_load rfl (.tmp 2) rfl w.heap.size 0 (m + n) rfl A5 ?_) | (refine wpN_store rfl (.tmp 4) (.tmp 44) rfl (w.heap.size + 1) _ _ (m + n) rfl rfl R5 hl3 ?_; intro w6 g6 t6 s6))
      (try simp only [Exit.inBlock, Exit.then])
      refine bodyPost_ret (v := .agg (gC (m + n))) ?_ rfl ⟨rfl, t6.below B5 B5.size (by simp)⟩
      exact results_great rfl _ _ (w.heap.size + 1) _ _ rfl g6

end Go.Proofs.Ytmbmnfphgcjhdaa

/- The program's lower and minus, each by its contract. -/
namespace Go.Proofs.Ytmbmnfphgcjhdaa
open Go.RowKit

theorem limbs_mono {m n : Nat} (h : n ≤ m) : (limbs n).length ≤ (limbs m).length := by
  apply Classical.byContradiction
  intro hn
  have := limbs_len_lt (m := m) (n := n) (by omega)
  omega
theorem less_fin {ws : List Int} {m n L : Nat} {bb : Int} (hr : inR (ws.take L)) (hlw : (ws.take L).length = L) (b0 : 0 ≤ bb) (b1 : bb ≤ 1) (hmn : n ≤ m) (hL : (limbs m).length = L)
    (h : lval (ws.take L) - 16777216 ^ L * bb = lval ((limbs m).take L) - lval ((limbs n).take L)) : num (ws.take L) = m - n := by
  have hn := limbs_mono hmn
  rw [List.take_of_length_le (Nat.le_of_eq hL), List.take_of_length_le (show (limbs n).length ≤ L by omega), limbs_val, limbs_val] at h
  have h1 := num_val hr
  have h2 := lval_lt hr
  rw [hlw] at h2
  have h3 := lval_nonneg hr
  have hb : bb = 0 := by
    apply Classical.byContradiction
    intro hne
    have e : bb = 1 := by omega
    rw [e, Int.mul_one] at h
    omega
  rw [hb, Int.mul_zero] at h
  omega

set_option maxHeartbeats 3200000 in
/-- lower: what is left, in place. -/
theorem gLower (a b ob m n : Nat) (w : World) (hl : (limbs m).length ≤ 98) (hmn : n ≤ m) (hab : a ≠ b) (hG : GN w a m) (hb : GA w b ob n) :
    Calls Try.prog 107 #[.pointer (some ⟨a, 0, none⟩), .pointer (some ⟨b, ob, none⟩)] w fun e w' => e = .returned (.tuple #[]) ∧ GN w' a (m - n) ∧ Tn [a] w w' ∧ w'.heap.size = w.heap.size := by
  obtain ⟨L, hL⟩ : ∃ L, (limbs m).length = L := ⟨_, rfl⟩
  have hG0 : GB w a (pad (limbs m)) (L : Int) := by rw [← hL]; exact hG
  have HL : Hid ((limbs m).length = L) := hL
  rw [hL] at hl
  clear hG hL
  go_enter Try.func107, Try.ntmps107
  go_wp2
  go_loopw [4, 5] (fun c i wr => ∃ (k : Nat) (bb : Int) (ws : List Int), k ≤ L ∧ i = .int .i64 k ∧ c = .int .u32 bb ∧ 0 ≤ bb ∧ bb ≤ 1 ∧ inR (ws.take k) ∧ (∀ j, k ≤ j → ws.getD j 0 = (limbs m).getD j 0) ∧ Hid (lval (ws.take k) - 16777216 ^ k * bb = lval ((limbs m).take k) - lval ((limbs n).take k)) ∧ GB wr a ws (L : Int) ∧ GA wr b ob n ∧ Tn [a] w wr ∧ wr.heap.size = w.heap.size) (fun _ i _ => L - (intOf i).toNat)
  case atStart => exact ⟨0, 0, pad (limbs m), by omega, rfl, rfl, by omega, by omega, by rw [List.take_zero]; exact inR_nil, fun j _ => pad_getD _ _, by show _ = _; simp [lval], hG0, hb, Tn.refl _ _, rfl⟩
  case round =>
    clear hG0 hb
    obtain ⟨k, bb, ws, hk, rfl, rfl, bb0, bb1, hoR, hw, HV, hG, hA, hT, hs⟩ := hrel
    have hlen := hG.len
    have c98 := hG.size
    by_cases hlt : k < L
    · have HT : Hid (lval ((limbs m).take (k + 1)) = lval ((limbs m).take k) + 16777216 ^ k * (limbs m).getD k 0 ∧ lval ((limbs n).take (k + 1)) = lval ((limbs n).take k) + 16777216 ^ k * (limbs n).getD k 0) := ⟨lval_take_succ _ k, lval_take_succ _ k⟩
      have gx := inR_getD (limbs_inR m) k
      have gy := inR_getD (limbs_inR n) k
      have cx := hG.word k (by omega)
      rw [hw k (Nat.le_refl _)] at cx
      have cy := hA.word k (by omega)
      have fx := hG.free k
      have HW : Hid (∀ j, k + 1 ≤ j → ∀ v, (ws.set k v).getD j 0 = (limbs m).getD j 0) := fun j hj v => by rw [gset_ne v (by omega)]; exact hw j (by omega)
      obtain ⟨xk, hxk⟩ : ∃ xk, (limbs m).getD k 0 = xk := ⟨_, rfl⟩
      obtain ⟨yk, hyk⟩ : ∃ yk, (limbs n).getD k 0 = yk := ⟨_, rfl⟩
      rw [hxk] at gx HT cx
      rw [hyk] at gy HT cy
      obtain ⟨gx0, gx1⟩ := gx
      obtain ⟨gy0, gy1⟩ := gy
      have HG : Hid (GB wr a ws (L : Int) ∧ GA wr b ob n ∧ Tn [a] w wr ∧ wr.heap.size = w.heap.size) := ⟨hG, hA, hT, hs⟩
      have hk98 : (k : Int) < 98 := by omega
      have hk98' : k < 98 := by omega
      have hlt' : (k : Int) < (L : Int) := by omega
      clear hxk hyk hG hA hT hs hw
      go_wp2_with fail
      go_quiet (fail)
      have HG2 : Hid (GB (wr.drewN nq) a ws (L : Int) ∧ GA (wr.drewN nq) b ob n ∧ Tn [a] w (wr.drewN nq) ∧ (wr.drewN nq).heap.size = w.heap.size) := ⟨HG.out.1.drewN nq, HG.out.2.1.drewN nq, HG.out.2.2.1.trans ⟨rfl, rfl, rfl, Nat.le_refl _, fun _ _ _ => rfl⟩, HG.out.2.2.2⟩
      clear HG
      go_wp2
      go_roundw
      case rel =>
        refine ⟨k + 1, 1 - (16777216 + xk - yk - bb) / 16777216, ws.set k ((16777216 + xk - yk - bb) % 16777216), by omega, by go_num, by go_num, by omega, by omega, ?_, fun j hj => HW.out j hj _, ?_, ?_, ?_, ?_, ?_⟩
        · rw [take_set_succ (by omega)]
          exact inR_append.2 ⟨hoR, inR_cons.2 ⟨by omega, inR_nil⟩⟩
        · show _ = _
          rw [HT.out.1, HT.out.2, take_set_succ (by omega)]
          exact less_step k bb _ _ _ (ws.take k) (by rw [List.length_take]; omega) HV.out xk yk _ _ rfl (by omega)
        · exact HG2.out.1.setW k (by omega) _
        · exact HG2.out.2.1.tn ((Tn.refl [a] _).cell _ (by simp) _) (by simp; omega)
        · exact HG2.out.2.2.1.cell _ (by simp) _
        · have := HG2.out.2.2.2
          simpa [World.setCell] using this
      case measure => simp [intOf]; omega
    · have hke : k = L := by omega
      subst hke
      have hnum := less_fin hoR (by rw [List.length_take]; omega) bb0 bb1 hmn HL.out HV.out
      have hz : ∀ j, k ≤ j → ws.getD j 0 = 0 := fun j hj => by rw [hw j hj]; exact getD_far (by have := HL.out; omega)
      have kS := gSettle a ws (k : Int) k wr hG (by omega) hoR hz
      rw [hnum] at kS
      have hlt' : ¬ ((k : Int) < (k : Int)) := by omega
      have HG : Hid (Tn [a] w wr ∧ wr.heap.size = w.heap.size) := ⟨hT, hs⟩
      clear hnum HV hG hA hT hs hw hoR hz
      go_wp2_with fail
      refine kS.mono ?_
      rintro e w5 ⟨rfl, g5, t5, s5⟩
      go_wp2
      go_end0
      exact ⟨rfl, g5, HG.out.1.trans t5, s5.trans HG.out.2⟩

set_option maxHeartbeats 3200000 in
/-- minus: the difference. -/
theorem gMinus (b ob m n : Nat) (w : World) (hl : (limbs m).length ≤ 98) (hmn : n ≤ m) (hb : GA w b ob n) :
    Calls Try.prog 98 #[.agg (gC m), .pointer (some ⟨b, ob, none⟩)] w fun e w' => e = .returned (.agg (gC (m - n))) ∧ Below w.heap.size w w' := by
  have hl3 : (limbs (m - n)).length ≤ 98 := by have := limbs_mono (m := m) (n := m - n) (by omega); omega
  have G0 := (GN.made w m hl).alloc (.cells Try.zeroCells112 112)
  have R0 := GB.made0 (w.alloc (.cells (gC m) 112))
  have hs0 : (w.alloc (.cells (gC m) 112)).heap.size = w.heap.size + 1 := by simp
  have B0 : Below w.heap.size w ((w.alloc (.cells (gC m) 112)).alloc (.cells Try.zeroCells112 112)) := ((Below.refl w.heap.size w).alloc (Nat.le_refl _) _).alloc (by simp) _
  rw [hs0] at R0
  have hA := hb.below B0 hb.lt
  have hne : b < w.heap.size := hb.lt
  clear hs0
  go_enter Try.func98, Try.ntmps98
  go_wp2_with fail
  generalize (w.alloc (.cells (gC m) 112)).alloc (.cells Try.zeroCells112 112) = w0 at *
  refine (gLower w.heap.size b ob m n w0 hl hmn (by omega) G0 hA).mono ?_
  rintro e w5 ⟨rfl, g5, t5, s5⟩
  have R5 := R0.tn t5 (by simp)
  have B5 := t5.below B0 B0.size (by simp)
  have A5 := GN.ga g5 hl3
  go_wp2_with (first | (refine wpA_load rfl (.tmp 2) rfl w.heap.size 0 (m - n) rfl A5 ?_) | (refine wpN_store rfl (.tmp 4) (.tmp 7) rfl (w.heap.size + 1) _ _ (m - n) rfl rfl R5 hl3 ?_; intro w6 g6 t6 s6))
  (try simp only [Exit.inBlock, Exit.then])
  refine bodyPost_ret (v := .agg (gC (m - n))) ?_ rfl ⟨rfl, t6.below B5 B5.size (by simp)⟩
  exact results_great rfl _ _ (w.heap.size + 1) _ _ rfl g6

end Go.Proofs.Ytmbmnfphgcjhdaa

/- The program's plus, minus and times of numbers with a sign, each by its contract. -/
namespace Go.Proofs.Ytmbmnfphgcjhdaa
open Go.RowKit
set_option linter.unusedSimpArgs false

/-- A sign and a great number behind a pointer. -/
def SGG (w : World) (b : Nat) (g : Bool) (m : Nat) : Prop := w.cell? ⟨b, 0, none⟩ = some (.bool g) ∧ GA w b 1 m
theorem SGG.lt {w : World} {b m : Nat} {g : Bool} (h : SGG w b g m) : b < w.heap.size := h.2.lt
theorem SGG.drew {w : World} {b m : Nat} {g : Bool} (h : SGG w b g m) : SGG w.drew b g m := ⟨h.1, h.2.drew⟩
theorem SGG.below {w w' : World} {b B m : Nat} {g : Bool} (h : SGG w b g m) (hb : Below B w w') (hB : b < B) : SGG w' b g m := ⟨(hb.cell (p := ⟨b, 0, none⟩) hB).trans h.1, h.2.below hb hB⟩
theorem SG.sgg {w : World} {b : Nat} {z : Int} (h : SG w b z) : SGG w b (decide (z < 0)) z.natAbs := ⟨h.sign, h.mag⟩
theorem sval (x : Int) : (if decide (x < 0) = true then -(x.natAbs : Int) else (x.natAbs : Int)) = x := by
  by_cases h : x < 0
  · simp [h]; omega
  · simp [h]; omega
theorem plus_same {g : Bool} {m n : Nat} {x y : Int} (hx : (if g = true then -(m : Int) else (m : Int)) = x) (hy : (if g = true then -(n : Int) else (n : Int)) = y) : (if g = true then -((m + n : Nat) : Int) else ((m + n : Nat) : Int)) = x + y := by
  cases g <;> simp at hx hy ⊢ <;> omega
theorem plus_other {g h : Bool} {m n : Nat} {x y : Int} (hg : g ≠ h) (hx : (if g = true then -(m : Int) else (m : Int)) = x) (hy : (if h = true then -(n : Int) else (n : Int)) = y) :
    (n ≤ m → (if g = true then -((m - n : Nat) : Int) else ((m - n : Nat) : Int)) = x + y) ∧ (m ≤ n → (if h = true then -((n - m : Nat) : Int) else ((n - m : Nat) : Int)) = x + y) := by
  cases g <;> cases h <;> simp at hg hx hy ⊢ <;> omega
theorem sg_mul {g h : Bool} {m n : Nat} {x y : Int} (hx : (if g = true then -(m : Int) else (m : Int)) = x) (hy : (if h = true then -(n : Int) else (n : Int)) = y) : (if (g != h) = true then -((m * n : Nat) : Int) else ((m * n : Nat) : Int)) = x * y := by
  subst hx hy
  cases g <;> cases h <;> simp [Int.neg_mul, Int.mul_neg]

set_option maxRecDepth 20000 in
set_option maxHeartbeats 3200000 in
theorem sgPlus (a b : Nat) (x y : Int) (w : World) (ha : SG w a x) (hb : SG w b y) (hlx : (limbs x.natAbs).length ≤ 97) (hly : (limbs y.natAbs).length ≤ 97) :
    Calls Try.prog 82 #[.pointer (some ⟨a, 0, none⟩), .pointer (some ⟨b, 0, none⟩)] w fun e w' => ∃ c, e = .returned (.pointer (some ⟨c, 0, none⟩)) ∧ w.heap.size ≤ c ∧ SG w' c (x + y) ∧ Below w.heap.size w w' := by
  have HA := ha.sgg
  have HB := hb.sgg
  have vx := sval x
  have vy := sval y
  generalize x.natAbs = m at *
  generalize y.natAbs = n at *
  generalize decide (x < 0) = g at *
  generalize decide (y < 0) = h at *
  have hna := ha.lt
  have hnb := hb.lt
  clear ha hb
  obtain ⟨z, hz⟩ : ∃ z, x + y = z := ⟨_, rfl⟩
  rw [hz]
  by_cases hgh : g = h
  · have hv := plus_same (hgh ▸ vx) vy
    rw [hz, ← hgh] at hv
    have hl3 : (limbs (m + n)).length ≤ 98 := by
      have h1 := limbs_lt m
      have h2 := limbs_lt n
      have h3 := Nat.pow_le_pow_right (by omega : 0 < 16777216) hlx
      have h4 := Nat.pow_le_pow_right (by omega : 0 < 16777216) hly
      refine limbs_len_le _ 98 ?_
      have e : (16777216 : Nat) ^ 98 = 16777216 ^ 97 * 16777216 := rfl
      omega
    have kN := fun W => newSigned_c g (m + n) W hl3
    simp only [hv] at kN
    have ebb : (g == h) = true := by rw [hgh]; simp
    have kP := fun W (q : GA W b 1 n) => gPlus b 1 m n W hlx hly q
    obtain ⟨N, hN⟩ : ∃ N, m + n = N := ⟨_, rfl⟩
    simp only [hN] at kN kP
    clear hgh hv vx vy hz hN hl3 hlx hly
    have c0 := HA.1
    have c1 := HB.1
    go_enter Try.func82, Try.ntmps82
    go_wp2_with fail
    go_region_held (fun W => W.cell? ⟨a, 0, none⟩ = some (.bool g) ∧ W.cell? ⟨b, 0, none⟩ = some (.bool h)) (go_keep) (fail)
    clear c0 c1
    have HA := HA.drew
    have HB := HB.drew
    go_wp2_with fail
    have hBd : Below w.heap.size w w.drew.drew := (Below.refl w.heap.size w).drew.drew
    refine wp_region_held_drew (S := fun W => SGG W a g m ∧ SGG W b h n) (by kernel_rfl) ⟨HA.drew, HB.drew⟩ ?_
    intro hHeld
    refine takeH 0 (some 14) (.pointer (some ⟨a, 0, none⟩)) rfl rfl (by kernel_rfl) (by kernel_rfl) (by kernel_rfl) (fun _ _ _ h => h) (Or.inl ⟨rfl, fun W hW => by obtain ⟨⟨_ca, _⟩, ⟨_cb, _⟩⟩ := hW; go_simp⟩) (by assumption) ?_
    simp only [Act.put, List.setIfInBounds_toArray, List.set_cons_zero, List.set_cons_succ]
    refine takeH 1 (some 15) (.pointer (some ⟨a, 0, none⟩)) rfl rfl (by kernel_rfl) (by kernel_rfl) (by kernel_rfl) (fun _ _ _ h => h) (Or.inl ⟨rfl, fun W hW => by obtain ⟨⟨_ca, _⟩, ⟨_cb, _⟩⟩ := hW; go_simp⟩) (by assumption) ?_
    simp only [Act.put, List.setIfInBounds_toArray, List.set_cons_zero, List.set_cons_succ]
    refine takeH 2 (some 16) (.pointer (some ⟨a, 0, none⟩)) rfl rfl (by kernel_rfl) (by kernel_rfl) (by kernel_rfl) (fun _ _ _ h => h) (Or.inl ⟨rfl, fun W hW => by obtain ⟨⟨_ca, _⟩, ⟨_cb, _⟩⟩ := hW; go_simp⟩) (by assumption) ?_
    simp only [Act.put, List.setIfInBounds_toArray, List.set_cons_zero, List.set_cons_succ]
    refine takeH 3 (some 17) (.bool g) rfl rfl (by kernel_rfl) (by kernel_rfl) (by kernel_rfl) (fun _ _ _ h => h) (Or.inl ⟨rfl, fun W hW => by obtain ⟨⟨_ca, _⟩, ⟨_cb, _⟩⟩ := hW; go_simp⟩) (by assumption) ?_
    simp only [Act.put, List.setIfInBounds_toArray, List.set_cons_zero, List.set_cons_succ]
    refine takeH 4 (some 18) (.pointer (some ⟨a, 0, none⟩)) rfl rfl (by kernel_rfl) (by kernel_rfl) (by kernel_rfl) (fun _ _ _ h => h) (Or.inl ⟨rfl, fun W hW => by obtain ⟨⟨_ca, _⟩, ⟨_cb, _⟩⟩ := hW; go_simp⟩) (by assumption) ?_
    simp only [Act.put, List.setIfInBounds_toArray, List.set_cons_zero, List.set_cons_succ]
    refine takeH 5 (some 19) (.pointer (some ⟨a, 0, none⟩)) rfl rfl (by kernel_rfl) (by kernel_rfl) (by kernel_rfl) (fun _ _ _ h => h) (Or.inl ⟨rfl, fun W hW => by obtain ⟨⟨_ca, _⟩, ⟨_cb, _⟩⟩ := hW; go_simp⟩) (by assumption) ?_
    simp only [Act.put, List.setIfInBounds_toArray, List.set_cons_zero, List.set_cons_succ]
    refine takeH 6 (some 20) (.pointer (some ⟨a, 1, none⟩)) rfl rfl (by kernel_rfl) (by kernel_rfl) (by kernel_rfl) (fun _ _ _ h => h) (Or.inl ⟨rfl, fun W hW => by obtain ⟨⟨_ca, _⟩, ⟨_cb, _⟩⟩ := hW; go_simp⟩) (by assumption) ?_
    simp only [Act.put, List.setIfInBounds_toArray, List.set_cons_zero, List.set_cons_succ]
    refine takeH 7 (some 21) (.agg (gC m)) rfl rfl (by kernel_rfl) (by kernel_rfl) (by kernel_rfl) (fun _ _ _ h => h) (yg_load rfl (.tmp 20) rfl a 1 m rfl (fun W h => h.1.2)) (by assumption) ?_
    simp only [Act.put, List.setIfInBounds_toArray, List.set_cons_zero, List.set_cons_succ]
    refine takeH 8 (some 22) (.pointer (some ⟨b, 0, none⟩)) rfl rfl (by kernel_rfl) (by kernel_rfl) (by kernel_rfl) (fun _ _ _ h => h) (Or.inl ⟨rfl, fun W hW => by obtain ⟨⟨_ca, _⟩, ⟨_cb, _⟩⟩ := hW; go_simp⟩) (by assumption) ?_
    simp only [Act.put, List.setIfInBounds_toArray, List.set_cons_zero, List.set_cons_succ]
    refine takeH 9 (some 23) (.pointer (some ⟨b, 0, none⟩)) rfl rfl (by kernel_rfl) (by kernel_rfl) (by kernel_rfl) (fun _ _ _ h => h) (Or.inl ⟨rfl, fun W hW => by obtain ⟨⟨_ca, _⟩, ⟨_cb, _⟩⟩ := hW; go_simp⟩) (by assumption) ?_
    simp only [Act.put, List.setIfInBounds_toArray, List.set_cons_zero, List.set_cons_succ]
    refine takeH 10 (some 24) (.pointer (some ⟨b, 1, none⟩)) rfl rfl (by kernel_rfl) (by kernel_rfl) (by kernel_rfl) (fun _ _ _ h => h) (Or.inl ⟨rfl, fun W hW => by obtain ⟨⟨_ca, _⟩, ⟨_cb, _⟩⟩ := hW; go_simp⟩) (by assumption) ?_
    simp only [Act.put, List.setIfInBounds_toArray, List.set_cons_zero, List.set_cons_succ]
    refine oneH 11 rfl (by kernel_rfl) (fun K' hK => ?_)
    go_simp
    refine (kP _ hHeld.2.2).mono ?_
    rintro e w4 ⟨rfl, bw4⟩
    have Sw4 : SGG w4 a g m ∧ SGG w4 b h n := ⟨hHeld.1.below bw4 hHeld.1.lt, hHeld.2.below bw4 hHeld.2.lt⟩
    refine hK _ _ Sw4 ?_
    clear hK
    refine oneH 12 rfl (by kernel_rfl) (fun K' hK => ?_)
    go_simp
    refine (kN _).mono ?_
    rintro e w5 ⟨c, rfl, hc, s5, bw5⟩
    have Sw5 : SGG w5 a g m ∧ SGG w5 b h n := ⟨Sw4.1.below bw5 Sw4.1.lt, Sw4.2.below bw5 Sw4.2.lt⟩
    refine hK _ _ Sw5 ?_
    clear hK
    refine takeH 13 (some 4) (.pointer (some ⟨c, 0, none⟩)) rfl rfl (by kernel_rfl) (by kernel_rfl) (by kernel_rfl) (fun _ _ _ h => h) (yg_assign rfl (.tmp 26) rfl _ rfl) (by assumption) ?_
    simp only [Act.put, List.setIfInBounds_toArray, List.set_cons_zero, List.set_cons_succ]
    refine wpAnyH_done (by kernel_rfl) ?_ _
    have hs4 := bw4.size
    go_wp2
    go_ret
    exact ⟨c, rfl, Nat.le_trans (show w.heap.size ≤ w4.heap.size from hs4) hc, s5, hBd.trans ((bw4.mono hBd.size).trans (bw5.mono (Nat.le_trans hBd.size hs4)))⟩
  · have hv := plus_other hgh vx vy
    rw [hz] at hv
    have ebb : (g == h) = false := by cases g <;> cases h <;> simp_all
    have kO := fun W (q1 : GA W a 1 m) (q2 : GA W b 1 n) => gOrder a 1 b 1 m n W q1 q2
    by_cases hlt : m < n
    · have hc0 := cmpI_lt hlt
      have hl3 : (limbs (n - m)).length ≤ 98 := by have := limbs_mono (m := n) (n := n - m) (by omega); omega
      have kN := fun W => newSigned_c h (n - m) W hl3
      simp only [hv.2 (by omega)] at kN
      have kP := fun W (q : GA W a 1 m) => gMinus a 1 n m W (by omega) (by omega) q
      obtain ⟨N, hN⟩ : ∃ N, n - m = N := ⟨_, rfl⟩
      simp only [hN] at kN kP
      obtain ⟨c0v, hcv⟩ : ∃ c, cmpI m n = c := ⟨_, rfl⟩
      simp only [hcv] at kO
      rw [hcv] at hc0
      clear hgh hv vx vy hz hN hl3 hlx hly hcv hlt
      have c0 := HA.1
      have c1 := HB.1
      go_enter Try.func82, Try.ntmps82
      go_wp2_with fail
      go_region_held (fun W => W.cell? ⟨a, 0, none⟩ = some (.bool g) ∧ W.cell? ⟨b, 0, none⟩ = some (.bool h)) (go_keep) (fail)
      clear c0 c1
      have HA := HA.drew
      have HB := HB.drew
      go_wp2_with fail
      have hBd : Below w.heap.size w w.drew.drew := (Below.refl w.heap.size w).drew.drew
      refine wp_region_held_drew (S := fun W => SGG W a g m ∧ SGG W b h n) (by kernel_rfl) ⟨HA.drew, HB.drew⟩ ?_
      intro hHeld
      refine takeH 0 (some 27) (.pointer (some ⟨a, 0, none⟩)) rfl rfl (by kernel_rfl) (by kernel_rfl) (by kernel_rfl) (fun _ _ _ h => h) (Or.inl ⟨rfl, fun W hW => by obtain ⟨⟨_ca, _⟩, ⟨_cb, _⟩⟩ := hW; go_simp⟩) (by assumption) ?_
      simp only [Act.put, List.setIfInBounds_toArray, List.set_cons_zero, List.set_cons_succ]
      refine takeH 1 (some 28) (.pointer (some ⟨a, 0, none⟩)) rfl rfl (by kernel_rfl) (by kernel_rfl) (by kernel_rfl) (fun _ _ _ h => h) (Or.inl ⟨rfl, fun W hW => by obtain ⟨⟨_ca, _⟩, ⟨_cb, _⟩⟩ := hW; go_simp⟩) (by assumption) ?_
      simp only [Act.put, List.setIfInBounds_toArray, List.set_cons_zero, List.set_cons_succ]
      refine takeH 2 (some 29) (.pointer (some ⟨a, 1, none⟩)) rfl rfl (by kernel_rfl) (by kernel_rfl) (by kernel_rfl) (fun _ _ _ h => h) (Or.inl ⟨rfl, fun W hW => by obtain ⟨⟨_ca, _⟩, ⟨_cb, _⟩⟩ := hW; go_simp⟩) (by assumption) ?_
      simp only [Act.put, List.setIfInBounds_toArray, List.set_cons_zero, List.set_cons_succ]
      refine takeH 3 (some 30) (.pointer (some ⟨b, 0, none⟩)) rfl rfl (by kernel_rfl) (by kernel_rfl) (by kernel_rfl) (fun _ _ _ h => h) (Or.inl ⟨rfl, fun W hW => by obtain ⟨⟨_ca, _⟩, ⟨_cb, _⟩⟩ := hW; go_simp⟩) (by assumption) ?_
      simp only [Act.put, List.setIfInBounds_toArray, List.set_cons_zero, List.set_cons_succ]
      refine takeH 4 (some 31) (.pointer (some ⟨b, 0, none⟩)) rfl rfl (by kernel_rfl) (by kernel_rfl) (by kernel_rfl) (fun _ _ _ h => h) (Or.inl ⟨rfl, fun W hW => by obtain ⟨⟨_ca, _⟩, ⟨_cb, _⟩⟩ := hW; go_simp⟩) (by assumption) ?_
      simp only [Act.put, List.setIfInBounds_toArray, List.set_cons_zero, List.set_cons_succ]
      refine takeH 5 (some 32) (.pointer (some ⟨b, 1, none⟩)) rfl rfl (by kernel_rfl) (by kernel_rfl) (by kernel_rfl) (fun _ _ _ h => h) (Or.inl ⟨rfl, fun W hW => by obtain ⟨⟨_ca, _⟩, ⟨_cb, _⟩⟩ := hW; go_simp⟩) (by assumption) ?_
      simp only [Act.put, List.setIfInBounds_toArray, List.set_cons_zero, List.set_cons_succ]
      refine oneH 6 rfl (by kernel_rfl) (fun K' hK => ?_)
      go_simp
      refine (kO _ hHeld.1.2 hHeld.2.2).mono ?_
      rintro e w2 ⟨rfl, bw2⟩
      have Sw2 : SGG w2 a g m ∧ SGG w2 b h n := ⟨hHeld.1.below bw2 hHeld.1.lt, hHeld.2.below bw2 hHeld.2.lt⟩
      refine hK _ _ Sw2 ?_
      clear hK
      refine takeH 7 (some 34) (.bool (decide (c0v < 0))) rfl rfl (by kernel_rfl) (by kernel_rfl) (by kernel_rfl) (fun _ _ _ h => h) (Or.inl ⟨rfl, fun W hW => by go_simp⟩) (by assumption) ?_
      simp only [Act.put, List.setIfInBounds_toArray, List.set_cons_zero, List.set_cons_succ]
      refine wpAnyH_done (by kernel_rfl) ?_ _
      have B2 := hBd.trans (bw2.mono hBd.size)
      clear HA HB hHeld hBd
      have HA := Sw2.1
      have HB := Sw2.2
      clear Sw2
      go_wp2_with fail
      refine wp_region_held_drew (S := fun W => SGG W a g m ∧ SGG W b h n) (by kernel_rfl) ⟨HA.drew, HB.drew⟩ ?_
      intro hHeld
      refine takeH 0 (some 35) (.pointer (some ⟨b, 0, none⟩)) rfl rfl (by kernel_rfl) (by kernel_rfl) (by kernel_rfl) (fun _ _ _ h => h) (Or.inl ⟨rfl, fun W hW => by obtain ⟨⟨_ca, _⟩, ⟨_cb, _⟩⟩ := hW; go_simp⟩) (by assumption) ?_
      simp only [Act.put, List.setIfInBounds_toArray, List.set_cons_zero, List.set_cons_succ]
      refine takeH 1 (some 36) (.pointer (some ⟨b, 0, none⟩)) rfl rfl (by kernel_rfl) (by kernel_rfl) (by kernel_rfl) (fun _ _ _ h => h) (Or.inl ⟨rfl, fun W hW => by obtain ⟨⟨_ca, _⟩, ⟨_cb, _⟩⟩ := hW; go_simp⟩) (by assumption) ?_
      simp only [Act.put, List.setIfInBounds_toArray, List.set_cons_zero, List.set_cons_succ]
      refine takeH 2 (some 37) (.pointer (some ⟨b, 0, none⟩)) rfl rfl (by kernel_rfl) (by kernel_rfl) (by kernel_rfl) (fun _ _ _ h => h) (Or.inl ⟨rfl, fun W hW => by obtain ⟨⟨_ca, _⟩, ⟨_cb, _⟩⟩ := hW; go_simp⟩) (by assumption) ?_
      simp only [Act.put, List.setIfInBounds_toArray, List.set_cons_zero, List.set_cons_succ]
      refine takeH 3 (some 38) (.bool h) rfl rfl (by kernel_rfl) (by kernel_rfl) (by kernel_rfl) (fun _ _ _ h => h) (Or.inl ⟨rfl, fun W hW => by obtain ⟨⟨_ca, _⟩, ⟨_cb, _⟩⟩ := hW; go_simp⟩) (by assumption) ?_
      simp only [Act.put, List.setIfInBounds_toArray, List.set_cons_zero, List.set_cons_succ]
      refine takeH 4 (some 39) (.pointer (some ⟨b, 0, none⟩)) rfl rfl (by kernel_rfl) (by kernel_rfl) (by kernel_rfl) (fun _ _ _ h => h) (Or.inl ⟨rfl, fun W hW => by obtain ⟨⟨_ca, _⟩, ⟨_cb, _⟩⟩ := hW; go_simp⟩) (by assumption) ?_
      simp only [Act.put, List.setIfInBounds_toArray, List.set_cons_zero, List.set_cons_succ]
      refine takeH 5 (some 40) (.pointer (some ⟨b, 0, none⟩)) rfl rfl (by kernel_rfl) (by kernel_rfl) (by kernel_rfl) (fun _ _ _ h => h) (Or.inl ⟨rfl, fun W hW => by obtain ⟨⟨_ca, _⟩, ⟨_cb, _⟩⟩ := hW; go_simp⟩) (by assumption) ?_
      simp only [Act.put, List.setIfInBounds_toArray, List.set_cons_zero, List.set_cons_succ]
      refine takeH 6 (some 41) (.pointer (some ⟨b, 1, none⟩)) rfl rfl (by kernel_rfl) (by kernel_rfl) (by kernel_rfl) (fun _ _ _ h => h) (Or.inl ⟨rfl, fun W hW => by obtain ⟨⟨_ca, _⟩, ⟨_cb, _⟩⟩ := hW; go_simp⟩) (by assumption) ?_
      simp only [Act.put, List.setIfInBounds_toArray, List.set_cons_zero, List.set_cons_succ]
      refine takeH 7 (some 42) (.agg (gC n)) rfl rfl (by kernel_rfl) (by kernel_rfl) (by kernel_rfl) (fun _ _ _ h => h) (yg_load rfl (.tmp 41) rfl b 1 n rfl (fun W h => h.2.2)) (by assumption) ?_
      simp only [Act.put, List.setIfInBounds_toArray, List.set_cons_zero, List.set_cons_succ]
      refine takeH 8 (some 43) (.pointer (some ⟨a, 0, none⟩)) rfl rfl (by kernel_rfl) (by kernel_rfl) (by kernel_rfl) (fun _ _ _ h => h) (Or.inl ⟨rfl, fun W hW => by obtain ⟨⟨_ca, _⟩, ⟨_cb, _⟩⟩ := hW; go_simp⟩) (by assumption) ?_
      simp only [Act.put, List.setIfInBounds_toArray, List.set_cons_zero, List.set_cons_succ]
      refine takeH 9 (some 44) (.pointer (some ⟨a, 0, none⟩)) rfl rfl (by kernel_rfl) (by kernel_rfl) (by kernel_rfl) (fun _ _ _ h => h) (Or.inl ⟨rfl, fun W hW => by obtain ⟨⟨_ca, _⟩, ⟨_cb, _⟩⟩ := hW; go_simp⟩) (by assumption) ?_
      simp only [Act.put, List.setIfInBounds_toArray, List.set_cons_zero, List.set_cons_succ]
      refine takeH 10 (some 45) (.pointer (some ⟨a, 1, none⟩)) rfl rfl (by kernel_rfl) (by kernel_rfl) (by kernel_rfl) (fun _ _ _ h => h) (Or.inl ⟨rfl, fun W hW => by obtain ⟨⟨_ca, _⟩, ⟨_cb, _⟩⟩ := hW; go_simp⟩) (by assumption) ?_
      simp only [Act.put, List.setIfInBounds_toArray, List.set_cons_zero, List.set_cons_succ]
      refine oneH 11 rfl (by kernel_rfl) (fun K' hK => ?_)
      go_simp
      refine (kP _ hHeld.1.2).mono ?_
      rintro e w4 ⟨rfl, bw4⟩
      have Sw4 : SGG w4 a g m ∧ SGG w4 b h n := ⟨hHeld.1.below bw4 hHeld.1.lt, hHeld.2.below bw4 hHeld.2.lt⟩
      refine hK _ _ Sw4 ?_
      clear hK
      refine oneH 12 rfl (by kernel_rfl) (fun K' hK => ?_)
      go_simp
      refine (kN _).mono ?_
      rintro e w5 ⟨c, rfl, hc, s5, bw5⟩
      have Sw5 : SGG w5 a g m ∧ SGG w5 b h n := ⟨Sw4.1.below bw5 Sw4.1.lt, Sw4.2.below bw5 Sw4.2.lt⟩
      refine hK _ _ Sw5 ?_
      clear hK
      refine takeH 13 (some 4) (.pointer (some ⟨c, 0, none⟩)) rfl rfl (by kernel_rfl) (by kernel_rfl) (by kernel_rfl) (fun _ _ _ h => h) (yg_assign rfl (.tmp 47) rfl _ rfl) (by assumption) ?_
      simp only [Act.put, List.setIfInBounds_toArray, List.set_cons_zero, List.set_cons_succ]
      refine wpAnyH_done (by kernel_rfl) ?_ _
      have hs4 : w2.heap.size ≤ w4.heap.size := bw4.size
      have hs2 := B2.size
      have B4 := B2.drew.trans (bw4.mono B2.size)
      go_wp2
      go_ret
      exact ⟨c, rfl, by omega, s5, B4.trans (bw5.mono B4.size)⟩
    · have hc0 := cmpI_ge (Nat.le_of_not_lt hlt)
      have hc1 : ¬ (cmpI m n < 0) := by omega
      have hl3 : (limbs (m - n)).length ≤ 98 := by have := limbs_mono (m := m) (n := m - n) (by omega); omega
      have kN := fun W => newSigned_c g (m - n) W hl3
      simp only [hv.1 (by omega)] at kN
      have kP := fun W (q : GA W b 1 n) => gMinus b 1 m n W (by omega) (by omega) q
      obtain ⟨N, hN⟩ : ∃ N, m - n = N := ⟨_, rfl⟩
      simp only [hN] at kN kP
      obtain ⟨c0v, hcv⟩ : ∃ c, cmpI m n = c := ⟨_, rfl⟩
      simp only [hcv] at kO
      rw [hcv] at hc0 hc1
      clear hgh hv vx vy hz hN hl3 hlx hly hcv hlt
      have c0 := HA.1
      have c1 := HB.1
      go_enter Try.func82, Try.ntmps82
      go_wp2_with fail
      go_region_held (fun W => W.cell? ⟨a, 0, none⟩ = some (.bool g) ∧ W.cell? ⟨b, 0, none⟩ = some (.bool h)) (go_keep) (fail)
      clear c0 c1
      have HA := HA.drew
      have HB := HB.drew
      go_wp2_with fail
      have hBd : Below w.heap.size w w.drew.drew := (Below.refl w.heap.size w).drew.drew
      refine wp_region_held_drew (S := fun W => SGG W a g m ∧ SGG W b h n) (by kernel_rfl) ⟨HA.drew, HB.drew⟩ ?_
      intro hHeld
      refine takeH 0 (some 27) (.pointer (some ⟨a, 0, none⟩)) rfl rfl (by kernel_rfl) (by kernel_rfl) (by kernel_rfl) (fun _ _ _ h => h) (Or.inl ⟨rfl, fun W hW => by obtain ⟨⟨_ca, _⟩, ⟨_cb, _⟩⟩ := hW; go_simp⟩) (by assumption) ?_
      simp only [Act.put, List.setIfInBounds_toArray, List.set_cons_zero, List.set_cons_succ]
      refine takeH 1 (some 28) (.pointer (some ⟨a, 0, none⟩)) rfl rfl (by kernel_rfl) (by kernel_rfl) (by kernel_rfl) (fun _ _ _ h => h) (Or.inl ⟨rfl, fun W hW => by obtain ⟨⟨_ca, _⟩, ⟨_cb, _⟩⟩ := hW; go_simp⟩) (by assumption) ?_
      simp only [Act.put, List.setIfInBounds_toArray, List.set_cons_zero, List.set_cons_succ]
      refine takeH 2 (some 29) (.pointer (some ⟨a, 1, none⟩)) rfl rfl (by kernel_rfl) (by kernel_rfl) (by kernel_rfl) (fun _ _ _ h => h) (Or.inl ⟨rfl, fun W hW => by obtain ⟨⟨_ca, _⟩, ⟨_cb, _⟩⟩ := hW; go_simp⟩) (by assumption) ?_
      simp only [Act.put, List.setIfInBounds_toArray, List.set_cons_zero, List.set_cons_succ]
      refine takeH 3 (some 30) (.pointer (some ⟨b, 0, none⟩)) rfl rfl (by kernel_rfl) (by kernel_rfl) (by kernel_rfl) (fun _ _ _ h => h) (Or.inl ⟨rfl, fun W hW => by obtain ⟨⟨_ca, _⟩, ⟨_cb, _⟩⟩ := hW; go_simp⟩) (by assumption) ?_
      simp only [Act.put, List.setIfInBounds_toArray, List.set_cons_zero, List.set_cons_succ]
      refine takeH 4 (some 31) (.pointer (some ⟨b, 0, none⟩)) rfl rfl (by kernel_rfl) (by kernel_rfl) (by kernel_rfl) (fun _ _ _ h => h) (Or.inl ⟨rfl, fun W hW => by obtain ⟨⟨_ca, _⟩, ⟨_cb, _⟩⟩ := hW; go_simp⟩) (by assumption) ?_
      simp only [Act.put, List.setIfInBounds_toArray, List.set_cons_zero, List.set_cons_succ]
      refine takeH 5 (some 32) (.pointer (some ⟨b, 1, none⟩)) rfl rfl (by kernel_rfl) (by kernel_rfl) (by kernel_rfl) (fun _ _ _ h => h) (Or.inl ⟨rfl, fun W hW => by obtain ⟨⟨_ca, _⟩, ⟨_cb, _⟩⟩ := hW; go_simp⟩) (by assumption) ?_
      simp only [Act.put, List.setIfInBounds_toArray, List.set_cons_zero, List.set_cons_succ]
      refine oneH 6 rfl (by kernel_rfl) (fun K' hK => ?_)
      go_simp
      refine (kO _ hHeld.1.2 hHeld.2.2).mono ?_
      rintro e w2 ⟨rfl, bw2⟩
      have Sw2 : SGG w2 a g m ∧ SGG w2 b h n := ⟨hHeld.1.below bw2 hHeld.1.lt, hHeld.2.below bw2 hHeld.2.lt⟩
      refine hK _ _ Sw2 ?_
      clear hK
      refine takeH 7 (some 34) (.bool (decide (c0v < 0))) rfl rfl (by kernel_rfl) (by kernel_rfl) (by kernel_rfl) (fun _ _ _ h => h) (Or.inl ⟨rfl, fun W hW => by go_simp⟩) (by assumption) ?_
      simp only [Act.put, List.setIfInBounds_toArray, List.set_cons_zero, List.set_cons_succ]
      refine wpAnyH_done (by kernel_rfl) ?_ _
      have B2 := hBd.trans (bw2.mono hBd.size)
      clear HA HB hHeld hBd
      have HA := Sw2.1
      have HB := Sw2.2
      clear Sw2
      go_wp2_with fail
      refine wp_region_held_drew (S := fun W => SGG W a g m ∧ SGG W b h n) (by kernel_rfl) ⟨HA.drew, HB.drew⟩ ?_
      intro hHeld
      refine takeH 0 (some 48) (.pointer (some ⟨a, 0, none⟩)) rfl rfl (by kernel_rfl) (by kernel_rfl) (by kernel_rfl) (fun _ _ _ h => h) (Or.inl ⟨rfl, fun W hW => by obtain ⟨⟨_ca, _⟩, ⟨_cb, _⟩⟩ := hW; go_simp⟩) (by assumption) ?_
      simp only [Act.put, List.setIfInBounds_toArray, List.set_cons_zero, List.set_cons_succ]
      refine takeH 1 (some 49) (.pointer (some ⟨a, 0, none⟩)) rfl rfl (by kernel_rfl) (by kernel_rfl) (by kernel_rfl) (fun _ _ _ h => h) (Or.inl ⟨rfl, fun W hW => by obtain ⟨⟨_ca, _⟩, ⟨_cb, _⟩⟩ := hW; go_simp⟩) (by assumption) ?_
      simp only [Act.put, List.setIfInBounds_toArray, List.set_cons_zero, List.set_cons_succ]
      refine takeH 2 (some 50) (.pointer (some ⟨a, 0, none⟩)) rfl rfl (by kernel_rfl) (by kernel_rfl) (by kernel_rfl) (fun _ _ _ h => h) (Or.inl ⟨rfl, fun W hW => by obtain ⟨⟨_ca, _⟩, ⟨_cb, _⟩⟩ := hW; go_simp⟩) (by assumption) ?_
      simp only [Act.put, List.setIfInBounds_toArray, List.set_cons_zero, List.set_cons_succ]
      refine takeH 3 (some 51) (.bool g) rfl rfl (by kernel_rfl) (by kernel_rfl) (by kernel_rfl) (fun _ _ _ h => h) (Or.inl ⟨rfl, fun W hW => by obtain ⟨⟨_ca, _⟩, ⟨_cb, _⟩⟩ := hW; go_simp⟩) (by assumption) ?_
      simp only [Act.put, List.setIfInBounds_toArray, List.set_cons_zero, List.set_cons_succ]
      refine takeH 4 (some 52) (.pointer (some ⟨a, 0, none⟩)) rfl rfl (by kernel_rfl) (by kernel_rfl) (by kernel_rfl) (fun _ _ _ h => h) (Or.inl ⟨rfl, fun W hW => by obtain ⟨⟨_ca, _⟩, ⟨_cb, _⟩⟩ := hW; go_simp⟩) (by assumption) ?_
      simp only [Act.put, List.setIfInBounds_toArray, List.set_cons_zero, List.set_cons_succ]
      refine takeH 5 (some 53) (.pointer (some ⟨a, 0, none⟩)) rfl rfl (by kernel_rfl) (by kernel_rfl) (by kernel_rfl) (fun _ _ _ h => h) (Or.inl ⟨rfl, fun W hW => by obtain ⟨⟨_ca, _⟩, ⟨_cb, _⟩⟩ := hW; go_simp⟩) (by assumption) ?_
      simp only [Act.put, List.setIfInBounds_toArray, List.set_cons_zero, List.set_cons_succ]
      refine takeH 6 (some 54) (.pointer (some ⟨a, 1, none⟩)) rfl rfl (by kernel_rfl) (by kernel_rfl) (by kernel_rfl) (fun _ _ _ h => h) (Or.inl ⟨rfl, fun W hW => by obtain ⟨⟨_ca, _⟩, ⟨_cb, _⟩⟩ := hW; go_simp⟩) (by assumption) ?_
      simp only [Act.put, List.setIfInBounds_toArray, List.set_cons_zero, List.set_cons_succ]
      refine takeH 7 (some 55) (.agg (gC m)) rfl rfl (by kernel_rfl) (by kernel_rfl) (by kernel_rfl) (fun _ _ _ h => h) (yg_load rfl (.tmp 54) rfl a 1 m rfl (fun W h => h.1.2)) (by assumption) ?_
      simp only [Act.put, List.setIfInBounds_toArray, List.set_cons_zero, List.set_cons_succ]
      refine takeH 8 (some 56) (.pointer (some ⟨b, 0, none⟩)) rfl rfl (by kernel_rfl) (by kernel_rfl) (by kernel_rfl) (fun _ _ _ h => h) (Or.inl ⟨rfl, fun W hW => by obtain ⟨⟨_ca, _⟩, ⟨_cb, _⟩⟩ := hW; go_simp⟩) (by assumption) ?_
      simp only [Act.put, List.setIfInBounds_toArray, List.set_cons_zero, List.set_cons_succ]
      refine takeH 9 (some 57) (.pointer (some ⟨b, 0, none⟩)) rfl rfl (by kernel_rfl) (by kernel_rfl) (by kernel_rfl) (fun _ _ _ h => h) (Or.inl ⟨rfl, fun W hW => by obtain ⟨⟨_ca, _⟩, ⟨_cb, _⟩⟩ := hW; go_simp⟩) (by assumption) ?_
      simp only [Act.put, List.setIfInBounds_toArray, List.set_cons_zero, List.set_cons_succ]
      refine takeH 10 (some 58) (.pointer (some ⟨b, 1, none⟩)) rfl rfl (by kernel_rfl) (by kernel_rfl) (by kernel_rfl) (fun _ _ _ h => h) (Or.inl ⟨rfl, fun W hW => by obtain ⟨⟨_ca, _⟩, ⟨_cb, _⟩⟩ := hW; go_simp⟩) (by assumption) ?_
      simp only [Act.put, List.setIfInBounds_toArray, List.set_cons_zero, List.set_cons_succ]
      refine oneH 11 rfl (by kernel_rfl) (fun K' hK => ?_)
      go_simp
      refine (kP _ hHeld.2.2).mono ?_
      rintro e w4 ⟨rfl, bw4⟩
      have Sw4 : SGG w4 a g m ∧ SGG w4 b h n := ⟨hHeld.1.below bw4 hHeld.1.lt, hHeld.2.below bw4 hHeld.2.lt⟩
      refine hK _ _ Sw4 ?_
      clear hK
      refine oneH 12 rfl (by kernel_rfl) (fun K' hK => ?_)
      go_simp
      refine (kN _).mono ?_
      rintro e w5 ⟨c, rfl, hc, s5, bw5⟩
      have Sw5 : SGG w5 a g m ∧ SGG w5 b h n := ⟨Sw4.1.below bw5 Sw4.1.lt, Sw4.2.below bw5 Sw4.2.lt⟩
      refine hK _ _ Sw5 ?_
      clear hK
      refine takeH 13 (some 4) (.pointer (some ⟨c, 0, none⟩)) rfl rfl (by kernel_rfl) (by kernel_rfl) (by kernel_rfl) (fun _ _ _ h => h) (yg_assign rfl (.tmp 60) rfl _ rfl) (by assumption) ?_
      simp only [Act.put, List.setIfInBounds_toArray, List.set_cons_zero, List.set_cons_succ]
      refine wpAnyH_done (by kernel_rfl) ?_ _
      have hs4 : w2.heap.size ≤ w4.heap.size := bw4.size
      have hs2 := B2.size
      have B4 := B2.drew.trans (bw4.mono B2.size)
      go_wp2
      go_ret
      exact ⟨c, rfl, by omega, s5, B4.trans (bw5.mono B4.size)⟩

set_option maxRecDepth 20000 in
set_option maxHeartbeats 3200000 in
theorem sgMinus (a b : Nat) (x y : Int) (w : World) (ha : SG w a x) (hb : SG w b y) (hlx : (limbs x.natAbs).length ≤ 97) (hly : (limbs y.natAbs).length ≤ 97) :
    Calls Try.prog 68 #[.pointer (some ⟨a, 0, none⟩), .pointer (some ⟨b, 0, none⟩)] w fun e w' => ∃ c, e = .returned (.pointer (some ⟨c, 0, none⟩)) ∧ w.heap.size ≤ c ∧ SG w' c (x - y) ∧ Below w.heap.size w w' := by
  have kN := sNegated b y w hb
  have kP := fun c W (h1 : SG W a x) (h2 : SG W c (-y)) => sgPlus a c x (-y) W h1 h2 hlx (by rw [Int.natAbs_neg]; exact hly)
  rw [← Int.sub_eq_add_neg] at kP
  have hna := ha.lt
  go_enter Try.func68, Try.ntmps68
  go_wp2_with fail
  refine kN.mono ?_
  rintro e w1 ⟨c, rfl, hc, s1, b1⟩
  have ha1 := ha.below b1 hna
  have hs1 := b1.size
  go_wp2_with fail
  refine (kP c w1 ha1 s1).mono ?_
  rintro e w2 ⟨d, rfl, hd, s2, b2⟩
  go_wp2
  go_ret
  exact ⟨d, rfl, by omega, s2, b1.trans (b2.mono hs1)⟩

end Go.Proofs.Ytmbmnfphgcjhdaa
