/- The program's moved of places and movedSpan, each by its contract. -/
import Derived.Test.YtjelmbkngjlefaaSgShift
import Derived.Test.YtjelmbkngjlefaaGAt
import Derived.Test.YtjelmbkngjlefaaBRound
import Derived.Test.YtjelmbkngjlefaaIRoundF
import Derived.Test.YtjelmbkngjlefaaSpans
namespace Go.Proofs.Ytjelmbkngjlefaa
open Go.RowKit
set_option linter.unusedSimpArgs false

theorem behind_c (p : Int) (w : World) : Calls Try.prog 124 #[.int .i64 p] w fun e w' => e = .returned (.int .i64 p) ∧ w' = w := by
  go_enter Try.func124, Try.ntmps124
  go_wp2
  go_ret
  exact ⟨by simp, rfl⟩

set_option maxRecDepth 20000 in
set_option maxHeartbeats 3200000 in
theorem movedUp_c (p q : Int) (k : Nat) (b : Nat) (z mode : Int) (w : World) (h : SG w b z) (hk : q - p = k) (hz : k / 24 + (limbs z.natAbs).length + 1 ≤ 98) (hk2 : k ≤ 100000) :
    Calls Try.prog 64 #[.int .i64 p, .int .i64 q, .pointer (some ⟨b, 0, none⟩), .int .i64 mode] w fun e w' => ∃ c, e = .returned (.pointer (some ⟨c, 0, none⟩)) ∧ w.heap.size ≤ c ∧ SG w' c (z * 2 ^ k) ∧ Below w.heap.size w w' := by
  have kB1 := fun W => behind_c p W
  have kB2 := fun W => behind_c q W
  have kU := fun W (h : SG W b z) => sgUp b z k W h hz hk2
  have hsub : IntKind.i64.wrap (q - p) = k := by rw [hk, IntKind.wrap_i64]; omega
  generalize z * 2 ^ k = r at *
  have hk0 : (0 : Int) ≤ (k : Int) := by omega
  clear hz hk2 hk
  go_enter Try.func64, Try.ntmps64
  go_wp2_with fail
  refine (kB2 _).mono ?_
  rintro e w1 ⟨rfl, rfl⟩
  go_wp2_with fail
  refine (kB1 _).mono ?_
  rintro e w1 ⟨rfl, rfl⟩
  go_wp2_with fail
  refine (kU _ h).mono ?_
  rintro e w4 ⟨c, rfl, hc, hz4, c4⟩
  go_wp2
  go_ret
  exact ⟨c, rfl, hc, hz4, c4⟩

set_option maxRecDepth 20000 in
set_option maxHeartbeats 6400000 in
theorem movedDown_c (p q : Int) (j : Nat) (b : Nat) (z mode : Int) (w : World) (h : SG w b z) (hj : q - p = -(j : Int)) (hj0 : 0 < j) (hj2 : j ≤ 600) (hz : (limbs z.natAbs).length ≤ 96) (h0 : 0 ≤ mode) (h4 : mode ≤ 4) :
    Calls Try.prog 64 #[.int .i64 p, .int .i64 q, .pointer (some ⟨b, 0, none⟩), .int .i64 mode] w fun e w' => ∃ c, e = .returned (.pointer (some ⟨c, 0, none⟩)) ∧ w.heap.size ≤ c ∧ SG w' c (fracI z (2 ^ j) mode) ∧ Below w.heap.size w w' := by
  have kB1 := fun W => behind_c p W
  have kB2 := fun W => behind_c q W
  have kF := fun W (h1 : GA W b 1 z.natAbs) => bAt b 1 z.natAbs j W hz hj2 h1
  have hfr := frac_round z (2 ^ j) (Nat.pow_pos (by omega)) mode h0 h4
  have e2 : ((2 ^ j : Nat) : Int) = (2 : Int) ^ j := by simp
  have hcj := cmpJ_nat (z.natAbs % 2 ^ j * 2) (2 ^ j)
  rw [hcj] at hfr
  rw [e2] at hfr
  have hlq : (limbs (z.natAbs / 2 ^ j)).length ≤ 97 := Nat.le_trans (limbs_mono (Nat.div_le_self _ _)) (by omega)
  have kR := fun W => bRounded (z.natAbs / 2 ^ j) (decide (z.natAbs % 2 ^ j = 0)) (cmpI (z.natAbs % 2 ^ j * 2) (2 ^ j)) mode (decide (z < 0)) W hlq h0 h4
  rw [← hfr] at kR
  have hsub : IntKind.i64.wrap (q - p) = -(j : Int) := by rw [hj, IntKind.wrap_i64]; omega
  have hneg : IntKind.i64.wrap (-(-(j : Int))) = (j : Int) := by rw [IntKind.wrap_i64]; omega
  have hjw : IntKind.i64.wrap (j : Int) = (j : Int) := by rw [IntKind.wrap_i64]; omega
  have hlt : ¬ (0 ≤ -(j : Int)) := by omega
  have hlt2 : decide (0 ≤ -(j : Int)) = false := decide_eq_false hlt
  have HP := h.sgg
  clear hfr hcj e2 hlq hz h0 h4 hj hj0 hj2 h
  generalize fracI z (2 ^ j) mode = r at *
  generalize cmpI (z.natAbs % 2 ^ j * 2) (2 ^ j) = cm at *
  generalize decide (z.natAbs % 2 ^ j = 0) = wh at *
  generalize z.natAbs / 2 ^ j = qq at *
  generalize decide (z < 0) = g at *
  generalize z.natAbs = m at *
  go_enter Try.func64, Try.ntmps64
  go_wp2_with fail
  refine (kB2 _).mono ?_
  rintro e w1 ⟨rfl, rfl⟩
  go_wp2_with fail
  refine (kB1 _).mono ?_
  rintro e w1 ⟨rfl, rfl⟩
  go_wp2_with fail
  have B1 := (Below.refl w1.heap.size w1).drew
  refine wp_region_held_drew (S := fun W => SGG W b g m) (by kernel_rfl) HP.drew ?_
  intro hHeld
  generalize w1.drew = w2 at *
  refine takeH 0 (some 22) (.pointer (some ⟨b, 0, none⟩)) rfl rfl (by kernel_rfl) (by kernel_rfl) (by kernel_rfl) (fun _ _ _ h => h) (yg_move rfl (.tmp 2) rfl _ rfl) (by assumption) ?_
  simp only [Act.put, List.setIfInBounds_toArray, List.set_cons_zero, List.set_cons_succ]
  refine takeH 1 (some 23) (.pointer (some ⟨b, 0, none⟩)) rfl rfl (by kernel_rfl) (by kernel_rfl) (by kernel_rfl) (fun _ _ _ h => h) (Or.inl ⟨rfl, fun W hW => by obtain _ := hW; go_simp⟩) (by assumption) ?_
  simp only [Act.put, List.setIfInBounds_toArray, List.set_cons_zero, List.set_cons_succ]
  refine takeH 2 (some 24) (.pointer (some ⟨b, 1, none⟩)) rfl rfl (by kernel_rfl) (by kernel_rfl) (by kernel_rfl) (fun _ _ _ h => h) (Or.inl ⟨rfl, fun W hW => by obtain _ := hW; go_simp⟩) (by assumption) ?_
  simp only [Act.put, List.setIfInBounds_toArray, List.set_cons_zero, List.set_cons_succ]
  refine takeH 3 (some 25) (.int .i64 (-(j : Int))) rfl rfl (by kernel_rfl) (by kernel_rfl) (by kernel_rfl) (fun _ _ _ h => h) (yg_move rfl (.tmp 9) rfl _ rfl) (by assumption) ?_
  simp only [Act.put, List.setIfInBounds_toArray, List.set_cons_zero, List.set_cons_succ]
  refine takeH 4 (some 26) (.int .i64 (j : Int)) rfl rfl (by kernel_rfl) (by kernel_rfl) (by kernel_rfl) (fun _ _ _ h => h) (Or.inl ⟨rfl, fun W hW => by obtain _ := hW; go_simp⟩) (by assumption) ?_
  simp only [Act.put, List.setIfInBounds_toArray, List.set_cons_zero, List.set_cons_succ]
  refine takeH 6 (some 28) (.pointer (some ⟨b, 0, none⟩)) rfl rfl (by kernel_rfl) (by kernel_rfl) (by kernel_rfl) (fun _ _ _ h => h) (yg_move rfl (.tmp 2) rfl _ rfl) (by assumption) ?_
  simp only [Act.put, List.setIfInBounds_toArray, List.set_cons_zero, List.set_cons_succ]
  refine takeH 7 (some 29) (.pointer (some ⟨b, 0, none⟩)) rfl rfl (by kernel_rfl) (by kernel_rfl) (by kernel_rfl) (fun _ _ _ h => h) (Or.inl ⟨rfl, fun W hW => by obtain _ := hW; go_simp⟩) (by assumption) ?_
  simp only [Act.put, List.setIfInBounds_toArray, List.set_cons_zero, List.set_cons_succ]
  refine takeH 8 (some 30) (.pointer (some ⟨b, 0, none⟩)) rfl rfl (by kernel_rfl) (by kernel_rfl) (by kernel_rfl) (fun _ _ _ h => h) (Or.inl ⟨rfl, fun W hW => by obtain _ := hW; go_simp⟩) (by assumption) ?_
  simp only [Act.put, List.setIfInBounds_toArray, List.set_cons_zero, List.set_cons_succ]
  refine takeH 9 (some 31) (.bool g) rfl rfl (by kernel_rfl) (by kernel_rfl) (by kernel_rfl) (fun _ _ _ h => h) (Or.inl ⟨rfl, fun W hW => by obtain ⟨_c, _⟩ := hW; go_simp⟩) (by assumption) ?_
  simp only [Act.put, List.setIfInBounds_toArray, List.set_cons_zero, List.set_cons_succ]
  refine takeH 10 (some 32) (.int .i64 mode) rfl rfl (by kernel_rfl) (by kernel_rfl) (by kernel_rfl) (fun _ _ _ h => h) (yg_move rfl (.tmp 3) rfl _ rfl) (by assumption) ?_
  simp only [Act.put, List.setIfInBounds_toArray, List.set_cons_zero, List.set_cons_succ]
  refine oneH 5 rfl (by kernel_rfl) (fun K' hK => ?_)
  go_simp
  refine (kF _ hHeld.2).mono ?_
  rintro e w4 ⟨rfl, b4⟩
  have H4 := hHeld.below b4 hHeld.lt
  refine hK _ _ H4 ?_
  clear hK
  refine oneH 11 rfl (by kernel_rfl) (fun K' hK => ?_)
  go_simp
  refine (kR _).mono ?_
  rintro e w5 ⟨c, rfl, hc, sc, b5⟩
  have H5 := H4.below b5 H4.lt
  refine hK _ _ H5 ?_
  clear hK
  refine takeH 12 (some 8) (.pointer (some ⟨c, 0, none⟩)) rfl rfl (by kernel_rfl) (by kernel_rfl) (by kernel_rfl) (fun _ _ _ h => h) (yg_assign rfl (.tmp 33) rfl _ rfl) H5 ?_
  simp only [Act.put, List.setIfInBounds_toArray, List.set_cons_zero, List.set_cons_succ]
  refine wpAnyH_done (by kernel_rfl) ?_ _
  have B4 := B1.trans (b4.mono B1.size)
  have HB : Hid (Below w1.heap.size w1 w5) := B4.trans (b5.mono B4.size)
  have HC : Hid (w1.heap.size ≤ c) := Nat.le_trans B4.size hc
  have HS : Hid (SG w5 c r) := sc
  clear hHeld H4 H5 B1 B4 b4 b5 sc hc kF kR HP
  go_wp2
  go_ret
  exact ⟨c, rfl, HC.out, HS.out, HB.out⟩

end Go.Proofs.Ytjelmbkngjlefaa
