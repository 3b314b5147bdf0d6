/- A quotient of numbers with a sign, by one of many words. -/
import Derived.Test.YtjelmbkngjlefaaBRound
import Derived.Test.YtjelmbkngjlefaaIRoundF
import Derived.Test.YtjelmbkngjlefaaGB
namespace Go.Proofs.Ytjelmbkngjlefaa
open Go.RowKit
set_option linter.unusedSimpArgs false

set_option maxRecDepth 20000 in
set_option maxHeartbeats 6400000 in
theorem shared_d (p m : Nat) (x n mode : Int) (w : World) (sp : SG w p x) (sm : SG w m n) (hx : (limbs x.natAbs).length ≤ 70) (hn : 0 < n) (hn2 : (limbs n.natAbs).length ≤ 48) (h0 : 0 ≤ mode) (h4 : mode ≤ 4) :
    Calls Try.prog 52 #[.pointer (some ⟨p, 0, none⟩), .pointer (some ⟨m, 0, none⟩), .int .i64 mode] w fun e w' => ∃ c, e = .returned (.pointer (some ⟨c, 0, none⟩)) ∧ w.heap.size ≤ c ∧ SG w' c (fracI x n mode) ∧ Below w.heap.size w w' := by
  obtain ⟨d, rfl⟩ : ∃ d : Nat, n = (d : Int) := ⟨n.toNat, by omega⟩
  have hd : 0 < d := by omega
  have ln : (limbs d).length ≤ 48 := by rw [Int.natAbs_natCast] at hn2; exact hn2
  have kF := fun W (h1 : GA W p 1 x.natAbs) (h2 : GA W m 1 d) => bFracL p 1 m 1 x.natAbs d W hx (by omega) hd h1 h2
  have hfr := frac_round x d hd mode h0 h4
  have hcj := cmpJ_nat (x.natAbs % d * 2) d
  rw [hcj] at hfr
  have hlq : (limbs (x.natAbs / d)).length ≤ 97 := Nat.le_trans (limbs_mono (Nat.div_le_self _ _)) (by omega)
  have kR := fun W => bRounded (x.natAbs / d) (decide (x.natAbs % d = 0)) (cmpI (x.natAbs % d * 2) d) mode (decide (x < 0)) W hlq h0 h4
  rw [← hfr] at kR
  have HP := sp.sgg
  have HM := sm.sgg
  rw [Int.natAbs_natCast] at HM
  clear hfr hcj hlq hx ln h0 h4 hn hn2 sp sm
  generalize fracI x d mode = r at *
  generalize cmpI (x.natAbs % d * 2) d = cm at *
  generalize decide (x.natAbs % d = 0) = wh at *
  generalize x.natAbs / d = qq at *
  generalize decide (x < 0) = g at *
  generalize x.natAbs = mx at *
  generalize decide ((d : Int) < 0) = g2 at *
  go_enter Try.func52, Try.ntmps52
  go_wp2_with fail
  have B1 := (Below.refl w.heap.size w).drew
  refine wp_region_held_drew (S := fun W => SGG W p g mx ∧ SGG W m g2 d) (by kernel_rfl) ⟨HP.drew, HM.drew⟩ ?_
  intro hHeld
  generalize w.drew = w2 at *
  refine takeH 0 (some 7) (.pointer (some ⟨p, 0, none⟩)) rfl rfl (by kernel_rfl) (by kernel_rfl) (by kernel_rfl) (fun _ _ _ h => h) (yg_move rfl (.tmp 0) rfl _ rfl) (by assumption) ?_
  simp only [Act.put, List.setIfInBounds_toArray, List.set_cons_zero, List.set_cons_succ]
  refine takeH 1 (some 8) (.pointer (some ⟨p, 0, none⟩)) rfl rfl (by kernel_rfl) (by kernel_rfl) (by kernel_rfl) (fun _ _ _ h => h) (Or.inl ⟨rfl, fun W hW => by obtain _ := hW; go_simp⟩) (by assumption) ?_
  simp only [Act.put, List.setIfInBounds_toArray, List.set_cons_zero, List.set_cons_succ]
  refine takeH 2 (some 9) (.pointer (some ⟨p, 1, none⟩)) rfl rfl (by kernel_rfl) (by kernel_rfl) (by kernel_rfl) (fun _ _ _ h => h) (Or.inl ⟨rfl, fun W hW => by obtain _ := hW; go_simp⟩) (by assumption) ?_
  simp only [Act.put, List.setIfInBounds_toArray, List.set_cons_zero, List.set_cons_succ]
  refine takeH 3 (some 10) (.pointer (some ⟨m, 0, none⟩)) rfl rfl (by kernel_rfl) (by kernel_rfl) (by kernel_rfl) (fun _ _ _ h => h) (yg_move rfl (.tmp 1) rfl _ rfl) (by assumption) ?_
  simp only [Act.put, List.setIfInBounds_toArray, List.set_cons_zero, List.set_cons_succ]
  refine takeH 4 (some 11) (.pointer (some ⟨m, 0, none⟩)) rfl rfl (by kernel_rfl) (by kernel_rfl) (by kernel_rfl) (fun _ _ _ h => h) (Or.inl ⟨rfl, fun W hW => by obtain _ := hW; go_simp⟩) (by assumption) ?_
  simp only [Act.put, List.setIfInBounds_toArray, List.set_cons_zero, List.set_cons_succ]
  refine takeH 5 (some 12) (.pointer (some ⟨m, 1, none⟩)) rfl rfl (by kernel_rfl) (by kernel_rfl) (by kernel_rfl) (fun _ _ _ h => h) (Or.inl ⟨rfl, fun W hW => by obtain _ := hW; go_simp⟩) (by assumption) ?_
  simp only [Act.put, List.setIfInBounds_toArray, List.set_cons_zero, List.set_cons_succ]
  refine takeH 7 (some 14) (.pointer (some ⟨p, 0, none⟩)) rfl rfl (by kernel_rfl) (by kernel_rfl) (by kernel_rfl) (fun _ _ _ h => h) (yg_move rfl (.tmp 0) rfl _ rfl) (by assumption) ?_
  simp only [Act.put, List.setIfInBounds_toArray, List.set_cons_zero, List.set_cons_succ]
  refine takeH 8 (some 15) (.pointer (some ⟨p, 0, none⟩)) rfl rfl (by kernel_rfl) (by kernel_rfl) (by kernel_rfl) (fun _ _ _ h => h) (Or.inl ⟨rfl, fun W hW => by obtain _ := hW; go_simp⟩) (by assumption) ?_
  simp only [Act.put, List.setIfInBounds_toArray, List.set_cons_zero, List.set_cons_succ]
  refine takeH 9 (some 16) (.pointer (some ⟨p, 0, none⟩)) rfl rfl (by kernel_rfl) (by kernel_rfl) (by kernel_rfl) (fun _ _ _ h => h) (Or.inl ⟨rfl, fun W hW => by obtain _ := hW; go_simp⟩) (by assumption) ?_
  simp only [Act.put, List.setIfInBounds_toArray, List.set_cons_zero, List.set_cons_succ]
  refine takeH 10 (some 17) (.bool g) rfl rfl (by kernel_rfl) (by kernel_rfl) (by kernel_rfl) (fun _ _ _ h => h) (Or.inl ⟨rfl, fun W hW => by obtain ⟨⟨_c, _⟩, _⟩ := hW; go_simp⟩) (by assumption) ?_
  simp only [Act.put, List.setIfInBounds_toArray, List.set_cons_zero, List.set_cons_succ]
  refine takeH 11 (some 18) (.int .i64 mode) rfl rfl (by kernel_rfl) (by kernel_rfl) (by kernel_rfl) (fun _ _ _ h => h) (yg_move rfl (.tmp 2) rfl _ rfl) (by assumption) ?_
  simp only [Act.put, List.setIfInBounds_toArray, List.set_cons_zero, List.set_cons_succ]
  refine oneH 6 rfl (by kernel_rfl) (fun K' hK => ?_)
  go_simp
  refine (kF _ hHeld.1.2 hHeld.2.2).mono ?_
  rintro e w4 ⟨rfl, b4⟩
  have H4 := hHeld.1.below b4 hHeld.1.lt
  have I4 := hHeld.2.below b4 hHeld.2.lt
  refine hK _ _ ⟨H4, I4⟩ ?_
  clear hK
  refine oneH 12 rfl (by kernel_rfl) (fun K' hK => ?_)
  go_simp
  refine (kR _).mono ?_
  rintro e w5 ⟨c, rfl, hc, sc, b5⟩
  have H5 := H4.below b5 H4.lt
  have I5 := I4.below b5 I4.lt
  refine hK _ _ ⟨H5, I5⟩ ?_
  clear hK
  refine takeH 13 (some 6) (.pointer (some ⟨c, 0, none⟩)) rfl rfl (by kernel_rfl) (by kernel_rfl) (by kernel_rfl) (fun _ _ _ h => h) (yg_assign rfl (.tmp 19) rfl _ rfl) ⟨H5, I5⟩ ?_
  simp only [Act.put, List.setIfInBounds_toArray, List.set_cons_zero, List.set_cons_succ]
  refine wpAnyH_done (by kernel_rfl) ?_ _
  have B4 := B1.trans (b4.mono B1.size)
  have HB : Hid (Below w.heap.size w w5) := B4.trans (b5.mono B4.size)
  have HC : Hid (w.heap.size ≤ c) := Nat.le_trans B4.size hc
  have HS : Hid (SG w5 c r) := sc
  clear hHeld H4 H5 I4 I5 B1 B4 b4 b5 sc hc kF kR HP HM
  go_wp2
  go_ret
  exact ⟨c, rfl, HC.out, HS.out, HB.out⟩



end Go.Proofs.Ytjelmbkngjlefaa
