/- The program's justInside, by its contract. -/
import Derived.Test.YtnplnekfeabneaaSgPM
import Derived.Test.YtnplnekfeabneaaSgShift
import Derived.Test.YtnplnekfeabneaaSTB
import Derived.Test.YtnplnekfeabneaaSWhole
import Derived.Test.YtnplnekfeabneaaSpans
namespace Go.Proofs.Ytnplnekfeabneaa
open Go.RowKit
set_option linter.unusedSimpArgs false

theorem below2J (w : World) (o1 o2 : Obj) : Below w.heap.size w ((w.alloc o1).alloc o2) := ((Below.refl w.heap.size w).alloc (Nat.le_refl _) o1).alloc (by simp) o2
set_option maxRecDepth 20000 in
set_option maxHeartbeats 6400000 in
theorem just_c (p q : Nat) (x y : Int) (w : World) (sp : SG w p x) (sq : SG w q y) (m1 : (limbs x.natAbs).length ≤ 48) (m2 : (limbs y.natAbs).length ≤ 48) (n1 : (limbs (x * 2).natAbs).length ≤ 49) (n2 : (limbs (y * 2).natAbs).length ≤ 49) :
    Calls Try.prog 28 #[.agg #[.pointer (some ⟨p, 0, none⟩), .pointer (some ⟨q, 0, none⟩)]] w (spanE (x * 2 + 1) (y * 2 - 1) w) := by
  have kO := fun W => sOf 1 W (by omega) (by omega)
  have l1 : (limbs (1 : Int).natAbs).length ≤ 97 := by rw [show (1 : Int).natAbs = 1 from rfl]; exact Nat.le_trans (limbs_len_le 1 1 (by omega)) (by omega)
  have k1 := fun W h => sgUp p x 1 W h (by omega) (by omega)
  have k2 := fun a b W h1 h2 => sgPlus a b (x * 2) 1 W h1 h2 (by omega) l1
  have k3 := fun W h => sgUp q y 1 W h (by omega) (by omega)
  have k4 := fun a b W h1 h2 => sgMinus a b (y * 2) 1 W h1 h2 (by omega) l1
  rw [show x * 2 ^ 1 = x * 2 by omega] at k1
  rw [show y * 2 ^ 1 = y * 2 by omega] at k3
  unfold spanE
  clear m1 m2 n1 n2 l1
  generalize x * 2 + 1 = d1 at *
  generalize y * 2 - 1 = d2 at *
  generalize x * 2 = x2 at *
  generalize y * 2 = y2 at *
  have s1 : (w.alloc (.cells #[.pointer (some ⟨p, 0, none⟩), .pointer (some ⟨q, 0, none⟩)] 51)).heap.size = w.heap.size + 1 := by simp
  have E := (BoxW.made w (.pointer (some ⟨p, 0, none⟩)) (.pointer (some ⟨q, 0, none⟩)) 51).below (below1 _ (.cells #[.pointer none, .pointer none] 51)) (Nat.le_refl _)
  have R := BoxW.made (w.alloc (.cells #[.pointer (some ⟨p, 0, none⟩), .pointer (some ⟨q, 0, none⟩)] 51)) (.pointer none) (.pointer none) 51
  rw [s1] at R
  have B := below2J w (.cells #[.pointer (some ⟨p, 0, none⟩), .pointer (some ⟨q, 0, none⟩)] 51) (.cells #[.pointer none, .pointer none] 51)
  replace sp := sp.below B sp.lt
  replace sq := sq.below B sq.lt
  clear s1
  go_enter Try.func28, Try.ntmps28
  go_wp2_with fail
  refine (kO _).mono ?_
  generalize (w.alloc (.cells #[.pointer (some ⟨p, 0, none⟩), .pointer (some ⟨q, 0, none⟩)] 51)).alloc (.cells #[.pointer none, .pointer none] 51) = w0 at *
  rintro e w1 ⟨m, rfl, hm, sm, b1⟩
  replace E := E.below b1 (Nat.le_refl _)
  replace R := R.below b1 (Nat.le_refl _)
  replace sp := sp.below b1 sp.lt
  replace sq := sq.below b1 sq.lt
  replace B := B.trans (b1.mono B.size)
  clear b1 kO
  go_wp2_with fail
  have bd := (Below.refl w1.heap.size w1).drew
  replace E := E.below bd (Nat.le_refl _)
  replace R := R.below bd (Nat.le_refl _)
  replace sp := sp.below bd sp.lt
  replace sq := sq.below bd sq.lt
  replace sm := sm.below bd sm.lt
  replace B := B.trans (bd.mono B.size)
  clear bd
  refine wp_region_held_drew (S := fun W => W.cell? ⟨w.heap.size, 0, none⟩ = some (.pointer (some ⟨p, 0, none⟩)) ∧ W.cell? ⟨w.heap.size, 1, none⟩ = some (.pointer (some ⟨q, 0, none⟩))) (by kernel_rfl) ⟨E.c0, E.c1⟩ ?_
  intro hHeld
  generalize w1.drew = w3 at *
  refine takeH 0 (some 5) (.pointer (some ⟨w.heap.size, 0, none⟩)) rfl rfl (by kernel_rfl) (by kernel_rfl) (by kernel_rfl) (fun _ _ _ h => h) (Or.inl ⟨rfl, fun W hW => by obtain _ := hW; go_simp⟩) (by assumption) ?_
  simp only [Act.put, List.setIfInBounds_toArray, List.set_cons_zero, List.set_cons_succ]
  refine takeH 1 (some 6) (.pointer (some ⟨p, 0, none⟩)) rfl rfl (by kernel_rfl) (by kernel_rfl) (by kernel_rfl) (fun _ _ _ h => h) (Or.inl ⟨rfl, fun W hW => by obtain ⟨_c, _⟩ := hW; go_simp⟩) (by assumption) ?_
  simp only [Act.put, List.setIfInBounds_toArray, List.set_cons_zero, List.set_cons_succ]
  refine takeH 3 (some 8) (.pointer (some ⟨m, 0, none⟩)) rfl rfl (by kernel_rfl) (by kernel_rfl) (by kernel_rfl) (fun _ _ _ h => h) (Or.inl ⟨rfl, fun W hW => by obtain _ := hW; go_simp⟩) (by assumption) ?_
  simp only [Act.put, List.setIfInBounds_toArray, List.set_cons_zero, List.set_cons_succ]
  refine takeH 5 (some 10) (.pointer (some ⟨w.heap.size, 1, none⟩)) rfl rfl (by kernel_rfl) (by kernel_rfl) (by kernel_rfl) (fun _ _ _ h => h) (Or.inl ⟨rfl, fun W hW => by obtain _ := hW; go_simp⟩) (by assumption) ?_
  simp only [Act.put, List.setIfInBounds_toArray, List.set_cons_zero, List.set_cons_succ]
  refine takeH 6 (some 11) (.pointer (some ⟨q, 0, none⟩)) rfl rfl (by kernel_rfl) (by kernel_rfl) (by kernel_rfl) (fun _ _ _ h => h) (Or.inl ⟨rfl, fun W hW => by obtain ⟨_, _c⟩ := hW; go_simp⟩) (by assumption) ?_
  simp only [Act.put, List.setIfInBounds_toArray, List.set_cons_zero, List.set_cons_succ]
  refine takeH 8 (some 13) (.pointer (some ⟨m, 0, none⟩)) rfl rfl (by kernel_rfl) (by kernel_rfl) (by kernel_rfl) (fun _ _ _ h => h) (Or.inl ⟨rfl, fun W hW => by obtain _ := hW; go_simp⟩) (by assumption) ?_
  simp only [Act.put, List.setIfInBounds_toArray, List.set_cons_zero, List.set_cons_succ]
  refine oneH 2 rfl (by kernel_rfl) (fun K' hK => ?_)
  go_simp
  refine (k1 _ sp).mono ?_
  rintro e w4 ⟨u, rfl, hu, su, b2⟩
  replace E := E.below b2 (Nat.le_refl _)
  replace R := R.below b2 (Nat.le_refl _)
  replace sp := sp.below b2 sp.lt
  replace sq := sq.below b2 sq.lt
  replace sm := sm.below b2 sm.lt
  replace B := B.trans (b2.mono B.size)
  clear b2
  refine hK _ _ ⟨E.c0, E.c1⟩ ?_
  clear hK
  clear k1
  refine oneH 4 rfl (by kernel_rfl) (fun K' hK => ?_)
  go_simp
  refine (k2 u m _ su sm).mono ?_
  rintro e w5 ⟨c, rfl, hc, sc, b4⟩
  have hRc := R.hi
  replace E := E.below b4 (Nat.le_refl _)
  replace R := R.below b4 (Nat.le_refl _)
  replace sp := sp.below b4 sp.lt
  replace sq := sq.below b4 sq.lt
  replace sm := sm.below b4 sm.lt
  replace su := su.below b4 su.lt
  replace B := B.trans (b4.mono B.size)
  clear b4
  refine hK _ _ ⟨E.c0, E.c1⟩ ?_
  clear hK
  clear k2
  refine oneH 7 rfl (by kernel_rfl) (fun K' hK => ?_)
  go_simp
  refine (k3 _ sq).mono ?_
  rintro e w6 ⟨v, rfl, hv, sv, b7⟩
  replace E := E.below b7 (Nat.le_refl _)
  replace R := R.below b7 (Nat.le_refl _)
  replace sp := sp.below b7 sp.lt
  replace sq := sq.below b7 sq.lt
  replace sm := sm.below b7 sm.lt
  replace su := su.below b7 su.lt
  replace sc := sc.below b7 sc.lt
  replace B := B.trans (b7.mono B.size)
  clear b7
  refine hK _ _ ⟨E.c0, E.c1⟩ ?_
  clear hK
  clear k3
  refine oneH 9 rfl (by kernel_rfl) (fun K' hK => ?_)
  go_simp
  refine (k4 v m _ sv sm).mono ?_
  rintro e w7 ⟨d, rfl, hd, sd, b9⟩
  have hRd := R.hi
  replace E := E.below b9 (Nat.le_refl _)
  replace R := R.below b9 (Nat.le_refl _)
  replace sp := sp.below b9 sp.lt
  replace sq := sq.below b9 sq.lt
  replace sm := sm.below b9 sm.lt
  replace su := su.below b9 su.lt
  replace sc := sc.below b9 sc.lt
  replace sv := sv.below b9 sv.lt
  replace B := B.trans (b9.mono B.size)
  clear b9
  refine hK _ _ ⟨E.c0, E.c1⟩ ?_
  clear hK
  clear k4
  have H5 : (fun W => W.cell? ⟨w.heap.size, 0, none⟩ = some (.pointer (some ⟨p, 0, none⟩)) ∧ W.cell? ⟨w.heap.size, 1, none⟩ = some (.pointer (some ⟨q, 0, none⟩))) w7 := ⟨E.c0, E.c1⟩
  refine takeH 10 (some 15) (.agg #[.pointer (some ⟨c, 0, none⟩), .pointer (some ⟨d, 0, none⟩)]) rfl rfl (by kernel_rfl) (by kernel_rfl) (by kernel_rfl) (fun _ _ _ h => h) (Or.inl ⟨rfl, fun W hW => by obtain _ := hW; go_simp⟩) (by assumption) ?_
  simp only [Act.put, List.setIfInBounds_toArray, List.set_cons_zero, List.set_cons_succ]
  have hR := R.hi
  have r0 := R.c0
  have f0 := R.f0
  have r1 := R.c1
  have f1 := R.f1
  have E7 := E.tn ((tnC w7 (w.heap.size + 1) 0 (.pointer (some ⟨c, 0, none⟩))).trans (tnC _ (w.heap.size + 1) 1 (.pointer (some ⟨d, 0, none⟩)))) (fun k hk hs => by simp at hk hs; omega)
  refine oneH 11 rfl (by kernel_rfl) (fun K' hK => ?_)
  go_simp
  refine hK _ _ ⟨E7.c0, E7.c1⟩ ?_
  clear hK
  refine wpAnyH_done (by kernel_rfl) ?_ _
  have hE := E.hi
  have hcl : w.heap.size + 1 < c := by omega
  have hdl : w.heap.size + 1 < d := by omega
  have HC : Hid (SG _ c d1) := sc.tn ((tnC w7 (w.heap.size + 1) 0 (.pointer (some ⟨c, 0, none⟩))).trans (tnC _ (w.heap.size + 1) 1 (.pointer (some ⟨d, 0, none⟩)))) (fun h => by simp at h; omega)
  have HD : Hid (SG _ d d2) := sd.tn ((tnC w7 (w.heap.size + 1) 0 (.pointer (some ⟨c, 0, none⟩))).trans (tnC _ (w.heap.size + 1) 1 (.pointer (some ⟨d, 0, none⟩)))) (fun h => by simp at h; omega)
  have HB : Hid (Below w.heap.size w _) := ((B.setCell (p := ⟨w.heap.size + 1, 0, none⟩) (by show w.heap.size ≤ w.heap.size + 1; omega) (.pointer (some ⟨c, 0, none⟩))).setCell (p := ⟨w.heap.size + 1, 1, none⟩) (by show w.heap.size ≤ w.heap.size + 1; omega) (.pointer (some ⟨d, 0, none⟩)))
  clear hHeld H5 E E7 R B sp sq sm su sv sc sd
  go_wp2
  (try simp only [Exit.inBlock, Exit.then])
  refine bodyPost_ret (v := .agg #[.pointer (some ⟨c, 0, none⟩), .pointer (some ⟨d, 0, none⟩)]) ?_ rfl ⟨_, _, rfl, HC.out, HD.out, HB.out⟩
  rw [results_cell1 rfl]
  go_simp

end Go.Proofs.Ytnplnekfeabneaa
