/- The program's ivFrom, by its contract. -/
import Derived.Test.YtjelmbkngjlefaaSTB
import Derived.Test.YtjelmbkngjlefaaSWhole
namespace Go.Proofs.Ytjelmbkngjlefaa
open Go.RowKit
set_option linter.unusedSimpArgs false

/-- What fits is answered, else nothing and no. -/
def fitV (x y : Int) : Vh × Bool := if (fitW x).2 = true ∧ (fitW y).2 = true then (((fitW x).1, (fitW y).1), true) else (((false, []), (false, [])), false)
theorem fitV_len (x y : Int) : (fitV x y).1.1.2.length ≤ 1048576 ∧ (fitV x y).1.2.2.length ≤ 1048576 := by
  unfold fitV
  split
  · exact ⟨fitW_len x, fitW_len y⟩
  · simp

set_option maxRecDepth 20000 in
set_option maxHeartbeats 6400000 in
theorem ivFrom_c (p q : Nat) (x y : Int) (w : World) (hp : SG w p x) (hq : SG w q y) :
    Calls Try.prog 22 #[.agg #[.pointer (some ⟨p, 0, none⟩), .pointer (some ⟨q, 0, none⟩)]] w fun e w' => ∃ v, e = .returned (.tuple #[v, .bool (fitV x y).2]) ∧ ownsV w' w.heap.size v (fitV x y).1 ∧ Below w.heap.size w w' := by
  have kA := fun W (h : Below w.heap.size w W) => sWhole p x W (hp.below h hp.lt)
  have kB := fun W (h : Below w.heap.size w W) => sWhole q y W (hq.below h hq.lt)
  have HF : Hid (fitV x y = if (fitW x).2 = true ∧ (fitW y).2 = true then (((fitW x).1, (fitW y).1), true) else (((false, []), (false, [])), false)) := rfl
  obtain ⟨fv, hfv⟩ : ∃ f, fitV x y = f := ⟨_, rfl⟩
  rw [hfv] at HF
  rw [hfv]
  obtain ⟨⟨⟨ga, la⟩, oa⟩, hfa⟩ : ∃ f, fitW x = f := ⟨_, rfl⟩
  obtain ⟨⟨⟨gb, lb⟩, ob⟩, hfb⟩ : ∃ f, fitW y = f := ⟨_, rfl⟩
  rw [hfa] at kA HF
  rw [hfb] at kB HF
  clear hp hq hfv hfa hfb
  have s1 : (w.alloc (.cells #[.pointer (some ⟨p, 0, none⟩), .pointer (some ⟨q, 0, none⟩)] 45)).heap.size = w.heap.size + 1 := by simp
  have X0 := (BoxW.made w (.pointer (some ⟨p, 0, none⟩)) (.pointer (some ⟨q, 0, none⟩)) 45).below (below1 _ (.cells #[.bool false, .slice none 0 0, .bool false, .slice none 0 0] 30)) (Nat.le_refl _)
  have R0 := BoxV.made (w.alloc (.cells #[.pointer (some ⟨p, 0, none⟩), .pointer (some ⟨q, 0, none⟩)] 45)) (.bool false) (.slice none 0 0) (.bool false) (.slice none 0 0) 30
  rw [s1] at R0
  have B0 := below2 w (.cells #[.pointer (some ⟨p, 0, none⟩), .pointer (some ⟨q, 0, none⟩)] 45) (.cells #[.bool false, .slice none 0 0, .bool false, .slice none 0 0] 30)
  clear s1
  go_enter Try.func22, Try.ntmps22
  go_wp2_with fail
  refine (kA _ B0).mono ?_
  generalize (w.alloc (.cells #[.pointer (some ⟨p, 0, none⟩), .pointer (some ⟨q, 0, none⟩)] 45)).alloc (.cells #[.bool false, .slice none 0 0, .bool false, .slice none 0 0] 30) = w0 at *
  rintro e w1 ⟨v1, rfl, o1, b1⟩
  obtain ⟨sa, rfl, q1⟩ := o1
  obtain ⟨ad, cp, rfl, -⟩ := q1.row
  have q1' : ownsI w1 w0.heap.size (.slice ad la.length cp) la := q1
  have hR0 := R0.hi
  have bA := below1 w1 (.cells #[.bool ga, .slice ad la.length cp] 28)
  have X1 := (X0.below b1 (Nat.le_refl _)).below bA (Nat.le_refl _)
  have R1 := (R0.below b1 (Nat.le_refl _)).below bA (Nat.le_refl _)
  have E1 := BoxW.made w1 (.bool ga) (.slice ad la.length cp) 28
  have B1 := (B0.trans (b1.mono B0.size)).trans (bA.mono (B0.trans (b1.mono B0.size)).size)
  have q2 := ownsI.below q1' bA (Nat.le_refl _)
  have hw01 := b1.size
  clear q1 q1' b1 X0 R0 kA bA
  have c0 := X1.c0
  have c1 := X1.c1
  go_wp2_with fail
  clear c0 c1
  refine (kB _ B1).mono ?_
  generalize w1.alloc (.cells #[.bool ga, .slice ad la.length cp] 28) = w2 at *
  generalize w1.heap.size = f4 at *
  rintro e w3 ⟨v3, rfl, o3, b3⟩
  obtain ⟨sb, rfl, q3⟩ := o3
  obtain ⟨ae, cq, rfl, -⟩ := q3.row
  have q3' : ownsI w3 w2.heap.size (.slice ae lb.length cq) lb := q3
  have hE1 := E1.hi
  have hR1 := R1.hi
  have bB := below1 w3 (.cells #[.bool gb, .slice ae lb.length cq] 28)
  have R3 := (R1.below b3 (Nat.le_refl _)).below bB (Nat.le_refl _)
  have E3 := (E1.below b3 (Nat.le_refl _)).below bB (Nat.le_refl _)
  have G3 := BoxW.made w3 (.bool gb) (.slice ae lb.length cq) 28
  have B3 := (B1.trans (b3.mono B1.size)).trans (bB.mono (B1.trans (b3.mono B1.size)).size)
  have z2 := ownsI.below (ownsI.below q2 b3 (Nat.le_refl _)) bB (Nat.le_refl _)
  have z3 := ownsI.below q3' bB (Nat.le_refl _)
  have hap : Apart (blkI (.slice ad la.length cp)) (blkI (.slice ae lb.length cq)) := apart_of (fun k hk => (q2.ltb k hk).2) (fun k hk => (q3'.ltb k hk).1)
  have hw23 := b3.size
  clear q2 q3 q3' b3 X1 R1 E1 B1 kB bB
  have e0 := E3.c0
  have e1 := E3.c1
  have g0 := G3.c0
  have g1 := G3.c1
  have r0 := R3.c0
  have r1 := R3.c1
  have r2 := R3.c2
  have r3 := R3.c3
  have t0 := R3.f0
  have t1 := R3.f1
  have t2 := R3.f2
  have t3 := R3.f3
  by_cases hok : oa = true ∧ ob = true
  · obtain ⟨rfl, rfl⟩ := hok
    have HV : Hid (fv = (((ga, la), (gb, lb)), true)) := by show _ = _; rw [HF.out]; simp
    have HA : Hid (ownsI _ w0.heap.size (.slice ad la.length cp) la) := (((z2.other (w.heap.size + 1) 0 (by omega) (.bool ga)).other (w.heap.size + 1) 1 (by omega) (.slice ad la.length cp)).other (w.heap.size + 1) 2 (by omega) (.bool gb)).other (w.heap.size + 1) 3 (by omega) (.slice ae lb.length cq)
    have HZ : Hid (ownsI _ w2.heap.size (.slice ae lb.length cq) lb) := (((z3.other (w.heap.size + 1) 0 (by omega) (.bool ga)).other (w.heap.size + 1) 1 (by omega) (.slice ad la.length cp)).other (w.heap.size + 1) 2 (by omega) (.bool gb)).other (w.heap.size + 1) 3 (by omega) (.slice ae lb.length cq)
    have HB : Hid (Below w.heap.size w _) := (((B3.setCell (p := ⟨w.heap.size + 1, 0, none⟩) (by show w.heap.size ≤ w.heap.size + 1; omega) (.bool ga)).setCell (p := ⟨w.heap.size + 1, 1, none⟩) (by show w.heap.size ≤ w.heap.size + 1; omega) (.slice ad la.length cp)).setCell (p := ⟨w.heap.size + 1, 2, none⟩) (by show w.heap.size ≤ w.heap.size + 1; omega) (.bool gb)).setCell (p := ⟨w.heap.size + 1, 3, none⟩) (by show w.heap.size ≤ w.heap.size + 1; omega) (.slice ae lb.length cq)
    have HP : Hid (Apart (blkI (.slice ad la.length cp)) (blkI (.slice ae lb.length cq))) := hap
    have hb2 : w.heap.size ≤ w2.heap.size := by omega
    have hb0 : w.heap.size ≤ w0.heap.size := by omega
    clear z2 z3 R3 E3 G3 B3 hap HF
    go_wp2
    (try simp only [Exit.inBlock, Exit.then])
    refine bodyPost_ret (v := .tuple #[.agg #[.bool ga, .slice ad la.length cp, .bool gb, .slice ae lb.length cq], .bool true]) ?_ rfl ⟨_, by rw [HV.out], by rw [HV.out]; exact ⟨_, _, rfl, ownsI_mono HA.out hb0, ownsI_mono HZ.out hb2, HP.out⟩, HB.out⟩
    rw [results_cell_tmp rfl]
    go_simp
  · have HV : Hid (fv = (((false, []), (false, [])), false)) := by show _ = _; rw [HF.out, if_neg hok]
    have HB : Hid (Below w.heap.size w _) := (((B3.setCell (p := ⟨w.heap.size + 1, 0, none⟩) (by show w.heap.size ≤ w.heap.size + 1; omega) (.bool false)).setCell (p := ⟨w.heap.size + 1, 1, none⟩) (by show w.heap.size ≤ w.heap.size + 1; omega) (.slice none 0 0)).setCell (p := ⟨w.heap.size + 1, 2, none⟩) (by show w.heap.size ≤ w.heap.size + 1; omega) (.bool false)).setCell (p := ⟨w.heap.size + 1, 3, none⟩) (by show w.heap.size ≤ w.heap.size + 1; omega) (.slice none 0 0)
    clear z2 z3 R3 E3 G3 B3 hap HF
    cases oa
    · clear hok
      go_wp2
      (try simp only [Exit.inBlock, Exit.then])
      refine bodyPost_ret (v := .tuple #[.agg #[.bool false, .slice none 0 0, .bool false, .slice none 0 0], .bool false]) ?_ rfl ⟨_, by rw [HV.out], by rw [HV.out]; exact nilV _ _, HB.out⟩
      rw [results_cell_tmp rfl]
      go_simp
    · cases ob
      · clear hok
        go_wp2
        (try simp only [Exit.inBlock, Exit.then])
        refine bodyPost_ret (v := .tuple #[.agg #[.bool false, .slice none 0 0, .bool false, .slice none 0 0], .bool false]) ?_ rfl ⟨_, by rw [HV.out], by rw [HV.out]; exact nilV _ _, HB.out⟩
        rw [results_cell_tmp rfl]
        go_simp
      · exact absurd ⟨rfl, rfl⟩ hok

end Go.Proofs.Ytjelmbkngjlefaa
