/- l11DrawP and DrawIvRoot, each by its contract. -/
import Derived.Test.YtddakeohamefiaaDB
import Derived.Test.YtddakeohamefiaaIvSubB
import Derived.Test.YtddakeohamefiaaSIvOk
namespace Go.Proofs.Ytddakeohamefiaa
open Go.RowKit
set_option linter.unusedSimpArgs false

/-- What a draw of what is held and of a number hands out. -/
def DrawnVI (w : World) (e : Ending) (w' : World) : Prop := ∃ v a p, e = .returned (.tuple #[v, .int .i64 p]) ∧ rowV w' v a ∧ a.1.2.length ≤ 98 ∧ a.2.2.length ≤ 98 ∧ Below w.heap.size w w'
theorem drFinR {w W : World} {b1 : Nat} {g h : Bool} {s t : Value} {xs ys : List Int} (k : MvAt w W b1 g h s t xs ys) (p : Int) (hx : xs.length ≤ 98) (hy : ys.length ≤ 98) :
    DrawnVI w (.returned (.tuple #[.agg #[.bool g, s, .bool h, t], .int .i64 p])) ((((W.setCell ⟨w.heap.size, 0, none⟩ (.bool g)).setCell ⟨w.heap.size, 1, none⟩ s).setCell ⟨w.heap.size, 2, none⟩ (.bool h)).setCell ⟨w.heap.size, 3, none⟩ t) :=
  ⟨_, ((g, xs), (h, ys)), p, rfl, ⟨s, t, rfl, ((((k.q1.set _ 0 (by omega) _).set _ 1 (by omega) _).set _ 2 (by omega) _).set _ 3 (by omega) _).row, ((((k.q2.set _ 0 (by omega) _).set _ 1 (by omega) _).set _ 2 (by omega) _).set _ 3 (by omega) _).row⟩, hx, hy,
    (((k.B.setCell (p := ⟨w.heap.size, 0, none⟩) (Nat.le_refl _) _).setCell (p := ⟨w.heap.size, 1, none⟩) (Nat.le_refl _) _).setCell (p := ⟨w.heap.size, 2, none⟩) (Nat.le_refl _) _).setCell (p := ⟨w.heap.size, 3, none⟩) (Nat.le_refl _) _⟩
theorem tnR4 (w : World) (b : Nat) (x0 x1 x2 x3 : Value) : Tn [b] w ((((w.setCell ⟨b, 0, none⟩ x0).setCell ⟨b, 1, none⟩ x1).setCell ⟨b, 2, none⟩ x2).setCell ⟨b, 3, none⟩ x3) :=
  ⟨rfl, rfl, rfl, by simp [World.setCell], fun k _ hn => by
    have h1 : k ≠ b := fun e => hn (by simp [e])
    rw [Below.heap_setCell _ _ _ _ h1, Below.heap_setCell _ _ _ _ h1, Below.heap_setCell _ _ _ _ h1, Below.heap_setCell _ _ _ _ h1]⟩
theorem MvAt.anew {w W : World} {b1 : Nat} {g h p r : Bool} {s t s' t' : Value} {xs ys us vs : List Int} (k : MvAt w W b1 g h s t xs ys) (hb : w.heap.size + 1 < b1) (n1 : ownsI W (b1 + 1) s' us) (n2 : ownsI W (b1 + 1) t' vs) : MvAt w ((((W.setCell ⟨b1, 0, none⟩ (.bool p)).setCell ⟨b1, 1, none⟩ s').setCell ⟨b1, 2, none⟩ (.bool r)).setCell ⟨b1, 3, none⟩ t') b1 p r s' t' us vs :=
  ⟨k.X.tn (tnR4 W b1 _ _ _ _) (fun k hk hs => by simp at hk hs; omega), (((k.A.set0 _).set1 _).set2 _).set3 _,
    ownsI_mono ((((n1.set b1 0 (by omega) _).set b1 1 (by omega) _).set b1 2 (by omega) _).set b1 3 (by omega) _) (by omega), ownsI_mono ((((n2.set b1 0 (by omega) _).set b1 1 (by omega) _).set b1 2 (by omega) _).set b1 3 (by omega) _) (by omega),
    (((k.c.set b1 0 hb _).set b1 1 hb _).set b1 2 hb _).set b1 3 hb _,
    (((k.B.setCell (p := ⟨b1, 0, none⟩) (by show w.heap.size ≤ b1; omega) _).setCell (p := ⟨b1, 1, none⟩) (by show w.heap.size ≤ b1; omega) _).setCell (p := ⟨b1, 2, none⟩) (by show w.heap.size ≤ b1; omega) _).setCell (p := ⟨b1, 3, none⟩) (by show w.heap.size ≤ b1; omega) _⟩

set_option maxHeartbeats 1600000 in
theorem dr11P (B : Nat) (w : World) (hc : CurAt w B) :
    Calls Try.prog 51 #[.pointer (some ⟨B, 0, none⟩)] w fun e w' => ∃ x, e = .returned (.int .i64 x) ∧ CurAt w' B ∧ w.grownBy w' (some B) := by
  have hB := hc.lt
  go_enter Try.func51, Try.ntmps51
  go_wp2_with fail
  refine (pickAny B _ 8 8 _ _ _ (hc.alloc _) (by omega) (heap_alloc_new _ _) rfl (by rfl) (by omega) (by omega)).mono ?_
  rintro e w1 ⟨x, rfl, c1, g1⟩
  have G1 := grown_trans (grown_of (below1 w (.cells #[.int .i64 0, .int .i64 1, .int .i64 10, .int .i64 40, .int .i64 100, .int .i64 480, .int .i64 481, .int .i64 (-1)] 3)) (some B)) g1
  go_wp2
  go_ret
  exact ⟨_, rfl, c1, G1⟩

set_option maxRecDepth 20000 in
set_option maxHeartbeats 6400000 in
theorem drIvRoot (a : Option Addr) (len cap : Nat) (zs : List Int) (w : World) (hlen : len ≤ 1048576) (h : CodeIs w a len cap zs) :
    Calls Try.prog 20 #[.slice a len cap] w (DrawnVI w) := by
  have X0 := BoxV.made w (.bool false) (.slice none 0 0) (.bool false) (.slice none 0 0) 28
  have s0 : (w.alloc (.cells #[.bool false, .slice none 0 0, .bool false, .slice none 0 0] 28)).heap.size = w.heap.size + 1 := by simp
  have B0 := below1 w (.cells #[.bool false, .slice none 0 0, .bool false, .slice none 0 0] 28)
  have h := h.below B0
  go_enter Try.func20, Try.ntmps20
  go_wp2_with fail
  generalize w.alloc (.cells #[.bool false, .slice none 0 0, .bool false, .slice none 0 0] 28) = w0 at *
  refine (curNew a len cap zs w0 hlen h).mono ?_
  rintro e w1 ⟨rfl, cu, b1⟩
  have X1 := X0.below b1 (Nat.le_refl _)
  have B1 := B0.trans (b1.mono B0.size)
  have hz1 := cu.lt
  rw [s0] at cu hz1
  rw [s0]
  clear h s0 b1 X0 B0
  go_wp2_with fail
  refine (drIvDraw (w.heap.size + 1) w1 cu).mono ?_
  rintro e w2 ⟨s1, t1, g, h, xs, ys, rfl, q1, q2, lx, ly, c2, g2⟩
  have X2 := X1.tn (Tn.of_grown g2) (fun k hk hs => by simp at hk hs; omega)
  have B2 := below_cur B1 g2 (by omega) B1.size
  have hz2 : w.heap.size + 1 < w2.heap.size := by have := g2.size; omega
  obtain ⟨ad, cp, rfl, -⟩ := q1.row
  obtain ⟨ae, cq, rfl, -⟩ := q2.row
  have bb := below1 w2 (.cells #[.bool g, .slice ad xs.length cp, .bool h, .slice ae ys.length cq] 28)
  have R : MvAt w (w2.alloc (.cells #[.bool g, .slice ad xs.length cp, .bool h, .slice ae ys.length cq] 28)) w2.heap.size g h (.slice ad xs.length cp) (.slice ae ys.length cq) xs ys := ⟨X2.below bb (Nat.le_refl _), BoxV.made w2 _ _ _ _ _, ownsI_mono (ownsI.below q1 bb (Nat.le_refl _)) (by omega), ownsI_mono (ownsI.below q2 bb (Nat.le_refl _)) (by omega), c2.alloc _, B2.trans (bb.mono B2.size)⟩
  clear X1 B1 g2 X2 B2 q1 q2 bb c2 cu hz1
  have hne : ¬ w.heap.size = w2.heap.size := by omega
  have hne' : ¬ w2.heap.size = w.heap.size := by omega
  go_wp2_with fail
  generalize w2.alloc (.cells #[.bool g, .slice ad xs.length cp, .bool h, .slice ae ys.length cq] 28) = w3 at *
  refine (drOnce (w.heap.size + 1) 4 w3 R.c (by omega)).mono ?_
  rintro e w4 ⟨t4, rfl, c4, g4⟩
  replace R := R.cur hz2 c4 g4
  clear c4 g4
  have kO := fun W (hV : rowV W (.agg #[.bool g, .slice ad xs.length cp, .bool h, .slice ae ys.length cq]) ((g, xs), (h, ys))) => sIvOk _ ((g, xs), (h, ys)) W hV (by show xs.length ≤ _; omega) (by show ys.length ≤ _; omega)
  cases t4
  · cases g
    · have a0 := R.A.c0
      clear kO
      replace R := R.bel ((Below.refl w4.heap.size w4).drew)
      have k0 := R.A.c0
      have k1 := R.A.c1
      have k2 := R.A.c2
      have k3 := R.A.c3
      go_wp2_with fail
      go_region_held (fun W => W.cell? ⟨w2.heap.size, 0, none⟩ = some (.bool false) ∧ W.cell? ⟨w2.heap.size, 1, none⟩ = some (.slice ad xs.length cp) ∧ W.cell? ⟨w2.heap.size, 2, none⟩ = some (.bool h) ∧ W.cell? ⟨w2.heap.size, 3, none⟩ = some (.slice ae ys.length cq)) (go_keep) (first
        | (go_at_call 51; refine (dr11P (w.heap.size + 1) _ R.c).mono ?_; rintro e wb ⟨p, rfl, cb, gb⟩; have Rb := R.cur hz2 cb gb; have k0 := Rb.A.c0; have k1 := Rb.A.c1; have k2 := Rb.A.c2; have k3 := Rb.A.c3; have d0 := Rb.X.c0; have f0 := Rb.X.f0; have d1 := Rb.X.c1; have f1 := Rb.X.f1; have d2 := Rb.X.c2; have f2 := Rb.X.f2; have d3 := Rb.X.c3; have f3 := Rb.X.f3; have HD : Hid _ := drFinR Rb p lx ly; clear R Rb cb gb))
      clear k0 k1 k2 k3
      go_wp2
      (try simp only [Exit.inBlock, Exit.then])
      refine bodyPost_ret (v := .tuple #[.agg #[.bool false, .slice ad xs.length cp, .bool h, .slice ae ys.length cq], .int .i64 p]) ?_ rfl HD.out
      rw [results_cell_tmp rfl]
      go_simp
    · have a0 := R.A.c0
      have a1 := R.A.c1
      have a2 := R.A.c2
      have a3 := R.A.c3
      obtain ⟨o, ho⟩ : ∃ o, okV ((true, xs), (h, ys)) = o := ⟨_, rfl⟩
      rw [ho] at kO
      go_wp2_with fail
      refine (kO w4 ⟨_, _, rfl, R.q1.row, R.q2.row⟩).mono ?_
      rintro e w5 ⟨rfl, b5⟩
      replace R := R.bel b5
      clear b5 a0 a1 a2 a3 kO
      cases o
      · skip
        replace R := R.bel ((Below.refl w5.heap.size w5).drew)
        have k0 := R.A.c0
        have k1 := R.A.c1
        have k2 := R.A.c2
        have k3 := R.A.c3
        go_wp2_with fail
        go_region_held (fun W => W.cell? ⟨w2.heap.size, 0, none⟩ = some (.bool true) ∧ W.cell? ⟨w2.heap.size, 1, none⟩ = some (.slice ad xs.length cp) ∧ W.cell? ⟨w2.heap.size, 2, none⟩ = some (.bool h) ∧ W.cell? ⟨w2.heap.size, 3, none⟩ = some (.slice ae ys.length cq)) (go_keep) (first
          | (go_at_call 51; refine (dr11P (w.heap.size + 1) _ R.c).mono ?_; rintro e wb ⟨p, rfl, cb, gb⟩; have Rb := R.cur hz2 cb gb; have k0 := Rb.A.c0; have k1 := Rb.A.c1; have k2 := Rb.A.c2; have k3 := Rb.A.c3; have d0 := Rb.X.c0; have f0 := Rb.X.f0; have d1 := Rb.X.c1; have f1 := Rb.X.f1; have d2 := Rb.X.c2; have f2 := Rb.X.f2; have d3 := Rb.X.c3; have f3 := Rb.X.f3; have HD : Hid _ := drFinR Rb p lx ly; clear R Rb cb gb))
        clear k0 k1 k2 k3
        go_wp2
        (try simp only [Exit.inBlock, Exit.then])
        refine bodyPost_ret (v := .tuple #[.agg #[.bool true, .slice ad xs.length cp, .bool h, .slice ae ys.length cq], .int .i64 p]) ?_ rfl HD.out
        rw [results_cell_tmp rfl]
        go_simp
      · obtain ⟨z1, z2, z3⟩ := okV_yes ho
        have m1 := okW_lenV z1
        have m2 := okW_lenV z2
        have e1 := mkW_of z1
        have e2 := mkW_of z2
        have n1 : (limbs (-valW (true, xs)).natAbs).length ≤ 48 := by rw [Int.natAbs_neg]; exact m1
        have n2 : (limbs (-valW (h, ys)).natAbs).length ≤ 48 := by rw [Int.natAbs_neg]; exact m2
        have kN := fun W (hV : rowV W (.agg #[.bool true, .slice ad xs.length cp, .bool h, .slice ae ys.length cq]) ((true, xs), (h, ys))) => sVNeg _ ((true, xs), (h, ys)) (valW (true, xs)) (valW (h, ys)) W hV e1 e2 m1 m2
        have l49 := add_len49 (-valW (h, ys)) 1000000 n2 (by decide)
        have l49' := add_len49 (-valW (true, xs)) 1000000 n1 (by decide)
        have kA := fun va vb W ha hb => sVAdd va vb (mkW (-valW (h, ys)), mkW (-valW (true, xs))) (mkW 1000000, mkW 1000000) (-valW (h, ys)) (-valW (true, xs)) 1000000 1000000 W ha hb rfl rfl rfl rfl n2 n1 (by decide +kernel) (by decide +kernel)
        obtain ⟨⟨⟨i1, ls⟩, ⟨i2, ms⟩⟩, hsum⟩ : ∃ r, (mkW (-valW (h, ys) + 1000000), mkW (-valW (true, xs) + 1000000)) = r := ⟨_, rfl⟩
        rw [hsum] at kA
        have hl1 : ls.length ≤ 98 := by have : limbs (-valW (h, ys) + 1000000).natAbs = ls := congrArg (fun x : Vh => x.1.2) hsum; rw [← this]; exact l49
        have hl2 : ms.length ≤ 98 := by have : limbs (-valW (true, xs) + 1000000).natAbs = ms := congrArg (fun x : Vh => x.2.2) hsum; rw [← this]; exact l49'
        clear l49 l49' n1 n2 hsum ho z1 z2 z3 m1 m2 e1 e2
        generalize (mkW (-valW (h, ys)), mkW (-valW (true, xs))) = ng at *
        have a0 := R.A.c0
        have a1 := R.A.c1
        have a2 := R.A.c2
        have a3 := R.A.c3
        go_wp2_with fail
        refine (kN w5 ⟨_, _, rfl, R.q1.row, R.q2.row⟩).mono ?_
        rintro e w6 ⟨v6, rfl, o6, b6⟩
        replace R := R.bel b6
        clear a0 a1 a2 a3 b6 kN
        go_wp2_with fail
        refine (sWholeOf 1000000 w6 (by omega) (by omega)).mono ?_
        rintro e w7 ⟨v7, rfl, o7, b7⟩
        replace R := R.bel b7
        replace o6 := o6.row.below b7 (Nat.le_refl _)
        clear b7
        go_wp2_with fail
        refine (sWholeOf 1000000 w7 (by omega) (by omega)).mono ?_
        rintro e w8 ⟨v8, rfl, o8, b8⟩
        replace R := R.bel b8
        replace o6 := o6.below b8 (Nat.le_refl _)
        replace o7 := o7.row.below b8 (Nat.le_refl _)
        clear b8
        have o7' : rowW w8 v7 (mkW 1000000) := o7
        have o8' : rowW w8 v8 (mkW 1000000) := o8.row
        clear o7 o8
        generalize mkW 1000000 = mm at *
        obtain ⟨gm, lm⟩ := mm
        obtain ⟨u7, rfl, r7⟩ := o7'
        obtain ⟨u8, rfl, r8⟩ := o8'
        go_wp2_with fail
        refine (kA _ _ w8 o6 ⟨_, _, rfl, r7, r8⟩).mono ?_
        rintro e w9 ⟨v9, rfl, ⟨s9, t9, rfl, q9, q9', -⟩, b9⟩
        obtain ⟨ai, ci, rfl, -⟩ := q9.row
        obtain ⟨aj, cj, rfl, -⟩ := q9'.row
        have hw8 := R.A.hi
        replace R := R.bel b9
        have N1 := ownsI_mono q9 (show w2.heap.size + 1 ≤ w8.heap.size by omega)
        have N2 := ownsI_mono q9' (show w2.heap.size + 1 ≤ w8.heap.size by omega)
        have RZ := R.anew (p := i1) (r := i2) hz2 N1 N2
        have a0 := R.A.c0
        have a1 := R.A.c1
        have a2 := R.A.c2
        have a3 := R.A.c3
        have y0 := R.A.f0
        have y1 := R.A.f1
        have y2 := R.A.f2
        have y3 := R.A.f3
        have kk0 := RZ.A.c0
        have kk1 := RZ.A.c1
        have kk2 := RZ.A.c2
        have kk3 := RZ.A.c3
        clear R N1 N2 q9 q9' b9 o6 r7 r8 kA
        go_wp2_with fail
        clear a0 a1 a2 a3 y0 y1 y2 y3 kk0 kk1 kk2 kk3
        generalize (((w9.setCell ⟨w2.heap.size, 0, none⟩ (.bool i1)).setCell ⟨w2.heap.size, 1, none⟩ (.slice ai ls.length ci)).setCell ⟨w2.heap.size, 2, none⟩ (.bool i2)).setCell ⟨w2.heap.size, 3, none⟩ (.slice aj ms.length cj) = wA at *
        replace RZ := RZ.bel ((Below.refl wA.heap.size wA).drew)
        have k0 := RZ.A.c0
        have k1 := RZ.A.c1
        have k2 := RZ.A.c2
        have k3 := RZ.A.c3
        skip
        go_region_held (fun W => W.cell? ⟨w2.heap.size, 0, none⟩ = some (.bool i1) ∧ W.cell? ⟨w2.heap.size, 1, none⟩ = some (.slice ai ls.length ci) ∧ W.cell? ⟨w2.heap.size, 2, none⟩ = some (.bool i2) ∧ W.cell? ⟨w2.heap.size, 3, none⟩ = some (.slice aj ms.length cj)) (go_keep) (first
          | (go_at_call 51; refine (dr11P (w.heap.size + 1) _ RZ.c).mono ?_; rintro e wb ⟨p, rfl, cb, gb⟩; have Rb := RZ.cur hz2 cb gb; have k0 := Rb.A.c0; have k1 := Rb.A.c1; have k2 := Rb.A.c2; have k3 := Rb.A.c3; have d0 := Rb.X.c0; have f0 := Rb.X.f0; have d1 := Rb.X.c1; have f1 := Rb.X.f1; have d2 := Rb.X.c2; have f2 := Rb.X.f2; have d3 := Rb.X.c3; have f3 := Rb.X.f3; have HD : Hid _ := drFinR Rb p hl1 hl2; clear RZ Rb cb gb))
        clear k0 k1 k2 k3
        go_wp2
        (try simp only [Exit.inBlock, Exit.then])
        refine bodyPost_ret (v := .tuple #[.agg #[.bool i1, .slice ai ls.length ci, .bool i2, .slice aj ms.length cj], .int .i64 p]) ?_ rfl HD.out
        rw [results_cell_tmp rfl]
        go_simp
  · clear kO
    replace R := R.bel ((Below.refl w4.heap.size w4).drew)
    have k0 := R.A.c0
    have k1 := R.A.c1
    have k2 := R.A.c2
    have k3 := R.A.c3
    go_wp2_with fail
    go_region_held (fun W => W.cell? ⟨w2.heap.size, 0, none⟩ = some (.bool g) ∧ W.cell? ⟨w2.heap.size, 1, none⟩ = some (.slice ad xs.length cp) ∧ W.cell? ⟨w2.heap.size, 2, none⟩ = some (.bool h) ∧ W.cell? ⟨w2.heap.size, 3, none⟩ = some (.slice ae ys.length cq)) (go_keep) (first
      | (go_at_call 51; refine (dr11P (w.heap.size + 1) _ R.c).mono ?_; rintro e wb ⟨p, rfl, cb, gb⟩; have Rb := R.cur hz2 cb gb; have k0 := Rb.A.c0; have k1 := Rb.A.c1; have k2 := Rb.A.c2; have k3 := Rb.A.c3; have d0 := Rb.X.c0; have f0 := Rb.X.f0; have d1 := Rb.X.c1; have f1 := Rb.X.f1; have d2 := Rb.X.c2; have f2 := Rb.X.f2; have d3 := Rb.X.c3; have f3 := Rb.X.f3; have HD : Hid _ := drFinR Rb p lx ly; clear R Rb cb gb))
    clear k0 k1 k2 k3
    go_wp2
    (try simp only [Exit.inBlock, Exit.then])
    refine bodyPost_ret (v := .tuple #[.agg #[.bool g, .slice ad xs.length cp, .bool h, .slice ae ys.length cq], .int .i64 p]) ?_ rfl HD.out
    rw [results_cell_tmp rfl]
    go_simp

end Go.Proofs.Ytddakeohamefiaa
