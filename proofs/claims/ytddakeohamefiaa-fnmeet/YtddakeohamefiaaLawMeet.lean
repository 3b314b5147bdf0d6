/- FnMeet: two meet just where neither is all below the other; what lies in another one meets it; wide ones hold what they were: the walk. -/
import Derived.Test.YtddakeohamefiaaDrMt
import Derived.Test.YtddakeohamefiaaIvNegI
import Derived.Test.YtddakeohamefiaaIvWideB
import Derived.Test.YtddakeohamefiaaIWholeCmp
import Derived.Test.YtddakeohamefiaaIMeet
import Derived.Test.YtddakeohamefiaaSIvOk
import Derived.Test.YtddakeohamefiaaLawMoved
namespace Go.Proofs.Ytddakeohamefiaa
open Go.RowKit
set_option linter.unusedSimpArgs false

/-- The state of the law's walk: the boxes of both, both, the code. -/
structure LtAt (w W : World) (b : Nat) (g h : Bool) (s t : Value) (xs ys : List Int) (p r : Bool) (s' t' : Value) (us vs : List Int) (a : Option Addr) (len cap : Nat) (zs : List Int) : Prop where
  A : BoxV W b b (.bool g) s (.bool h) t
  D : BoxV W (b + 1) (b + 1) (.bool p) s' (.bool r) t'
  VA : rowV W (.agg #[.bool g, s, .bool h, t]) ((g, xs), (h, ys))
  VD : rowV W (.agg #[.bool p, s', .bool r, t']) ((p, us), (r, vs))
  C : Below w.heap.size w W
  hc : CodeIs W a len cap zs
theorem LtAt.bel {w W W' : World} {b : Nat} {g h : Bool} {s t : Value} {xs ys : List Int} {p r : Bool} {s' t' : Value} {us vs : List Int} {a : Option Addr} {len cap : Nat} {zs : List Int} (k : LtAt w W b g h s t xs ys p r s' t' us vs a len cap zs) (hb : Below W.heap.size W W') : LtAt w W' b g h s t xs ys p r s' t' us vs a len cap zs :=
  ⟨k.A.below hb (Nat.le_refl _), k.D.below hb (Nat.le_refl _), k.VA.below hb (Nat.le_refl _), k.VD.below hb (Nat.le_refl _), k.C.trans (hb.mono k.C.size), k.hc.below hb⟩
theorem belW4 (W0 W : World) (b : Nat) (hb : W0.heap.size ≤ b) (h : Below W0.heap.size W0 W) (x0 x1 x2 x3 : Value) : Below W0.heap.size W0 ((((W.setCell ⟨b, 0, none⟩ x0).setCell ⟨b, 1, none⟩ x1).setCell ⟨b, 2, none⟩ x2).setCell ⟨b, 3, none⟩ x3) := belD4 W0 W b hb h x0 x1 x2 x3
theorem meet_no {a d : Vh} (h : ¬ (okV a = true ∧ okV d = true)) : meetR a d = false ∧ ivInR a d = false := by
  unfold meetR ivInR
  cases h1 : okV a <;> cases h2 : okV d <;> simp_all
theorem wcmp_lt {a d : Wh} (h1 : okW a = true) (h2 : okW d = true) (h : valW a < valW d) : wcmpR a d = -1 := by unfold wcmpR; rw [if_pos ⟨h1, h2⟩, if_pos h]
theorem wcmp_ge {a d : Wh} (h1 : okW a = true) (h2 : okW d = true) (h : ¬ valW a < valW d) : (wcmpR a d == -1) = false := by
  unfold wcmpR
  rw [if_pos ⟨h1, h2⟩, if_neg h]
  split <;> rfl
theorem meet_facts {a d : Vh} (h1 : okV a = true) (h2 : okV d = true) :
    ((wcmpR a.2 d.1 = -1 ∨ ((wcmpR a.2 d.1 == -1) = false ∧ wcmpR d.2 a.1 = -1)) ∧ meetR a d = false ∧ meetR d a = false ∧ ivInR a d = false) ∨
    ((wcmpR a.2 d.1 == -1) = false ∧ (wcmpR d.2 a.1 == -1) = false ∧ meetR a d = true ∧ meetR d a = true) := by
  obtain ⟨k1, k2, k3⟩ := okV_yes h1
  obtain ⟨m1, m2, m3⟩ := okV_yes h2
  unfold meetR ivInR
  rw [h1, h2]
  by_cases c1 : valW a.2 < valW d.1
  · refine .inl ⟨.inl (wcmp_lt k2 m1 c1), ?_, ?_, ?_⟩
    · simp; omega
    · simp; omega
    · simp; omega
  · by_cases c2 : valW d.2 < valW a.1
    · refine .inl ⟨.inr ⟨wcmp_ge k2 m1 c1, wcmp_lt m2 k1 c2⟩, ?_, ?_, ?_⟩
      · simp; omega
      · simp; omega
      · simp; omega
    · refine .inr ⟨wcmp_ge k2 m1 c1, wcmp_ge m2 k1 c2, ?_, ?_⟩
      · simp; omega
      · simp; omega
theorem neg_twice {a : Vh} (h : okV a = true) : (negVR a).1.2.length ≤ 48 ∧ (negVR a).2.2.length ≤ 48 ∧ negVR (negVR a) = a := by
  obtain ⟨k1, k2, k3⟩ := okV_yes h
  have l1 := okW_abs k1
  have l2 := okW_abs k2
  have n1 : (limbs (-valW a.1).natAbs).length ≤ 48 := by rw [Int.natAbs_neg]; exact l1
  have n2 : (limbs (-valW a.2).natAbs).length ≤ 48 := by rw [Int.natAbs_neg]; exact l2
  have e1 : negVR a = (mkW (-valW a.2), mkW (-valW a.1)) := by unfold negVR; rw [if_pos h, fitV_small _ _ n2 n1]
  have o1 : okV (mkW (-valW a.2), mkW (-valW a.1)) = true := okV_mk n2 n1 (by omega)
  rw [e1]
  refine ⟨n2, n1, ?_⟩
  have e2 : negVR (mkW (-valW a.2), mkW (-valW a.1)) = (mkW (-valW (mkW (-valW a.1))), mkW (-valW (mkW (-valW a.2)))) := by
    unfold negVR
    rw [if_pos o1]
    exact fitV_small _ _ (by rw [mkW_val, Int.neg_neg]; exact l1) (by rw [mkW_val, Int.neg_neg]; exact l2)
  rw [e2, mkW_val, mkW_val, Int.neg_neg, Int.neg_neg, ← mkW_of k1, ← mkW_of k2]
theorem wide_in {a r : Vh} {n : Int} {o : Bool} (h : wideR a n = (r, o)) : r.1.2.length ≤ 48 ∧ r.2.2.length ≤ 48 ∧ (o = true → ivInR a r = true) := by
  unfold wideR at h
  split at h
  · rename_i hc
    obtain ⟨h1, n0, -⟩ := hc
    obtain ⟨k1, k2, k3⟩ := okV_yes h1
    cases o
    · have := fitV_false h
      subst this
      exact ⟨by simp, by simp, (fun h => by cases h)⟩
    · obtain ⟨rfl, m1, m2⟩ := fitV_true h
      refine ⟨m1, m2, fun _ => ?_⟩
      have hok := okV_mk m1 m2 (by omega)
      show (okV a && okV _ && (decide (valW (mkW _) ≤ valW a.1) && decide (valW a.2 ≤ valW (mkW _)))) = true
      rw [h1, hok, mkW_val, mkW_val]
      simp
      omega
  · cases h
    exact ⟨by simp, by simp, (fun h => by cases h)⟩

set_option maxRecDepth 20000 in
set_option maxHeartbeats 12800000 in
theorem meet_in (a : Option Addr) (len cap : Nat) (zs : List Int) (w : World) (hlen : len ≤ 1048576) (hc : CodeIs w a len cap zs) :
    Calls Try.prog 4 #[.slice a len cap] w fun e w' => e = .returned (.bool true) ∧ Below w.heap.size w w' := by
  go_enter Try.func4, Try.ntmps4
  go_wp2_with fail
  refine (big_no a len cap w hlen).mono ?_
  rintro e w ⟨rfl, rfl⟩
  go_wp2_with fail
  refine (drIvMeet a len cap zs w hlen hc).mono ?_
  rintro e w1 ⟨g, h, p, r, s, t, s', t', xs, ys, us, vs, rfl, q1, q2, q3, q4, lx, ly, lu, lv, C⟩
  obtain ⟨ad, cp, rfl, -⟩ := q1.row
  obtain ⟨ae, cq, rfl, -⟩ := q2.row
  obtain ⟨af, cr, rfl, -⟩ := q3.row
  obtain ⟨ag, cs, rfl, -⟩ := q4.row
  have hs1 : (w1.alloc (.cells #[.bool g, .slice ad xs.length cp, .bool h, .slice ae ys.length cq] 28)).heap.size = w1.heap.size + 1 := by simp
  have bb := below2 w1 (.cells #[.bool g, .slice ad xs.length cp, .bool h, .slice ae ys.length cq] 28) (.cells #[.bool p, .slice af us.length cr, .bool r, .slice ag vs.length cs] 28)
  have DB := BoxV.made (w1.alloc (.cells #[.bool g, .slice ad xs.length cp, .bool h, .slice ae ys.length cq] 28)) (.bool p) (.slice af us.length cr) (.bool r) (.slice ag vs.length cs) 28
  rw [hs1] at DB
  have L : LtAt w ((w1.alloc (.cells #[.bool g, .slice ad xs.length cp, .bool h, .slice ae ys.length cq] 28)).alloc (.cells #[.bool p, .slice af us.length cr, .bool r, .slice ag vs.length cs] 28)) w1.heap.size g h (.slice ad xs.length cp) (.slice ae ys.length cq) xs ys p r (.slice af us.length cr) (.slice ag vs.length cs) us vs a len cap zs :=
    ⟨(BoxV.made w1 _ _ _ _ _).below (below1 _ _) (Nat.le_refl _), DB, ⟨_, _, rfl, q1.row.below bb (Nat.le_refl _), q2.row.below bb (Nat.le_refl _)⟩, ⟨_, _, rfl, q3.row.below bb (Nat.le_refl _), q4.row.below bb (Nat.le_refl _)⟩, C.trans (bb.mono C.size), hc.below (C.trans (bb.mono C.size))⟩
  have hne : ¬ w1.heap.size = w1.heap.size + 1 := by omega
  have hne' : ¬ w1.heap.size + 1 = w1.heap.size := by omega
  have kM1 := fun W (hA : rowV W (.agg #[.bool g, .slice ad xs.length cp, .bool h, .slice ae ys.length cq]) ((g, xs), (h, ys))) (hD : rowV W (.agg #[.bool p, .slice af us.length cr, .bool r, .slice ag vs.length cs]) ((p, us), (r, vs))) => iIvMeet _ _ ((g, xs), (h, ys)) ((p, us), (r, vs)) W hA hD (by show xs.length ≤ _; omega) (by show ys.length ≤ _; omega) (by show us.length ≤ _; omega) (by show vs.length ≤ _; omega)
  have kM2 := fun W (hD : rowV W (.agg #[.bool p, .slice af us.length cr, .bool r, .slice ag vs.length cs]) ((p, us), (r, vs))) (hA : rowV W (.agg #[.bool g, .slice ad xs.length cp, .bool h, .slice ae ys.length cq]) ((g, xs), (h, ys))) => iIvMeet _ _ ((p, us), (r, vs)) ((g, xs), (h, ys)) W hD hA (by show us.length ≤ _; omega) (by show vs.length ≤ _; omega) (by show xs.length ≤ _; omega) (by show ys.length ≤ _; omega)
  have kI := fun W (hA : rowV W (.agg #[.bool g, .slice ad xs.length cp, .bool h, .slice ae ys.length cq]) ((g, xs), (h, ys))) (hD : rowV W (.agg #[.bool p, .slice af us.length cr, .bool r, .slice ag vs.length cs]) ((p, us), (r, vs))) => iIvIn _ _ ((g, xs), (h, ys)) ((p, us), (r, vs)) W hA hD (by show xs.length ≤ _; omega) (by show ys.length ≤ _; omega) (by show us.length ≤ _; omega) (by show vs.length ≤ _; omega)
  have kO1 := fun W (hA : rowV W (.agg #[.bool g, .slice ad xs.length cp, .bool h, .slice ae ys.length cq]) ((g, xs), (h, ys))) => sIvOk _ ((g, xs), (h, ys)) W hA (by show xs.length ≤ _; omega) (by show ys.length ≤ _; omega)
  have kO2 := fun W (hD : rowV W (.agg #[.bool p, .slice af us.length cr, .bool r, .slice ag vs.length cs]) ((p, us), (r, vs))) => sIvOk _ ((p, us), (r, vs)) W hD (by show us.length ≤ _; omega) (by show vs.length ≤ _; omega)
  have kC1 := fun W (hA : rowW W (.agg #[.bool h, .slice ae ys.length cq]) (h, ys)) (hD : rowW W (.agg #[.bool p, .slice af us.length cr]) (p, us)) => iWholeCmp _ _ (h, ys) (p, us) W hA hD (by show ys.length ≤ _; omega) (by show us.length ≤ _; omega)
  have kC2 := fun W (hD : rowW W (.agg #[.bool r, .slice ag vs.length cs]) (r, vs)) (hA : rowW W (.agg #[.bool g, .slice ad xs.length cp]) (g, xs)) => iWholeCmp _ _ (r, vs) (g, xs) W hD hA (by show vs.length ≤ _; omega) (by show xs.length ≤ _; omega)
  clear q1 q2 q3 q4 bb DB hs1 C hc
  have a0 := L.A.c0
  have a1 := L.A.c1
  have a2 := L.A.c2
  have a3 := L.A.c3
  have d0 := L.D.c0
  have d1 := L.D.c1
  have d2 := L.D.c2
  have d3 := L.D.c3
  by_cases hok : okV ((g, xs), (h, ys)) = true ∧ okV ((p, us), (r, vs)) = true
  case neg =>
    obtain ⟨e1, e2⟩ := meet_no hok
    rw [e1] at kM1
    rw [e2] at kI
    go_wp2_with fail
    clear a0 a1 a2 a3
    clear d0 d1 d2 d3
    generalize (w1.alloc (.cells #[.bool g, .slice ad xs.length cp, .bool h, .slice ae ys.length cq] 28)).alloc (.cells #[.bool p, .slice af us.length cr, .bool r, .slice ag vs.length cs] 28) = w2 at *
    refine (kM1 w2 L.VA L.VD).mono ?_
    rintro e w3 ⟨rfl, bb⟩
    replace L := L.bel bb
    clear bb
    have a0 := L.A.c0
    have a1 := L.A.c1
    have a2 := L.A.c2
    have a3 := L.A.c3
    go_wp2_with fail
    clear a0 a1 a2 a3
    obtain ⟨o1, h1⟩ : ∃ o, okV ((g, xs), (h, ys)) = o := ⟨_, rfl⟩
    rw [h1] at kO1 hok
    refine (kO1 w3 L.VA).mono ?_
    rintro e w4 ⟨rfl, bb⟩
    replace L := L.bel bb
    clear bb
    cases o1
    · clear hok
      have a0 := L.A.c0
      have a1 := L.A.c1
      have a2 := L.A.c2
      have a3 := L.A.c3
      have d0 := L.D.c0
      have d1 := L.D.c1
      have d2 := L.D.c2
      have d3 := L.D.c3
      go_wp2_with fail
      refine (kI w4 L.VA L.VD).mono ?_
      rintro e w5 ⟨rfl, bb⟩
      replace L := L.bel bb
      clear bb
      go_wp2
      go_ret
      exact ⟨rfl, L.C⟩
    · have h2 : okV ((p, us), (r, vs)) = false := by simpa using hok
      rw [h2] at kO2
      clear hok
      have d0 := L.D.c0
      have d1 := L.D.c1
      have d2 := L.D.c2
      have d3 := L.D.c3
      go_wp2_with fail
      clear d0 d1 d2 d3
      refine (kO2 w4 L.VD).mono ?_
      rintro e w5 ⟨rfl, bb⟩
      replace L := L.bel bb
      clear bb
      have a0 := L.A.c0
      have a1 := L.A.c1
      have a2 := L.A.c2
      have a3 := L.A.c3
      have d0 := L.D.c0
      have d1 := L.D.c1
      have d2 := L.D.c2
      have d3 := L.D.c3
      go_wp2_with fail
      refine (kI w5 L.VA L.VD).mono ?_
      rintro e w6 ⟨rfl, bb⟩
      replace L := L.bel bb
      clear bb
      go_wp2
      go_ret
      exact ⟨rfl, L.C⟩
  case pos =>
    obtain ⟨h1, h2⟩ := hok
    have hF := meet_facts h1 h2
    obtain ⟨nl1, nl2, hnn⟩ := neg_twice h1
    have kN1 := fun W (hA : rowV W (.agg #[.bool g, .slice ad xs.length cp, .bool h, .slice ae ys.length cq]) ((g, xs), (h, ys))) => iIvNeg _ ((g, xs), (h, ys)) W hA (by show xs.length ≤ _; omega) (by show ys.length ≤ _; omega)
    obtain ⟨r1, hr1⟩ : ∃ r, negVR ((g, xs), (h, ys)) = r := ⟨_, rfl⟩
    rw [hr1] at kN1 nl1 nl2 hnn
    have kN2 := fun v W (hV : rowV W v r1) => iIvNeg v r1 W hV (by omega) (by omega)
    rw [hnn] at kN2
    have kW := fun n W (hA : rowV W (.agg #[.bool g, .slice ad xs.length cp, .bool h, .slice ae ys.length cq]) ((g, xs), (h, ys))) => iIvWide _ ((g, xs), (h, ys)) n W hA (by show xs.length ≤ _; omega) (by show ys.length ≤ _; omega)
    rw [h1] at kO1
    rw [h2] at kO2
    have hF' : ((wcmpR (h, ys) (p, us) = -1 ∨ ((wcmpR (h, ys) (p, us) == -1) = false ∧ wcmpR (r, vs) (g, xs) = -1)) ∧ meetR ((g, xs), (h, ys)) ((p, us), (r, vs)) = false ∧ meetR ((p, us), (r, vs)) ((g, xs), (h, ys)) = false ∧ ivInR ((g, xs), (h, ys)) ((p, us), (r, vs)) = false) ∨
        ((wcmpR (h, ys) (p, us) == -1) = false ∧ (wcmpR (r, vs) (g, xs) == -1) = false ∧ meetR ((g, xs), (h, ys)) ((p, us), (r, vs)) = true ∧ meetR ((p, us), (r, vs)) ((g, xs), (h, ys)) = true) := hF
    clear hF nl1 nl2 hnn hr1 h1 h2
    generalize wcmpR (h, ys) (p, us) = c1 at *
    generalize wcmpR (r, vs) (g, xs) = c2 at *
    generalize meetR ((g, xs), (h, ys)) ((p, us), (r, vs)) = x1 at *
    generalize meetR ((p, us), (r, vs)) ((g, xs), (h, ys)) = x2 at *
    generalize ivInR ((g, xs), (h, ys)) ((p, us), (r, vs)) = i1 at *
    rcases hF' with ⟨hcs, rfl, rfl, rfl⟩ | ⟨hc1, hc2, rfl, rfl⟩
    · rcases hcs with rfl | ⟨hc1, rfl⟩
      · skip
        go_wp2_with fail
        clear a0 a1 a2 a3
        clear d0 d1 d2 d3
        generalize (w1.alloc (.cells #[.bool g, .slice ad xs.length cp, .bool h, .slice ae ys.length cq] 28)).alloc (.cells #[.bool p, .slice af us.length cr, .bool r, .slice ag vs.length cs] 28) = w2 at *
        refine (kM1 w2 L.VA L.VD).mono ?_
        rintro e w3 ⟨rfl, bb⟩
        replace L := L.bel bb
        clear bb
        have a0 := L.A.c0
        have a1 := L.A.c1
        have a2 := L.A.c2
        have a3 := L.A.c3
        go_wp2_with fail
        clear a0 a1 a2 a3
        refine (kO1 w3 L.VA).mono ?_
        rintro e w4 ⟨rfl, bb⟩
        replace L := L.bel bb
        clear bb
        have d0 := L.D.c0
        have d1 := L.D.c1
        have d2 := L.D.c2
        have d3 := L.D.c3
        go_wp2_with fail
        clear d0 d1 d2 d3
        refine (kO2 w4 L.VD).mono ?_
        rintro e w5 ⟨rfl, bb⟩
        replace L := L.bel bb
        clear bb
        have a0 := L.A.c0
        have a1 := L.A.c1
        have a2 := L.A.c2
        have a3 := L.A.c3
        have d0 := L.D.c0
        have d1 := L.D.c1
        have d2 := L.D.c2
        have d3 := L.D.c3
        go_wp2_with fail
        clear a0 a1 a2 a3
        clear d0 d1 d2 d3
        refine (kC1 w5 L.VA.hi L.VD.lo).mono ?_
        rintro e w6 ⟨rfl, bb⟩
        replace L := L.bel bb
        clear bb
        have k0 := L.A.c0
        have k1 := L.A.c1
        have k2 := L.A.c2
        have k3 := L.A.c3
        replace L := L.bel ((Below.refl w6.heap.size w6).drew)
        go_wp2_with fail
        go_region_held (fun W => W.cell? ⟨w1.heap.size, 0, none⟩ = some (.bool g) ∧ W.cell? ⟨w1.heap.size, 1, none⟩ = some (.slice ad xs.length cp) ∧ W.cell? ⟨w1.heap.size, 2, none⟩ = some (.bool h) ∧ W.cell? ⟨w1.heap.size, 3, none⟩ = some (.slice ae ys.length cq)) (go_keep) (first
          | (go_at_call 18; (first | refine (at0_three a len cap zs w6.drew hlen L.hc).mono ?_ | refine (at0_three a len cap zs (w6.drew.alloc (.cells #[.bool false, .slice none 0 0, .bool false, .slice none 0 0] 28)) hlen (L.bel (below1 w6.drew (.cells #[.bool false, .slice none 0 0, .bool false, .slice none 0 0] 28))).hc).mono ?_); rintro e wn ⟨⟨n, rfl⟩, rfl⟩; have k0 := L.A.c0; have k1 := L.A.c1; have k2 := L.A.c2; have k3 := L.A.c3; obtain ⟨⟨⟨⟨g3, ls⟩, ⟨h3, ms⟩⟩, o3⟩, hwr⟩ : ∃ r, wideR ((g, xs), (h, ys)) n = r := ⟨_, rfl⟩; have kw := kW n; rw [hwr] at kw; dsimp only at kw; have hwd := wide_in hwr)
          | (go_at_call 17; (first | (refine (kw w6.drew L.VA).mono ?_; rintro e wb ⟨vw, rfl, ⟨s3, t3, rfl, q5, q6, -⟩, bw⟩; obtain ⟨ah, ch, rfl, -⟩ := q5.row; obtain ⟨ai, ci, rfl, -⟩ := q6.row; replace L := L.bel bw; have be := below1 wb (.cells #[.bool g3, .slice ah ls.length ch, .bool h3, .slice ai ms.length ci] 28); have LE := L.bel be; have EW := BoxV.made wb (.bool g3) (.slice ah ls.length ch) (.bool h3) (.slice ai ms.length ci) 28; have VW : rowV (wb.alloc (.cells #[.bool g3, .slice ah ls.length ch, .bool h3, .slice ai ms.length ci] 28)) (.agg #[.bool g3, .slice ah ls.length ch, .bool h3, .slice ai ms.length ci]) ((g3, ls), (h3, ms)) := ⟨_, _, rfl, q5.row.below be (Nat.le_refl _), q6.row.below be (Nat.le_refl _)⟩; have mk1 : 1 = 1 := rfl; clear q5 q6 bw be) | (refine (kw (w6.drew.alloc (.cells #[.bool false, .slice none 0 0, .bool false, .slice none 0 0] 28)) (L.VA.below (below1 w6.drew (.cells #[.bool false, .slice none 0 0, .bool false, .slice none 0 0] 28)) (Nat.le_refl _))).mono ?_; rintro e wb ⟨vw, rfl, ⟨s3, t3, rfl, q5, q6, -⟩, bw⟩; obtain ⟨ah, ch, rfl, -⟩ := q5.row; obtain ⟨ai, ci, rfl, -⟩ := q6.row; have hzb : w1.heap.size + 1 < w6.heap.size := L.D.hi; have XB : BoxV wb w6.heap.size w6.heap.size (.bool false) (.slice none 0 0) (.bool false) (.slice none 0 0) := (BoxV.made w6.drew (.bool false) (.slice none 0 0) (.bool false) (.slice none 0 0) 28).below bw (Nat.le_refl _); have hsz : (w6.drew.alloc (.cells #[.bool false, .slice none 0 0, .bool false, .slice none 0 0] 28)).heap.size = w6.heap.size + 1 := (by simp); rw [hsz] at q5 q6; have bz : Below w6.drew.heap.size w6.drew wb := (below1 w6.drew (.cells #[.bool false, .slice none 0 0, .bool false, .slice none 0 0] 28)).trans (bw.mono (below1 w6.drew (.cells #[.bool false, .slice none 0 0, .bool false, .slice none 0 0] 28)).size); have LE := L.bel (belW4 w6.drew wb w6.heap.size (Nat.le_refl _) bz (.bool g3) (.slice ah ls.length ch) (.bool h3) (.slice ai ms.length ci)); have EW := (((XB.set0 (.bool g3)).set1 (.slice ah ls.length ch)).set2 (.bool h3)).set3 (.slice ai ms.length ci); have VW : rowV _ (.agg #[.bool g3, .slice ah ls.length ch, .bool h3, .slice ai ms.length ci]) ((g3, ls), (h3, ms)) := ⟨_, _, rfl, (q5.set4 w6.heap.size (by omega) (.bool g3) (.slice ah ls.length ch) (.bool h3) (.slice ai ms.length ci)).row, (q6.set4 w6.heap.size (by omega) (.bool g3) (.slice ah ls.length ch) (.bool h3) (.slice ai ms.length ci)).row⟩; replace L := L.bel bz; have e0 := XB.c0; have e1 := XB.c1; have e2 := XB.c2; have e3 := XB.c3; have z0 := XB.f0; have z1 := XB.f1; have z2 := XB.f2; have z3 := XB.f3; have hb1 : ¬ w6.heap.size = w1.heap.size := (by omega); have hb2 : ¬ w1.heap.size = w6.heap.size := (by omega); have mk2 : 2 = 2 := rfl; clear q5 q6 bw bz XB hsz)); have k0 := L.A.c0; have k1 := L.A.c1; have k2 := L.A.c2; have k3 := L.A.c3))
        all_goals (clear k0 k1 k2 k3 kw kW)
        all_goals (first
          | (have hq := mk1; clear hq mk1 L; have L := LE; clear LE; generalize wb.alloc (.cells #[.bool g3, .slice ah ls.length ch, .bool h3, .slice ai ms.length ci] 28) = wE at *; generalize wb.heap.size = bx at *)
          | (have hq := mk2; clear hq mk2 L e0 e1 e2 e3 z0 z1 z2 z3 hb1 hb2 hzb; have L := LE; clear LE; generalize (((wb.setCell ⟨w6.heap.size, 0, none⟩ (.bool g3)).setCell ⟨w6.heap.size, 1, none⟩ (.slice ah ls.length ch)).setCell ⟨w6.heap.size, 2, none⟩ (.bool h3)).setCell ⟨w6.heap.size, 3, none⟩ (.slice ai ms.length ci) = wE at *; generalize w6.heap.size = bx at *))
        all_goals (
          have a0 := L.A.c0
          have a1 := L.A.c1
          have a2 := L.A.c2
          have a3 := L.A.c3
          go_wp2_with fail
          clear a0 a1 a2 a3
          refine (kN1 _ L.VA).mono ?_
          rintro e wg ⟨vn, rfl, on, bb⟩
          replace L := L.bel bb
          replace EW := EW.below bb (Nat.le_refl _)
          replace VW := VW.below bb (Nat.le_refl _)
          clear bb
          go_wp2_with fail
          refine (kN2 _ wg on.row).mono ?_
          rintro e wh ⟨vn2, rfl, ⟨s7, t7, rfl, q7, q8, -⟩, bb⟩
          obtain ⟨aj, cj, rfl, -⟩ := q7.row
          obtain ⟨ak, ck, rfl, -⟩ := q8.row
          have be := below1 wh (.cells #[.bool g, .slice aj xs.length cj, .bool h, .slice ak ys.length ck] 28)
          replace L := (L.bel bb).bel be
          replace EW := (EW.below bb (Nat.le_refl _)).below be (Nat.le_refl _)
          replace VW := (VW.below bb (Nat.le_refl _)).below be (Nat.le_refl _)
          have NB := BoxV.made wh (.bool g) (.slice aj xs.length cj) (.bool h) (.slice ak ys.length ck) 28
          have NV : rowV (wh.alloc (.cells #[.bool g, .slice aj xs.length cj, .bool h, .slice ak ys.length ck] 28)) (.agg #[.bool g, .slice aj xs.length cj, .bool h, .slice ak ys.length ck]) ((g, xs), (h, ys)) := ⟨_, _, rfl, q7.row.below be (Nat.le_refl _), q8.row.below be (Nat.le_refl _)⟩
          clear bb be on q7 q8
          have kS1 := fun W (h1 : rowW W (.agg #[.bool g, .slice aj xs.length cj]) (g, xs)) (h2 : rowW W (.agg #[.bool g, .slice ad xs.length cp]) (g, xs)) => sameWh _ _ (g, xs) (g, xs) W h1 h2 (by show xs.length ≤ _; omega)
          have kS2 := fun W (h1 : rowW W (.agg #[.bool h, .slice ak ys.length ck]) (h, ys)) (h2 : rowW W (.agg #[.bool h, .slice ae ys.length cq]) (h, ys)) => sameWh _ _ (h, ys) (h, ys) W h1 h2 (by show ys.length ≤ _; omega)
          rw [decide_eq_true (rfl : (g, xs) = (g, xs))] at kS1
          rw [decide_eq_true (rfl : (h, ys) = (h, ys))] at kS2
          have a0 := L.A.c0
          have a1 := L.A.c1
          have a2 := L.A.c2
          have a3 := L.A.c3
          have d0 := L.D.c0
          have d1 := L.D.c1
          have d2 := L.D.c2
          have d3 := L.D.c3
          go_wp2_with fail
          clear a0 a1 a2 a3
          clear d0 d1 d2 d3
          generalize wh.alloc (.cells #[.bool g, .slice aj xs.length cj, .bool h, .slice ak ys.length ck] 28) = wi at *
          generalize wh.heap.size = bn at *
          refine (kM2 wi L.VD L.VA).mono ?_
          rintro e wj ⟨rfl, bb⟩
          replace L := L.bel bb
          replace EW := EW.below bb (Nat.le_refl _)
          replace VW := VW.below bb (Nat.le_refl _)
          replace NB := NB.below bb (Nat.le_refl _)
          replace NV := NV.below bb (Nat.le_refl _)
          clear bb
          have a0 := L.A.c0
          have a1 := L.A.c1
          have a2 := L.A.c2
          have a3 := L.A.c3
          have d0 := L.D.c0
          have d1 := L.D.c1
          have d2 := L.D.c2
          have d3 := L.D.c3
          go_wp2_with fail
          clear a0 a1 a2 a3
          clear d0 d1 d2 d3
          refine (kI wj L.VA L.VD).mono ?_
          rintro e wk ⟨rfl, bb⟩
          replace L := L.bel bb
          replace EW := EW.below bb (Nat.le_refl _)
          replace VW := VW.below bb (Nat.le_refl _)
          replace NB := NB.below bb (Nat.le_refl _)
          replace NV := NV.below bb (Nat.le_refl _)
          clear bb
          cases o3
          · skip
            have a0 := L.A.c0
            have a1 := L.A.c1
            have a2 := L.A.c2
            have a3 := L.A.c3
            have n0 := NB.c0
            have n1 := NB.c1
            have n2 := NB.c2
            have n3 := NB.c3
            go_wp2_with fail
            clear a0 a1 a2 a3
            clear n0 n1 n2 n3
            refine (kS1 _ NV.lo L.VA.lo).mono ?_
            rintro e wo ⟨rfl, bb⟩
            replace L := L.bel bb
            replace NB := NB.below bb (Nat.le_refl _)
            replace NV := NV.below bb (Nat.le_refl _)
            clear bb
            have a0 := L.A.c0
            have a1 := L.A.c1
            have a2 := L.A.c2
            have a3 := L.A.c3
            have n0 := NB.c0
            have n1 := NB.c1
            have n2 := NB.c2
            have n3 := NB.c3
            go_wp2_with fail
            refine (kS2 _ NV.hi L.VA.hi).mono ?_
            rintro e wp ⟨rfl, bb⟩
            replace L := L.bel bb
            go_wp2
            go_ret
            exact ⟨rfl, L.C⟩
          · have hin := hwd.2.2 rfl
            have m1 : ls.length ≤ 48 := hwd.1
            have m2 : ms.length ≤ 48 := hwd.2.1
            have kI3 := fun W (hA : rowV W (.agg #[.bool g, .slice ad xs.length cp, .bool h, .slice ae ys.length cq]) ((g, xs), (h, ys))) (hE : rowV W (.agg #[.bool g3, .slice ah ls.length ch, .bool h3, .slice ai ms.length ci]) ((g3, ls), (h3, ms))) => iIvIn _ _ ((g, xs), (h, ys)) ((g3, ls), (h3, ms)) W hA hE (by show xs.length ≤ _; omega) (by show ys.length ≤ _; omega) (by show ls.length ≤ _; omega) (by show ms.length ≤ _; omega)
            rw [hin] at kI3
            have f0 := EW.c0
            have f1 := EW.c1
            have f2 := EW.c2
            have f3 := EW.c3
            have a0 := L.A.c0
            have a1 := L.A.c1
            have a2 := L.A.c2
            have a3 := L.A.c3
            go_wp2_with fail
            clear f0 f1 f2 f3
            clear a0 a1 a2 a3
            refine (kI3 wk L.VA VW).mono ?_
            rintro e wl ⟨rfl, bb⟩
            replace L := L.bel bb
            replace NB := NB.below bb (Nat.le_refl _)
            replace NV := NV.below bb (Nat.le_refl _)
            clear bb
            have a0 := L.A.c0
            have a1 := L.A.c1
            have a2 := L.A.c2
            have a3 := L.A.c3
            have n0 := NB.c0
            have n1 := NB.c1
            have n2 := NB.c2
            have n3 := NB.c3
            go_wp2_with fail
            clear a0 a1 a2 a3
            clear n0 n1 n2 n3
            refine (kS1 _ NV.lo L.VA.lo).mono ?_
            rintro e wo ⟨rfl, bb⟩
            replace L := L.bel bb
            replace NB := NB.below bb (Nat.le_refl _)
            replace NV := NV.below bb (Nat.le_refl _)
            clear bb
            have a0 := L.A.c0
            have a1 := L.A.c1
            have a2 := L.A.c2
            have a3 := L.A.c3
            have n0 := NB.c0
            have n1 := NB.c1
            have n2 := NB.c2
            have n3 := NB.c3
            go_wp2_with fail
            refine (kS2 _ NV.hi L.VA.hi).mono ?_
            rintro e wp ⟨rfl, bb⟩
            replace L := L.bel bb
            go_wp2
            go_ret
            exact ⟨rfl, L.C⟩)
      · skip
        go_wp2_with fail
        clear a0 a1 a2 a3
        clear d0 d1 d2 d3
        generalize (w1.alloc (.cells #[.bool g, .slice ad xs.length cp, .bool h, .slice ae ys.length cq] 28)).alloc (.cells #[.bool p, .slice af us.length cr, .bool r, .slice ag vs.length cs] 28) = w2 at *
        refine (kM1 w2 L.VA L.VD).mono ?_
        rintro e w3 ⟨rfl, bb⟩
        replace L := L.bel bb
        clear bb
        have a0 := L.A.c0
        have a1 := L.A.c1
        have a2 := L.A.c2
        have a3 := L.A.c3
        go_wp2_with fail
        clear a0 a1 a2 a3
        refine (kO1 w3 L.VA).mono ?_
        rintro e w4 ⟨rfl, bb⟩
        replace L := L.bel bb
        clear bb
        have d0 := L.D.c0
        have d1 := L.D.c1
        have d2 := L.D.c2
        have d3 := L.D.c3
        go_wp2_with fail
        clear d0 d1 d2 d3
        refine (kO2 w4 L.VD).mono ?_
        rintro e w5 ⟨rfl, bb⟩
        replace L := L.bel bb
        clear bb
        have a0 := L.A.c0
        have a1 := L.A.c1
        have a2 := L.A.c2
        have a3 := L.A.c3
        have d0 := L.D.c0
        have d1 := L.D.c1
        have d2 := L.D.c2
        have d3 := L.D.c3
        go_wp2_with fail
        clear a0 a1 a2 a3
        clear d0 d1 d2 d3
        refine (kC1 w5 L.VA.hi L.VD.lo).mono ?_
        rintro e w6 ⟨rfl, bb⟩
        replace L := L.bel bb
        clear bb
        have a0 := L.A.c0
        have a1 := L.A.c1
        have a2 := L.A.c2
        have a3 := L.A.c3
        have d0 := L.D.c0
        have d1 := L.D.c1
        have d2 := L.D.c2
        have d3 := L.D.c3
        go_wp2_with fail
        clear a0 a1 a2 a3
        clear d0 d1 d2 d3
        refine (kC2 w6 L.VD.hi L.VA.lo).mono ?_
        rintro e w7 ⟨rfl, bb⟩
        replace L := L.bel bb
        clear bb
        have k0 := L.A.c0
        have k1 := L.A.c1
        have k2 := L.A.c2
        have k3 := L.A.c3
        replace L := L.bel ((Below.refl w7.heap.size w7).drew)
        go_wp2_with fail
        go_region_held (fun W => W.cell? ⟨w1.heap.size, 0, none⟩ = some (.bool g) ∧ W.cell? ⟨w1.heap.size, 1, none⟩ = some (.slice ad xs.length cp) ∧ W.cell? ⟨w1.heap.size, 2, none⟩ = some (.bool h) ∧ W.cell? ⟨w1.heap.size, 3, none⟩ = some (.slice ae ys.length cq)) (go_keep) (first
          | (go_at_call 18; (first | refine (at0_three a len cap zs w7.drew hlen L.hc).mono ?_ | refine (at0_three a len cap zs (w7.drew.alloc (.cells #[.bool false, .slice none 0 0, .bool false, .slice none 0 0] 28)) hlen (L.bel (below1 w7.drew (.cells #[.bool false, .slice none 0 0, .bool false, .slice none 0 0] 28))).hc).mono ?_); rintro e wn ⟨⟨n, rfl⟩, rfl⟩; have k0 := L.A.c0; have k1 := L.A.c1; have k2 := L.A.c2; have k3 := L.A.c3; obtain ⟨⟨⟨⟨g3, ls⟩, ⟨h3, ms⟩⟩, o3⟩, hwr⟩ : ∃ r, wideR ((g, xs), (h, ys)) n = r := ⟨_, rfl⟩; have kw := kW n; rw [hwr] at kw; dsimp only at kw; have hwd := wide_in hwr)
          | (go_at_call 17; (first | (refine (kw w7.drew L.VA).mono ?_; rintro e wb ⟨vw, rfl, ⟨s3, t3, rfl, q5, q6, -⟩, bw⟩; obtain ⟨ah, ch, rfl, -⟩ := q5.row; obtain ⟨ai, ci, rfl, -⟩ := q6.row; replace L := L.bel bw; have be := below1 wb (.cells #[.bool g3, .slice ah ls.length ch, .bool h3, .slice ai ms.length ci] 28); have LE := L.bel be; have EW := BoxV.made wb (.bool g3) (.slice ah ls.length ch) (.bool h3) (.slice ai ms.length ci) 28; have VW : rowV (wb.alloc (.cells #[.bool g3, .slice ah ls.length ch, .bool h3, .slice ai ms.length ci] 28)) (.agg #[.bool g3, .slice ah ls.length ch, .bool h3, .slice ai ms.length ci]) ((g3, ls), (h3, ms)) := ⟨_, _, rfl, q5.row.below be (Nat.le_refl _), q6.row.below be (Nat.le_refl _)⟩; have mk1 : 1 = 1 := rfl; clear q5 q6 bw be) | (refine (kw (w7.drew.alloc (.cells #[.bool false, .slice none 0 0, .bool false, .slice none 0 0] 28)) (L.VA.below (below1 w7.drew (.cells #[.bool false, .slice none 0 0, .bool false, .slice none 0 0] 28)) (Nat.le_refl _))).mono ?_; rintro e wb ⟨vw, rfl, ⟨s3, t3, rfl, q5, q6, -⟩, bw⟩; obtain ⟨ah, ch, rfl, -⟩ := q5.row; obtain ⟨ai, ci, rfl, -⟩ := q6.row; have hzb : w1.heap.size + 1 < w7.heap.size := L.D.hi; have XB : BoxV wb w7.heap.size w7.heap.size (.bool false) (.slice none 0 0) (.bool false) (.slice none 0 0) := (BoxV.made w7.drew (.bool false) (.slice none 0 0) (.bool false) (.slice none 0 0) 28).below bw (Nat.le_refl _); have hsz : (w7.drew.alloc (.cells #[.bool false, .slice none 0 0, .bool false, .slice none 0 0] 28)).heap.size = w7.heap.size + 1 := (by simp); rw [hsz] at q5 q6; have bz : Below w7.drew.heap.size w7.drew wb := (below1 w7.drew (.cells #[.bool false, .slice none 0 0, .bool false, .slice none 0 0] 28)).trans (bw.mono (below1 w7.drew (.cells #[.bool false, .slice none 0 0, .bool false, .slice none 0 0] 28)).size); have LE := L.bel (belW4 w7.drew wb w7.heap.size (Nat.le_refl _) bz (.bool g3) (.slice ah ls.length ch) (.bool h3) (.slice ai ms.length ci)); have EW := (((XB.set0 (.bool g3)).set1 (.slice ah ls.length ch)).set2 (.bool h3)).set3 (.slice ai ms.length ci); have VW : rowV _ (.agg #[.bool g3, .slice ah ls.length ch, .bool h3, .slice ai ms.length ci]) ((g3, ls), (h3, ms)) := ⟨_, _, rfl, (q5.set4 w7.heap.size (by omega) (.bool g3) (.slice ah ls.length ch) (.bool h3) (.slice ai ms.length ci)).row, (q6.set4 w7.heap.size (by omega) (.bool g3) (.slice ah ls.length ch) (.bool h3) (.slice ai ms.length ci)).row⟩; replace L := L.bel bz; have e0 := XB.c0; have e1 := XB.c1; have e2 := XB.c2; have e3 := XB.c3; have z0 := XB.f0; have z1 := XB.f1; have z2 := XB.f2; have z3 := XB.f3; have hb1 : ¬ w7.heap.size = w1.heap.size := (by omega); have hb2 : ¬ w1.heap.size = w7.heap.size := (by omega); have mk2 : 2 = 2 := rfl; clear q5 q6 bw bz XB hsz)); have k0 := L.A.c0; have k1 := L.A.c1; have k2 := L.A.c2; have k3 := L.A.c3))
        all_goals (clear k0 k1 k2 k3 kw kW)
        all_goals (first
          | (have hq := mk1; clear hq mk1 L; have L := LE; clear LE; generalize wb.alloc (.cells #[.bool g3, .slice ah ls.length ch, .bool h3, .slice ai ms.length ci] 28) = wE at *; generalize wb.heap.size = bx at *)
          | (have hq := mk2; clear hq mk2 L e0 e1 e2 e3 z0 z1 z2 z3 hb1 hb2 hzb; have L := LE; clear LE; generalize (((wb.setCell ⟨w7.heap.size, 0, none⟩ (.bool g3)).setCell ⟨w7.heap.size, 1, none⟩ (.slice ah ls.length ch)).setCell ⟨w7.heap.size, 2, none⟩ (.bool h3)).setCell ⟨w7.heap.size, 3, none⟩ (.slice ai ms.length ci) = wE at *; generalize w7.heap.size = bx at *))
        all_goals (
          have a0 := L.A.c0
          have a1 := L.A.c1
          have a2 := L.A.c2
          have a3 := L.A.c3
          go_wp2_with fail
          clear a0 a1 a2 a3
          refine (kN1 _ L.VA).mono ?_
          rintro e wg ⟨vn, rfl, on, bb⟩
          replace L := L.bel bb
          replace EW := EW.below bb (Nat.le_refl _)
          replace VW := VW.below bb (Nat.le_refl _)
          clear bb
          go_wp2_with fail
          refine (kN2 _ wg on.row).mono ?_
          rintro e wh ⟨vn2, rfl, ⟨s7, t7, rfl, q7, q8, -⟩, bb⟩
          obtain ⟨aj, cj, rfl, -⟩ := q7.row
          obtain ⟨ak, ck, rfl, -⟩ := q8.row
          have be := below1 wh (.cells #[.bool g, .slice aj xs.length cj, .bool h, .slice ak ys.length ck] 28)
          replace L := (L.bel bb).bel be
          replace EW := (EW.below bb (Nat.le_refl _)).below be (Nat.le_refl _)
          replace VW := (VW.below bb (Nat.le_refl _)).below be (Nat.le_refl _)
          have NB := BoxV.made wh (.bool g) (.slice aj xs.length cj) (.bool h) (.slice ak ys.length ck) 28
          have NV : rowV (wh.alloc (.cells #[.bool g, .slice aj xs.length cj, .bool h, .slice ak ys.length ck] 28)) (.agg #[.bool g, .slice aj xs.length cj, .bool h, .slice ak ys.length ck]) ((g, xs), (h, ys)) := ⟨_, _, rfl, q7.row.below be (Nat.le_refl _), q8.row.below be (Nat.le_refl _)⟩
          clear bb be on q7 q8
          have kS1 := fun W (h1 : rowW W (.agg #[.bool g, .slice aj xs.length cj]) (g, xs)) (h2 : rowW W (.agg #[.bool g, .slice ad xs.length cp]) (g, xs)) => sameWh _ _ (g, xs) (g, xs) W h1 h2 (by show xs.length ≤ _; omega)
          have kS2 := fun W (h1 : rowW W (.agg #[.bool h, .slice ak ys.length ck]) (h, ys)) (h2 : rowW W (.agg #[.bool h, .slice ae ys.length cq]) (h, ys)) => sameWh _ _ (h, ys) (h, ys) W h1 h2 (by show ys.length ≤ _; omega)
          rw [decide_eq_true (rfl : (g, xs) = (g, xs))] at kS1
          rw [decide_eq_true (rfl : (h, ys) = (h, ys))] at kS2
          have a0 := L.A.c0
          have a1 := L.A.c1
          have a2 := L.A.c2
          have a3 := L.A.c3
          have d0 := L.D.c0
          have d1 := L.D.c1
          have d2 := L.D.c2
          have d3 := L.D.c3
          go_wp2_with fail
          clear a0 a1 a2 a3
          clear d0 d1 d2 d3
          generalize wh.alloc (.cells #[.bool g, .slice aj xs.length cj, .bool h, .slice ak ys.length ck] 28) = wi at *
          generalize wh.heap.size = bn at *
          refine (kM2 wi L.VD L.VA).mono ?_
          rintro e wj ⟨rfl, bb⟩
          replace L := L.bel bb
          replace EW := EW.below bb (Nat.le_refl _)
          replace VW := VW.below bb (Nat.le_refl _)
          replace NB := NB.below bb (Nat.le_refl _)
          replace NV := NV.below bb (Nat.le_refl _)
          clear bb
          have a0 := L.A.c0
          have a1 := L.A.c1
          have a2 := L.A.c2
          have a3 := L.A.c3
          have d0 := L.D.c0
          have d1 := L.D.c1
          have d2 := L.D.c2
          have d3 := L.D.c3
          go_wp2_with fail
          clear a0 a1 a2 a3
          clear d0 d1 d2 d3
          refine (kI wj L.VA L.VD).mono ?_
          rintro e wk ⟨rfl, bb⟩
          replace L := L.bel bb
          replace EW := EW.below bb (Nat.le_refl _)
          replace VW := VW.below bb (Nat.le_refl _)
          replace NB := NB.below bb (Nat.le_refl _)
          replace NV := NV.below bb (Nat.le_refl _)
          clear bb
          cases o3
          · skip
            have a0 := L.A.c0
            have a1 := L.A.c1
            have a2 := L.A.c2
            have a3 := L.A.c3
            have n0 := NB.c0
            have n1 := NB.c1
            have n2 := NB.c2
            have n3 := NB.c3
            go_wp2_with fail
            clear a0 a1 a2 a3
            clear n0 n1 n2 n3
            refine (kS1 _ NV.lo L.VA.lo).mono ?_
            rintro e wo ⟨rfl, bb⟩
            replace L := L.bel bb
            replace NB := NB.below bb (Nat.le_refl _)
            replace NV := NV.below bb (Nat.le_refl _)
            clear bb
            have a0 := L.A.c0
            have a1 := L.A.c1
            have a2 := L.A.c2
            have a3 := L.A.c3
            have n0 := NB.c0
            have n1 := NB.c1
            have n2 := NB.c2
            have n3 := NB.c3
            go_wp2_with fail
            refine (kS2 _ NV.hi L.VA.hi).mono ?_
            rintro e wp ⟨rfl, bb⟩
            replace L := L.bel bb
            go_wp2
            go_ret
            exact ⟨rfl, L.C⟩
          · have hin := hwd.2.2 rfl
            have m1 : ls.length ≤ 48 := hwd.1
            have m2 : ms.length ≤ 48 := hwd.2.1
            have kI3 := fun W (hA : rowV W (.agg #[.bool g, .slice ad xs.length cp, .bool h, .slice ae ys.length cq]) ((g, xs), (h, ys))) (hE : rowV W (.agg #[.bool g3, .slice ah ls.length ch, .bool h3, .slice ai ms.length ci]) ((g3, ls), (h3, ms))) => iIvIn _ _ ((g, xs), (h, ys)) ((g3, ls), (h3, ms)) W hA hE (by show xs.length ≤ _; omega) (by show ys.length ≤ _; omega) (by show ls.length ≤ _; omega) (by show ms.length ≤ _; omega)
            rw [hin] at kI3
            have f0 := EW.c0
            have f1 := EW.c1
            have f2 := EW.c2
            have f3 := EW.c3
            have a0 := L.A.c0
            have a1 := L.A.c1
            have a2 := L.A.c2
            have a3 := L.A.c3
            go_wp2_with fail
            clear f0 f1 f2 f3
            clear a0 a1 a2 a3
            refine (kI3 wk L.VA VW).mono ?_
            rintro e wl ⟨rfl, bb⟩
            replace L := L.bel bb
            replace NB := NB.below bb (Nat.le_refl _)
            replace NV := NV.below bb (Nat.le_refl _)
            clear bb
            have a0 := L.A.c0
            have a1 := L.A.c1
            have a2 := L.A.c2
            have a3 := L.A.c3
            have n0 := NB.c0
            have n1 := NB.c1
            have n2 := NB.c2
            have n3 := NB.c3
            go_wp2_with fail
            clear a0 a1 a2 a3
            clear n0 n1 n2 n3
            refine (kS1 _ NV.lo L.VA.lo).mono ?_
            rintro e wo ⟨rfl, bb⟩
            replace L := L.bel bb
            replace NB := NB.below bb (Nat.le_refl _)
            replace NV := NV.below bb (Nat.le_refl _)
            clear bb
            have a0 := L.A.c0
            have a1 := L.A.c1
            have a2 := L.A.c2
            have a3 := L.A.c3
            have n0 := NB.c0
            have n1 := NB.c1
            have n2 := NB.c2
            have n3 := NB.c3
            go_wp2_with fail
            refine (kS2 _ NV.hi L.VA.hi).mono ?_
            rintro e wp ⟨rfl, bb⟩
            replace L := L.bel bb
            go_wp2
            go_ret
            exact ⟨rfl, L.C⟩)
    · cases i1
      · skip
        go_wp2_with fail
        clear a0 a1 a2 a3
        clear d0 d1 d2 d3
        generalize (w1.alloc (.cells #[.bool g, .slice ad xs.length cp, .bool h, .slice ae ys.length cq] 28)).alloc (.cells #[.bool p, .slice af us.length cr, .bool r, .slice ag vs.length cs] 28) = w2 at *
        refine (kM1 w2 L.VA L.VD).mono ?_
        rintro e w3 ⟨rfl, bb⟩
        replace L := L.bel bb
        clear bb
        have a0 := L.A.c0
        have a1 := L.A.c1
        have a2 := L.A.c2
        have a3 := L.A.c3
        go_wp2_with fail
        clear a0 a1 a2 a3
        refine (kO1 w3 L.VA).mono ?_
        rintro e w4 ⟨rfl, bb⟩
        replace L := L.bel bb
        clear bb
        have d0 := L.D.c0
        have d1 := L.D.c1
        have d2 := L.D.c2
        have d3 := L.D.c3
        go_wp2_with fail
        clear d0 d1 d2 d3
        refine (kO2 w4 L.VD).mono ?_
        rintro e w5 ⟨rfl, bb⟩
        replace L := L.bel bb
        clear bb
        have a0 := L.A.c0
        have a1 := L.A.c1
        have a2 := L.A.c2
        have a3 := L.A.c3
        have d0 := L.D.c0
        have d1 := L.D.c1
        have d2 := L.D.c2
        have d3 := L.D.c3
        go_wp2_with fail
        clear a0 a1 a2 a3
        clear d0 d1 d2 d3
        refine (kC1 w5 L.VA.hi L.VD.lo).mono ?_
        rintro e w6 ⟨rfl, bb⟩
        replace L := L.bel bb
        clear bb
        have a0 := L.A.c0
        have a1 := L.A.c1
        have a2 := L.A.c2
        have a3 := L.A.c3
        have d0 := L.D.c0
        have d1 := L.D.c1
        have d2 := L.D.c2
        have d3 := L.D.c3
        go_wp2_with fail
        clear a0 a1 a2 a3
        clear d0 d1 d2 d3
        refine (kC2 w6 L.VD.hi L.VA.lo).mono ?_
        rintro e w7 ⟨rfl, bb⟩
        replace L := L.bel bb
        clear bb
        have k0 := L.A.c0
        have k1 := L.A.c1
        have k2 := L.A.c2
        have k3 := L.A.c3
        replace L := L.bel ((Below.refl w7.heap.size w7).drew)
        go_wp2_with fail
        go_region_held (fun W => W.cell? ⟨w1.heap.size, 0, none⟩ = some (.bool g) ∧ W.cell? ⟨w1.heap.size, 1, none⟩ = some (.slice ad xs.length cp) ∧ W.cell? ⟨w1.heap.size, 2, none⟩ = some (.bool h) ∧ W.cell? ⟨w1.heap.size, 3, none⟩ = some (.slice ae ys.length cq)) (go_keep) (first
          | (go_at_call 18; (first | refine (at0_three a len cap zs w7.drew hlen L.hc).mono ?_ | refine (at0_three a len cap zs (w7.drew.alloc (.cells #[.bool false, .slice none 0 0, .bool false, .slice none 0 0] 28)) hlen (L.bel (below1 w7.drew (.cells #[.bool false, .slice none 0 0, .bool false, .slice none 0 0] 28))).hc).mono ?_); rintro e wn ⟨⟨n, rfl⟩, rfl⟩; have k0 := L.A.c0; have k1 := L.A.c1; have k2 := L.A.c2; have k3 := L.A.c3; obtain ⟨⟨⟨⟨g3, ls⟩, ⟨h3, ms⟩⟩, o3⟩, hwr⟩ : ∃ r, wideR ((g, xs), (h, ys)) n = r := ⟨_, rfl⟩; have kw := kW n; rw [hwr] at kw; dsimp only at kw; have hwd := wide_in hwr)
          | (go_at_call 17; (first | (refine (kw w7.drew L.VA).mono ?_; rintro e wb ⟨vw, rfl, ⟨s3, t3, rfl, q5, q6, -⟩, bw⟩; obtain ⟨ah, ch, rfl, -⟩ := q5.row; obtain ⟨ai, ci, rfl, -⟩ := q6.row; replace L := L.bel bw; have be := below1 wb (.cells #[.bool g3, .slice ah ls.length ch, .bool h3, .slice ai ms.length ci] 28); have LE := L.bel be; have EW := BoxV.made wb (.bool g3) (.slice ah ls.length ch) (.bool h3) (.slice ai ms.length ci) 28; have VW : rowV (wb.alloc (.cells #[.bool g3, .slice ah ls.length ch, .bool h3, .slice ai ms.length ci] 28)) (.agg #[.bool g3, .slice ah ls.length ch, .bool h3, .slice ai ms.length ci]) ((g3, ls), (h3, ms)) := ⟨_, _, rfl, q5.row.below be (Nat.le_refl _), q6.row.below be (Nat.le_refl _)⟩; have mk1 : 1 = 1 := rfl; clear q5 q6 bw be) | (refine (kw (w7.drew.alloc (.cells #[.bool false, .slice none 0 0, .bool false, .slice none 0 0] 28)) (L.VA.below (below1 w7.drew (.cells #[.bool false, .slice none 0 0, .bool false, .slice none 0 0] 28)) (Nat.le_refl _))).mono ?_; rintro e wb ⟨vw, rfl, ⟨s3, t3, rfl, q5, q6, -⟩, bw⟩; obtain ⟨ah, ch, rfl, -⟩ := q5.row; obtain ⟨ai, ci, rfl, -⟩ := q6.row; have hzb : w1.heap.size + 1 < w7.heap.size := L.D.hi; have XB : BoxV wb w7.heap.size w7.heap.size (.bool false) (.slice none 0 0) (.bool false) (.slice none 0 0) := (BoxV.made w7.drew (.bool false) (.slice none 0 0) (.bool false) (.slice none 0 0) 28).below bw (Nat.le_refl _); have hsz : (w7.drew.alloc (.cells #[.bool false, .slice none 0 0, .bool false, .slice none 0 0] 28)).heap.size = w7.heap.size + 1 := (by simp); rw [hsz] at q5 q6; have bz : Below w7.drew.heap.size w7.drew wb := (below1 w7.drew (.cells #[.bool false, .slice none 0 0, .bool false, .slice none 0 0] 28)).trans (bw.mono (below1 w7.drew (.cells #[.bool false, .slice none 0 0, .bool false, .slice none 0 0] 28)).size); have LE := L.bel (belW4 w7.drew wb w7.heap.size (Nat.le_refl _) bz (.bool g3) (.slice ah ls.length ch) (.bool h3) (.slice ai ms.length ci)); have EW := (((XB.set0 (.bool g3)).set1 (.slice ah ls.length ch)).set2 (.bool h3)).set3 (.slice ai ms.length ci); have VW : rowV _ (.agg #[.bool g3, .slice ah ls.length ch, .bool h3, .slice ai ms.length ci]) ((g3, ls), (h3, ms)) := ⟨_, _, rfl, (q5.set4 w7.heap.size (by omega) (.bool g3) (.slice ah ls.length ch) (.bool h3) (.slice ai ms.length ci)).row, (q6.set4 w7.heap.size (by omega) (.bool g3) (.slice ah ls.length ch) (.bool h3) (.slice ai ms.length ci)).row⟩; replace L := L.bel bz; have e0 := XB.c0; have e1 := XB.c1; have e2 := XB.c2; have e3 := XB.c3; have z0 := XB.f0; have z1 := XB.f1; have z2 := XB.f2; have z3 := XB.f3; have hb1 : ¬ w7.heap.size = w1.heap.size := (by omega); have hb2 : ¬ w1.heap.size = w7.heap.size := (by omega); have mk2 : 2 = 2 := rfl; clear q5 q6 bw bz XB hsz)); have k0 := L.A.c0; have k1 := L.A.c1; have k2 := L.A.c2; have k3 := L.A.c3))
        all_goals (clear k0 k1 k2 k3 kw kW)
        all_goals (first
          | (have hq := mk1; clear hq mk1 L; have L := LE; clear LE; generalize wb.alloc (.cells #[.bool g3, .slice ah ls.length ch, .bool h3, .slice ai ms.length ci] 28) = wE at *; generalize wb.heap.size = bx at *)
          | (have hq := mk2; clear hq mk2 L e0 e1 e2 e3 z0 z1 z2 z3 hb1 hb2 hzb; have L := LE; clear LE; generalize (((wb.setCell ⟨w7.heap.size, 0, none⟩ (.bool g3)).setCell ⟨w7.heap.size, 1, none⟩ (.slice ah ls.length ch)).setCell ⟨w7.heap.size, 2, none⟩ (.bool h3)).setCell ⟨w7.heap.size, 3, none⟩ (.slice ai ms.length ci) = wE at *; generalize w7.heap.size = bx at *))
        all_goals (
          have a0 := L.A.c0
          have a1 := L.A.c1
          have a2 := L.A.c2
          have a3 := L.A.c3
          go_wp2_with fail
          clear a0 a1 a2 a3
          refine (kN1 _ L.VA).mono ?_
          rintro e wg ⟨vn, rfl, on, bb⟩
          replace L := L.bel bb
          replace EW := EW.below bb (Nat.le_refl _)
          replace VW := VW.below bb (Nat.le_refl _)
          clear bb
          go_wp2_with fail
          refine (kN2 _ wg on.row).mono ?_
          rintro e wh ⟨vn2, rfl, ⟨s7, t7, rfl, q7, q8, -⟩, bb⟩
          obtain ⟨aj, cj, rfl, -⟩ := q7.row
          obtain ⟨ak, ck, rfl, -⟩ := q8.row
          have be := below1 wh (.cells #[.bool g, .slice aj xs.length cj, .bool h, .slice ak ys.length ck] 28)
          replace L := (L.bel bb).bel be
          replace EW := (EW.below bb (Nat.le_refl _)).below be (Nat.le_refl _)
          replace VW := (VW.below bb (Nat.le_refl _)).below be (Nat.le_refl _)
          have NB := BoxV.made wh (.bool g) (.slice aj xs.length cj) (.bool h) (.slice ak ys.length ck) 28
          have NV : rowV (wh.alloc (.cells #[.bool g, .slice aj xs.length cj, .bool h, .slice ak ys.length ck] 28)) (.agg #[.bool g, .slice aj xs.length cj, .bool h, .slice ak ys.length ck]) ((g, xs), (h, ys)) := ⟨_, _, rfl, q7.row.below be (Nat.le_refl _), q8.row.below be (Nat.le_refl _)⟩
          clear bb be on q7 q8
          have kS1 := fun W (h1 : rowW W (.agg #[.bool g, .slice aj xs.length cj]) (g, xs)) (h2 : rowW W (.agg #[.bool g, .slice ad xs.length cp]) (g, xs)) => sameWh _ _ (g, xs) (g, xs) W h1 h2 (by show xs.length ≤ _; omega)
          have kS2 := fun W (h1 : rowW W (.agg #[.bool h, .slice ak ys.length ck]) (h, ys)) (h2 : rowW W (.agg #[.bool h, .slice ae ys.length cq]) (h, ys)) => sameWh _ _ (h, ys) (h, ys) W h1 h2 (by show ys.length ≤ _; omega)
          rw [decide_eq_true (rfl : (g, xs) = (g, xs))] at kS1
          rw [decide_eq_true (rfl : (h, ys) = (h, ys))] at kS2
          have a0 := L.A.c0
          have a1 := L.A.c1
          have a2 := L.A.c2
          have a3 := L.A.c3
          have d0 := L.D.c0
          have d1 := L.D.c1
          have d2 := L.D.c2
          have d3 := L.D.c3
          go_wp2_with fail
          clear a0 a1 a2 a3
          clear d0 d1 d2 d3
          generalize wh.alloc (.cells #[.bool g, .slice aj xs.length cj, .bool h, .slice ak ys.length ck] 28) = wi at *
          generalize wh.heap.size = bn at *
          refine (kM2 wi L.VD L.VA).mono ?_
          rintro e wj ⟨rfl, bb⟩
          replace L := L.bel bb
          replace EW := EW.below bb (Nat.le_refl _)
          replace VW := VW.below bb (Nat.le_refl _)
          replace NB := NB.below bb (Nat.le_refl _)
          replace NV := NV.below bb (Nat.le_refl _)
          clear bb
          have a0 := L.A.c0
          have a1 := L.A.c1
          have a2 := L.A.c2
          have a3 := L.A.c3
          have d0 := L.D.c0
          have d1 := L.D.c1
          have d2 := L.D.c2
          have d3 := L.D.c3
          go_wp2_with fail
          clear a0 a1 a2 a3
          clear d0 d1 d2 d3
          refine (kI wj L.VA L.VD).mono ?_
          rintro e wk ⟨rfl, bb⟩
          replace L := L.bel bb
          replace EW := EW.below bb (Nat.le_refl _)
          replace VW := VW.below bb (Nat.le_refl _)
          replace NB := NB.below bb (Nat.le_refl _)
          replace NV := NV.below bb (Nat.le_refl _)
          clear bb
          cases o3
          · skip
            have a0 := L.A.c0
            have a1 := L.A.c1
            have a2 := L.A.c2
            have a3 := L.A.c3
            have n0 := NB.c0
            have n1 := NB.c1
            have n2 := NB.c2
            have n3 := NB.c3
            go_wp2_with fail
            clear a0 a1 a2 a3
            clear n0 n1 n2 n3
            refine (kS1 _ NV.lo L.VA.lo).mono ?_
            rintro e wo ⟨rfl, bb⟩
            replace L := L.bel bb
            replace NB := NB.below bb (Nat.le_refl _)
            replace NV := NV.below bb (Nat.le_refl _)
            clear bb
            have a0 := L.A.c0
            have a1 := L.A.c1
            have a2 := L.A.c2
            have a3 := L.A.c3
            have n0 := NB.c0
            have n1 := NB.c1
            have n2 := NB.c2
            have n3 := NB.c3
            go_wp2_with fail
            refine (kS2 _ NV.hi L.VA.hi).mono ?_
            rintro e wp ⟨rfl, bb⟩
            replace L := L.bel bb
            go_wp2
            go_ret
            exact ⟨rfl, L.C⟩
          · have hin := hwd.2.2 rfl
            have m1 : ls.length ≤ 48 := hwd.1
            have m2 : ms.length ≤ 48 := hwd.2.1
            have kI3 := fun W (hA : rowV W (.agg #[.bool g, .slice ad xs.length cp, .bool h, .slice ae ys.length cq]) ((g, xs), (h, ys))) (hE : rowV W (.agg #[.bool g3, .slice ah ls.length ch, .bool h3, .slice ai ms.length ci]) ((g3, ls), (h3, ms))) => iIvIn _ _ ((g, xs), (h, ys)) ((g3, ls), (h3, ms)) W hA hE (by show xs.length ≤ _; omega) (by show ys.length ≤ _; omega) (by show ls.length ≤ _; omega) (by show ms.length ≤ _; omega)
            rw [hin] at kI3
            have f0 := EW.c0
            have f1 := EW.c1
            have f2 := EW.c2
            have f3 := EW.c3
            have a0 := L.A.c0
            have a1 := L.A.c1
            have a2 := L.A.c2
            have a3 := L.A.c3
            go_wp2_with fail
            clear f0 f1 f2 f3
            clear a0 a1 a2 a3
            refine (kI3 wk L.VA VW).mono ?_
            rintro e wl ⟨rfl, bb⟩
            replace L := L.bel bb
            replace NB := NB.below bb (Nat.le_refl _)
            replace NV := NV.below bb (Nat.le_refl _)
            clear bb
            have a0 := L.A.c0
            have a1 := L.A.c1
            have a2 := L.A.c2
            have a3 := L.A.c3
            have n0 := NB.c0
            have n1 := NB.c1
            have n2 := NB.c2
            have n3 := NB.c3
            go_wp2_with fail
            clear a0 a1 a2 a3
            clear n0 n1 n2 n3
            refine (kS1 _ NV.lo L.VA.lo).mono ?_
            rintro e wo ⟨rfl, bb⟩
            replace L := L.bel bb
            replace NB := NB.below bb (Nat.le_refl _)
            replace NV := NV.below bb (Nat.le_refl _)
            clear bb
            have a0 := L.A.c0
            have a1 := L.A.c1
            have a2 := L.A.c2
            have a3 := L.A.c3
            have n0 := NB.c0
            have n1 := NB.c1
            have n2 := NB.c2
            have n3 := NB.c3
            go_wp2_with fail
            refine (kS2 _ NV.hi L.VA.hi).mono ?_
            rintro e wp ⟨rfl, bb⟩
            replace L := L.bel bb
            go_wp2
            go_ret
            exact ⟨rfl, L.C⟩)
      · skip
        go_wp2_with fail
        clear a0 a1 a2 a3
        clear d0 d1 d2 d3
        generalize (w1.alloc (.cells #[.bool g, .slice ad xs.length cp, .bool h, .slice ae ys.length cq] 28)).alloc (.cells #[.bool p, .slice af us.length cr, .bool r, .slice ag vs.length cs] 28) = w2 at *
        refine (kM1 w2 L.VA L.VD).mono ?_
        rintro e w3 ⟨rfl, bb⟩
        replace L := L.bel bb
        clear bb
        have a0 := L.A.c0
        have a1 := L.A.c1
        have a2 := L.A.c2
        have a3 := L.A.c3
        go_wp2_with fail
        clear a0 a1 a2 a3
        refine (kO1 w3 L.VA).mono ?_
        rintro e w4 ⟨rfl, bb⟩
        replace L := L.bel bb
        clear bb
        have d0 := L.D.c0
        have d1 := L.D.c1
        have d2 := L.D.c2
        have d3 := L.D.c3
        go_wp2_with fail
        clear d0 d1 d2 d3
        refine (kO2 w4 L.VD).mono ?_
        rintro e w5 ⟨rfl, bb⟩
        replace L := L.bel bb
        clear bb
        have a0 := L.A.c0
        have a1 := L.A.c1
        have a2 := L.A.c2
        have a3 := L.A.c3
        have d0 := L.D.c0
        have d1 := L.D.c1
        have d2 := L.D.c2
        have d3 := L.D.c3
        go_wp2_with fail
        clear a0 a1 a2 a3
        clear d0 d1 d2 d3
        refine (kC1 w5 L.VA.hi L.VD.lo).mono ?_
        rintro e w6 ⟨rfl, bb⟩
        replace L := L.bel bb
        clear bb
        have a0 := L.A.c0
        have a1 := L.A.c1
        have a2 := L.A.c2
        have a3 := L.A.c3
        have d0 := L.D.c0
        have d1 := L.D.c1
        have d2 := L.D.c2
        have d3 := L.D.c3
        go_wp2_with fail
        clear a0 a1 a2 a3
        clear d0 d1 d2 d3
        refine (kC2 w6 L.VD.hi L.VA.lo).mono ?_
        rintro e w7 ⟨rfl, bb⟩
        replace L := L.bel bb
        clear bb
        have k0 := L.A.c0
        have k1 := L.A.c1
        have k2 := L.A.c2
        have k3 := L.A.c3
        replace L := L.bel ((Below.refl w7.heap.size w7).drew)
        go_wp2_with fail
        go_region_held (fun W => W.cell? ⟨w1.heap.size, 0, none⟩ = some (.bool g) ∧ W.cell? ⟨w1.heap.size, 1, none⟩ = some (.slice ad xs.length cp) ∧ W.cell? ⟨w1.heap.size, 2, none⟩ = some (.bool h) ∧ W.cell? ⟨w1.heap.size, 3, none⟩ = some (.slice ae ys.length cq)) (go_keep) (first
          | (go_at_call 18; (first | refine (at0_three a len cap zs w7.drew hlen L.hc).mono ?_ | refine (at0_three a len cap zs (w7.drew.alloc (.cells #[.bool false, .slice none 0 0, .bool false, .slice none 0 0] 28)) hlen (L.bel (below1 w7.drew (.cells #[.bool false, .slice none 0 0, .bool false, .slice none 0 0] 28))).hc).mono ?_); rintro e wn ⟨⟨n, rfl⟩, rfl⟩; have k0 := L.A.c0; have k1 := L.A.c1; have k2 := L.A.c2; have k3 := L.A.c3; obtain ⟨⟨⟨⟨g3, ls⟩, ⟨h3, ms⟩⟩, o3⟩, hwr⟩ : ∃ r, wideR ((g, xs), (h, ys)) n = r := ⟨_, rfl⟩; have kw := kW n; rw [hwr] at kw; dsimp only at kw; have hwd := wide_in hwr)
          | (go_at_call 17; (first | (refine (kw w7.drew L.VA).mono ?_; rintro e wb ⟨vw, rfl, ⟨s3, t3, rfl, q5, q6, -⟩, bw⟩; obtain ⟨ah, ch, rfl, -⟩ := q5.row; obtain ⟨ai, ci, rfl, -⟩ := q6.row; replace L := L.bel bw; have be := below1 wb (.cells #[.bool g3, .slice ah ls.length ch, .bool h3, .slice ai ms.length ci] 28); have LE := L.bel be; have EW := BoxV.made wb (.bool g3) (.slice ah ls.length ch) (.bool h3) (.slice ai ms.length ci) 28; have VW : rowV (wb.alloc (.cells #[.bool g3, .slice ah ls.length ch, .bool h3, .slice ai ms.length ci] 28)) (.agg #[.bool g3, .slice ah ls.length ch, .bool h3, .slice ai ms.length ci]) ((g3, ls), (h3, ms)) := ⟨_, _, rfl, q5.row.below be (Nat.le_refl _), q6.row.below be (Nat.le_refl _)⟩; have mk1 : 1 = 1 := rfl; clear q5 q6 bw be) | (refine (kw (w7.drew.alloc (.cells #[.bool false, .slice none 0 0, .bool false, .slice none 0 0] 28)) (L.VA.below (below1 w7.drew (.cells #[.bool false, .slice none 0 0, .bool false, .slice none 0 0] 28)) (Nat.le_refl _))).mono ?_; rintro e wb ⟨vw, rfl, ⟨s3, t3, rfl, q5, q6, -⟩, bw⟩; obtain ⟨ah, ch, rfl, -⟩ := q5.row; obtain ⟨ai, ci, rfl, -⟩ := q6.row; have hzb : w1.heap.size + 1 < w7.heap.size := L.D.hi; have XB : BoxV wb w7.heap.size w7.heap.size (.bool false) (.slice none 0 0) (.bool false) (.slice none 0 0) := (BoxV.made w7.drew (.bool false) (.slice none 0 0) (.bool false) (.slice none 0 0) 28).below bw (Nat.le_refl _); have hsz : (w7.drew.alloc (.cells #[.bool false, .slice none 0 0, .bool false, .slice none 0 0] 28)).heap.size = w7.heap.size + 1 := (by simp); rw [hsz] at q5 q6; have bz : Below w7.drew.heap.size w7.drew wb := (below1 w7.drew (.cells #[.bool false, .slice none 0 0, .bool false, .slice none 0 0] 28)).trans (bw.mono (below1 w7.drew (.cells #[.bool false, .slice none 0 0, .bool false, .slice none 0 0] 28)).size); have LE := L.bel (belW4 w7.drew wb w7.heap.size (Nat.le_refl _) bz (.bool g3) (.slice ah ls.length ch) (.bool h3) (.slice ai ms.length ci)); have EW := (((XB.set0 (.bool g3)).set1 (.slice ah ls.length ch)).set2 (.bool h3)).set3 (.slice ai ms.length ci); have VW : rowV _ (.agg #[.bool g3, .slice ah ls.length ch, .bool h3, .slice ai ms.length ci]) ((g3, ls), (h3, ms)) := ⟨_, _, rfl, (q5.set4 w7.heap.size (by omega) (.bool g3) (.slice ah ls.length ch) (.bool h3) (.slice ai ms.length ci)).row, (q6.set4 w7.heap.size (by omega) (.bool g3) (.slice ah ls.length ch) (.bool h3) (.slice ai ms.length ci)).row⟩; replace L := L.bel bz; have e0 := XB.c0; have e1 := XB.c1; have e2 := XB.c2; have e3 := XB.c3; have z0 := XB.f0; have z1 := XB.f1; have z2 := XB.f2; have z3 := XB.f3; have hb1 : ¬ w7.heap.size = w1.heap.size := (by omega); have hb2 : ¬ w1.heap.size = w7.heap.size := (by omega); have mk2 : 2 = 2 := rfl; clear q5 q6 bw bz XB hsz)); have k0 := L.A.c0; have k1 := L.A.c1; have k2 := L.A.c2; have k3 := L.A.c3))
        all_goals (clear k0 k1 k2 k3 kw kW)
        all_goals (first
          | (have hq := mk1; clear hq mk1 L; have L := LE; clear LE; generalize wb.alloc (.cells #[.bool g3, .slice ah ls.length ch, .bool h3, .slice ai ms.length ci] 28) = wE at *; generalize wb.heap.size = bx at *)
          | (have hq := mk2; clear hq mk2 L e0 e1 e2 e3 z0 z1 z2 z3 hb1 hb2 hzb; have L := LE; clear LE; generalize (((wb.setCell ⟨w7.heap.size, 0, none⟩ (.bool g3)).setCell ⟨w7.heap.size, 1, none⟩ (.slice ah ls.length ch)).setCell ⟨w7.heap.size, 2, none⟩ (.bool h3)).setCell ⟨w7.heap.size, 3, none⟩ (.slice ai ms.length ci) = wE at *; generalize w7.heap.size = bx at *))
        all_goals (
          have a0 := L.A.c0
          have a1 := L.A.c1
          have a2 := L.A.c2
          have a3 := L.A.c3
          go_wp2_with fail
          clear a0 a1 a2 a3
          refine (kN1 _ L.VA).mono ?_
          rintro e wg ⟨vn, rfl, on, bb⟩
          replace L := L.bel bb
          replace EW := EW.below bb (Nat.le_refl _)
          replace VW := VW.below bb (Nat.le_refl _)
          clear bb
          go_wp2_with fail
          refine (kN2 _ wg on.row).mono ?_
          rintro e wh ⟨vn2, rfl, ⟨s7, t7, rfl, q7, q8, -⟩, bb⟩
          obtain ⟨aj, cj, rfl, -⟩ := q7.row
          obtain ⟨ak, ck, rfl, -⟩ := q8.row
          have be := below1 wh (.cells #[.bool g, .slice aj xs.length cj, .bool h, .slice ak ys.length ck] 28)
          replace L := (L.bel bb).bel be
          replace EW := (EW.below bb (Nat.le_refl _)).below be (Nat.le_refl _)
          replace VW := (VW.below bb (Nat.le_refl _)).below be (Nat.le_refl _)
          have NB := BoxV.made wh (.bool g) (.slice aj xs.length cj) (.bool h) (.slice ak ys.length ck) 28
          have NV : rowV (wh.alloc (.cells #[.bool g, .slice aj xs.length cj, .bool h, .slice ak ys.length ck] 28)) (.agg #[.bool g, .slice aj xs.length cj, .bool h, .slice ak ys.length ck]) ((g, xs), (h, ys)) := ⟨_, _, rfl, q7.row.below be (Nat.le_refl _), q8.row.below be (Nat.le_refl _)⟩
          clear bb be on q7 q8
          have kS1 := fun W (h1 : rowW W (.agg #[.bool g, .slice aj xs.length cj]) (g, xs)) (h2 : rowW W (.agg #[.bool g, .slice ad xs.length cp]) (g, xs)) => sameWh _ _ (g, xs) (g, xs) W h1 h2 (by show xs.length ≤ _; omega)
          have kS2 := fun W (h1 : rowW W (.agg #[.bool h, .slice ak ys.length ck]) (h, ys)) (h2 : rowW W (.agg #[.bool h, .slice ae ys.length cq]) (h, ys)) => sameWh _ _ (h, ys) (h, ys) W h1 h2 (by show ys.length ≤ _; omega)
          rw [decide_eq_true (rfl : (g, xs) = (g, xs))] at kS1
          rw [decide_eq_true (rfl : (h, ys) = (h, ys))] at kS2
          have a0 := L.A.c0
          have a1 := L.A.c1
          have a2 := L.A.c2
          have a3 := L.A.c3
          have d0 := L.D.c0
          have d1 := L.D.c1
          have d2 := L.D.c2
          have d3 := L.D.c3
          go_wp2_with fail
          clear a0 a1 a2 a3
          clear d0 d1 d2 d3
          generalize wh.alloc (.cells #[.bool g, .slice aj xs.length cj, .bool h, .slice ak ys.length ck] 28) = wi at *
          generalize wh.heap.size = bn at *
          refine (kM2 wi L.VD L.VA).mono ?_
          rintro e wj ⟨rfl, bb⟩
          replace L := L.bel bb
          replace EW := EW.below bb (Nat.le_refl _)
          replace VW := VW.below bb (Nat.le_refl _)
          replace NB := NB.below bb (Nat.le_refl _)
          replace NV := NV.below bb (Nat.le_refl _)
          clear bb
          have a0 := L.A.c0
          have a1 := L.A.c1
          have a2 := L.A.c2
          have a3 := L.A.c3
          have d0 := L.D.c0
          have d1 := L.D.c1
          have d2 := L.D.c2
          have d3 := L.D.c3
          go_wp2_with fail
          clear a0 a1 a2 a3
          clear d0 d1 d2 d3
          refine (kI wj L.VA L.VD).mono ?_
          rintro e wk ⟨rfl, bb⟩
          replace L := L.bel bb
          replace EW := EW.below bb (Nat.le_refl _)
          replace VW := VW.below bb (Nat.le_refl _)
          replace NB := NB.below bb (Nat.le_refl _)
          replace NV := NV.below bb (Nat.le_refl _)
          clear bb
          cases o3
          · skip
            have a0 := L.A.c0
            have a1 := L.A.c1
            have a2 := L.A.c2
            have a3 := L.A.c3
            have n0 := NB.c0
            have n1 := NB.c1
            have n2 := NB.c2
            have n3 := NB.c3
            go_wp2_with fail
            clear a0 a1 a2 a3
            clear n0 n1 n2 n3
            refine (kS1 _ NV.lo L.VA.lo).mono ?_
            rintro e wo ⟨rfl, bb⟩
            replace L := L.bel bb
            replace NB := NB.below bb (Nat.le_refl _)
            replace NV := NV.below bb (Nat.le_refl _)
            clear bb
            have a0 := L.A.c0
            have a1 := L.A.c1
            have a2 := L.A.c2
            have a3 := L.A.c3
            have n0 := NB.c0
            have n1 := NB.c1
            have n2 := NB.c2
            have n3 := NB.c3
            go_wp2_with fail
            refine (kS2 _ NV.hi L.VA.hi).mono ?_
            rintro e wp ⟨rfl, bb⟩
            replace L := L.bel bb
            go_wp2
            go_ret
            exact ⟨rfl, L.C⟩
          · have hin := hwd.2.2 rfl
            have m1 : ls.length ≤ 48 := hwd.1
            have m2 : ms.length ≤ 48 := hwd.2.1
            have kI3 := fun W (hA : rowV W (.agg #[.bool g, .slice ad xs.length cp, .bool h, .slice ae ys.length cq]) ((g, xs), (h, ys))) (hE : rowV W (.agg #[.bool g3, .slice ah ls.length ch, .bool h3, .slice ai ms.length ci]) ((g3, ls), (h3, ms))) => iIvIn _ _ ((g, xs), (h, ys)) ((g3, ls), (h3, ms)) W hA hE (by show xs.length ≤ _; omega) (by show ys.length ≤ _; omega) (by show ls.length ≤ _; omega) (by show ms.length ≤ _; omega)
            rw [hin] at kI3
            have f0 := EW.c0
            have f1 := EW.c1
            have f2 := EW.c2
            have f3 := EW.c3
            have a0 := L.A.c0
            have a1 := L.A.c1
            have a2 := L.A.c2
            have a3 := L.A.c3
            go_wp2_with fail
            clear f0 f1 f2 f3
            clear a0 a1 a2 a3
            refine (kI3 wk L.VA VW).mono ?_
            rintro e wl ⟨rfl, bb⟩
            replace L := L.bel bb
            replace NB := NB.below bb (Nat.le_refl _)
            replace NV := NV.below bb (Nat.le_refl _)
            clear bb
            have a0 := L.A.c0
            have a1 := L.A.c1
            have a2 := L.A.c2
            have a3 := L.A.c3
            have n0 := NB.c0
            have n1 := NB.c1
            have n2 := NB.c2
            have n3 := NB.c3
            go_wp2_with fail
            clear a0 a1 a2 a3
            clear n0 n1 n2 n3
            refine (kS1 _ NV.lo L.VA.lo).mono ?_
            rintro e wo ⟨rfl, bb⟩
            replace L := L.bel bb
            replace NB := NB.below bb (Nat.le_refl _)
            replace NV := NV.below bb (Nat.le_refl _)
            clear bb
            have a0 := L.A.c0
            have a1 := L.A.c1
            have a2 := L.A.c2
            have a3 := L.A.c3
            have n0 := NB.c0
            have n1 := NB.c1
            have n2 := NB.c2
            have n3 := NB.c3
            go_wp2_with fail
            refine (kS2 _ NV.hi L.VA.hi).mono ?_
            rintro e wp ⟨rfl, bb⟩
            replace L := L.bel bb
            go_wp2
            go_ret
            exact ⟨rfl, L.C⟩)

end Go.Proofs.Ytddakeohamefiaa
