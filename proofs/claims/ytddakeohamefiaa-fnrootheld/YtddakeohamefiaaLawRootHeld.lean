/- FnRootHeld: the walk. -/
import Derived.Test.YtddakeohamefiaaLawRootM
namespace Go.Proofs.Ytddakeohamefiaa
open Go.RowKit
set_option linter.unusedSimpArgs false

set_option maxRecDepth 20000 in
set_option maxHeartbeats 12800000 in
theorem root_in (a : Option Addr) (len cap : Nat) (zs : List Int) (w : World) (hlen : len ≤ 1048576) (hc : CodeIs w a len cap zs) :
    Calls Try.prog 5 #[.slice a len cap] w fun e w' => e = .returned (.bool true) ∧ Below w.heap.size w w' := by
  go_enter Try.func5, Try.ntmps5
  go_wp2_with fail
  refine (big_no a len cap w hlen).mono ?_
  rintro e w ⟨rfl, rfl⟩
  go_wp2_with fail
  refine (drIvRoot a len cap zs w hlen hc).mono ?_
  rintro e w1 ⟨va, ⟨⟨g, xs⟩, ⟨h, ys⟩⟩, p, rfl, ⟨s, t, rfl, hs, ht⟩, la, lb, C⟩
  clear hc
  obtain ⟨ad, cp, rfl, -⟩ := id hs
  obtain ⟨ae, cq, rfl, -⟩ := id ht
  have lx : xs.length ≤ 98 := la
  have ly : ys.length ≤ 98 := lb
  have bb := below1 w1 (.cells #[.bool g, .slice ad xs.length cp, .bool h, .slice ae ys.length cq] 28)
  have V0 : rowV (w1.alloc (.cells #[.bool g, .slice ad xs.length cp, .bool h, .slice ae ys.length cq] 28)) (.agg #[.bool g, .slice ad xs.length cp, .bool h, .slice ae ys.length cq]) ((g, xs), (h, ys)) := ⟨_, _, rfl, hs.below bb (Nat.le_refl _), ht.below bb (Nat.le_refl _)⟩
  have A0 := BoxV.made w1 (.bool g) (.slice ad xs.length cp) (.bool h) (.slice ae ys.length cq) 28
  replace C := C.trans (bb.mono C.size)
  obtain ⟨⟨⟨⟨g2, us⟩, ⟨h2, vs⟩⟩, o⟩, hr⟩ : ∃ r, ivRootR ((g, xs), (h, ys)) p = r := ⟨_, rfl⟩
  have ki := fun W (hV : rowV W (.agg #[.bool g, .slice ad xs.length cp, .bool h, .slice ae ys.length cq]) ((g, xs), (h, ys))) => iIvRoot _ _ p W hV (by show xs.length ≤ _; omega) (by show ys.length ≤ _; omega)
  have ks := fun W (hV : rowV W (.agg #[.bool g, .slice ad xs.length cp, .bool h, .slice ae ys.length cq]) ((g, xs), (h, ys))) => sIvRoot _ _ p W hV (by show xs.length ≤ _; omega) (by show ys.length ≤ _; omega)
  rw [hr] at ki ks
  dsimp only at ki ks
  clear hs ht la lb bb
  have a0 := A0.c0
  have a1 := A0.c1
  have a2 := A0.c2
  have a3 := A0.c3
  cases o
  · have hn := root_no hr
    cases hn
    clear hr
    go_wp2_with fail
    clear a0 a1 a2 a3
    generalize w1.alloc (.cells #[.bool g, .slice ad xs.length cp, .bool h, .slice ae ys.length cq] 28) = w2 at *
    refine (ki w2 V0).mono ?_
    rintro e w3 ⟨v3, rfl, ⟨s3, t3, rfl, q3, r3, -⟩, b3⟩
    obtain ⟨af, cr, rfl, -⟩ := q3.row
    obtain ⟨ag, cs, rfl, -⟩ := r3.row
    have bb3 := below1 w3 (.cells #[.bool false, .slice af 0 cr, .bool false, .slice ag 0 cs] 28)
    replace V0 := (V0.below b3 (Nat.le_refl _)).below bb3 (Nat.le_refl _)
    replace A0 := (A0.below b3 (Nat.le_refl _)).below bb3 (Nat.le_refl _)
    replace C := (C.trans (b3.mono C.size)).trans (bb3.mono (C.trans (b3.mono C.size)).size)
    have A3 := BoxV.made w3 (.bool false) (.slice af 0 cr) (.bool false) (.slice ag 0 cs) 28
    have V3 : rowV (w3.alloc (.cells #[.bool false, .slice af 0 cr, .bool false, .slice ag 0 cs] 28)) (.agg #[.bool false, .slice af 0 cr, .bool false, .slice ag 0 cs]) ((false, ([] : List Int)), (false, ([] : List Int))) := ⟨_, _, rfl, q3.row.below bb3 (Nat.le_refl _), r3.row.below bb3 (Nat.le_refl _)⟩
    clear q3 r3 b3 bb3
    have a0 := A0.c0
    have a1 := A0.c1
    have a2 := A0.c2
    have a3 := A0.c3
    go_wp2_with fail
    clear a0 a1 a2 a3
    generalize w3.alloc (.cells #[.bool false, .slice af 0 cr, .bool false, .slice ag 0 cs] 28) = w4 at *
    refine (ks w4 V0).mono ?_
    rintro e w5 ⟨v5, rfl, ⟨s5, t5, rfl, q5, r5, -⟩, b5⟩
    obtain ⟨af5, cr5, rfl, -⟩ := q5.row
    obtain ⟨ag5, cs5, rfl, -⟩ := r5.row
    have bb5 := below1 w5 (.cells #[.bool false, .slice af5 0 cr5, .bool false, .slice ag5 0 cs5] 28)
    replace V0 := (V0.below b5 (Nat.le_refl _)).below bb5 (Nat.le_refl _)
    replace A0 := (A0.below b5 (Nat.le_refl _)).below bb5 (Nat.le_refl _)
    replace V3 := (V3.below b5 (Nat.le_refl _)).below bb5 (Nat.le_refl _)
    replace A3 := (A3.below b5 (Nat.le_refl _)).below bb5 (Nat.le_refl _)
    replace C := (C.trans (b5.mono C.size)).trans (bb5.mono (C.trans (b5.mono C.size)).size)
    have A5 := BoxV.made w5 (.bool false) (.slice af5 0 cr5) (.bool false) (.slice ag5 0 cs5) 28
    have V5 : rowV (w5.alloc (.cells #[.bool false, .slice af5 0 cr5, .bool false, .slice ag5 0 cs5] 28)) (.agg #[.bool false, .slice af5 0 cr5, .bool false, .slice ag5 0 cs5]) ((false, ([] : List Int)), (false, ([] : List Int))) := ⟨_, _, rfl, q5.row.below bb5 (Nat.le_refl _), r5.row.below bb5 (Nat.le_refl _)⟩
    clear q5 r5 b5 bb5
    have d0 := A3.c0
    have d1 := A3.c1
    have d2 := A3.c2
    have d3 := A3.c3
    go_wp2
    go_ret
    exact ⟨rfl, C⟩
  · obtain ⟨hok, l2, l2', hlo, hup⟩ := root_yes hr
    have m2 : us.length ≤ 48 := l2
    have m2' : vs.length ≤ 48 := l2'
    have ko := fun v W (hV : rowV W v ((g2, us), (h2, vs))) => iIvOk v _ W hV (by show us.length ≤ _; omega) (by show vs.length ≤ _; omega)
    rw [hok] at ko
    obtain ⟨⟨⟨g6, l6⟩, f6⟩, hm6⟩ : ∃ r, wmulR (g2, us) (g2, us) = r := ⟨_, rfl⟩
    obtain ⟨⟨⟨g7, l7⟩, f7⟩, hm7⟩ : ∃ r, wmulR (h2, vs) (h2, vs) = r := ⟨_, rfl⟩
    obtain ⟨⟨⟨g8, l8⟩, f8⟩, hs8⟩ : ∃ r, wshiftR (g, xs) p = r := ⟨_, rfl⟩
    obtain ⟨⟨⟨g9, l9⟩, f9⟩, hs9⟩ : ∃ r, wshiftR (h, ys) p = r := ⟨_, rfl⟩
    have e6 : l6.length ≤ 48 := mul_len48 hm6
    have e7 : l7.length ≤ 48 := mul_len48 hm7
    have e8 : l8.length ≤ 48 := shift_len48 hs8
    have e9 : l9.length ≤ 48 := shift_len48 hs9
    have kmL := fun v W (hV : rowW W v (g2, us)) => iWholeMul v v _ _ W hV hV (by show us.length ≤ _; omega) (by show us.length ≤ _; omega)
    have kmH := fun v W (hV : rowW W v (h2, vs)) => iWholeMul v v _ _ W hV hV (by show vs.length ≤ _; omega) (by show vs.length ≤ _; omega)
    have khL := fun v W (hV : rowW W v (g, xs)) => iWholeShift v _ p W hV (by show xs.length ≤ _; omega)
    have khH := fun v W (hV : rowW W v (h, ys)) => iWholeShift v _ p W hV (by show ys.length ≤ _; omega)
    rw [hm6] at kmL
    rw [hm7] at kmH
    rw [hs8] at khL
    rw [hs9] at khH
    dsimp only at kmL kmH khL khH
    clear hr hok l2 l2'
    go_wp2_with fail
    clear a0 a1 a2 a3
    generalize w1.alloc (.cells #[.bool g, .slice ad xs.length cp, .bool h, .slice ae ys.length cq] 28) = w2 at *
    refine (ki w2 V0).mono ?_
    rintro e w3 ⟨v3, rfl, ⟨s3, t3, rfl, q3, r3, -⟩, b3⟩
    obtain ⟨af, cr, rfl, -⟩ := q3.row
    obtain ⟨ag, cs, rfl, -⟩ := r3.row
    have bb3 := below1 w3 (.cells #[.bool g2, .slice af us.length cr, .bool h2, .slice ag vs.length cs] 28)
    replace V0 := (V0.below b3 (Nat.le_refl _)).below bb3 (Nat.le_refl _)
    replace A0 := (A0.below b3 (Nat.le_refl _)).below bb3 (Nat.le_refl _)
    replace C := (C.trans (b3.mono C.size)).trans (bb3.mono (C.trans (b3.mono C.size)).size)
    have A3 := BoxV.made w3 (.bool g2) (.slice af us.length cr) (.bool h2) (.slice ag vs.length cs) 28
    have V3 : rowV (w3.alloc (.cells #[.bool g2, .slice af us.length cr, .bool h2, .slice ag vs.length cs] 28)) (.agg #[.bool g2, .slice af us.length cr, .bool h2, .slice ag vs.length cs]) ((g2, us), (h2, vs)) := ⟨_, _, rfl, q3.row.below bb3 (Nat.le_refl _), r3.row.below bb3 (Nat.le_refl _)⟩
    clear q3 r3 b3 bb3
    have a0 := A0.c0
    have a1 := A0.c1
    have a2 := A0.c2
    have a3 := A0.c3
    go_wp2_with fail
    clear a0 a1 a2 a3
    generalize w3.alloc (.cells #[.bool g2, .slice af us.length cr, .bool h2, .slice ag vs.length cs] 28) = w4 at *
    refine (ks w4 V0).mono ?_
    rintro e w5 ⟨v5, rfl, ⟨s5, t5, rfl, q5, r5, -⟩, b5⟩
    obtain ⟨af5, cr5, rfl, -⟩ := q5.row
    obtain ⟨ag5, cs5, rfl, -⟩ := r5.row
    have bb5 := below1 w5 (.cells #[.bool g2, .slice af5 us.length cr5, .bool h2, .slice ag5 vs.length cs5] 28)
    replace V0 := (V0.below b5 (Nat.le_refl _)).below bb5 (Nat.le_refl _)
    replace A0 := (A0.below b5 (Nat.le_refl _)).below bb5 (Nat.le_refl _)
    replace V3 := (V3.below b5 (Nat.le_refl _)).below bb5 (Nat.le_refl _)
    replace A3 := (A3.below b5 (Nat.le_refl _)).below bb5 (Nat.le_refl _)
    replace C := (C.trans (b5.mono C.size)).trans (bb5.mono (C.trans (b5.mono C.size)).size)
    have A5 := BoxV.made w5 (.bool g2) (.slice af5 us.length cr5) (.bool h2) (.slice ag5 vs.length cs5) 28
    have V5 : rowV (w5.alloc (.cells #[.bool g2, .slice af5 us.length cr5, .bool h2, .slice ag5 vs.length cs5] 28)) (.agg #[.bool g2, .slice af5 us.length cr5, .bool h2, .slice ag5 vs.length cs5]) ((g2, us), (h2, vs)) := ⟨_, _, rfl, q5.row.below bb5 (Nat.le_refl _), r5.row.below bb5 (Nat.le_refl _)⟩
    clear q5 r5 b5 bb5
    have d0 := A3.c0
    have d1 := A3.c1
    have d2 := A3.c2
    have d3 := A3.c3
    go_wp2_with fail
    clear d0 d1 d2 d3 A5 V5
    generalize w5.alloc (.cells #[.bool g2, .slice af5 us.length cr5, .bool h2, .slice ag5 vs.length cs5] 28) = w6 at *
    refine (kmL _ w6 V3.lo).mono ?_
    rintro e w7 ⟨v6, rfl, ⟨s6, rfl, q6⟩, b6⟩
    obtain ⟨ad6, cp6, rfl, -⟩ := q6.row
    have bb6 := below1 w7 (.cells #[.bool g6, .slice ad6 l6.length cp6] 26)
    replace V0 := (V0.below b6 (Nat.le_refl _)).below bb6 (Nat.le_refl _)
    replace A0 := (A0.below b6 (Nat.le_refl _)).below bb6 (Nat.le_refl _)
    replace V3 := (V3.below b6 (Nat.le_refl _)).below bb6 (Nat.le_refl _)
    replace A3 := (A3.below b6 (Nat.le_refl _)).below bb6 (Nat.le_refl _)
    replace C := (C.trans (b6.mono C.size)).trans (bb6.mono (C.trans (b6.mono C.size)).size)
    have A6 := BoxW.made w7 (.bool g6) (.slice ad6 l6.length cp6) 26
    have V6 : rowW (w7.alloc (.cells #[.bool g6, .slice ad6 l6.length cp6] 26)) (.agg #[.bool g6, .slice ad6 l6.length cp6]) (g6, l6) := ⟨_, rfl, q6.row.below bb6 (Nat.le_refl _)⟩
    clear q6 b6 bb6
    have d0 := A3.c0
    have d1 := A3.c1
    have d2 := A3.c2
    have d3 := A3.c3
    go_wp2_with fail
    clear d0 d1 d2 d3
    generalize w7.alloc (.cells #[.bool g6, .slice ad6 l6.length cp6] 26) = w8 at *
    refine (kmH _ w8 V3.hi).mono ?_
    rintro e w9 ⟨v7, rfl, ⟨s7, rfl, q7⟩, b7⟩
    obtain ⟨ad7, cp7, rfl, -⟩ := q7.row
    have bb7 := below1 w9 (.cells #[.bool g7, .slice ad7 l7.length cp7] 26)
    replace V0 := (V0.below b7 (Nat.le_refl _)).below bb7 (Nat.le_refl _)
    replace A0 := (A0.below b7 (Nat.le_refl _)).below bb7 (Nat.le_refl _)
    replace V3 := (V3.below b7 (Nat.le_refl _)).below bb7 (Nat.le_refl _)
    replace A3 := (A3.below b7 (Nat.le_refl _)).below bb7 (Nat.le_refl _)
    replace A6 := (A6.below b7 (Nat.le_refl _)).below bb7 (Nat.le_refl _)
    replace V6 := (V6.below b7 (Nat.le_refl _)).below bb7 (Nat.le_refl _)
    replace C := (C.trans (b7.mono C.size)).trans (bb7.mono (C.trans (b7.mono C.size)).size)
    have A7 := BoxW.made w9 (.bool g7) (.slice ad7 l7.length cp7) 26
    have V7 : rowW (w9.alloc (.cells #[.bool g7, .slice ad7 l7.length cp7] 26)) (.agg #[.bool g7, .slice ad7 l7.length cp7]) (g7, l7) := ⟨_, rfl, q7.row.below bb7 (Nat.le_refl _)⟩
    clear q7 b7 bb7
    have a0 := A0.c0
    have a1 := A0.c1
    have a2 := A0.c2
    have a3 := A0.c3
    go_wp2_with fail
    clear a0 a1 a2 a3
    generalize w9.alloc (.cells #[.bool g7, .slice ad7 l7.length cp7] 26) = w10 at *
    refine (khL _ w10 V0.lo).mono ?_
    rintro e w11 ⟨v8, rfl, ⟨s8, rfl, q8⟩, b8⟩
    obtain ⟨ad8, cp8, rfl, -⟩ := q8.row
    have bb8 := below1 w11 (.cells #[.bool g8, .slice ad8 l8.length cp8] 26)
    replace V0 := (V0.below b8 (Nat.le_refl _)).below bb8 (Nat.le_refl _)
    replace A0 := (A0.below b8 (Nat.le_refl _)).below bb8 (Nat.le_refl _)
    replace V3 := (V3.below b8 (Nat.le_refl _)).below bb8 (Nat.le_refl _)
    replace A3 := (A3.below b8 (Nat.le_refl _)).below bb8 (Nat.le_refl _)
    replace A6 := (A6.below b8 (Nat.le_refl _)).below bb8 (Nat.le_refl _)
    replace V6 := (V6.below b8 (Nat.le_refl _)).below bb8 (Nat.le_refl _)
    replace A7 := (A7.below b8 (Nat.le_refl _)).below bb8 (Nat.le_refl _)
    replace V7 := (V7.below b8 (Nat.le_refl _)).below bb8 (Nat.le_refl _)
    replace C := (C.trans (b8.mono C.size)).trans (bb8.mono (C.trans (b8.mono C.size)).size)
    have A8 := BoxW.made w11 (.bool g8) (.slice ad8 l8.length cp8) 26
    have V8 : rowW (w11.alloc (.cells #[.bool g8, .slice ad8 l8.length cp8] 26)) (.agg #[.bool g8, .slice ad8 l8.length cp8]) (g8, l8) := ⟨_, rfl, q8.row.below bb8 (Nat.le_refl _)⟩
    clear q8 b8 bb8
    have a0 := A0.c0
    have a1 := A0.c1
    have a2 := A0.c2
    have a3 := A0.c3
    go_wp2_with fail
    clear a0 a1 a2 a3
    generalize w11.alloc (.cells #[.bool g8, .slice ad8 l8.length cp8] 26) = w12 at *
    refine (khH _ w12 V0.hi).mono ?_
    rintro e w13 ⟨v9, rfl, ⟨s9, rfl, q9⟩, b9⟩
    obtain ⟨ad9, cp9, rfl, -⟩ := q9.row
    have bb9 := below1 w13 (.cells #[.bool g9, .slice ad9 l9.length cp9] 26)
    replace V0 := (V0.below b9 (Nat.le_refl _)).below bb9 (Nat.le_refl _)
    replace A0 := (A0.below b9 (Nat.le_refl _)).below bb9 (Nat.le_refl _)
    replace V3 := (V3.below b9 (Nat.le_refl _)).below bb9 (Nat.le_refl _)
    replace A3 := (A3.below b9 (Nat.le_refl _)).below bb9 (Nat.le_refl _)
    replace A6 := (A6.below b9 (Nat.le_refl _)).below bb9 (Nat.le_refl _)
    replace V6 := (V6.below b9 (Nat.le_refl _)).below bb9 (Nat.le_refl _)
    replace A7 := (A7.below b9 (Nat.le_refl _)).below bb9 (Nat.le_refl _)
    replace V7 := (V7.below b9 (Nat.le_refl _)).below bb9 (Nat.le_refl _)
    replace A8 := (A8.below b9 (Nat.le_refl _)).below bb9 (Nat.le_refl _)
    replace V8 := (V8.below b9 (Nat.le_refl _)).below bb9 (Nat.le_refl _)
    replace C := (C.trans (b9.mono C.size)).trans (bb9.mono (C.trans (b9.mono C.size)).size)
    have A9 := BoxW.made w13 (.bool g9) (.slice ad9 l9.length cp9) 26
    have V9 : rowW (w13.alloc (.cells #[.bool g9, .slice ad9 l9.length cp9] 26)) (.agg #[.bool g9, .slice ad9 l9.length cp9]) (g9, l9) := ⟨_, rfl, q9.row.below bb9 (Nat.le_refl _)⟩
    clear q9 b9 bb9
    have d0 := A3.c0
    have d1 := A3.c1
    have d2 := A3.c2
    have d3 := A3.c3
    go_wp2_with fail
    clear d0 d1 d2 d3
    generalize w13.alloc (.cells #[.bool g9, .slice ad9 l9.length cp9] 26) = w14 at *
    refine (ko _ w14 V3).mono ?_
    rintro e w15 ⟨rfl, bb⟩
    replace C := C.trans (bb.mono C.size)
    replace A6 := A6.below bb (Nat.le_refl _)
    replace V6 := V6.below bb (Nat.le_refl _)
    replace A7 := A7.below bb (Nat.le_refl _)
    replace V7 := V7.below bb (Nat.le_refl _)
    replace A8 := A8.below bb (Nat.le_refl _)
    replace V8 := V8.below bb (Nat.le_refl _)
    replace A9 := A9.below bb (Nat.le_refl _)
    replace V9 := V9.below bb (Nat.le_refl _)
    clear bb
    cases f8
    · clear hlo
      cases f9
      · skip
        go_wp2
        go_ret
        exact ⟨rfl, C⟩
      · cases f7
        · skip
          go_wp2
          go_ret
          exact ⟨rfl, C⟩
        · have hq2 := hup _ _ hm7 hs9
          have kc2 := fun W (h1 : rowW W (.agg #[.bool g7, .slice ad7 l7.length cp7]) (g7, l7)) (h2 : rowW W (.agg #[.bool g9, .slice ad9 l9.length cp9]) (g9, l9)) => iWholeCmp _ _ (g7, l7) (g9, l9) W h1 h2 (by show l7.length ≤ _; omega) (by show l9.length ≤ _; omega)
          generalize wcmpR (g7, l7) (g9, l9) = c2 at *
          have x0 := A7.c0
          have x1 := A7.c1
          have y0 := A9.c0
          have y1 := A9.c1
          go_wp2_with fail
          clear x0 x1 y0 y1
          refine (kc2 _ V7 V9).mono ?_
          rintro e w17 ⟨rfl, bb⟩
          replace C := C.trans (bb.mono C.size)
          clear bb
          go_wp2
          go_ret
          exact ⟨rfl, C⟩
    · have hq1 := hlo _ _ _ hm6 hs8
      have kc1 := fun W (h1 : rowW W (.agg #[.bool g6, .slice ad6 l6.length cp6]) (g6, l6)) (h2 : rowW W (.agg #[.bool g8, .slice ad8 l8.length cp8]) (g8, l8)) => iWholeCmp _ _ (g6, l6) (g8, l8) W h1 h2 (by show l6.length ≤ _; omega) (by show l8.length ≤ _; omega)
      generalize wcmpR (g6, l6) (g8, l8) = c1 at *
      have x0 := A6.c0
      have x1 := A6.c1
      have y0 := A8.c0
      have y1 := A8.c1
      go_wp2_with fail
      clear x0 x1 y0 y1
      refine (kc1 _ V6 V8).mono ?_
      rintro e w16 ⟨rfl, bb⟩
      replace C := C.trans (bb.mono C.size)
      replace A7 := A7.below bb (Nat.le_refl _)
      replace V7 := V7.below bb (Nat.le_refl _)
      replace A9 := A9.below bb (Nat.le_refl _)
      replace V9 := V9.below bb (Nat.le_refl _)
      clear bb
      cases f9
      · skip
        go_wp2
        go_ret
        exact ⟨rfl, C⟩
      · cases f7
        · skip
          go_wp2
          go_ret
          exact ⟨rfl, C⟩
        · have hq2 := hup _ _ hm7 hs9
          have kc2 := fun W (h1 : rowW W (.agg #[.bool g7, .slice ad7 l7.length cp7]) (g7, l7)) (h2 : rowW W (.agg #[.bool g9, .slice ad9 l9.length cp9]) (g9, l9)) => iWholeCmp _ _ (g7, l7) (g9, l9) W h1 h2 (by show l7.length ≤ _; omega) (by show l9.length ≤ _; omega)
          generalize wcmpR (g7, l7) (g9, l9) = c2 at *
          have x0 := A7.c0
          have x1 := A7.c1
          have y0 := A9.c0
          have y1 := A9.c1
          go_wp2_with fail
          clear x0 x1 y0 y1
          refine (kc2 _ V7 V9).mono ?_
          rintro e w17 ⟨rfl, bb⟩
          replace C := C.trans (bb.mono C.size)
          clear bb
          go_wp2
          go_ret
          exact ⟨rfl, C⟩

set_option maxRecDepth 20000 in
set_option maxHeartbeats 1600000 in
theorem walkRootHeld (a0 : Option Addr) (len0 cap0 : Nat) (z0 : List Int) (w : World) (h : IsRow .u8 w a0 len0 cap0 z0) :
    Calls Try.prog 5 #[.slice a0 len0 cap0] w fun e w' => e = .returned (.bool true) ∧ Below w.heap.size w w' := by
  refine law_big _ (fun a len cap w hs => ?_) root_in a0 len0 cap0 z0 w h
  go_enter Try.func5, Try.ntmps5
  go_wp2_with (go_at_call 6; refine (big_yes a len cap w hs).mono ?_; rintro e w ⟨rfl, rfl⟩)
  go_ret
  exact ⟨rfl, Below.refl _ _⟩

end Go.Proofs.Ytddakeohamefiaa
