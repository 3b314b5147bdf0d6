/- FnSigned: numbers with a sign are added and multiplied as numbers are: the walk. -/
import Derived.Test.YtlnpfjnpnjiepaaDrW2
import Derived.Test.YtlnpfjnpnjiepaaLT
import Derived.Test.YtlnpfjnpnjiepaaCutW
import Derived.Test.YtlnpfjnpnjiepaaIWholeAdd
import Derived.Test.YtlnpfjnpnjiepaaSWholeAdd
import Derived.Test.YtlnpfjnpnjiepaaIWholeMul
import Derived.Test.YtlnpfjnpnjiepaaIWholeSub
import Derived.Test.YtlnpfjnpnjiepaaIWholeNeg
import Derived.Test.YtlnpfjnpnjiepaaIWholeCmp
import Derived.Test.YtlnpfjnpnjiepaaSW
namespace Go.Proofs.Ytlnpfjnpnjiepaa
open Go.RowKit
set_option linter.unusedSimpArgs false

theorem wneg_facts {a : Wh} (h : okW a = true) : okW (wnegR a) = true ∧ valW (wnegR a) = -(valW a) ∧ (wnegR a).2.length ≤ 48 := by
  have hn : wnegR a = mkW (-(valW a)) := by rw [wnegR, if_pos h]
  have ln : (limbs (-(valW a)).natAbs).length ≤ 48 := by rw [Int.natAbs_neg]; exact okW_abs h
  rw [hn]
  exact ⟨okW_mk ln, mkW_val _, ln⟩
theorem signed_no {a b : Wh} (h : ¬ (okW a = true ∧ okW b = true)) : waddR a b = ((false, []), false) ∧ wcmpR a b = -2 := by
  constructor
  · rw [waddR, if_neg h]
  · rw [wcmpR, if_neg h]
/-- What FnSigned meets. -/
theorem signed_facts {a b : Wh} (ha : okW a = true) (hb : okW b = true) : ∃ s o p po q qo c, waddR a b = (s, o) ∧ wmulR a b = (p, po) ∧ wmulR (wnegR a) b = (q, qo) ∧ wcmpR (wnegR b) (wnegR a) = c ∧ wcmpR a b = c ∧ -1 ≤ c ∧
    s.2.length ≤ 48 ∧ p.2.length ≤ 48 ∧ q.2.length ≤ 48 ∧ (wnegR a).2.length ≤ 48 ∧ (wnegR b).2.length ≤ 48 ∧ (wnegR p).2.length ≤ 48 ∧ wnegR p = q ∧ (o = false → s = (false, [])) ∧ (o = true → wsubR s b = (a, true)) := by
  obtain ⟨na, va, la⟩ := wneg_facts ha
  obtain ⟨nb, vb, lb⟩ := wneg_facts hb
  obtain ⟨s, o, hs⟩ : ∃ s o, waddR a b = (s, o) := ⟨_, _, rfl⟩
  have hs' := hs
  rw [waddR, if_pos ⟨ha, hb⟩] at hs'
  have ls : s.2.length ≤ 48 := by have := fitW_len48 (valW a + valW b); rw [hs'] at this; exact this
  obtain ⟨p, po, hp⟩ : ∃ p po, wmulR a b = (p, po) := ⟨_, _, rfl⟩
  have hp' := hp
  rw [wmulR, if_pos ⟨ha, hb⟩] at hp'
  have lp : p.2.length ≤ 48 := by have := fitW_len48 (valW a * valW b); rw [hp'] at this; exact this
  obtain ⟨q, qo, hq⟩ : ∃ q qo, wmulR (wnegR a) b = (q, qo) := ⟨_, _, rfl⟩
  have hq' := hq
  rw [wmulR, if_pos ⟨na, hb⟩, va, Int.neg_mul] at hq'
  have lq : q.2.length ≤ 48 := by have := fitW_len48 (-(valW a * valW b)); rw [hq'] at this; exact this
  have hc : wcmpR (wnegR b) (wnegR a) = wcmpR a b := by
    rw [wcmp_mk nb na, wcmp_mk ha hb, va, vb]
    rcases Int.lt_trichotomy (valW a) (valW b) with h | h | h
    · rw [if_pos h, if_pos (by omega)]
    · rw [if_neg (by omega), if_neg (by omega), if_neg (by omega), if_neg (by omega)]
    · rw [if_neg (by omega), if_pos (by omega), if_neg (by omega), if_pos h]
  have hpq : wnegR p = q := by
    by_cases hf : (limbs (valW a * valW b).natAbs).length ≤ 48
    · rw [fitW_yes hf] at hp'
      cases hp'
      have hf' : (limbs (-(valW a * valW b)).natAbs).length ≤ 48 := by rw [Int.natAbs_neg]; exact hf
      rw [fitW_yes hf'] at hq'
      cases hq'
      rw [wnegR, if_pos (okW_mk hf), mkW_val]
    · have hf' : ¬ (limbs (-(valW a * valW b)).natAbs).length ≤ 48 := by rw [Int.natAbs_neg]; exact hf
      rw [fitW, if_neg hf] at hp'
      rw [fitW, if_neg hf'] at hq'
      cases hp'
      cases hq'
      have h1 : okW (false, []) = true := by decide
      have h2 : valW (false, []) = 0 := by decide
      rw [wnegR, if_pos h1, h2, Int.neg_zero, mkW_zero]
  refine ⟨s, o, p, po, q, qo, wcmpR a b, hs, hp, hq, hc, rfl, ?_, ls, lp, lq, la, lb, by rw [hpq]; exact lq, hpq, fun h => ?_, fun h => ?_⟩
  · rw [wcmp_mk ha hb]
    split
    · omega
    · split <;> omega
  · subst h; exact fitW_false hs'
  · subst h
    obtain ⟨rfl, hl⟩ := fitW_true hs'
    rw [wsubR, if_pos ⟨okW_mk hl, hb⟩, mkW_val, Int.add_sub_cancel, fitW_yes (okW_abs ha), ← mkW_of ha]

set_option maxRecDepth 20000 in
set_option maxHeartbeats 6400000 in
theorem signed_in (a : Option Addr) (len cap : Nat) (zs : List Int) (w : World) (hlen : len ≤ 1048576) (h : CodeIs w a len cap zs) :
    Calls Try.prog 3 #[.slice a len cap] w fun e w' => e = .returned (.bool true) ∧ Below w.heap.size w w' := by
  go_enter Try.func3, Try.ntmps3
  go_wp2_with fail
  refine (big_no a len cap w hlen).mono ?_
  rintro e w ⟨rfl, rfl⟩
  go_wp2_with fail
  refine (drWAdd a len cap zs w hlen h).mono ?_
  rintro e w1 ⟨v1, u1, ra, rb, rfl, Oa, Ob, la, lb, B⟩
  clear h
  have Ra := Oa.row
  have Rb := Ob.row
  clear Oa Ob
  obtain ⟨s1, rfl, q1⟩ := id Ra
  obtain ⟨ad1, cp1, rfl, -⟩ := q1
  obtain ⟨t1, rfl, p1⟩ := id Rb
  obtain ⟨ae1, cq1, rfl, -⟩ := p1
  have bb := below1 w1 (.cells #[.bool ra.1, .slice ad1 ra.2.length cp1] 26)
  replace Ra := Ra.below bb (Nat.le_refl _)
  replace Rb := Rb.below bb (Nat.le_refl _)
  replace B := B.trans (bb.mono B.size)
  clear bb
  have Xa := BoxW.made w1 (.bool ra.1) (.slice ad1 ra.2.length cp1) 26
  have bb := below1 (w1.alloc (.cells #[.bool ra.1, .slice ad1 ra.2.length cp1] 26)) (.cells #[.bool rb.1, .slice ae1 rb.2.length cq1] 26)
  replace Ra := Ra.below bb (Nat.le_refl _)
  replace Rb := Rb.below bb (Nat.le_refl _)
  replace Xa := Xa.below bb (Nat.le_refl _)
  replace B := B.trans (bb.mono B.size)
  clear bb
  have Xb := BoxW.made (w1.alloc (.cells #[.bool ra.1, .slice ad1 ra.2.length cp1] 26)) (.bool rb.1) (.slice ae1 rb.2.length cq1) 26
  have hsz : (w1.alloc (.cells #[.bool ra.1, .slice ad1 ra.2.length cp1] 26)).heap.size = w1.heap.size + 1 := by simp
  rw [hsz] at Xb
  clear hsz
  by_cases hall : okW ra = true ∧ okW rb = true
  · obtain ⟨ha, hb⟩ := hall
    obtain ⟨s, o, p, po, q, qo, c, f1, f2, f3, f4, f5, c1, ls, lp, lq, lna, lnb, lnp, f6, f7, f8⟩ := signed_facts ha hb
    have c0a := Xa.c0
    have c1a := Xa.c1
    have c0b := Xb.c0
    have c1b := Xb.c1
    go_wp2_with fail
    clear c0a c1a c0b c1b
    generalize (w1.alloc (.cells #[.bool ra.1, .slice ad1 ra.2.length cp1] 26)).alloc (.cells #[.bool rb.1, .slice ae1 rb.2.length cq1] 26) = w2 at *
    have k3 := sWholeOk _ ra w2 Ra (by omega)
    rw [ha] at k3
    refine k3.mono ?_
    rintro e w3 ⟨rfl, b3⟩
    replace Ra := Ra.below b3 (Nat.le_refl _)
    replace Rb := Rb.below b3 (Nat.le_refl _)
    replace Xa := Xa.below b3 (Nat.le_refl _)
    replace Xb := Xb.below b3 (Nat.le_refl _)
    replace B := B.trans (b3.mono B.size)
    clear k3 b3
    have c0a := Xa.c0
    have c1a := Xa.c1
    have c0b := Xb.c0
    have c1b := Xb.c1
    go_wp2_with fail
    clear c0a c1a c0b c1b
    have k4 := sWholeOk _ rb w3 Rb (by omega)
    rw [hb] at k4
    refine k4.mono ?_
    rintro e w4 ⟨rfl, b4⟩
    replace Ra := Ra.below b4 (Nat.le_refl _)
    replace Rb := Rb.below b4 (Nat.le_refl _)
    replace Xa := Xa.below b4 (Nat.le_refl _)
    replace Xb := Xb.below b4 (Nat.le_refl _)
    replace B := B.trans (b4.mono B.size)
    clear k4 b4
    clear ha hb
    have c0a := Xa.c0
    have c1a := Xa.c1
    have c0b := Xb.c0
    have c1b := Xb.c1
    go_wp2_with fail
    clear c0a c1a c0b c1b
    have k5 := iWholeAdd _ _ ra rb w4 Ra Rb (by omega) (by omega)
    rw [f1] at k5
    refine k5.mono ?_
    rintro e w5 ⟨v5, rfl, o5, b5⟩
    replace Ra := Ra.below b5 (Nat.le_refl _)
    replace Rb := Rb.below b5 (Nat.le_refl _)
    replace Xa := Xa.below b5 (Nat.le_refl _)
    replace Xb := Xb.below b5 (Nat.le_refl _)
    replace B := B.trans (b5.mono B.size)
    clear b5 k5
    obtain ⟨s5, rfl, q5⟩ := o5
    obtain ⟨ad5, cp5, rfl, -⟩ := q5.row
    have Rs : rowW w5 (.agg #[.bool s.1, .slice ad5 s.2.length cp5]) s := ⟨_, rfl, q5.row⟩
    clear q5
    have d0a := Xa.c0
    have d1a := Xa.c1
    have dha := Xa.hi
    have d0b := Xb.c0
    have d1b := Xb.c1
    have dhb := Xb.hi
    have bb := below1 w5 (.cells #[.bool s.1, .slice ad5 s.2.length cp5] 26)
    replace Ra := Ra.below bb (Nat.le_refl _)
    replace Rb := Rb.below bb (Nat.le_refl _)
    replace Rs := Rs.below bb (Nat.le_refl _)
    replace Xa := Xa.below bb (Nat.le_refl _)
    replace Xb := Xb.below bb (Nat.le_refl _)
    replace B := B.trans (bb.mono B.size)
    clear bb
    have Xs := BoxW.made w5 (.bool s.1) (.slice ad5 s.2.length cp5) 26
    have c0a := Xa.c0
    have c1a := Xa.c1
    have c0b := Xb.c0
    have c1b := Xb.c1
    have c0s := Xs.c0
    have c1s := Xs.c1
    go_wp2_with fail
    clear c0a c1a c0b c1b c0s c1s
    clear d0a d1a dha d0b d1b dhb
    generalize w5.alloc (.cells #[.bool s.1, .slice ad5 s.2.length cp5] 26) = w6 at *
    have k7 := sWholeAdd _ _ ra rb w6 Ra Rb (by omega) (by omega)
    rw [f1] at k7
    refine k7.mono ?_
    rintro e w7 ⟨v7, rfl, o7, b7⟩
    replace Ra := Ra.below b7 (Nat.le_refl _)
    replace Rb := Rb.below b7 (Nat.le_refl _)
    replace Rs := Rs.below b7 (Nat.le_refl _)
    replace Xa := Xa.below b7 (Nat.le_refl _)
    replace Xb := Xb.below b7 (Nat.le_refl _)
    replace Xs := Xs.below b7 (Nat.le_refl _)
    replace B := B.trans (b7.mono B.size)
    clear b7 k7
    obtain ⟨s7, rfl, q7⟩ := o7
    obtain ⟨ad7, cp7, rfl, -⟩ := q7.row
    clear q7
    have d0a := Xa.c0
    have d1a := Xa.c1
    have dha := Xa.hi
    have d0b := Xb.c0
    have d1b := Xb.c1
    have dhb := Xb.hi
    have d0s := Xs.c0
    have d1s := Xs.c1
    have dhs := Xs.hi
    have bb := below1 w7 (.cells #[.bool s.1, .slice ad7 s.2.length cp7] 26)
    replace Ra := Ra.below bb (Nat.le_refl _)
    replace Rb := Rb.below bb (Nat.le_refl _)
    replace Rs := Rs.below bb (Nat.le_refl _)
    replace Xa := Xa.below bb (Nat.le_refl _)
    replace Xb := Xb.below bb (Nat.le_refl _)
    replace Xs := Xs.below bb (Nat.le_refl _)
    replace B := B.trans (bb.mono B.size)
    clear bb
    have Xz7 := BoxW.made w7 (.bool s.1) (.slice ad7 s.2.length cp7) 26
    clear f1
    have c0a := Xa.c0
    have c1a := Xa.c1
    have c0b := Xb.c0
    have c1b := Xb.c1
    have c0s := Xs.c0
    have c1s := Xs.c1
    have c0z7 := Xz7.c0
    have c1z7 := Xz7.c1
    go_wp2_with fail
    clear c0a c1a c0b c1b c0s c1s c0z7 c1z7
    clear d0a d1a dha d0b d1b dhb d0s d1s dhs
    generalize w7.alloc (.cells #[.bool s.1, .slice ad7 s.2.length cp7] 26) = w8 at *
    have k9 := iWholeMul _ _ ra rb w8 Ra Rb (by omega) (by omega)
    rw [f2] at k9
    refine k9.mono ?_
    rintro e w9 ⟨v9, rfl, o9, b9⟩
    replace Ra := Ra.below b9 (Nat.le_refl _)
    replace Rb := Rb.below b9 (Nat.le_refl _)
    replace Rs := Rs.below b9 (Nat.le_refl _)
    replace Xa := Xa.below b9 (Nat.le_refl _)
    replace Xb := Xb.below b9 (Nat.le_refl _)
    replace Xs := Xs.below b9 (Nat.le_refl _)
    replace Xz7 := Xz7.below b9 (Nat.le_refl _)
    replace B := B.trans (b9.mono B.size)
    clear b9 k9
    obtain ⟨s9, rfl, q9⟩ := o9
    obtain ⟨ad9, cp9, rfl, -⟩ := q9.row
    have Rp : rowW w9 (.agg #[.bool p.1, .slice ad9 p.2.length cp9]) p := ⟨_, rfl, q9.row⟩
    clear q9
    have d0a := Xa.c0
    have d1a := Xa.c1
    have dha := Xa.hi
    have d0b := Xb.c0
    have d1b := Xb.c1
    have dhb := Xb.hi
    have d0s := Xs.c0
    have d1s := Xs.c1
    have dhs := Xs.hi
    have d0z7 := Xz7.c0
    have d1z7 := Xz7.c1
    have dhz7 := Xz7.hi
    have bb := below1 w9 (.cells #[.bool p.1, .slice ad9 p.2.length cp9] 26)
    replace Ra := Ra.below bb (Nat.le_refl _)
    replace Rb := Rb.below bb (Nat.le_refl _)
    replace Rs := Rs.below bb (Nat.le_refl _)
    replace Rp := Rp.below bb (Nat.le_refl _)
    replace Xa := Xa.below bb (Nat.le_refl _)
    replace Xb := Xb.below bb (Nat.le_refl _)
    replace Xs := Xs.below bb (Nat.le_refl _)
    replace Xz7 := Xz7.below bb (Nat.le_refl _)
    replace B := B.trans (bb.mono B.size)
    clear bb
    have Xp := BoxW.made w9 (.bool p.1) (.slice ad9 p.2.length cp9) 26
    clear f2
    have kN := fun W (h : rowW W (.agg #[.bool ra.1, .slice ad1 ra.2.length cp1]) ra) => iWholeNeg _ ra W h (by omega)
    have kF := fun (v1 v2 : Value) (W : World) (h1 : rowW W v1 (wnegR ra)) (h2 : rowW W v2 rb) => iWholeMul v1 v2 (wnegR ra) rb W h1 h2 (by omega) (by omega)
    rw [f3] at kF
    clear f3
    have kC1 := fun (v1 v2 : Value) (W : World) (h1 : rowW W v1 (wnegR rb)) (h2 : rowW W v2 (wnegR ra)) => iWholeCmp v1 v2 (wnegR rb) (wnegR ra) W h1 h2 (by omega) (by omega)
    rw [f4] at kC1
    clear f4
    have kNb := fun W (h : rowW W (.agg #[.bool rb.1, .slice ae1 rb.2.length cq1]) rb) => iWholeNeg _ rb W h (by omega)
    have HP : Hid (decide (wnegR p = q) = true) := decide_eq_true f6
    have HF7 : Hid (o = false → s = (false, [])) := f7
    have HF8 : Hid (o = true → wsubR s rb = (ra, true)) := f8
    have HF5 : Hid (wcmpR ra rb = c) := f5
    clear f6 f7 f8 f5
    generalize wnegR ra = na at *
    generalize wnegR rb = nb at *
    have c0a := Xa.c0
    have c1a := Xa.c1
    have c0b := Xb.c0
    have c1b := Xb.c1
    have c0s := Xs.c0
    have c1s := Xs.c1
    have c0z7 := Xz7.c0
    have c1z7 := Xz7.c1
    have c0p := Xp.c0
    have c1p := Xp.c1
    go_wp2_with fail
    clear c0a c1a c0b c1b c0s c1s c0z7 c1z7 c0p c1p
    clear d0a d1a dha d0b d1b dhb d0s d1s dhs d0z7 d1z7 dhz7
    generalize w9.alloc (.cells #[.bool p.1, .slice ad9 p.2.length cp9] 26) = w10 at *
    have oa := Xa
    have ob := Xb
    apply wp_cutW (r := q) (base := w10.heap.size) (W := w10)
    case hA =>
      obtain ⟨vs1, -⟩ : ∃ v : Value, v = v := ⟨undef, rfl⟩
      have C0 : Below w10.heap.size w10 w10.drew := (Below.refl w10.heap.size w10).drew
      have hC0 : w10.heap.size ≤ w10.drew.heap.size := C0.size
      have ka := oa.below C0 (Nat.le_refl _)
      have kb := ob.below C0 (Nat.le_refl _)
      have ka0 := ka.c0
      have ka1 := ka.c1
      have kb0 := kb.c0
      have kb1 := kb.c1
      have CZ : Below w10.heap.size w10 (w10.alloc (.cells #[.bool false, .slice none 0 0] 26)).drew := (below1 w10 (.cells #[.bool false, .slice none 0 0] 26)).drew
      have hCZ : w10.heap.size ≤ (w10.alloc (.cells #[.bool false, .slice none 0 0] 26)).drew.heap.size := CZ.size
      have obz := (BoxW.made w10 (.bool false) (.slice none 0 0) 26).below ((Below.refl (w10.alloc (.cells #[.bool false, .slice none 0 0] 26)).heap.size (w10.alloc (.cells #[.bool false, .slice none 0 0] 26))).drew) (Nat.le_refl _)
      have hbz : w10.heap.size < (w10.alloc (.cells #[.bool false, .slice none 0 0] 26)).drew.heap.size := obz.hi
      have kza := oa.below CZ (Nat.le_refl _)
      have kza0 := kza.c0
      have kza1 := kza.c1
      have kzb := ob.below CZ (Nat.le_refl _)
      have kzb0 := kzb.c0
      have kzb1 := kzb.c1
      have hia := oa.hi
      have hib := ob.hi
      have nza : ¬ (w10.heap.size = w1.heap.size) := by omega
      have nya : ¬ (w1.heap.size = w10.heap.size) := by omega
      have nzb : ¬ (w10.heap.size = w1.heap.size + 1) := by omega
      have nyb : ¬ (w1.heap.size + 1 = w10.heap.size) := by omega
      go_region_held (fun w' => w'.cell? ⟨w1.heap.size, 0, none⟩ = some (.bool ra.1) ∧ w'.cell? ⟨w1.heap.size, 1, none⟩ = some (.slice ad1 ra.2.length cp1) ∧ w'.cell? ⟨w1.heap.size + 1, 0, none⟩ = some (.bool rb.1) ∧ w'.cell? ⟨w1.heap.size + 1, 1, none⟩ = some (.slice ae1 rb.2.length cq1)) (go_keep) (first
        | (go_at_call 16
           (first
             | (refine (kN (w10.drew) (Ra.below C0 (Nat.le_refl _))).mono ?_; rintro e wc1 ⟨vs0, rfl, os0, bb1⟩; have C1 := C0.trans (bb1.mono hC0); have hC1 := Nat.le_trans hC0 bb1.size)
             | (refine (kN ((w10.alloc (.cells #[.bool false, .slice none 0 0] 26)).drew) (Ra.below CZ (Nat.le_refl _))).mono ?_; rintro e wc1 ⟨vs0, rfl, os0, bb1⟩; have C1 := CZ.trans (bb1.mono hCZ); have hC1 := Nat.le_trans hCZ bb1.size; have obx := obz.below bb1 (Nat.le_refl _); have hbx := Nat.lt_of_lt_of_le hbz bb1.size)
             )
           have ka := oa.below C1 (Nat.le_refl _)
           have kb := ob.below C1 (Nat.le_refl _)
           have ka0 := ka.c0
           have ka1 := ka.c1
           have kb0 := kb.c0
           have kb1 := kb.c1)
        | (go_at_call 15
           (first
             | (have qx := obx; refine (kF vs0 _ (wc1) os0.row (Rb.below C1 (Nat.le_refl _))).mono ?_; rintro e wc2 ⟨vF, rfl, oF, bb2⟩; have os0 := os0.below bb2 (Nat.le_refl _); have hBF := hC1; have hXF := qx.hi; have C2 := C1.trans (bb2.mono hC1); have hC2 := Nat.le_trans hC1 bb2.size; have obx := qx.below bb2 (Nat.le_refl _); clear qx)
             | (refine (kF vs0 _ (wc1) os0.row (Rb.below C1 (Nat.le_refl _))).mono ?_; rintro e wc2 ⟨vF, rfl, oF, bb2⟩; have os0 := os0.below bb2 (Nat.le_refl _); have hBF := hC1; have C2 := C1.trans (bb2.mono hC1); have hC2 := Nat.le_trans hC1 bb2.size)
             | (have CA := C1.alloc hC1 (.cells #[.bool false, .slice none 0 0] 26); refine (kF vs0 _ ((wc1.alloc (.cells #[.bool false, .slice none 0 0] 26))) (os0.below (below1 wc1 (.cells #[.bool false, .slice none 0 0] 26)) (Nat.le_refl _)).row (Rb.below CA (Nat.le_refl _))).mono ?_; rintro e wc2 ⟨vF, rfl, oF, bb2⟩; have os0 := (os0.below (below1 wc1 (.cells #[.bool false, .slice none 0 0] 26)) (Nat.le_refl _)).below bb2 (Nat.le_refl _); have hBF : w10.heap.size ≤ (wc1.alloc (.cells #[.bool false, .slice none 0 0] 26)).heap.size := Nat.le_trans hC1 (below1 wc1 (.cells #[.bool false, .slice none 0 0] 26)).size; have hXF : wc1.heap.size < (wc1.alloc (.cells #[.bool false, .slice none 0 0] 26)).heap.size := (by simp); have C2 := CA.trans (bb2.mono (Nat.le_trans hC1 (below1 wc1 (.cells #[.bool false, .slice none 0 0] 26)).size)); have hC2 := Nat.le_trans (Nat.le_trans hC1 (below1 wc1 (.cells #[.bool false, .slice none 0 0] 26)).size) bb2.size; have obx := ((BoxW.made wc1 (.bool false) (.slice none 0 0) 26).mono hC1).below bb2 (Nat.le_refl _); have hbx : wc1.heap.size < (wc1.alloc (.cells #[.bool false, .slice none 0 0] 26)).heap.size := (by simp); have naa : ¬ (wc1.heap.size = w1.heap.size) := (by omega); have nba : ¬ (w1.heap.size = wc1.heap.size) := (by omega); have nab : ¬ (wc1.heap.size = w1.heap.size + 1) := (by omega); have nbb : ¬ (w1.heap.size + 1 = wc1.heap.size) := (by omega))
             )
           have ka := oa.below C2 (Nat.le_refl _)
           have kb := ob.below C2 (Nat.le_refl _)
           have ka0 := ka.c0
           have ka1 := ka.c1
           have kb0 := kb.c0
           have kb1 := kb.c1
           obtain ⟨sF, rfl, hqF⟩ := id oF
           obtain ⟨ad, cp, rfl, -⟩ := hqF.row
           clear hqF
           have nua : ¬ (wc2.heap.size = w1.heap.size) := by omega
           have nva : ¬ (w1.heap.size = wc2.heap.size) := by omega
           have nub : ¬ (wc2.heap.size = w1.heap.size + 1) := by omega
           have nvb : ¬ (w1.heap.size + 1 = wc2.heap.size) := by omega
           (try have ox0 := obx.c0)
           (try have ox1 := obx.c1)
           (try have ox2 := obx.f0)
           (try have ox3 := obx.f1))
        )
      all_goals first
        | (have hcut := cut_old obx oF hBF hXF C2 (.bool q.1) (.slice ad q.2.length cp); exact cutM_in vs0 vs1 ad cp _ rfl hcut)
        | (have hcut := cut_new oF hBF hC2 C2 26 (.bool q.1) (.slice ad q.2.length cp); generalize wc2.heap.size = bx at *; exact cutM_in vs0 vs1 ad cp bx rfl hcut)
    intro vs0 vs1 ad11 cp11 bk11 w11 oN11 oX11 dX11 b11
    replace Ra := Ra.below b11 (Nat.le_refl _)
    replace Rb := Rb.below b11 (Nat.le_refl _)
    replace Rs := Rs.below b11 (Nat.le_refl _)
    replace Rp := Rp.below b11 (Nat.le_refl _)
    replace Xa := Xa.below b11 (Nat.le_refl _)
    replace Xb := Xb.below b11 (Nat.le_refl _)
    replace Xs := Xs.below b11 (Nat.le_refl _)
    replace Xz7 := Xz7.below b11 (Nat.le_refl _)
    replace Xp := Xp.below b11 (Nat.le_refl _)
    replace B := B.trans (b11.mono B.size)
    clear oa ob
    have Rq := oN11.row
    have Xq := oX11
    clear oN11 oX11 dX11 b11
    clear kF
    cases o
    · have c0a := Xa.c0
      have c1a := Xa.c1
      have c0b := Xb.c0
      have c1b := Xb.c1
      have c0s := Xs.c0
      have c1s := Xs.c1
      have c0z7 := Xz7.c0
      have c1z7 := Xz7.c1
      have c0p := Xp.c0
      have c1p := Xp.c1
      have c0q := Xq.c0
      have c1q := Xq.c1
      go_wp2_with fail
      clear c0a c1a c0b c1b c0s c1s c0z7 c1z7 c0p c1p c0q c1q
      have bd := (Below.refl w11.heap.size w11).drew
      replace Ra := Ra.below bd (Nat.le_refl _)
      replace Rb := Rb.below bd (Nat.le_refl _)
      replace Rp := Rp.below bd (Nat.le_refl _)
      replace Rq := Rq.below bd (Nat.le_refl _)
      replace Rs := Rs.below bd (Nat.le_refl _)
      replace Xa := Xa.below bd (Nat.le_refl _)
      replace Xb := Xb.below bd (Nat.le_refl _)
      replace Xs := Xs.below bd (Nat.le_refl _)
      replace Xz7 := Xz7.below bd (Nat.le_refl _)
      replace Xp := Xp.below bd (Nat.le_refl _)
      replace Xq := Xq.below bd (Nat.le_refl _)
      replace B := B.trans (bd.mono B.size)
      refine wp_region_held_drew (S := fun W => W.cell? ⟨w1.heap.size, 0, none⟩ = some (.bool ra.1) ∧ W.cell? ⟨w1.heap.size, 1, none⟩ = some (.slice ad1 ra.2.length cp1) ∧ W.cell? ⟨w1.heap.size + 1, 0, none⟩ = some (.bool rb.1) ∧ W.cell? ⟨w1.heap.size + 1, 1, none⟩ = some (.slice ae1 rb.2.length cq1) ∧ W.cell? ⟨w9.heap.size, 0, none⟩ = some (.bool p.1) ∧ W.cell? ⟨w9.heap.size, 1, none⟩ = some (.slice ad9 p.2.length cp9) ∧ W.cell? ⟨bk11, 0, none⟩ = some (.bool q.1) ∧ W.cell? ⟨bk11, 1, none⟩ = some (.slice ad11 q.2.length cp11)) (by kernel_rfl) ⟨Xa.c0, Xa.c1, Xb.c0, Xb.c1, Xp.c0, Xp.c1, Xq.c0, Xq.c1⟩ ?_
      intro hHeld
      clear bd
      generalize w11.drew = wq at *
      refine takeH 0 (some 71) (.bool false) rfl rfl (by kernel_rfl) (by kernel_rfl) (by kernel_rfl) (fun _ _ _ h => h) (yg_move rfl (.tmp 8) rfl _ rfl) (by assumption) ?_
      simp only [Act.put, List.setIfInBounds_toArray, List.set_cons_zero, List.set_cons_succ]
      refine takeH 1 (some 72) (.bool false) rfl rfl (by kernel_rfl) (by kernel_rfl) (by kernel_rfl) (fun _ _ _ h => h) (yg_move rfl (.tmp 10) rfl _ rfl) (by assumption) ?_
      simp only [Act.put, List.setIfInBounds_toArray, List.set_cons_zero, List.set_cons_succ]
      refine takeH 2 (some 73) (.bool false) rfl rfl (by kernel_rfl) (by kernel_rfl) (by kernel_rfl) (fun _ _ _ h => h) (Or.inl ⟨rfl, fun W hW => by obtain _ := hW; go_simp⟩) (by assumption) ?_
      simp only [Act.put, List.setIfInBounds_toArray, List.set_cons_zero, List.set_cons_succ]
      refine takeH 3 (some 74) (.bool false) rfl rfl (by kernel_rfl) (by kernel_rfl) (by kernel_rfl) (fun _ _ _ h => h) (yg_move rfl (.tmp 73) rfl _ rfl) (by assumption) ?_
      simp only [Act.put, List.setIfInBounds_toArray, List.set_cons_zero, List.set_cons_succ]
      refine takeH 4 (some 75) (.agg #[.bool p.1, .slice ad9 p.2.length cp9]) rfl rfl (by kernel_rfl) (by kernel_rfl) (by kernel_rfl) (fun _ _ _ h => h) (Or.inl ⟨rfl, fun W hW => by obtain ⟨_, _, _, _, _a, _b, _, _⟩ := hW; go_simp⟩) (by assumption) ?_
      simp only [Act.put, List.setIfInBounds_toArray, List.set_cons_zero, List.set_cons_succ]
      refine takeH 6 (some 77) (.agg #[.bool q.1, .slice ad11 q.2.length cp11]) rfl rfl (by kernel_rfl) (by kernel_rfl) (by kernel_rfl) (fun _ _ _ h => h) (Or.inl ⟨rfl, fun W hW => by obtain ⟨_, _, _, _, _, _, _a, _b⟩ := hW; go_simp⟩) (by assumption) ?_
      simp only [Act.put, List.setIfInBounds_toArray, List.set_cons_zero, List.set_cons_succ]
      refine oneH 5 rfl (by kernel_rfl) (fun K' hK => ?_)
      go_simp
      refine (iWholeNeg _ p _ Rp (by omega)).mono ?_
      rintro e wr ⟨vn, rfl, on, bn⟩
      replace Ra := Ra.below bn (Nat.le_refl _)
      replace Rb := Rb.below bn (Nat.le_refl _)
      replace Rp := Rp.below bn (Nat.le_refl _)
      replace Rq := Rq.below bn (Nat.le_refl _)
      replace Rs := Rs.below bn (Nat.le_refl _)
      replace Xa := Xa.below bn (Nat.le_refl _)
      replace Xb := Xb.below bn (Nat.le_refl _)
      replace Xs := Xs.below bn (Nat.le_refl _)
      replace Xz7 := Xz7.below bn (Nat.le_refl _)
      replace Xp := Xp.below bn (Nat.le_refl _)
      replace Xq := Xq.below bn (Nat.le_refl _)
      replace B := B.trans (bn.mono B.size)
      refine hK _ _ ⟨Xa.c0, Xa.c1, Xb.c0, Xb.c1, Xp.c0, Xp.c1, Xq.c0, Xq.c1⟩ ?_
      clear hK hHeld
      have kS := sameWh _ _ (wnegR p) q _ on.row Rq (by omega)
      rw [HP.out] at kS
      refine oneH 7 rfl (by kernel_rfl) (fun K' hK => ?_)
      go_simp
      refine kS.mono ?_
      rintro e ws ⟨rfl, bs⟩
      replace Ra := Ra.below bs (Nat.le_refl _)
      replace Rb := Rb.below bs (Nat.le_refl _)
      replace Rp := Rp.below bs (Nat.le_refl _)
      replace Rq := Rq.below bs (Nat.le_refl _)
      replace Rs := Rs.below bs (Nat.le_refl _)
      replace Xa := Xa.below bs (Nat.le_refl _)
      replace Xb := Xb.below bs (Nat.le_refl _)
      replace Xs := Xs.below bs (Nat.le_refl _)
      replace Xz7 := Xz7.below bs (Nat.le_refl _)
      replace Xp := Xp.below bs (Nat.le_refl _)
      replace Xq := Xq.below bs (Nat.le_refl _)
      replace B := B.trans (bs.mono B.size)
      refine hK _ _ ⟨Xa.c0, Xa.c1, Xb.c0, Xb.c1, Xp.c0, Xp.c1, Xq.c0, Xq.c1⟩ ?_
      clear hK kS on bn bs
      have hHeld := (⟨Xa.c0, Xa.c1, Xb.c0, Xb.c1, Xp.c0, Xp.c1, Xq.c0, Xq.c1⟩ : _ ∧ _ ∧ _ ∧ _ ∧ _ ∧ _ ∧ _ ∧ _)
      refine takeH 8 (some 79) (.bool false) rfl rfl (by kernel_rfl) (by kernel_rfl) (by kernel_rfl) (fun _ _ _ h => h) (Or.inl ⟨rfl, fun W hW => by obtain _ := hW; go_simp⟩) (by assumption) ?_
      simp only [Act.put, List.setIfInBounds_toArray, List.set_cons_zero, List.set_cons_succ]
      refine takeH 9 (some 80) (.bool false) rfl rfl (by kernel_rfl) (by kernel_rfl) (by kernel_rfl) (fun _ _ _ h => h) (Or.inl ⟨rfl, fun W hW => by obtain _ := hW; go_simp⟩) (by assumption) ?_
      simp only [Act.put, List.setIfInBounds_toArray, List.set_cons_zero, List.set_cons_succ]
      refine takeH 10 (some 81) (.bool false) rfl rfl (by kernel_rfl) (by kernel_rfl) (by kernel_rfl) (fun _ _ _ h => h) (yg_move rfl (.tmp 80) rfl _ rfl) (by assumption) ?_
      simp only [Act.put, List.setIfInBounds_toArray, List.set_cons_zero, List.set_cons_succ]
      refine takeH 11 (some 82) (.agg #[.bool rb.1, .slice ae1 rb.2.length cq1]) rfl rfl (by kernel_rfl) (by kernel_rfl) (by kernel_rfl) (fun _ _ _ h => h) (Or.inl ⟨rfl, fun W hW => by obtain ⟨_, _, _a, _b, _, _, _, _⟩ := hW; go_simp⟩) (by assumption) ?_
      simp only [Act.put, List.setIfInBounds_toArray, List.set_cons_zero, List.set_cons_succ]
      refine takeH 13 (some 84) (.agg #[.bool ra.1, .slice ad1 ra.2.length cp1]) rfl rfl (by kernel_rfl) (by kernel_rfl) (by kernel_rfl) (fun _ _ _ h => h) (Or.inl ⟨rfl, fun W hW => by obtain ⟨_a, _b, _, _, _, _, _, _⟩ := hW; go_simp⟩) (by assumption) ?_
      simp only [Act.put, List.setIfInBounds_toArray, List.set_cons_zero, List.set_cons_succ]
      refine takeH 16 (some 87) (.agg #[.bool ra.1, .slice ad1 ra.2.length cp1]) rfl rfl (by kernel_rfl) (by kernel_rfl) (by kernel_rfl) (fun _ _ _ h => h) (Or.inl ⟨rfl, fun W hW => by obtain ⟨_a, _b, _, _, _, _, _, _⟩ := hW; go_simp⟩) (by assumption) ?_
      simp only [Act.put, List.setIfInBounds_toArray, List.set_cons_zero, List.set_cons_succ]
      refine takeH 17 (some 88) (.agg #[.bool rb.1, .slice ae1 rb.2.length cq1]) rfl rfl (by kernel_rfl) (by kernel_rfl) (by kernel_rfl) (fun _ _ _ h => h) (Or.inl ⟨rfl, fun W hW => by obtain ⟨_, _, _a, _b, _, _, _, _⟩ := hW; go_simp⟩) (by assumption) ?_
      simp only [Act.put, List.setIfInBounds_toArray, List.set_cons_zero, List.set_cons_succ]
      refine oneH 12 rfl (by kernel_rfl) (fun K' hK => ?_)
      go_simp
      refine (kNb _ Rb).mono ?_
      rintro e wt ⟨v12, rfl, o12, b12⟩
      replace Ra := Ra.below b12 (Nat.le_refl _)
      replace Rb := Rb.below b12 (Nat.le_refl _)
      replace Rp := Rp.below b12 (Nat.le_refl _)
      replace Rq := Rq.below b12 (Nat.le_refl _)
      replace Rs := Rs.below b12 (Nat.le_refl _)
      replace Xa := Xa.below b12 (Nat.le_refl _)
      replace Xb := Xb.below b12 (Nat.le_refl _)
      replace Xs := Xs.below b12 (Nat.le_refl _)
      replace Xz7 := Xz7.below b12 (Nat.le_refl _)
      replace Xp := Xp.below b12 (Nat.le_refl _)
      replace Xq := Xq.below b12 (Nat.le_refl _)
      replace B := B.trans (b12.mono B.size)
      refine hK _ _ ⟨Xa.c0, Xa.c1, Xb.c0, Xb.c1, Xp.c0, Xp.c1, Xq.c0, Xq.c1⟩ ?_
      clear hK hHeld
      refine oneH 14 rfl (by kernel_rfl) (fun K' hK => ?_)
      go_simp
      refine (kN _ Ra).mono ?_
      rintro e wu ⟨v14, rfl, o14, b14⟩
      replace Ra := Ra.below b14 (Nat.le_refl _)
      replace Rb := Rb.below b14 (Nat.le_refl _)
      replace Rp := Rp.below b14 (Nat.le_refl _)
      replace Rq := Rq.below b14 (Nat.le_refl _)
      replace Rs := Rs.below b14 (Nat.le_refl _)
      replace Xa := Xa.below b14 (Nat.le_refl _)
      replace Xb := Xb.below b14 (Nat.le_refl _)
      replace Xs := Xs.below b14 (Nat.le_refl _)
      replace Xz7 := Xz7.below b14 (Nat.le_refl _)
      replace Xp := Xp.below b14 (Nat.le_refl _)
      replace Xq := Xq.below b14 (Nat.le_refl _)
      replace o12 := o12.below b14 (Nat.le_refl _)
      replace B := B.trans (b14.mono B.size)
      refine hK _ _ ⟨Xa.c0, Xa.c1, Xb.c0, Xb.c1, Xp.c0, Xp.c1, Xq.c0, Xq.c1⟩ ?_
      clear hK
      refine oneH 15 rfl (by kernel_rfl) (fun K' hK => ?_)
      go_simp
      refine (kC1 _ _ _ o12.row o14.row).mono ?_
      rintro e wv ⟨rfl, b15⟩
      replace Ra := Ra.below b15 (Nat.le_refl _)
      replace Rb := Rb.below b15 (Nat.le_refl _)
      replace Rp := Rp.below b15 (Nat.le_refl _)
      replace Rq := Rq.below b15 (Nat.le_refl _)
      replace Rs := Rs.below b15 (Nat.le_refl _)
      replace Xa := Xa.below b15 (Nat.le_refl _)
      replace Xb := Xb.below b15 (Nat.le_refl _)
      replace Xs := Xs.below b15 (Nat.le_refl _)
      replace Xz7 := Xz7.below b15 (Nat.le_refl _)
      replace Xp := Xp.below b15 (Nat.le_refl _)
      replace Xq := Xq.below b15 (Nat.le_refl _)
      replace B := B.trans (b15.mono B.size)
      refine hK _ _ ⟨Xa.c0, Xa.c1, Xb.c0, Xb.c1, Xp.c0, Xp.c1, Xq.c0, Xq.c1⟩ ?_
      clear hK o12 o14
      have kC2 := iWholeCmp _ _ ra rb wv Ra Rb (by omega) (by omega)
      rw [HF5.out] at kC2
      refine oneH 18 rfl (by kernel_rfl) (fun K' hK => ?_)
      go_simp
      refine kC2.mono ?_
      rintro e wz ⟨rfl, b18⟩
      replace Ra := Ra.below b18 (Nat.le_refl _)
      replace Rb := Rb.below b18 (Nat.le_refl _)
      replace Rp := Rp.below b18 (Nat.le_refl _)
      replace Rq := Rq.below b18 (Nat.le_refl _)
      replace Rs := Rs.below b18 (Nat.le_refl _)
      replace Xa := Xa.below b18 (Nat.le_refl _)
      replace Xb := Xb.below b18 (Nat.le_refl _)
      replace Xs := Xs.below b18 (Nat.le_refl _)
      replace Xz7 := Xz7.below b18 (Nat.le_refl _)
      replace Xp := Xp.below b18 (Nat.le_refl _)
      replace Xq := Xq.below b18 (Nat.le_refl _)
      replace B := B.trans (b18.mono B.size)
      refine hK _ _ ⟨Xa.c0, Xa.c1, Xb.c0, Xb.c1, Xp.c0, Xp.c1, Xq.c0, Xq.c1⟩ ?_
      clear hK kC2 kC1 kN kNb
      have hHeld := (⟨Xa.c0, Xa.c1, Xb.c0, Xb.c1, Xp.c0, Xp.c1, Xq.c0, Xq.c1⟩ : _ ∧ _ ∧ _ ∧ _ ∧ _ ∧ _ ∧ _ ∧ _)
      refine takeH 19 (some 90) (.bool false) rfl rfl (by kernel_rfl) (by kernel_rfl) (by kernel_rfl) (fun _ _ _ h => h) (Or.inl ⟨rfl, fun W hW => by obtain _ := hW; go_simp⟩) (by assumption) ?_
      simp only [Act.put, List.setIfInBounds_toArray, List.set_cons_zero, List.set_cons_succ]
      refine takeH 20 (some 91) (.bool false) rfl rfl (by kernel_rfl) (by kernel_rfl) (by kernel_rfl) (fun _ _ _ h => h) (Or.inl ⟨rfl, fun W hW => by obtain _ := hW; go_simp⟩) (by assumption) ?_
      simp only [Act.put, List.setIfInBounds_toArray, List.set_cons_zero, List.set_cons_succ]
      refine wpAnyH_done (by kernel_rfl) ?_ _
      clear hHeld b12 b14 b15 b18
      have e := HF7.out (by first | rfl | trivial)
      subst e
      have c0a := Xa.c0
      have c1a := Xa.c1
      have c0b := Xb.c0
      have c1b := Xb.c1
      have c0s := Xs.c0
      have c1s := Xs.c1
      have c0z7 := Xz7.c0
      have c1z7 := Xz7.c1
      have c0p := Xp.c0
      have c1p := Xp.c1
      have c0q := Xq.c0
      have c1q := Xq.c1
      go_wp2
      go_ret
      exact ⟨rfl, B⟩
    · have c0a := Xa.c0
      have c1a := Xa.c1
      have c0b := Xb.c0
      have c1b := Xb.c1
      have c0s := Xs.c0
      have c1s := Xs.c1
      have c0z7 := Xz7.c0
      have c1z7 := Xz7.c1
      have c0p := Xp.c0
      have c1p := Xp.c1
      have c0q := Xq.c0
      have c1q := Xq.c1
      go_wp2_with fail
      clear c0a c1a c0b c1b c0s c1s c0z7 c1z7 c0p c1p c0q c1q
      have bd := (Below.refl w11.heap.size w11).drew
      replace Ra := Ra.below bd (Nat.le_refl _)
      replace Rb := Rb.below bd (Nat.le_refl _)
      replace Rp := Rp.below bd (Nat.le_refl _)
      replace Rq := Rq.below bd (Nat.le_refl _)
      replace Rs := Rs.below bd (Nat.le_refl _)
      replace Xa := Xa.below bd (Nat.le_refl _)
      replace Xb := Xb.below bd (Nat.le_refl _)
      replace Xs := Xs.below bd (Nat.le_refl _)
      replace Xz7 := Xz7.below bd (Nat.le_refl _)
      replace Xp := Xp.below bd (Nat.le_refl _)
      replace Xq := Xq.below bd (Nat.le_refl _)
      replace B := B.trans (bd.mono B.size)
      refine wp_region_held_drew (S := fun W => W.cell? ⟨w1.heap.size, 0, none⟩ = some (.bool ra.1) ∧ W.cell? ⟨w1.heap.size, 1, none⟩ = some (.slice ad1 ra.2.length cp1) ∧ W.cell? ⟨w1.heap.size + 1, 0, none⟩ = some (.bool rb.1) ∧ W.cell? ⟨w1.heap.size + 1, 1, none⟩ = some (.slice ae1 rb.2.length cq1) ∧ W.cell? ⟨w9.heap.size, 0, none⟩ = some (.bool p.1) ∧ W.cell? ⟨w9.heap.size, 1, none⟩ = some (.slice ad9 p.2.length cp9) ∧ W.cell? ⟨bk11, 0, none⟩ = some (.bool q.1) ∧ W.cell? ⟨bk11, 1, none⟩ = some (.slice ad11 q.2.length cp11)) (by kernel_rfl) ⟨Xa.c0, Xa.c1, Xb.c0, Xb.c1, Xp.c0, Xp.c1, Xq.c0, Xq.c1⟩ ?_
      intro hHeld
      clear bd
      generalize w11.drew = wq at *
      refine takeH 0 (some 71) (.bool true) rfl rfl (by kernel_rfl) (by kernel_rfl) (by kernel_rfl) (fun _ _ _ h => h) (yg_move rfl (.tmp 8) rfl _ rfl) (by assumption) ?_
      simp only [Act.put, List.setIfInBounds_toArray, List.set_cons_zero, List.set_cons_succ]
      refine takeH 1 (some 72) (.bool true) rfl rfl (by kernel_rfl) (by kernel_rfl) (by kernel_rfl) (fun _ _ _ h => h) (yg_move rfl (.tmp 10) rfl _ rfl) (by assumption) ?_
      simp only [Act.put, List.setIfInBounds_toArray, List.set_cons_zero, List.set_cons_succ]
      refine takeH 2 (some 73) (.bool false) rfl rfl (by kernel_rfl) (by kernel_rfl) (by kernel_rfl) (fun _ _ _ h => h) (Or.inl ⟨rfl, fun W hW => by obtain _ := hW; go_simp⟩) (by assumption) ?_
      simp only [Act.put, List.setIfInBounds_toArray, List.set_cons_zero, List.set_cons_succ]
      refine takeH 3 (some 74) (.bool false) rfl rfl (by kernel_rfl) (by kernel_rfl) (by kernel_rfl) (fun _ _ _ h => h) (yg_move rfl (.tmp 73) rfl _ rfl) (by assumption) ?_
      simp only [Act.put, List.setIfInBounds_toArray, List.set_cons_zero, List.set_cons_succ]
      refine takeH 4 (some 75) (.agg #[.bool p.1, .slice ad9 p.2.length cp9]) rfl rfl (by kernel_rfl) (by kernel_rfl) (by kernel_rfl) (fun _ _ _ h => h) (Or.inl ⟨rfl, fun W hW => by obtain ⟨_, _, _, _, _a, _b, _, _⟩ := hW; go_simp⟩) (by assumption) ?_
      simp only [Act.put, List.setIfInBounds_toArray, List.set_cons_zero, List.set_cons_succ]
      refine takeH 6 (some 77) (.agg #[.bool q.1, .slice ad11 q.2.length cp11]) rfl rfl (by kernel_rfl) (by kernel_rfl) (by kernel_rfl) (fun _ _ _ h => h) (Or.inl ⟨rfl, fun W hW => by obtain ⟨_, _, _, _, _, _, _a, _b⟩ := hW; go_simp⟩) (by assumption) ?_
      simp only [Act.put, List.setIfInBounds_toArray, List.set_cons_zero, List.set_cons_succ]
      refine oneH 5 rfl (by kernel_rfl) (fun K' hK => ?_)
      go_simp
      refine (iWholeNeg _ p _ Rp (by omega)).mono ?_
      rintro e wr ⟨vn, rfl, on, bn⟩
      replace Ra := Ra.below bn (Nat.le_refl _)
      replace Rb := Rb.below bn (Nat.le_refl _)
      replace Rp := Rp.below bn (Nat.le_refl _)
      replace Rq := Rq.below bn (Nat.le_refl _)
      replace Rs := Rs.below bn (Nat.le_refl _)
      replace Xa := Xa.below bn (Nat.le_refl _)
      replace Xb := Xb.below bn (Nat.le_refl _)
      replace Xs := Xs.below bn (Nat.le_refl _)
      replace Xz7 := Xz7.below bn (Nat.le_refl _)
      replace Xp := Xp.below bn (Nat.le_refl _)
      replace Xq := Xq.below bn (Nat.le_refl _)
      replace B := B.trans (bn.mono B.size)
      refine hK _ _ ⟨Xa.c0, Xa.c1, Xb.c0, Xb.c1, Xp.c0, Xp.c1, Xq.c0, Xq.c1⟩ ?_
      clear hK hHeld
      have kS := sameWh _ _ (wnegR p) q _ on.row Rq (by omega)
      rw [HP.out] at kS
      refine oneH 7 rfl (by kernel_rfl) (fun K' hK => ?_)
      go_simp
      refine kS.mono ?_
      rintro e ws ⟨rfl, bs⟩
      replace Ra := Ra.below bs (Nat.le_refl _)
      replace Rb := Rb.below bs (Nat.le_refl _)
      replace Rp := Rp.below bs (Nat.le_refl _)
      replace Rq := Rq.below bs (Nat.le_refl _)
      replace Rs := Rs.below bs (Nat.le_refl _)
      replace Xa := Xa.below bs (Nat.le_refl _)
      replace Xb := Xb.below bs (Nat.le_refl _)
      replace Xs := Xs.below bs (Nat.le_refl _)
      replace Xz7 := Xz7.below bs (Nat.le_refl _)
      replace Xp := Xp.below bs (Nat.le_refl _)
      replace Xq := Xq.below bs (Nat.le_refl _)
      replace B := B.trans (bs.mono B.size)
      refine hK _ _ ⟨Xa.c0, Xa.c1, Xb.c0, Xb.c1, Xp.c0, Xp.c1, Xq.c0, Xq.c1⟩ ?_
      clear hK kS on bn bs
      have hHeld := (⟨Xa.c0, Xa.c1, Xb.c0, Xb.c1, Xp.c0, Xp.c1, Xq.c0, Xq.c1⟩ : _ ∧ _ ∧ _ ∧ _ ∧ _ ∧ _ ∧ _ ∧ _)
      refine takeH 8 (some 79) (.bool false) rfl rfl (by kernel_rfl) (by kernel_rfl) (by kernel_rfl) (fun _ _ _ h => h) (Or.inl ⟨rfl, fun W hW => by obtain _ := hW; go_simp⟩) (by assumption) ?_
      simp only [Act.put, List.setIfInBounds_toArray, List.set_cons_zero, List.set_cons_succ]
      refine takeH 9 (some 80) (.bool false) rfl rfl (by kernel_rfl) (by kernel_rfl) (by kernel_rfl) (fun _ _ _ h => h) (Or.inl ⟨rfl, fun W hW => by obtain _ := hW; go_simp⟩) (by assumption) ?_
      simp only [Act.put, List.setIfInBounds_toArray, List.set_cons_zero, List.set_cons_succ]
      refine takeH 10 (some 81) (.bool false) rfl rfl (by kernel_rfl) (by kernel_rfl) (by kernel_rfl) (fun _ _ _ h => h) (yg_move rfl (.tmp 80) rfl _ rfl) (by assumption) ?_
      simp only [Act.put, List.setIfInBounds_toArray, List.set_cons_zero, List.set_cons_succ]
      refine takeH 11 (some 82) (.agg #[.bool rb.1, .slice ae1 rb.2.length cq1]) rfl rfl (by kernel_rfl) (by kernel_rfl) (by kernel_rfl) (fun _ _ _ h => h) (Or.inl ⟨rfl, fun W hW => by obtain ⟨_, _, _a, _b, _, _, _, _⟩ := hW; go_simp⟩) (by assumption) ?_
      simp only [Act.put, List.setIfInBounds_toArray, List.set_cons_zero, List.set_cons_succ]
      refine takeH 13 (some 84) (.agg #[.bool ra.1, .slice ad1 ra.2.length cp1]) rfl rfl (by kernel_rfl) (by kernel_rfl) (by kernel_rfl) (fun _ _ _ h => h) (Or.inl ⟨rfl, fun W hW => by obtain ⟨_a, _b, _, _, _, _, _, _⟩ := hW; go_simp⟩) (by assumption) ?_
      simp only [Act.put, List.setIfInBounds_toArray, List.set_cons_zero, List.set_cons_succ]
      refine takeH 16 (some 87) (.agg #[.bool ra.1, .slice ad1 ra.2.length cp1]) rfl rfl (by kernel_rfl) (by kernel_rfl) (by kernel_rfl) (fun _ _ _ h => h) (Or.inl ⟨rfl, fun W hW => by obtain ⟨_a, _b, _, _, _, _, _, _⟩ := hW; go_simp⟩) (by assumption) ?_
      simp only [Act.put, List.setIfInBounds_toArray, List.set_cons_zero, List.set_cons_succ]
      refine takeH 17 (some 88) (.agg #[.bool rb.1, .slice ae1 rb.2.length cq1]) rfl rfl (by kernel_rfl) (by kernel_rfl) (by kernel_rfl) (fun _ _ _ h => h) (Or.inl ⟨rfl, fun W hW => by obtain ⟨_, _, _a, _b, _, _, _, _⟩ := hW; go_simp⟩) (by assumption) ?_
      simp only [Act.put, List.setIfInBounds_toArray, List.set_cons_zero, List.set_cons_succ]
      refine oneH 12 rfl (by kernel_rfl) (fun K' hK => ?_)
      go_simp
      refine (kNb _ Rb).mono ?_
      rintro e wt ⟨v12, rfl, o12, b12⟩
      replace Ra := Ra.below b12 (Nat.le_refl _)
      replace Rb := Rb.below b12 (Nat.le_refl _)
      replace Rp := Rp.below b12 (Nat.le_refl _)
      replace Rq := Rq.below b12 (Nat.le_refl _)
      replace Rs := Rs.below b12 (Nat.le_refl _)
      replace Xa := Xa.below b12 (Nat.le_refl _)
      replace Xb := Xb.below b12 (Nat.le_refl _)
      replace Xs := Xs.below b12 (Nat.le_refl _)
      replace Xz7 := Xz7.below b12 (Nat.le_refl _)
      replace Xp := Xp.below b12 (Nat.le_refl _)
      replace Xq := Xq.below b12 (Nat.le_refl _)
      replace B := B.trans (b12.mono B.size)
      refine hK _ _ ⟨Xa.c0, Xa.c1, Xb.c0, Xb.c1, Xp.c0, Xp.c1, Xq.c0, Xq.c1⟩ ?_
      clear hK hHeld
      refine oneH 14 rfl (by kernel_rfl) (fun K' hK => ?_)
      go_simp
      refine (kN _ Ra).mono ?_
      rintro e wu ⟨v14, rfl, o14, b14⟩
      replace Ra := Ra.below b14 (Nat.le_refl _)
      replace Rb := Rb.below b14 (Nat.le_refl _)
      replace Rp := Rp.below b14 (Nat.le_refl _)
      replace Rq := Rq.below b14 (Nat.le_refl _)
      replace Rs := Rs.below b14 (Nat.le_refl _)
      replace Xa := Xa.below b14 (Nat.le_refl _)
      replace Xb := Xb.below b14 (Nat.le_refl _)
      replace Xs := Xs.below b14 (Nat.le_refl _)
      replace Xz7 := Xz7.below b14 (Nat.le_refl _)
      replace Xp := Xp.below b14 (Nat.le_refl _)
      replace Xq := Xq.below b14 (Nat.le_refl _)
      replace o12 := o12.below b14 (Nat.le_refl _)
      replace B := B.trans (b14.mono B.size)
      refine hK _ _ ⟨Xa.c0, Xa.c1, Xb.c0, Xb.c1, Xp.c0, Xp.c1, Xq.c0, Xq.c1⟩ ?_
      clear hK
      refine oneH 15 rfl (by kernel_rfl) (fun K' hK => ?_)
      go_simp
      refine (kC1 _ _ _ o12.row o14.row).mono ?_
      rintro e wv ⟨rfl, b15⟩
      replace Ra := Ra.below b15 (Nat.le_refl _)
      replace Rb := Rb.below b15 (Nat.le_refl _)
      replace Rp := Rp.below b15 (Nat.le_refl _)
      replace Rq := Rq.below b15 (Nat.le_refl _)
      replace Rs := Rs.below b15 (Nat.le_refl _)
      replace Xa := Xa.below b15 (Nat.le_refl _)
      replace Xb := Xb.below b15 (Nat.le_refl _)
      replace Xs := Xs.below b15 (Nat.le_refl _)
      replace Xz7 := Xz7.below b15 (Nat.le_refl _)
      replace Xp := Xp.below b15 (Nat.le_refl _)
      replace Xq := Xq.below b15 (Nat.le_refl _)
      replace B := B.trans (b15.mono B.size)
      refine hK _ _ ⟨Xa.c0, Xa.c1, Xb.c0, Xb.c1, Xp.c0, Xp.c1, Xq.c0, Xq.c1⟩ ?_
      clear hK o12 o14
      have kC2 := iWholeCmp _ _ ra rb wv Ra Rb (by omega) (by omega)
      rw [HF5.out] at kC2
      refine oneH 18 rfl (by kernel_rfl) (fun K' hK => ?_)
      go_simp
      refine kC2.mono ?_
      rintro e wz ⟨rfl, b18⟩
      replace Ra := Ra.below b18 (Nat.le_refl _)
      replace Rb := Rb.below b18 (Nat.le_refl _)
      replace Rp := Rp.below b18 (Nat.le_refl _)
      replace Rq := Rq.below b18 (Nat.le_refl _)
      replace Rs := Rs.below b18 (Nat.le_refl _)
      replace Xa := Xa.below b18 (Nat.le_refl _)
      replace Xb := Xb.below b18 (Nat.le_refl _)
      replace Xs := Xs.below b18 (Nat.le_refl _)
      replace Xz7 := Xz7.below b18 (Nat.le_refl _)
      replace Xp := Xp.below b18 (Nat.le_refl _)
      replace Xq := Xq.below b18 (Nat.le_refl _)
      replace B := B.trans (b18.mono B.size)
      refine hK _ _ ⟨Xa.c0, Xa.c1, Xb.c0, Xb.c1, Xp.c0, Xp.c1, Xq.c0, Xq.c1⟩ ?_
      clear hK kC2 kC1 kN kNb
      have hHeld := (⟨Xa.c0, Xa.c1, Xb.c0, Xb.c1, Xp.c0, Xp.c1, Xq.c0, Xq.c1⟩ : _ ∧ _ ∧ _ ∧ _ ∧ _ ∧ _ ∧ _ ∧ _)
      refine takeH 19 (some 90) (.bool false) rfl rfl (by kernel_rfl) (by kernel_rfl) (by kernel_rfl) (fun _ _ _ h => h) (Or.inl ⟨rfl, fun W hW => by obtain _ := hW; go_simp⟩) (by assumption) ?_
      simp only [Act.put, List.setIfInBounds_toArray, List.set_cons_zero, List.set_cons_succ]
      refine takeH 20 (some 91) (.bool false) rfl rfl (by kernel_rfl) (by kernel_rfl) (by kernel_rfl) (fun _ _ _ h => h) (Or.inl ⟨rfl, fun W hW => by obtain _ := hW; go_simp⟩) (by assumption) ?_
      simp only [Act.put, List.setIfInBounds_toArray, List.set_cons_zero, List.set_cons_succ]
      refine wpAnyH_done (by kernel_rfl) ?_ _
      clear hHeld b12 b14 b15 b18
      have f8 := HF8.out (by first | rfl | trivial)
      have c0a := Xa.c0
      have c1a := Xa.c1
      have c0b := Xb.c0
      have c1b := Xb.c1
      have c0s := Xs.c0
      have c1s := Xs.c1
      have c0z7 := Xz7.c0
      have c1z7 := Xz7.c1
      have c0p := Xp.c0
      have c1p := Xp.c1
      have c0q := Xq.c0
      have c1q := Xq.c1
      go_wp2_with fail
      clear c0a c1a c0b c1b c0s c1s c0z7 c1z7 c0p c1p c0q c1q
      have k13 := iWholeSub _ _ s rb wz Rs Rb (by omega) (by omega)
      rw [f8] at k13
      refine k13.mono ?_
      rintro e w13 ⟨v13, rfl, o13, b13⟩
      replace Ra := Ra.below b13 (Nat.le_refl _)
      replace Rb := Rb.below b13 (Nat.le_refl _)
      replace Rs := Rs.below b13 (Nat.le_refl _)
      replace Rp := Rp.below b13 (Nat.le_refl _)
      replace Rq := Rq.below b13 (Nat.le_refl _)
      replace Xa := Xa.below b13 (Nat.le_refl _)
      replace Xb := Xb.below b13 (Nat.le_refl _)
      replace Xs := Xs.below b13 (Nat.le_refl _)
      replace Xz7 := Xz7.below b13 (Nat.le_refl _)
      replace Xp := Xp.below b13 (Nat.le_refl _)
      replace Xq := Xq.below b13 (Nat.le_refl _)
      replace B := B.trans (b13.mono B.size)
      clear b13 k13
      obtain ⟨s13, rfl, q13⟩ := o13
      obtain ⟨ad13, cp13, rfl, -⟩ := q13.row
      have Rk : rowW w13 (.agg #[.bool ra.1, .slice ad13 ra.2.length cp13]) ra := ⟨_, rfl, q13.row⟩
      clear q13
      have d0a := Xa.c0
      have d1a := Xa.c1
      have dha := Xa.hi
      have d0b := Xb.c0
      have d1b := Xb.c1
      have dhb := Xb.hi
      have d0s := Xs.c0
      have d1s := Xs.c1
      have dhs := Xs.hi
      have d0z7 := Xz7.c0
      have d1z7 := Xz7.c1
      have dhz7 := Xz7.hi
      have d0p := Xp.c0
      have d1p := Xp.c1
      have dhp := Xp.hi
      have d0q := Xq.c0
      have d1q := Xq.c1
      have dhq := Xq.hi
      have bb := below1 w13 (.cells #[.bool ra.1, .slice ad13 ra.2.length cp13] 26)
      replace Ra := Ra.below bb (Nat.le_refl _)
      replace Rb := Rb.below bb (Nat.le_refl _)
      replace Rs := Rs.below bb (Nat.le_refl _)
      replace Rp := Rp.below bb (Nat.le_refl _)
      replace Rq := Rq.below bb (Nat.le_refl _)
      replace Rk := Rk.below bb (Nat.le_refl _)
      replace Xa := Xa.below bb (Nat.le_refl _)
      replace Xb := Xb.below bb (Nat.le_refl _)
      replace Xs := Xs.below bb (Nat.le_refl _)
      replace Xz7 := Xz7.below bb (Nat.le_refl _)
      replace Xp := Xp.below bb (Nat.le_refl _)
      replace Xq := Xq.below bb (Nat.le_refl _)
      replace B := B.trans (bb.mono B.size)
      clear bb
      have Xk := BoxW.made w13 (.bool ra.1) (.slice ad13 ra.2.length cp13) 26
      clear f8
      have c0a := Xa.c0
      have c1a := Xa.c1
      have c0b := Xb.c0
      have c1b := Xb.c1
      have c0s := Xs.c0
      have c1s := Xs.c1
      have c0z7 := Xz7.c0
      have c1z7 := Xz7.c1
      have c0p := Xp.c0
      have c1p := Xp.c1
      have c0q := Xq.c0
      have c1q := Xq.c1
      have c0k := Xk.c0
      have c1k := Xk.c1
      go_wp2_with fail
      clear c0a c1a c0b c1b c0s c1s c0z7 c1z7 c0p c1p c0q c1q c0k c1k
      clear d0a d1a dha d0b d1b dhb d0s d1s dhs d0z7 d1z7 dhz7 d0p d1p dhp d0q d1q dhq
      generalize w13.alloc (.cells #[.bool ra.1, .slice ad13 ra.2.length cp13] 26) = w14 at *
      have k15 := sameWh _ _ ra ra w14 Rk Ra (by omega)
      rw [show decide (ra = ra) = true from decide_eq_true rfl] at k15
      refine k15.mono ?_
      rintro e w15 ⟨rfl, b15⟩
      replace Ra := Ra.below b15 (Nat.le_refl _)
      replace Rb := Rb.below b15 (Nat.le_refl _)
      replace Rs := Rs.below b15 (Nat.le_refl _)
      replace Rp := Rp.below b15 (Nat.le_refl _)
      replace Rq := Rq.below b15 (Nat.le_refl _)
      replace Rk := Rk.below b15 (Nat.le_refl _)
      replace Xa := Xa.below b15 (Nat.le_refl _)
      replace Xb := Xb.below b15 (Nat.le_refl _)
      replace Xs := Xs.below b15 (Nat.le_refl _)
      replace Xz7 := Xz7.below b15 (Nat.le_refl _)
      replace Xp := Xp.below b15 (Nat.le_refl _)
      replace Xq := Xq.below b15 (Nat.le_refl _)
      replace Xk := Xk.below b15 (Nat.le_refl _)
      replace B := B.trans (b15.mono B.size)
      clear k15 b15
      have c0a := Xa.c0
      have c1a := Xa.c1
      have c0b := Xb.c0
      have c1b := Xb.c1
      have c0s := Xs.c0
      have c1s := Xs.c1
      have c0z7 := Xz7.c0
      have c1z7 := Xz7.c1
      have c0p := Xp.c0
      have c1p := Xp.c1
      have c0q := Xq.c0
      have c1q := Xq.c1
      have c0k := Xk.c0
      have c1k := Xk.c1
      go_wp2_with fail
      clear c0a c1a c0b c1b c0s c1s c0z7 c1z7 c0p c1p c0q c1q c0k c1k
      have k16 := iWholeCmp _ _ ra rb w15 Ra Rb (by omega) (by omega)
      rw [HF5.out] at k16
      refine k16.mono ?_
      rintro e w16 ⟨rfl, b16⟩
      replace Ra := Ra.below b16 (Nat.le_refl _)
      replace Rb := Rb.below b16 (Nat.le_refl _)
      replace Rs := Rs.below b16 (Nat.le_refl _)
      replace Rp := Rp.below b16 (Nat.le_refl _)
      replace Rq := Rq.below b16 (Nat.le_refl _)
      replace Rk := Rk.below b16 (Nat.le_refl _)
      replace Xa := Xa.below b16 (Nat.le_refl _)
      replace Xb := Xb.below b16 (Nat.le_refl _)
      replace Xs := Xs.below b16 (Nat.le_refl _)
      replace Xz7 := Xz7.below b16 (Nat.le_refl _)
      replace Xp := Xp.below b16 (Nat.le_refl _)
      replace Xq := Xq.below b16 (Nat.le_refl _)
      replace Xk := Xk.below b16 (Nat.le_refl _)
      replace B := B.trans (b16.mono B.size)
      clear k16 b16
      have c0a := Xa.c0
      have c1a := Xa.c1
      have c0b := Xb.c0
      have c1b := Xb.c1
      have c0s := Xs.c0
      have c1s := Xs.c1
      have c0z7 := Xz7.c0
      have c1z7 := Xz7.c1
      have c0p := Xp.c0
      have c1p := Xp.c1
      have c0q := Xq.c0
      have c1q := Xq.c1
      have c0k := Xk.c0
      have c1k := Xk.c1
      go_wp2
      go_ret
      exact ⟨rfl, B⟩
  · obtain ⟨f1, f2⟩ := signed_no hall
    have hc : okW ra = false ∨ (okW ra = true ∧ okW rb = false) := by cases h1 : okW ra <;> cases h2 : okW rb <;> simp_all
    clear hall
    have H2 : Hid (wcmpR ra rb = -2) := f2
    clear f2
    rcases hc with h1 | ⟨h1, h2⟩
    · have c0a := Xa.c0
      have c1a := Xa.c1
      have c0b := Xb.c0
      have c1b := Xb.c1
      go_wp2_with fail
      clear c0a c1a c0b c1b
      generalize (w1.alloc (.cells #[.bool ra.1, .slice ad1 ra.2.length cp1] 26)).alloc (.cells #[.bool rb.1, .slice ae1 rb.2.length cq1] 26) = w2 at *
      have k3 := sWholeOk _ ra w2 Ra (by omega)
      rw [h1] at k3
      refine k3.mono ?_
      rintro e w3 ⟨rfl, b3⟩
      replace Ra := Ra.below b3 (Nat.le_refl _)
      replace Rb := Rb.below b3 (Nat.le_refl _)
      replace Xa := Xa.below b3 (Nat.le_refl _)
      replace Xb := Xb.below b3 (Nat.le_refl _)
      replace B := B.trans (b3.mono B.size)
      clear k3 b3
      clear h1
      have c0a := Xa.c0
      have c1a := Xa.c1
      have c0b := Xb.c0
      have c1b := Xb.c1
      go_wp2_with fail
      clear c0a c1a c0b c1b
      have k4 := iWholeAdd _ _ ra rb w3 Ra Rb (by omega) (by omega)
      rw [f1] at k4
      refine k4.mono ?_
      rintro e w4 ⟨v4, rfl, o4, b4⟩
      replace Ra := Ra.below b4 (Nat.le_refl _)
      replace Rb := Rb.below b4 (Nat.le_refl _)
      replace Xa := Xa.below b4 (Nat.le_refl _)
      replace Xb := Xb.below b4 (Nat.le_refl _)
      replace B := B.trans (b4.mono B.size)
      clear b4 k4
      obtain ⟨s4, rfl, q4⟩ := o4
      obtain ⟨ad4, cp4, rfl, -⟩ := q4.row
      have Rs : rowW w4 (.agg #[.bool false, .slice ad4 ([] : List Int).length cp4]) (false, ([] : List Int)) := ⟨_, rfl, q4.row⟩
      clear q4
      have d0a := Xa.c0
      have d1a := Xa.c1
      have dha := Xa.hi
      have d0b := Xb.c0
      have d1b := Xb.c1
      have dhb := Xb.hi
      have bb := below1 w4 (.cells #[.bool false, .slice ad4 ([] : List Int).length cp4] 26)
      replace Ra := Ra.below bb (Nat.le_refl _)
      replace Rb := Rb.below bb (Nat.le_refl _)
      replace Rs := Rs.below bb (Nat.le_refl _)
      replace Xa := Xa.below bb (Nat.le_refl _)
      replace Xb := Xb.below bb (Nat.le_refl _)
      replace B := B.trans (bb.mono B.size)
      clear bb
      have Xs := BoxW.made w4 (.bool false) (.slice ad4 ([] : List Int).length cp4) 26
      clear f1
      have c0a := Xa.c0
      have c1a := Xa.c1
      have c0b := Xb.c0
      have c1b := Xb.c1
      have c0s := Xs.c0
      have c1s := Xs.c1
      go_wp2_with fail
      clear c0a c1a c0b c1b c0s c1s
      clear d0a d1a dha d0b d1b dhb
      generalize w4.alloc (.cells #[.bool false, .slice ad4 ([] : List Int).length cp4] 26) = w5 at *
      have k6 := iWholeCmp _ _ ra rb w5 Ra Rb (by omega) (by omega)
      rw [H2.out] at k6
      refine k6.mono ?_
      rintro e w6 ⟨rfl, b6⟩
      replace Ra := Ra.below b6 (Nat.le_refl _)
      replace Rb := Rb.below b6 (Nat.le_refl _)
      replace Rs := Rs.below b6 (Nat.le_refl _)
      replace Xa := Xa.below b6 (Nat.le_refl _)
      replace Xb := Xb.below b6 (Nat.le_refl _)
      replace Xs := Xs.below b6 (Nat.le_refl _)
      replace B := B.trans (b6.mono B.size)
      clear k6 b6
      have c0a := Xa.c0
      have c1a := Xa.c1
      have c0b := Xb.c0
      have c1b := Xb.c1
      have c0s := Xs.c0
      have c1s := Xs.c1
      go_wp2
      go_ret
      exact ⟨rfl, B⟩
    · have c0a := Xa.c0
      have c1a := Xa.c1
      have c0b := Xb.c0
      have c1b := Xb.c1
      go_wp2_with fail
      clear c0a c1a c0b c1b
      generalize (w1.alloc (.cells #[.bool ra.1, .slice ad1 ra.2.length cp1] 26)).alloc (.cells #[.bool rb.1, .slice ae1 rb.2.length cq1] 26) = w2 at *
      have k3 := sWholeOk _ ra w2 Ra (by omega)
      rw [h1] at k3
      refine k3.mono ?_
      rintro e w3 ⟨rfl, b3⟩
      replace Ra := Ra.below b3 (Nat.le_refl _)
      replace Rb := Rb.below b3 (Nat.le_refl _)
      replace Xa := Xa.below b3 (Nat.le_refl _)
      replace Xb := Xb.below b3 (Nat.le_refl _)
      replace B := B.trans (b3.mono B.size)
      clear k3 b3
      have c0a := Xa.c0
      have c1a := Xa.c1
      have c0b := Xb.c0
      have c1b := Xb.c1
      go_wp2_with fail
      clear c0a c1a c0b c1b
      have k4 := sWholeOk _ rb w3 Rb (by omega)
      rw [h2] at k4
      refine k4.mono ?_
      rintro e w4 ⟨rfl, b4⟩
      replace Ra := Ra.below b4 (Nat.le_refl _)
      replace Rb := Rb.below b4 (Nat.le_refl _)
      replace Xa := Xa.below b4 (Nat.le_refl _)
      replace Xb := Xb.below b4 (Nat.le_refl _)
      replace B := B.trans (b4.mono B.size)
      clear k4 b4
      clear h1 h2
      have c0a := Xa.c0
      have c1a := Xa.c1
      have c0b := Xb.c0
      have c1b := Xb.c1
      go_wp2_with fail
      clear c0a c1a c0b c1b
      have k5 := iWholeAdd _ _ ra rb w4 Ra Rb (by omega) (by omega)
      rw [f1] at k5
      refine k5.mono ?_
      rintro e w5 ⟨v5, rfl, o5, b5⟩
      replace Ra := Ra.below b5 (Nat.le_refl _)
      replace Rb := Rb.below b5 (Nat.le_refl _)
      replace Xa := Xa.below b5 (Nat.le_refl _)
      replace Xb := Xb.below b5 (Nat.le_refl _)
      replace B := B.trans (b5.mono B.size)
      clear b5 k5
      obtain ⟨s5, rfl, q5⟩ := o5
      obtain ⟨ad5, cp5, rfl, -⟩ := q5.row
      have Rs : rowW w5 (.agg #[.bool false, .slice ad5 ([] : List Int).length cp5]) (false, ([] : List Int)) := ⟨_, rfl, q5.row⟩
      clear q5
      have d0a := Xa.c0
      have d1a := Xa.c1
      have dha := Xa.hi
      have d0b := Xb.c0
      have d1b := Xb.c1
      have dhb := Xb.hi
      have bb := below1 w5 (.cells #[.bool false, .slice ad5 ([] : List Int).length cp5] 26)
      replace Ra := Ra.below bb (Nat.le_refl _)
      replace Rb := Rb.below bb (Nat.le_refl _)
      replace Rs := Rs.below bb (Nat.le_refl _)
      replace Xa := Xa.below bb (Nat.le_refl _)
      replace Xb := Xb.below bb (Nat.le_refl _)
      replace B := B.trans (bb.mono B.size)
      clear bb
      have Xs := BoxW.made w5 (.bool false) (.slice ad5 ([] : List Int).length cp5) 26
      clear f1
      have c0a := Xa.c0
      have c1a := Xa.c1
      have c0b := Xb.c0
      have c1b := Xb.c1
      have c0s := Xs.c0
      have c1s := Xs.c1
      go_wp2_with fail
      clear c0a c1a c0b c1b c0s c1s
      clear d0a d1a dha d0b d1b dhb
      generalize w5.alloc (.cells #[.bool false, .slice ad5 ([] : List Int).length cp5] 26) = w6 at *
      have k7 := iWholeCmp _ _ ra rb w6 Ra Rb (by omega) (by omega)
      rw [H2.out] at k7
      refine k7.mono ?_
      rintro e w7 ⟨rfl, b7⟩
      replace Ra := Ra.below b7 (Nat.le_refl _)
      replace Rb := Rb.below b7 (Nat.le_refl _)
      replace Rs := Rs.below b7 (Nat.le_refl _)
      replace Xa := Xa.below b7 (Nat.le_refl _)
      replace Xb := Xb.below b7 (Nat.le_refl _)
      replace Xs := Xs.below b7 (Nat.le_refl _)
      replace B := B.trans (b7.mono B.size)
      clear k7 b7
      have c0a := Xa.c0
      have c1a := Xa.c1
      have c0b := Xb.c0
      have c1b := Xb.c1
      have c0s := Xs.c0
      have c1s := Xs.c1
      go_wp2
      go_ret
      exact ⟨rfl, B⟩

set_option maxRecDepth 20000 in
set_option maxHeartbeats 1600000 in
theorem walkSigned (a0 : Option Addr) (len0 cap0 : Nat) (z0 : List Int) (w : World) (h : IsRow .u8 w a0 len0 cap0 z0) :
    Calls Try.prog 3 #[.slice a0 len0 cap0] w fun e w' => e = .returned (.bool true) ∧ Below w.heap.size w w' := by
  refine law_big _ (fun a len cap w hs => ?_) signed_in a0 len0 cap0 z0 w h
  go_enter Try.func3, Try.ntmps3
  go_wp2_with (go_at_call 9; refine (big_yes a len cap w hs).mono ?_; rintro e w ⟨rfl, rfl⟩)
  go_ret
  exact ⟨rfl, Below.refl _ _⟩

end Go.Proofs.Ytlnpfjnpnjiepaa
