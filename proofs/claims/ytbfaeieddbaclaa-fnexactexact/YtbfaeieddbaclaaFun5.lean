/- What the specification's InDomain calls: l15Ok, l20Part, each by its contract. -/
import Derived.Test.YtbfaeieddbaclaaEF
import Derived.Test.YtbfaeieddbaclaaSWMul
import Derived.Test.YtbfaeieddbaclaaSWFloor
import Derived.Test.YtbfaeieddbaclaaSWUp
import Derived.Test.YtbfaeieddbaclaaSWCmp
import Derived.Test.YtbfaeieddbaclaaSWholeOf
import Derived.Test.YtbfaeieddbaclaaGReg
namespace Go.Proofs.Ytbfaeieddbaclaa
open Go.RowKit
set_option linter.unusedSimpArgs false

theorem s15 (a f : Int) (w : World) : Calls Try.prog 34 #[.int .i64 a, .int .i64 f, .int .i64 1] w fun e w' => e = .returned (.bool (decide ((-2305843009213693952 ≤ a ∧ a ≤ 2305843009213693952) ∧ 0 ≤ f ∧ f ≤ 60))) ∧ w' = w := by
  by_cases h1 : -2305843009213693952 ≤ a ∧ a ≤ 2305843009213693952
  · have k1 := fun W => in_yes a (-2305843009213693952) 2305843009213693952 W h1.1 h1.2
    by_cases h2 : 0 ≤ f ∧ f ≤ 60
    · have k2 := fun W => in_yes f 0 60 W h2.1 h2.2
      have k3 := fun W => in_yes 1 1 300 W (by omega) (by omega)
      rw [decide_eq_true ⟨h1, h2⟩]
      clear h1 h2
      go_enter Try.func34, Try.ntmps34
      go_wp2_with fail
      refine (k1 _).mono ?_
      rintro e w1 ⟨rfl, rfl⟩
      go_wp2_with fail
      refine (k2 _).mono ?_
      rintro e w1 ⟨rfl, rfl⟩
      go_wp2_with fail
      refine (k3 _).mono ?_
      rintro e w1 ⟨rfl, rfl⟩
      go_wp2
      go_ret
      exact ⟨rfl, rfl⟩
    · have k2 := fun W => in_no f 0 60 W h2
      rw [decide_eq_false (fun h => h2 h.2)]
      clear h1 h2
      go_enter Try.func34, Try.ntmps34
      go_wp2_with fail
      refine (k1 _).mono ?_
      rintro e w1 ⟨rfl, rfl⟩
      go_wp2_with fail
      refine (k2 _).mono ?_
      rintro e w1 ⟨rfl, rfl⟩
      go_wp2
      go_ret
      exact ⟨rfl, rfl⟩
  · have k1 := fun W => in_no a (-2305843009213693952) 2305843009213693952 W h1
    rw [decide_eq_false (fun h => h1 h.1)]
    clear h1
    go_enter Try.func34, Try.ntmps34
    go_wp2_with fail
    refine (k1 _).mono ?_
    rintro e w1 ⟨rfl, rfl⟩
    go_wp2
    go_ret
    exact ⟨rfl, rfl⟩

set_option maxRecDepth 20000 in
set_option maxHeartbeats 3200000 in
theorem sPart (a : Int) (f k m : Nat) (w : World) (h0 : -2305843009213693952 ≤ a) (h1 : a ≤ 2305843009213693952) (hf : f ≤ 60) (hk : k ≤ 8) (hm : m = 2 ∨ m = 4) :
    Calls Try.prog 36 #[.int .i64 a, .int .i64 f, .int .i64 k, .int .i64 m] w fun e w' => e = .returned (.tuple #[.bool (partR a f k m).1, .int .i64 (partR a f k m).2]) ∧ Below w.heap.size w w' := by
  have kO := fun W => sWholeOf a W (by omega) (by omega)
  have kK := fun W => sWholeOf k W (by omega) (by omega)
  have l3 := limbs_len3 (n := a.natAbs) (by omega)
  have l4 := limbs_len3 (n := k) (by omega)
  have hx : a.natAbs * k < 16777216 ^ 3 := Nat.lt_of_le_of_lt (Nat.mul_le_mul (show a.natAbs ≤ 2305843009213693952 by omega) (show k ≤ 7 + 1 by omega)) (by decide)
  have l5 := limbs_len_le (a.natAbs * k) 3 hx
  have hfd : ∀ (W : World) (g : Bool) (p : Option Addr) (n c : Nat), (Instr.field 63 (.agg #[.bool g, .slice p n c]) 1).run Try.prog W = .ok (.slice p n c) W := fun _ _ _ _ _ => by kernel_rfl
  have kM := fun va vb W (ha : rowW W va (mkW (a.natAbs : Int))) hb => sWMul va vb (a.natAbs : Int) (k : Int) W ha hb (by rw [Int.natAbs_natCast]; omega) (by rw [Int.natAbs_natCast]; omega)
  have ec : ((a.natAbs : Int) * (k : Int)) = ((a.natAbs * k : Nat) : Int) := by simp
  have HP : Hid (partR a f k m = if a.natAbs * k % 2 ^ f = 0 then (true, ((a.natAbs * k / 2 ^ f % m : Nat) : Int)) else (false, 0)) := rfl
  have HO : Hid (wofR a = (decide (a < 0), limbs a.natAbs) ∧ mkW (a.natAbs : Int) = (false, limbs a.natAbs)) := ⟨rfl, by rw [mkW_pos _ (by omega), Int.natAbs_natCast]⟩
  rw [HO.out.1] at kO
  rw [ec] at kM
  generalize a.natAbs * k = x at *
  have kF := fun va W (ha : rowW W va (mkW (x : Int))) => sWFloor va (x : Int) f W ha (by rw [Int.natAbs_natCast]; omega) (by omega)
  have hq : ((x : Int) / 2 ^ f) = ((x / 2 ^ f : Nat) : Int) := by simp
  have l6 : (limbs (x / 2 ^ f)).length ≤ 3 := limbs_len_le _ 3 (Nat.lt_of_le_of_lt (Nat.div_le_self _ _) hx)
  rw [hq] at kF
  obtain ⟨q, hqq⟩ : ∃ q, x / 2 ^ f = q := ⟨_, rfl⟩
  rw [hqq] at kF HP l6
  have kU := fun va W (ha : rowW W va (mkW (q : Int))) => sWUp va (q : Int) f W ha (by rw [Int.natAbs_natCast]; omega) (by omega)
  have hqx : q * 2 ^ f ≤ x := by rw [← hqq]; exact Nat.div_mul_le_self _ _
  have l7 : (limbs (q * 2 ^ f)).length ≤ 3 := limbs_len_le _ 3 (Nat.lt_of_le_of_lt hqx hx)
  have hu : ((q : Int) * 2 ^ f) = ((q * 2 ^ f : Nat) : Int) := by simp
  rw [hu] at kU
  have kC := fun va vb W (ha : rowW W va (mkW ((q * 2 ^ f : Nat) : Int))) (hb : rowW W vb (mkW (x : Int))) => sWCmp va vb ((q * 2 ^ f : Nat) : Int) (x : Int) W ha hb (by rw [Int.natAbs_natCast]; omega) (by rw [Int.natAbs_natCast]; omega)
  have hdm := Nat.div_add_mod x (2 ^ f)
  rw [hqq, Nat.mul_comm] at hdm
  have HZ : Hid ((x % 2 ^ f = 0 → cmpZ ((q * 2 ^ f : Nat) : Int) (x : Int) = 0) ∧ (¬ x % 2 ^ f = 0 → cmpZ ((q * 2 ^ f : Nat) : Int) (x : Int) = -1)) := by
    refine ⟨fun h => ?_, fun h => ?_⟩
    · unfold cmpZ
      rw [if_neg (by omega), if_neg (by omega)]
    · unfold cmpZ
      rw [if_pos (by omega)]
  generalize q * 2 ^ f = u at *
  have HQ : Hid (q = 0 ∧ limbs q = [] ∨ 0 < q ∧ limbs q = ((q % 16777216 : Nat) : Int) :: limbs (q / 16777216)) := by
    rcases Nat.eq_zero_or_pos q with h | h
    · exact .inl ⟨h, by rw [h, limbs_zero]⟩
    · exact .inr ⟨h, limbs_pos q h⟩
  have HX : Hid (mkW (x : Int) = (false, limbs x)) := by show _ = _; rw [mkW_pos _ (by omega), Int.natAbs_natCast]
  have HY : Hid (mkW (q : Int) = (false, limbs q)) := by show _ = _; rw [mkW_pos _ (by omega), Int.natAbs_natCast]
  obtain ⟨pr, hpr⟩ : ∃ r, partR a f k m = r := ⟨_, rfl⟩
  rw [hpr] at HP
  rw [hpr]
  have HM : Hid (m = 2 ∨ m = 4) := hm
  clear h0 h1 hf hk hm l3 l4 hx l5 ec hq l6 hqq hqx l7 hu hdm hpr
  go_enter Try.func36, Try.ntmps36
  go_wp2_with fail
  refine (kO _).mono ?_
  rintro e w1 ⟨v1, rfl, o1, b1⟩
  obtain ⟨s1, rfl, q1⟩ := o1
  have q1r : rowW w1 (.agg #[.bool false, s1]) (mkW (a.natAbs : Int)) := by rw [HO.out.2]; exact ⟨_, rfl, q1.row⟩
  obtain ⟨ad, cp, rfl, -⟩ := q1.row
  clear q1 kO HO
  go_wp2_with fail
  refine (kK _).mono ?_
  rintro e w2 ⟨v2, rfl, o2, b2⟩
  have B2 := b1.trans (b2.mono b1.size)
  have q1s := q1r.below b2 (Nat.le_refl _)
  have q2 := o2.row
  clear q1r o2 b1 b2 kK
  go_wp2_with fail
  refine (kM _ v2 _ q1s q2).mono ?_
  rintro e w3 ⟨v3, rfl, o3, b3⟩
  have B3 := B2.trans (b3.mono B2.size)
  have r3 := o3.row
  rw [HX.out] at r3
  obtain ⟨s3, rfl, t3⟩ := r3
  have t3' : rowI w3 s3 (limbs x) := t3
  obtain ⟨ad3, cp3, rfl, -⟩ := id t3'
  have X3 := BoxW.made w3 (.bool false) (.slice ad3 (limbs x).length cp3) 63
  have b4 := below1 w3 (.cells #[.bool false, .slice ad3 (limbs x).length cp3] 63)
  have B4 := B3.trans (b4.mono B3.size)
  have t4 := t3'.below b4 (Nat.le_refl _)
  clear q1s q2 kM B2 o3 t3 t3' b3 B3
  go_wp2_with fail
  have t4r : rowW (w3.alloc (.cells #[.bool false, .slice ad3 (limbs x).length cp3] 63)) (.agg #[.bool false, .slice ad3 (limbs x).length cp3]) (mkW (x : Int)) := by rw [HX.out]; exact ⟨_, rfl, t4⟩
  refine (kF _ _ t4r).mono ?_
  generalize w3.alloc (.cells #[.bool false, .slice ad3 (limbs x).length cp3] 63) = w4 at *
  generalize w3.heap.size = n3 at *
  rintro e w5 ⟨v5, rfl, o5, b5⟩
  have r5 := o5.row
  rw [HY.out] at r5
  obtain ⟨s5, rfl, t5⟩ := r5
  have t5' : rowI w5 s5 (limbs q) := t5
  obtain ⟨ad5, cp5, rfl, -⟩ := id t5'
  have b6 := below1 w5 (.cells #[.bool false, .slice ad5 (limbs q).length cp5] 63)
  have X6 := (X3.below b5 (Nat.le_refl _)).below b6 (Nat.le_refl _)
  have Y6 := BoxW.made w5 (.bool false) (.slice ad5 (limbs q).length cp5) 63
  have B6 := (B4.trans (b5.mono B4.size)).trans (b6.mono (B4.trans (b5.mono B4.size)).size)
  have t6 := t5'.below b6 (Nat.le_refl _)
  have x6 := (t4.below b5 (Nat.le_refl _)).below b6 (Nat.le_refl _)
  clear t4r kF o5 t5 t5' t4 X3 B4 b5 b6
  go_wp2_with fail
  generalize w5.alloc (.cells #[.bool false, .slice ad5 (limbs q).length cp5] 63) = w6 at *
  generalize w5.heap.size = n5 at *
  have bd := (Below.refl w6.heap.size w6).drew
  have X7 := X6.below bd (Nat.le_refl _)
  have Y7 := Y6.below bd (Nat.le_refl _)
  have B7 := B6.trans (bd.mono B6.size)
  have t7 := t6.below bd (Nat.le_refl _)
  have x7 := x6.below bd (Nat.le_refl _)
  refine wp_region_held_drew (S := fun W => W.cell? ⟨n3, 0, none⟩ = some (.bool false) ∧ W.cell? ⟨n3, 1, none⟩ = some (.slice ad3 (limbs x).length cp3) ∧ W.cell? ⟨n5, 0, none⟩ = some (.bool false) ∧ W.cell? ⟨n5, 1, none⟩ = some (.slice ad5 (limbs q).length cp5)) (by kernel_rfl) ⟨X7.c0, X7.c1, Y7.c0, Y7.c1⟩ ?_
  intro hHeld
  generalize w6.drew = w7 at *
  refine takeH 0 (some 22) (.agg #[.bool false, .slice ad5 (limbs q).length cp5]) rfl rfl (by kernel_rfl) (by kernel_rfl) (by kernel_rfl) (fun _ _ _ h => h) (Or.inl ⟨rfl, fun W hW => by obtain ⟨_, _, _a, _b⟩ := hW; go_simp⟩) (by assumption) ?_
  simp only [Act.put, List.setIfInBounds_toArray, List.set_cons_zero, List.set_cons_succ]
  refine takeH 1 (some 23) (.int .i64 f) rfl rfl (by kernel_rfl) (by kernel_rfl) (by kernel_rfl) (fun _ _ _ h => h) (Or.inl ⟨rfl, fun W hW => by obtain _ := hW; go_simp⟩) (by assumption) ?_
  simp only [Act.put, List.setIfInBounds_toArray, List.set_cons_zero, List.set_cons_succ]
  refine takeH 3 (some 25) (.agg #[.bool false, .slice ad3 (limbs x).length cp3]) rfl rfl (by kernel_rfl) (by kernel_rfl) (by kernel_rfl) (fun _ _ _ h => h) (Or.inl ⟨rfl, fun W hW => by obtain ⟨_a, _b, _⟩ := hW; go_simp⟩) (by assumption) ?_
  simp only [Act.put, List.setIfInBounds_toArray, List.set_cons_zero, List.set_cons_succ]
  have t7r : rowW w7 (.agg #[.bool false, .slice ad5 (limbs q).length cp5]) (mkW (q : Int)) := by rw [HY.out]; exact ⟨_, rfl, t7⟩
  refine oneH 2 rfl (by kernel_rfl) (fun K' hK => ?_)
  go_simp
  refine (kU _ _ t7r).mono ?_
  rintro e w8 ⟨v8, rfl, o8, b8⟩
  have X8 := X7.below b8 (Nat.le_refl _)
  have Y8 := Y7.below b8 (Nat.le_refl _)
  have B8 := B7.trans (b8.mono B7.size)
  have x8 := x7.below b8 (Nat.le_refl _)
  have t8 := t7.below b8 (Nat.le_refl _)
  have u8 := o8.row
  refine hK _ _ ⟨X8.c0, X8.c1, Y8.c0, Y8.c1⟩ ?_
  clear hK
  have x8r : rowW w8 (.agg #[.bool false, .slice ad3 (limbs x).length cp3]) (mkW (x : Int)) := by rw [HX.out]; exact ⟨_, rfl, x8⟩
  refine oneH 4 rfl (by kernel_rfl) (fun K' hK => ?_)
  go_simp
  refine (kC _ _ _ u8 x8r).mono ?_
  rintro e w9 ⟨rfl, b9⟩
  have X9 := X8.below b9 (Nat.le_refl _)
  have Y9 := Y8.below b9 (Nat.le_refl _)
  have B9 := B8.trans (b9.mono B8.size)
  have t9 := t8.below b9 (Nat.le_refl _)
  refine hK _ _ ⟨X9.c0, X9.c1, Y9.c0, Y9.c1⟩ ?_
  clear hK
  have H9 : (fun W => W.cell? ⟨n3, 0, none⟩ = some (.bool false) ∧ W.cell? ⟨n3, 1, none⟩ = some (.slice ad3 (limbs x).length cp3) ∧ W.cell? ⟨n5, 0, none⟩ = some (.bool false) ∧ W.cell? ⟨n5, 1, none⟩ = some (.slice ad5 (limbs q).length cp5)) w9 := ⟨X9.c0, X9.c1, Y9.c0, Y9.c1⟩
  have HB : Hid (Below w.heap.size w w9) := B9
  have y0 := Y9.c0
  have y1 := Y9.c1
  have HT : Hid (rowI w9 (.slice ad5 (limbs q).length cp5) (limbs q)) := t9
  clear kU kC X6 X7 X8 X9 Y6 Y7 Y8 Y9 B6 B7 B8 B9 t6 t7 t8 t9 x6 x7 x8 x8r t7r u8 o8 b8 b9 bd HX HY
  by_cases hz : x % 2 ^ f = 0
  · have hc := HZ.out.1 hz
    have hp := HP.out
    rw [if_pos hz] at hp
    subst hp
    rw [hc]
    clear HZ HP hz hc
    refine takeH 5 (some 27) (.bool false) rfl rfl (by kernel_rfl) (by kernel_rfl) (by kernel_rfl) (fun _ _ _ h => h) (Or.inl ⟨rfl, fun W hW => by obtain _ := hW; go_simp⟩) (by assumption) ?_
    simp only [Act.put, List.setIfInBounds_toArray, List.set_cons_zero, List.set_cons_succ]
    refine wpAnyH_done (by kernel_rfl) ?_ _
    clear hHeld H9
    rcases HQ.out with ⟨hq0, hl⟩ | ⟨hq0, hl⟩
    · rw [hl] at y1
      have y2 : w9.cell? ⟨n5, 1, none⟩ = some (.slice ad5 0 cp5) := y1
      clear y1 HQ
      go_wp2
      go_ret2
      exact ⟨by subst hq0; simp, HB.out⟩
    · have hr := HT.out
      have hn : 0 < (limbs q).length := by rw [hl]; simp
      obtain ⟨g, off, rfl, hc0⟩ := hr.at 0 hn
      have hg0 : (limbs q).getD 0 0 = ((q % 16777216 : Nat) : Int) := by rw [hl]; rfl
      rw [hg0, Nat.add_zero] at hc0
      obtain ⟨d, hd⟩ : ∃ d : Nat, q % 16777216 = d := ⟨_, rfl⟩
      rw [hd] at hc0
      have HDM : Hid (((q % m : Nat) : Int) = (d : Int) % (m : Int)) := by
        show _ = _
        rcases HM.out with h | h <;> (subst h; omega)
      have HD2 : Hid ((q : Int) % (m : Int) = (d : Int) % (m : Int)) := by
        show _ = _
        rw [← HDM.out]
        simp
      have e2 : (d : Int).tmod (m : Int) = (d : Int) % (m : Int) := by rw [Int.tmod_eq_emod_of_nonneg (by omega)]
      have hm0 : ¬ ((m : Int) = 0) := by rcases HM.out with h | h <;> omega
      have hdb : d < 16777216 := by rw [← hd]; exact Nat.mod_lt _ (by omega)
      have hmb : 0 ≤ (d : Int) % (m : Int) ∧ (d : Int) % (m : Int) ≤ 16777216 := by
        rcases HM.out with h | h <;> (subst h; omega)
      have e3 : IntKind.i64.wrap ((d : Int) % (m : Int)) = (d : Int) % (m : Int) := by rw [IntKind.wrap_i64]; omega
      have e4 : IntKind.i64.wrap ((d : Int).tmod (m : Int)) = (d : Int) % (m : Int) := by rw [e2, e3]
      clear hr HQ HT hl hg0 hq0 hd HM
      generalize (limbs q).length = L at *
      have hl0 : ¬ ((L : Int) = 0) := by omega
      have hl1 : (0 : Int) < (L : Int) := by omega
      go_wp2_with fail
      go_quiet (fail)
      go_wp2
      go_ret2
      exact ⟨by simp [HD2.out], HB.out.trans ⟨rfl, rfl, rfl, Nat.le_refl _, fun _ _ => rfl⟩⟩
  · have hc := HZ.out.2 hz
    have hp := HP.out
    rw [if_neg hz] at hp
    subst hp
    rw [hc]
    clear HZ HP hz hc
    refine takeH 5 (some 27) (.bool true) rfl rfl (by kernel_rfl) (by kernel_rfl) (by kernel_rfl) (fun _ _ _ h => h) (Or.inl ⟨rfl, fun W hW => by obtain _ := hW; go_simp⟩) (by assumption) ?_
    simp only [Act.put, List.setIfInBounds_toArray, List.set_cons_zero, List.set_cons_succ]
    refine wpAnyH_done (by kernel_rfl) ?_ _
    clear hHeld H9 y0 y1 HQ HT
    go_wp2
    go_ret2
    exact ⟨rfl, HB.out⟩

end Go.Proofs.Ytbfaeieddbaclaa
