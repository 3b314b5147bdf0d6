/- FnNatText: a great number is read from its text as it was; a power is the number so often times itself: the walk. -/
import Derived.Test.YtnojigofojjopaaDoorDr
import Derived.Test.YtnojigofojjopaaDoorLawM
import Derived.Test.YtnojigofojjopaaDoorITextB
import Derived.Test.YtnojigofojjopaaDoorINatFrom
import Derived.Test.YtnojigofojjopaaDoorINatPow
import Derived.Test.YtnojigofojjopaaDoorSB
import Derived.Test.YtnojigofojjopaaDoorINatOf
import Derived.Test.YtnojigofojjopaaDoorINatMul
namespace Go.Proofs.YtnojigofojjopaaDoor
open Go.RowKit

theorem val_dec (k : Nat) : val (Lib.decDigits k) = k := by
  induction k using Nat.strongRecOn with
  | ind k ih =>
    by_cases h : k < 10
    · rw [Lib.decDigits_one h]
      show 10 * 0 + ((UInt8.ofNat (48 + k)).toNat - 48) = k
      rw [UInt8.toNat_ofNat']
      omega
    · rw [dec_step k (by omega), val_snoc, ih (k / 10) (by omega), UInt8.toNat_ofNat']
      omega
theorem dec_dig (k : Nat) : ∀ c ∈ Lib.decDigits k, isDig c := by
  induction k using Nat.strongRecOn with
  | ind k ih =>
    by_cases h : k < 10
    · rw [Lib.decDigits_one h]
      intro c hc
      rw [List.mem_singleton] at hc
      subst hc
      unfold isDig
      rw [UInt8.toNat_ofNat']
      omega
    · rw [dec_step k (by omega)]
      intro c hc
      rcases List.mem_append.1 hc with hc | hc
      · exact ih (k / 10) (by omega) c hc
      · rw [List.mem_singleton] at hc
        subst hc
        unfold isDig
        rw [UInt8.toNat_ofNat']
        omega
theorem text_size (xs : List Int) : (textR xs).size ≤ 400 := by
  cases h : okB xs
  · rw [textR_no h]; show 0 ≤ 400; omega
  · rw [textR_ok h]
    show (Lib.decDigits (num xs)).toArray.size ≤ 400
    rw [List.size_toArray]
    have h1 := (okB_iff xs).1 h
    have h2 := limbs_lt (num xs)
    have h3 := eq_limbs h1.2
    rw [← h3] at h2
    exact Nat.le_trans (dec_len_pow 48 (num xs) (by omega) (Nat.lt_of_lt_of_le h2 (Nat.pow_le_pow_right (by omega) h1.1))) (by omega)
/-- What is written is read as it was. -/
theorem text_read {xs : List Int} (h : okB xs = true) : fromR (textR xs) = (xs, true) := by
  have e : (textR xs).data.toList = Lib.decDigits (num xs) := by rw [textR_ok h]
  have hs := text_size xs
  rw [size_list e] at hs
  have h1 := (okB_iff xs).1 h
  have h3 := eq_limbs h1.2
  unfold fromR
  rw [e, val_dec, if_pos ⟨dec_pos _, hs, dec_dig _, by rw [val_dec, ← h3]; exact h1.1, by rw [val_dec, numL_dec]⟩, ← h3]
theorem text_none {xs : List Int} (h : okB xs = false) : fromR (textR xs) = ([], false) := by
  rw [textR_no h]
  unfold fromR
  rw [if_neg (fun q => by have := q.1; simp at this)]
/-- A power is the one ahead times the number. -/
theorem pow_step {n k : Int} {ps : List Int} (h : powR n k = (ps, true)) : 0 ≤ k ∧ k ≤ 1000 ∧ (0 ≤ n ∧ n ≤ 16777215) ∧ ps.length ≤ 48 ∧ (k = 0 → ps.length = 1) ∧
    (k ≠ 0 → ∃ ls fs, powR n (k - 1) = (ls, true) ∧ ofR n = (fs, true) ∧ mulR ls fs = (ps, true) ∧ ls.length ≤ 48 ∧ fs.length ≤ 48) := by
  unfold powR at h
  split at h
  · rename_i hc
    obtain ⟨h0, h1⟩ := fitR_true h
    obtain ⟨c1, c2, c3, c4⟩ := hc
    refine ⟨c3, c4, ⟨c1, c2⟩, h1, ?_, ?_⟩
    · intro hk
      subst hk
      rw [h0]
      show (limbs (n.toNat ^ 0)).length = 1
      rw [Nat.pow_zero, limbs_pos 1 (by omega)]
      simp [limbs_zero]
    · intro hk
      obtain ⟨j, rfl⟩ : ∃ j : Nat, k = (j : Int) + 1 := ⟨(k - 1).toNat, by omega⟩
      obtain ⟨m, rfl⟩ : ∃ m : Nat, n = (m : Int) := ⟨n.toNat, by omega⟩
      have e1 : ((j : Int) + 1).toNat = j + 1 := by omega
      have e2 : ((j : Int) + 1 - 1).toNat = j := by omega
      rw [e1, Int.toNat_natCast, Nat.pow_succ] at h0
      have l1 : (limbs (m ^ j)).length ≤ 48 := by
        by_cases hm : 0 < m
        · refine Nat.le_trans (limbs_mono (m := m ^ j * m) ?_) (by rw [← h0]; exact h1)
          exact Nat.le_mul_of_pos_right _ hm
        · obtain rfl : m = 0 := by omega
          refine limbs_len_le _ 48 ?_
          rcases Nat.eq_zero_or_pos j with rfl | hj
          · rw [Nat.pow_zero]; exact Nat.one_lt_pow (by omega) (by omega)
          · rw [Nat.zero_pow hj]; exact Nat.pow_pos (by omega)
      have l2 : (limbs m).length ≤ 48 := Nat.le_trans (limbs_len_le m 1 (by omega)) (by omega)
      refine ⟨limbs (m ^ j), limbs m, ?_, ?_, ?_, l1, l2⟩
      · rw [powR, if_pos (by omega), e2, Int.toNat_natCast, fitR_yes l1]
      · unfold ofR
        rw [if_neg (by omega), Int.toNat_natCast]
      · rw [mulR, if_pos ⟨okB_limbs l1, okB_limbs l2⟩, num_limbs, num_limbs, h0]
        exact fitR_yes (by rw [← h0]; exact h1)
  · cases h

theorem law_bigT (F : FuncId) (w : World) (hbig : ∀ (a : Option Addr) (len cap : Nat), ¬ len ≤ 1048576 → Calls Tryd.prog F #[.slice a len cap] w fun e w' => e = .returned (.bool true) ∧ Below w.heap.size w w')
    (hin : ∀ (a : Option Addr) (len cap : Nat) (zs : List Int), len ≤ 1048576 → CodeIs w a len cap zs → Calls Tryd.prog F #[.slice a len cap] w fun e w' => e = .returned (.bool true) ∧ Below w.heap.size w w')
    (a0 : Option Addr) (len0 cap0 : Nat) (z0 : List Int) (h : IsRow .u8 w a0 len0 cap0 z0) : Calls Tryd.prog F #[.slice a0 len0 cap0] w fun e w' => e = .returned (.bool true) ∧ Below w.heap.size w w' := by
  by_cases hs : len0 ≤ 1048576
  · exact hin a0 len0 cap0 z0 hs (code_of h)
  · exact hbig a0 len0 cap0 hs

set_option maxRecDepth 20000 in
set_option maxHeartbeats 6400000 in
theorem nattext_in (a : Option Addr) (len cap : Nat) (zs : List Int) (w : World) (hlen : len ≤ 1048576) (h : CodeIs w a len cap zs) (htab : Lib.TabIs Tryd.prog w "internal/strconv.uint64pow10" .u64 Lib.pow10Tab) :
    Calls Tryd.prog 5 #[.slice a len cap] w fun e w' => e = .returned (.bool true) ∧ Below w.heap.size w w' := by
  go_enter Tryd.func5, Tryd.ntmps5
  go_wp2_with fail
  refine (big_no a len cap w hlen).mono ?_
  rintro e w ⟨rfl, rfl⟩
  have TT := fun W (h : Below w.heap.size w W) => tab_below h htab gTab10
  clear htab
  go_wp2_with fail
  refine (drText a len cap zs w hlen h).mono ?_
  rintro e w1 ⟨va, xs, rfl, Ra, la, B⟩
  replace h := h.below B
  have k2 := iNatText va xs w1 Ra (by omega) (TT _ B)
  go_wp2_with fail
  refine k2.mono ?_
  rintro e w2 ⟨rfl, b2⟩
  have hz := text_size xs
  replace h := h.below b2
  replace Ra := Ra.below b2 (Nat.le_refl _)
  replace B := B.trans (b2.mono B.size)
  clear k2 b2
  obtain ⟨ys, o, hr⟩ : ∃ ys o, fromR (textR xs) = (ys, o) := ⟨_, _, rfl⟩
  have HF : Hid (fromR (textR xs) = (ys, o)) := hr
  have k3 := iNatFrom (textR xs) w2 (by omega)
  rw [hr] at k3
  clear hr
  obtain ⟨T, hT⟩ : ∃ T, textR xs = T := ⟨_, rfl⟩
  rw [hT] at k3 hz
  rw [hT]
  replace HF : Hid (fromR T = (ys, o)) := by rw [← hT]; exact HF
  replace hT : Hid (T = textR xs) := hT.symm
  go_wp2_with fail
  refine k3.mono ?_
  rintro e w3 ⟨v3, rfl, o3, b3⟩
  replace h := h.below b3
  replace Ra := Ra.below b3 (Nat.le_refl _)
  replace B := B.trans (b3.mono B.size)
  have Rb := o3.row
  clear k3 o3 b3
  have k4 := sNatOk va xs w3 Ra (by omega)
  cases hox : okB xs
  all_goals
    rw [hox] at k4
  · obtain ⟨rfl, rfl⟩ : ys = [] ∧ o = false := by have e := HF.out; rw [hT.out, text_none hox] at e; cases e; exact ⟨rfl, rfl⟩
    clear HF hT hox
    go_wp2_with fail
    refine k4.mono ?_
    rintro e w4 ⟨rfl, rfl⟩
    clear k4
    have hxl := la
    clear la Ra Rb
    go_wp2_with fail
    refine (drPow a len cap zs _ hlen h).mono ?_
    rintro e w5 ⟨n, k, rfl, b5⟩
    replace B := B.trans (b5.mono B.size)
    clear h b5
    obtain ⟨ps, f, hp⟩ : ∃ ps f, powR n k = (ps, f) := ⟨_, _, rfl⟩
    have HP : Hid (powR n k = (ps, f)) := hp
    have k6 := iNatPow n k w5
    rw [hp] at k6
    go_wp2_with fail
    refine k6.mono ?_
    rintro e w6 ⟨v6, rfl, o6, b6⟩
    replace B := B.trans (b6.mono B.size)
    have Rp := o6.row
    clear k6 o6 b6
    have k7 := sNatPow n k w6
    rw [hp] at k7
    go_wp2_with fail
    refine k7.mono ?_
    rintro e w7 ⟨v7, rfl, o7, b7⟩
    replace Rp := Rp.below b7 (Nat.le_refl _)
    replace B := B.trans (b7.mono B.size)
    clear k7 o7 b7
    clear hp
    cases f
    · obtain ⟨ap, cp, rfl, -⟩ := id Rp
      clear HP
      go_wp2
      all_goals
        go_ret
        exact ⟨rfl, B⟩
    · obtain ⟨k0, k1, hn0, lp, z0, zz⟩ := pow_step HP.out
      obtain ⟨ap, cp, rfl, -⟩ := id Rp
      by_cases hk : k = 0
      · have hl1 := z0 hk
        subst hk
        rw [hl1]
        clear z0 zz HP
        go_wp2
        go_ret
        exact ⟨rfl, B⟩
      · obtain ⟨ls, fs, e1, e2, e3, l1, l2⟩ := zz hk
        have hk' : (k == 0) = false := beq_eq_false_iff_ne.2 hk
        clear z0 zz
        have hn := hn0
        clear HP hk
        obtain ⟨j, hj⟩ : ∃ j, k - 1 = j := ⟨_, rfl⟩
        rw [hj] at e1
        have hkw : IntKind.i64.wrap (k - 1) = j := by rw [IntKind.wrap_i64]; omega
        replace hj : Hid _ := hj
        have k8 := iNatPow n j w7
        rw [e1] at k8
        go_wp2_with fail
        refine k8.mono ?_
        rintro e w8 ⟨v8, rfl, o8, b8⟩
        replace Rp := Rp.below b8 (Nat.le_refl _)
        replace B := B.trans (b8.mono B.size)
        have Rl := o8.row
        clear k8 o8 b8
        clear e1
        have k9 := iNatOf n w8 (by omega) (by omega)
        rw [e2] at k9
        go_wp2_with fail
        refine k9.mono ?_
        rintro e w9 ⟨v9, rfl, o9, b9⟩
        replace Rp := Rp.below b9 (Nat.le_refl _)
        replace Rl := Rl.below b9 (Nat.le_refl _)
        replace B := B.trans (b9.mono B.size)
        have Rf := o9.row
        clear k9 o9 b9
        clear e2
        have k10 := iNatMul _ _ ls fs w9 Rl Rf (by omega) (by omega)
        rw [e3] at k10
        go_wp2_with fail
        refine k10.mono ?_
        rintro e w10 ⟨v10, rfl, o10, b10⟩
        replace Rp := Rp.below b10 (Nat.le_refl _)
        replace Rl := Rl.below b10 (Nat.le_refl _)
        replace Rf := Rf.below b10 (Nat.le_refl _)
        replace B := B.trans (b10.mono B.size)
        have Rm := o10.row
        clear k10 o10 b10
        clear e3
        have k9 := sameI _ _ ps ps w10 Rm Rp (by omega)
        rw [show decide (ps = ps) = true from decide_eq_true rfl] at k9
        go_wp2_with fail
        refine k9.mono ?_
        rintro e w9 ⟨rfl, b9⟩
        replace B := B.trans (b9.mono B.size)
        clear k9 b9 Rm Rp Rl Rf
        go_wp2
        go_ret
        exact ⟨rfl, B⟩
  · obtain ⟨rfl, rfl⟩ : ys = xs ∧ o = true := by have e := HF.out; rw [hT.out, text_read hox] at e; cases e; exact ⟨rfl, rfl⟩
    clear HF hT
    go_wp2_with fail
    refine k4.mono ?_
    rintro e w4 ⟨rfl, rfl⟩
    clear k4
    have k5 := sameI _ _ ys ys _ Ra Rb (by omega)
    rw [show decide (ys = ys) = true from decide_eq_true rfl] at k5
    go_wp2_with fail
    refine k5.mono ?_
    rintro e w5 ⟨rfl, b5⟩
    replace h := h.below b5
    replace B := B.trans (b5.mono B.size)
    clear k5 b5 Ra Rb
    go_wp2_with fail
    refine (drPow a len cap zs _ hlen h).mono ?_
    rintro e w6 ⟨n, k, rfl, b6⟩
    replace B := B.trans (b6.mono B.size)
    clear h b6
    obtain ⟨ps, f, hp⟩ : ∃ ps f, powR n k = (ps, f) := ⟨_, _, rfl⟩
    have HP : Hid (powR n k = (ps, f)) := hp
    have k7 := iNatPow n k w6
    rw [hp] at k7
    go_wp2_with fail
    refine k7.mono ?_
    rintro e w7 ⟨v7, rfl, o7, b7⟩
    replace B := B.trans (b7.mono B.size)
    have Rp := o7.row
    clear k7 o7 b7
    have k8 := sNatPow n k w7
    rw [hp] at k8
    go_wp2_with fail
    refine k8.mono ?_
    rintro e w8 ⟨v8, rfl, o8, b8⟩
    replace Rp := Rp.below b8 (Nat.le_refl _)
    replace B := B.trans (b8.mono B.size)
    clear k8 o8 b8
    clear hp
    cases f
    · obtain ⟨ap, cp, rfl, -⟩ := id Rp
      clear HP
      go_wp2
      all_goals
        go_ret
        exact ⟨rfl, B⟩
    · obtain ⟨k0, k1, hn0, lp, z0, zz⟩ := pow_step HP.out
      obtain ⟨ap, cp, rfl, -⟩ := id Rp
      by_cases hk : k = 0
      · have hl1 := z0 hk
        subst hk
        rw [hl1]
        clear z0 zz HP
        go_wp2
        go_ret
        exact ⟨rfl, B⟩
      · obtain ⟨ls, fs, e1, e2, e3, l1, l2⟩ := zz hk
        have hk' : (k == 0) = false := beq_eq_false_iff_ne.2 hk
        clear z0 zz
        have hn := hn0
        clear HP hk
        obtain ⟨j, hj⟩ : ∃ j, k - 1 = j := ⟨_, rfl⟩
        rw [hj] at e1
        have hkw : IntKind.i64.wrap (k - 1) = j := by rw [IntKind.wrap_i64]; omega
        replace hj : Hid _ := hj
        have k9 := iNatPow n j w8
        rw [e1] at k9
        go_wp2_with fail
        refine k9.mono ?_
        rintro e w9 ⟨v9, rfl, o9, b9⟩
        replace Rp := Rp.below b9 (Nat.le_refl _)
        replace B := B.trans (b9.mono B.size)
        have Rl := o9.row
        clear k9 o9 b9
        clear e1
        have k10 := iNatOf n w9 (by omega) (by omega)
        rw [e2] at k10
        go_wp2_with fail
        refine k10.mono ?_
        rintro e w10 ⟨v10, rfl, o10, b10⟩
        replace Rp := Rp.below b10 (Nat.le_refl _)
        replace Rl := Rl.below b10 (Nat.le_refl _)
        replace B := B.trans (b10.mono B.size)
        have Rf := o10.row
        clear k10 o10 b10
        clear e2
        have k11 := iNatMul _ _ ls fs w10 Rl Rf (by omega) (by omega)
        rw [e3] at k11
        go_wp2_with fail
        refine k11.mono ?_
        rintro e w11 ⟨v11, rfl, o11, b11⟩
        replace Rp := Rp.below b11 (Nat.le_refl _)
        replace Rl := Rl.below b11 (Nat.le_refl _)
        replace Rf := Rf.below b11 (Nat.le_refl _)
        replace B := B.trans (b11.mono B.size)
        have Rm := o11.row
        clear k11 o11 b11
        clear e3
        have k9 := sameI _ _ ps ps w11 Rm Rp (by omega)
        rw [show decide (ps = ps) = true from decide_eq_true rfl] at k9
        go_wp2_with fail
        refine k9.mono ?_
        rintro e w9 ⟨rfl, b9⟩
        replace B := B.trans (b9.mono B.size)
        clear k9 b9 Rm Rp Rl Rf
        go_wp2
        go_ret
        exact ⟨rfl, B⟩

set_option maxRecDepth 20000 in
set_option maxHeartbeats 1600000 in
theorem walkNatTextLaw (a0 : Option Addr) (len0 cap0 : Nat) (z0 : List Int) (w : World) (h : IsRow .u8 w a0 len0 cap0 z0) (htab : Lib.TabIs Tryd.prog w "internal/strconv.uint64pow10" .u64 Lib.pow10Tab) :
    Calls Tryd.prog 5 #[.slice a0 len0 cap0] w fun e w' => e = .returned (.bool true) ∧ Below w.heap.size w w' := by
  refine law_bigT _ w (fun a len cap hs => ?_) (fun a len cap zs hs hc => nattext_in a len cap zs w hs hc htab) a0 len0 cap0 z0 h
  go_enter Tryd.func5, Tryd.ntmps5
  go_wp2_with (go_at_call 15; refine (big_yes a len cap w hs).mono ?_; rintro e w ⟨rfl, rfl⟩)
  go_ret
  exact ⟨rfl, Below.refl _ _⟩

end Go.Proofs.YtnojigofojjopaaDoor
