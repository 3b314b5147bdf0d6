/- FnShifts: what is shifted up and down again is as it was: the walk. -/
import Derived.Test.YtppeabnipnokhaaLawH
import Derived.Test.YtppeabnipnokhaaDrS
import Derived.Test.YtppeabnipnokhaaSNatShl
import Derived.Test.YtppeabnipnokhaaINatShl
import Derived.Test.YtppeabnipnokhaaINatSub
import Derived.Test.YtppeabnipnokhaaINatInt
import Derived.Test.YtppeabnipnokhaaDivR
namespace Go.Proofs.Ytppeabnipnokhaa
open Go.RowKit

theorem okB_limbs {n : Nat} (h : (limbs n).length ≤ 48) : okB (limbs n) = true := okB_yes (okL_limbs h)
theorem ok_limbs {xs : List Int} (h : okB xs = true) : limbs (num xs) = xs := (okL_eq ((okB_iff xs).1 h)).symm
theorem ok_len {xs : List Int} (h : okB xs = true) : xs.length ≤ 48 := ((okB_iff xs).1 h).1
theorem limbs_le48 {m : Nat} {xs : List Int} (h : okB xs = true) (hm : m ≤ num xs) : (limbs m).length ≤ 48 := by
  have := limbs_len_mono hm
  rw [ok_limbs h] at this
  have := ok_len h
  omega
theorem fitR_true {n : Nat} {us : List Int} (h : fitR n = (us, true)) : us = limbs n ∧ us.length ≤ 48 := by
  unfold fitR at h
  split at h
  · rename_i hl
    cases h
    exact ⟨rfl, hl⟩
  · cases h
theorem fitR_yes {n : Nat} (h : (limbs n).length ≤ 48) : fitR n = (limbs n, true) := by unfold fitR; rw [if_pos h]
theorem bits_up (n k : Nat) (h : 0 < n) : nbits (n * 2 ^ k) = nbits n + k := by
  have := nbits_high k 0 n (Nat.two_pow_pos k) h
  rw [Nat.zero_add, Nat.mul_comm] at this
  omega
theorem ok_bits {xs : List Int} (h : okB xs = true) : nbits (num xs) ≤ 1152 := by
  have h1 := nbits_len ((okB_iff xs).1 h).2.1
  have := ok_len h
  omega

theorem shift_up {xs us : List Int} {k : Int} (h : shlR xs k = (us, true)) : okB xs = true ∧ 0 ≤ k ∧ k ≤ 1152 ∧ us.length ≤ 48 ∧ shrR us k = (xs, true) ∧ ∃ bx : Int, bitsR xs = bx ∧ (0 < xs.length → bitsR us = bx + k) ∧ 0 ≤ bx ∧ bx ≤ 1152 := by
  unfold shlR at h
  split at h
  · rename_i hc
    obtain ⟨h1, h2, h3⟩ := hc
    obtain ⟨rfl, hl⟩ := fitR_true h
    have hok := okB_limbs hl
    have hb := ok_bits h1
    refine ⟨h1, h2, h3, hl, ?_, (nbits (num xs) : Int), by rw [bitsR, if_pos h1], fun hx => ?_, by omega, by omega⟩
    · rw [shrR, if_pos ⟨hok, h2, h3⟩, num_limbs, Nat.mul_div_cancel _ (Nat.two_pow_pos _), ok_limbs h1]
    · rw [bitsR, if_pos hok, num_limbs, bits_up]
      · omega
      · rcases Nat.eq_zero_or_pos (num xs) with h0 | h0
        · have := ok_limbs h1
          rw [h0, limbs_zero] at this
          rw [← this] at hx
          simp at hx
        · exact h0
  · cases h
theorem shift_no {xs : List Int} {k : Int} (h : ¬ (okB xs = true ∧ 0 ≤ k ∧ k ≤ 1152)) : shrR xs k = ([], false) := by rw [shrR, if_neg h]
theorem shift_facts {xs : List Int} {k : Int} (hok : okB xs = true) (h0 : 0 ≤ k) (h1 : k ≤ 1152) :
    ∃ ds gs rs br, shrR xs k = (ds, true) ∧ ds.length ≤ 48 ∧ shlR ds k = (gs, true) ∧ gs.length ≤ 48 ∧ subR xs gs = (rs, true) ∧ rs.length ≤ 48 ∧ bitsR rs = br ∧ 0 ≤ br ∧ br ≤ k := by
  have p := Nat.two_pow_pos k.toNat
  have m1 : num xs / 2 ^ k.toNat ≤ num xs := Nat.div_le_self _ _
  have m2 : num xs / 2 ^ k.toNat * 2 ^ k.toNat ≤ num xs := Nat.div_mul_le_self _ _
  have m3 : num xs - num xs / 2 ^ k.toNat * 2 ^ k.toNat = num xs % 2 ^ k.toNat := by
    have := Nat.div_add_mod (num xs) (2 ^ k.toNat)
    rw [Nat.mul_comm] at this
    omega
  have m4 : num xs % 2 ^ k.toNat < 2 ^ k.toNat := Nat.mod_lt _ p
  have d1 := limbs_le48 hok m1
  have d2 := limbs_le48 hok m2
  have d3 := limbs_le48 hok (Nat.mod_le (num xs) (2 ^ k.toNat))
  refine ⟨limbs (num xs / 2 ^ k.toNat), limbs (num xs / 2 ^ k.toNat * 2 ^ k.toNat), limbs (num xs % 2 ^ k.toNat), (nbits (num xs % 2 ^ k.toNat) : Int), ?_, d1, ?_, d2, ?_, d3, ?_, by omega, ?_⟩
  · rw [shrR, if_pos ⟨hok, h0, h1⟩]
  · rw [shlR, if_pos ⟨okB_limbs d1, h0, h1⟩, num_limbs, fitR_yes d2]
  · rw [subR, if_pos ⟨hok, okB_limbs d2, by rw [num_limbs]; exact m2⟩, num_limbs, m3]
  · rw [bitsR, if_pos (okB_limbs d3), num_limbs]
  · have := nbits_le_pow k.toNat _ m4
    omega

set_option maxRecDepth 20000 in
set_option maxHeartbeats 6400000 in
theorem shifts_in (a : Option Addr) (len cap : Nat) (zs : List Int) (w : World) (hlen : len ≤ 1048576) (h : CodeIs w a len cap zs) :
    Calls Try.prog 4 #[.slice a len cap] w fun e w' => e = .returned (.bool true) ∧ Below w.heap.size w w' := by
  go_enter Try.func4, Try.ntmps4
  go_wp2_with fail
  refine (big_no a len cap w hlen).mono ?_
  rintro e w ⟨rfl, rfl⟩
  go_wp2_with fail
  refine (drShl a len cap zs w hlen h).mono ?_
  rintro e w1 ⟨va, xs, k, rfl, r1, l1, k0, k1, B1⟩
  clear h
  have ki := fun W (hb : Below w1.heap.size w1 W) => iNatShl va xs k W (r1.below hb (Nat.le_refl _)) (by omega)
  have ks := fun W (hb : Below w1.heap.size w1 W) => sNatShl va xs k W (r1.below hb (Nat.le_refl _)) (by omega)
  have kd := fun W (hb : Below w1.heap.size w1 W) => iNatShr va xs k W (r1.below hb (Nat.le_refl _)) (by omega)
  have kn := fun W (hb : Below w1.heap.size w1 W) => sNatOk va xs W (r1.below hb (Nat.le_refl _)) (by omega)
  obtain ⟨us, o, hr⟩ : ∃ us o, shlR xs k = (us, o) := ⟨_, _, rfl⟩
  rw [hr] at ki ks
  obtain ⟨ad, cp, rfl, -⟩ := id r1
  obtain ⟨n, hn⟩ : ∃ n, xs.length = n := ⟨_, rfl⟩
  rw [hn] at ki ks kd kn r1
  rw [hn]
  have HN : Hid (xs.length = n) := hn
  clear hn
  go_wp2_with fail
  refine (ki _ (Below.refl _ _)).mono ?_
  rintro e w2 ⟨v2, rfl, o2, b2⟩
  go_wp2_with fail
  refine (ks _ b2).mono ?_
  rintro e w3 ⟨v3, rfl, o3, b3⟩
  have R3 := o2.row.below b3 (Nat.le_refl _)
  have C3 := b2.trans (b3.mono b2.size)
  have B3 := B1.trans (C3.mono B1.size)
  have s13 := C3.size
  clear o3 o2 b2 b3 ki ks B1
  by_cases hg : okB xs = true ∧ 0 ≤ k ∧ k ≤ 1152
  · obtain ⟨hok, hk0, hk1⟩ := hg
    obtain ⟨ds, gs, rs, br, f1, f2, f3, f4, f5, f6, f7, f8, f9⟩ := shift_facts hok hk0 hk1
    rw [f1] at kd
    rw [hok] at kn
    have kl : ∀ v W, rowI W v ds → Calls Try.prog 19 #[v, .int .i64 k] W (ansI W (gs, true)) := fun v W h => by
      have := iNatShl v ds k W h (by omega)
      rwa [f3] at this
    have kb : ∀ v W, Below w1.heap.size w1 W → rowI W v gs → Calls Try.prog 16 #[.slice ad n cp, v] W (ansI W (rs, true)) := fun v W hb h => by
      have := iNatSub _ v xs gs W (r1.below hb (Nat.le_refl _)) h (by omega) (by omega)
      rwa [f5] at this
    have kt : ∀ v W, rowI W v rs → Calls Try.prog 22 #[v] W fun e w' => e = .returned (.int .i64 br) ∧ Below W.heap.size W w' := fun v W h => by
      have := iNatBits v rs W h (by omega)
      rwa [f7] at this
    clear f1 f3 f5 f7
    cases o
    · clear hr R3
      go_wp2_with fail
      refine (kd _ C3).mono ?_
      rintro e wa ⟨va', rfl, oa, ba⟩
      have Ca := C3.trans (ba.mono C3.size)
      have Ba := B3.trans (ba.mono B3.size)
      have Ra := oa.row
      clear oa ba
      go_wp2_with fail
      refine (kn _ Ca).mono ?_
      rintro e wa ⟨rfl, rfl⟩
      go_wp2_with fail
      refine (kl _ _ Ra).mono ?_
      rintro e wb ⟨vb', rfl, ob, bb⟩
      have Cb := Ca.trans (bb.mono Ca.size)
      have Bb := Ba.trans (bb.mono Ba.size)
      clear Ca Ba bb Ra
      go_wp2_with fail
      refine (kb _ _ Cb ob.row).mono ?_
      rintro e wc ⟨vc', rfl, oc, bc⟩
      have Bc := Bb.trans (bc.mono Bb.size)
      clear Cb Bb bc ob
      go_wp2_with fail
      refine (kt _ _ oc.row).mono ?_
      rintro e wd ⟨rfl, bd⟩
      go_wp2
      go_ret
      exact ⟨rfl, Bc.trans (bd.mono Bc.size)⟩
    · obtain ⟨-, -, -, hul, hup, bx, hbx, hbu, bx0, bx1⟩ := shift_up hr
      have kr := iNatShr v2 us k w3 R3 (by omega)
      rw [hup] at kr
      have ku := fun W hb => iNatBits v2 us W (R3.below (B := w3.heap.size) hb (Nat.le_refl _)) (by omega)
      have kx := fun W (hb : Below w1.heap.size w1 W) => iNatBits _ xs W (r1.below hb (Nat.le_refl _)) (by omega)
      rw [hbx] at kx
      clear hr hup hbx R3
      obtain ⟨bu, hbu'⟩ : ∃ bu, bitsR us = bu := ⟨_, rfl⟩
      rw [hbu'] at ku hbu
      clear hbu'
      go_wp2_with fail
      refine kr.mono ?_
      rintro e w4 ⟨v4, rfl, o4, b4⟩
      have C4 := C3.trans (b4.mono C3.size)
      have km := sameI v4 _ xs xs w4 o4.row (r1.below C4 (Nat.le_refl _)) (by omega)
      rw [show decide (xs = xs) = true from decide_eq_true rfl] at km
      clear o4 kr
      go_wp2_with fail
      refine km.mono ?_
      rintro e w5 ⟨rfl, b5⟩
      have C5 := C4.trans (b5.mono C4.size)
      have E5 := b4.trans (b5.mono b4.size)
      clear km b4 b5 C4
      by_cases hx : (0 : Int) < (n : Int)
      rotate_left
      · have B5 := B3.trans (E5.mono B3.size)
        clear hbu ku kx
        go_wp2_with fail
        refine (kd _ C5).mono ?_
        rintro e wa ⟨va', rfl, oa, ba⟩
        have Ca := C5.trans (ba.mono C5.size)
        have Ba := B5.trans (ba.mono B5.size)
        have Ra := oa.row
        clear oa ba
        go_wp2_with fail
        refine (kn _ Ca).mono ?_
        rintro e wa ⟨rfl, rfl⟩
        go_wp2_with fail
        refine (kl _ _ Ra).mono ?_
        rintro e wb ⟨vb', rfl, ob, bb⟩
        have Cb := Ca.trans (bb.mono Ca.size)
        have Bb := Ba.trans (bb.mono Ba.size)
        clear Ca Ba bb Ra
        go_wp2_with fail
        refine (kb _ _ Cb ob.row).mono ?_
        rintro e wc ⟨vc', rfl, oc, bc⟩
        have Bc := Bb.trans (bc.mono Bb.size)
        clear Cb Bb bc ob
        go_wp2_with fail
        refine (kt _ _ oc.row).mono ?_
        rintro e wd ⟨rfl, bd⟩
        go_wp2
        go_ret
        exact ⟨rfl, Bc.trans (bd.mono Bc.size)⟩
      · have hbu := hbu (by have := HN.out; omega)
        subst hbu
        go_wp2_with fail
        refine (ku _ E5).mono ?_
        rintro e w6 ⟨rfl, b6⟩
        have C6 := C5.trans (b6.mono C5.size)
        have E6 := E5.trans (b6.mono E5.size)
        clear ku C5 E5 b6
        go_wp2_with fail
        refine (kx _ C6).mono ?_
        rintro e w7 ⟨rfl, b7⟩
        have C7 := C6.trans (b7.mono C6.size)
        have E7 := E6.trans (b7.mono E6.size)
        have B7 := B3.trans (E7.mono B3.size)
        clear kx C6 E6 E7 b7
        go_wp2_with fail
        refine (kd _ C7).mono ?_
        rintro e wa ⟨va', rfl, oa, ba⟩
        have Ca := C7.trans (ba.mono C7.size)
        have Ba := B7.trans (ba.mono B7.size)
        have Ra := oa.row
        clear oa ba
        go_wp2_with fail
        refine (kn _ Ca).mono ?_
        rintro e wa ⟨rfl, rfl⟩
        go_wp2_with fail
        refine (kl _ _ Ra).mono ?_
        rintro e wb ⟨vb', rfl, ob, bb⟩
        have Cb := Ca.trans (bb.mono Ca.size)
        have Bb := Ba.trans (bb.mono Ba.size)
        clear Ca Ba bb Ra
        go_wp2_with fail
        refine (kb _ _ Cb ob.row).mono ?_
        rintro e wc ⟨vc', rfl, oc, bc⟩
        have Bc := Bb.trans (bc.mono Bb.size)
        clear Cb Bb bc ob
        go_wp2_with fail
        refine (kt _ _ oc.row).mono ?_
        rintro e wd ⟨rfl, bd⟩
        go_wp2
        go_ret
        exact ⟨rfl, Bc.trans (bd.mono Bc.size)⟩
  · have hd := shift_no hg
    rw [hd] at kd
    have ho : o = false := by
      cases o
      · rfl
      · obtain ⟨q1, q2, q3, -⟩ := shift_up hr
        exact absurd ⟨q1, q2, q3⟩ hg
    subst ho
    have hg3 : okB xs = false ∨ (okB xs = true ∧ k < 0) ∨ (okB xs = true ∧ 0 ≤ k ∧ 1152 < k) := by
      cases hb : okB xs
      · exact .inl rfl
      · refine .inr ?_
        by_cases h0 : 0 ≤ k
        · exact .inr ⟨rfl, h0, by have := mt (fun h => (⟨hb, h0, h⟩ : okB xs = true ∧ 0 ≤ k ∧ k ≤ 1152)) hg; omega⟩
        · exact .inl ⟨rfl, by omega⟩
    clear hr hd hg R3
    rcases hg3 with hq | ⟨hq, hq1⟩ | ⟨hq, hq1, hq2⟩
    all_goals
      rw [hq] at kn
      clear hq
      go_wp2_with fail
      refine (kd _ C3).mono ?_
      rintro e w4 ⟨v4, rfl, o4, b4⟩
      obtain ⟨ad4, cp4, rfl, -⟩ := o4.row
      have C4 := C3.trans (b4.mono C3.size)
      have B4 := B3.trans (b4.mono B3.size)
      clear o4 b4
      go_wp2_with fail
      refine (kn _ C4).mono ?_
      rintro e w5 ⟨rfl, rfl⟩
      go_wp2
      go_ret
      exact ⟨rfl, B4⟩

set_option maxHeartbeats 800000 in
theorem walkShifts (a0 : Option Addr) (len0 cap0 : Nat) (z0 : List Int) (w : World) (h : IsRow .u8 w a0 len0 cap0 z0) :
    Calls Try.prog 4 #[.slice a0 len0 cap0] w fun e w' => e = .returned (.bool true) ∧ Below w.heap.size w w' := by
  refine law_big _ (fun a len cap w hs => ?_) shifts_in a0 len0 cap0 z0 w h
  go_enter Try.func4, Try.ntmps4
  go_wp2_with (go_at_call 7; refine (big_yes a len cap w hs).mono ?_; rintro e w ⟨rfl, rfl⟩)
  go_ret
  exact ⟨rfl, Below.refl _ _⟩

end Go.Proofs.Ytppeabnipnokhaa
