/- bits.Len32 and the program's bits of a great number, each by its contract. -/
import Derived.Test.YtnngmkgkphkmhaaGB
import Derived.Test.YtnngmkgkphkmhaaSB
import Derived.Lib.BitFns
namespace Go.Proofs.Ytnngmkgkphkmhaa
open Go.RowKit

theorem nbits_eq : ∀ n, n < 18446744073709551616 → nbits n = Lib.bitLen n := by
  intro n
  induction n using Nat.strongRecOn with
  | ind n ih =>
    intro h
    by_cases h0 : n = 0
    · subst h0; rw [nbits_zero]; rfl
    · rw [nbits_pos n (by omega), Lib.bitLen_half n h0 h, ih (n / 2) (by omega) (by omega)]
      omega

set_option maxHeartbeats 4000000 in
set_option maxRecDepth 100000 in
theorem len32_c (x : Int) (w : World) (h0 : 0 ≤ x) (h1 : x < 16777216) :
    Calls Try.prog 115 #[.int .u32 x] w fun e w' => e = .returned (.int .i64 (nbits x.toNat : Int)) ∧ w' = w := by
  rw [nbits_eq x.toNat (by omega)]
  by_cases hA : 65536 ≤ x
  · have y0 : 0 ≤ x / 65536 := by omega
    have y1 : x / 65536 ≤ 255 := by omega
    have y2 : ¬ 256 ≤ x / 65536 := by omega
    have HV : Hid (16 + Lib.len8 (x / 65536) = (Lib.bitLen x.toNat : Int)) := by
      show _ = _
      rw [Lib.len8_of _ y0 y1]
      have e : (x / 65536).toNat = x.toNat / 65536 := by omega
      have l := Lib.bitLen_le8' (x / 65536) y0 y1
      have s := Lib.bitLen_shift16 x.toNat (by omega) (by omega)
      rw [e] at l ⊢
      omega
    have l8 := Lib.len8_of _ y0 y1
    have m8 := Lib.bitLen_le8' (x / 65536) y0 y1
    have z0 : 0 ≤ Lib.len8 (x / 65536) := by omega
    have z1 : Lib.len8 (x / 65536) ≤ 8 := by omega
    clear l8 m8
    go_enter Try.func115, Try.ntmps115
    go_wp2
    go_ret
    exact ⟨by rw [← HV.out]; rfl, rfl⟩
  · by_cases hB : 256 ≤ x
    · have y0 : 0 ≤ x / 256 := by omega
      have y1 : x / 256 ≤ 255 := by omega
      have HV : Hid (8 + Lib.len8 (x / 256) = (Lib.bitLen x.toNat : Int)) := by
        show _ = _
        rw [Lib.len8_of _ y0 y1]
        have e : (x / 256).toNat = x.toNat / 256 := by omega
        have l := Lib.bitLen_le8' (x / 256) y0 y1
        have s := Lib.bitLen_shift8 x.toNat (by omega) (by omega)
        rw [e] at l ⊢
        omega
      have l8 := Lib.len8_of _ y0 y1
      have m8 := Lib.bitLen_le8' (x / 256) y0 y1
      have z0 : 0 ≤ Lib.len8 (x / 256) := by omega
      have z1 : Lib.len8 (x / 256) ≤ 8 := by omega
      clear l8 m8
      go_enter Try.func115, Try.ntmps115
      go_wp2
      go_ret
      exact ⟨by rw [← HV.out]; rfl, rfl⟩
    · have y1 : x ≤ 255 := by omega
      have HV : Hid (Lib.len8 x = (Lib.bitLen x.toNat : Int)) := Lib.len8_of _ h0 y1
      have l8 := Lib.len8_of _ h0 y1
      have m8 := Lib.bitLen_le8' x h0 y1
      have z0 : 0 ≤ Lib.len8 x := by omega
      have z1 : Lib.len8 x ≤ 8 := by omega
      clear l8 m8
      go_enter Try.func115, Try.ntmps115
      go_wp2
      go_ret
      exact ⟨by rw [← HV.out]; (try simp), rfl⟩

theorem nbits_last {n s : Nat} (h : (limbs n).length = s + 1) : nbits n = 24 * s + nbits ((limbs n).getD s 0).toNat := by
  have hz : (limbs n).getD s 0 ≠ 0 := by
    have h1 := limbs_noZ n
    have hne : limbs n ≠ [] := by intro e; rw [e] at h; simp at h
    have h2 := h1 hne
    rw [last_getD hne, h] at h2
    exact h2
  have := nbits_limbs (limbs_inR n) s h hz
  rw [num_limbs] at this
  exact this
theorem limb_bits {x : Int} (h : x < 16777216) : nbits x.toNat ≤ 24 := nbits_le_pow 24 _ (by omega)

set_option maxHeartbeats 1600000 in
/-- bits: how many a number has. -/
theorem gBits (a oa n : Nat) (w : World) (ha : GA w a oa n) :
    Calls Try.prog 110 #[.pointer (some ⟨a, oa, none⟩)] w fun e w' => e = .returned (.int .i64 (nbits n : Int)) ∧ Below w.heap.size w w' := by
  have hl := ha.len
  have c98 := ha.size
  by_cases h0 : (limbs n).length = 0
  · have HB : Hid (nbits n = 0) := by
      show _ = _
      have e : limbs n = [] := List.eq_nil_of_length_eq_zero h0
      have := limbs_val n
      rw [e] at this
      have hn : n = 0 := by simp [lval] at this; omega
      rw [hn, nbits_zero]
    have e0 : (((limbs n).length : Int) == 0) = true := by rw [h0]; rfl
    go_enter Try.func110, Try.ntmps110
    go_wp2
    go_ret
    exact ⟨by rw [HB.out]; rfl, Below.refl _ _⟩
  · obtain ⟨s, hs⟩ : ∃ s, (limbs n).length = s + 1 := ⟨(limbs n).length - 1, by omega⟩
    have HB : Hid (nbits n = 24 * s + nbits ((limbs n).getD s 0).toNat) := nbits_last hs
    have cw := ha.word s (by omega)
    have gx := inR_getD (limbs_inR n) s
    have hcast : ((limbs n).length : Int) = (s : Int) + 1 := by omega
    have hs98 : (s : Int) < 98 := by omega
    rw [hcast] at c98
    obtain ⟨x, hx⟩ : ∃ x, (limbs n).getD s 0 = x := ⟨_, rfl⟩
    rw [hx] at cw gx HB
    have lb := limb_bits gx.2
    have kl := fun W => len32_c x W gx.1 gx.2
    obtain ⟨z, hz⟩ : ∃ z, nbits x.toNat = z := ⟨_, rfl⟩
    simp only [hz] at kl
    rw [hz] at HB lb
    clear hx hz hs hcast h0 hl ha gx
    have e0 : (((s : Int) + 1) == 0) = false := by rw [beq_eq_false_iff_ne]; omega
    go_enter Try.func110, Try.ntmps110
    go_wp2_with fail
    go_quiet ((go_at_call 115; exact (kl _).mono fun _ _ ⟨he, hm⟩ => ⟨he, _, hm⟩))
    go_wp2
    go_ret
    refine ⟨?_, ⟨rfl, rfl, rfl, Nat.le_refl _, fun _ _ => rfl⟩⟩
    rw [HB.out]
    simp
    omega

end Go.Proofs.Ytnngmkgkphkmhaa
