/- The specification's Digits of every int, by its contract. -/
import Derived.Test.YtdcmpbljedbdhaaDoorRows
import Derived.Test.YtdcmpbljedbdhaaDoorNum
import Derived.Test.YtdcmpbljedbdhaaDoorConv1
import Derived.WalkKit
import Derived.WalkSpells
import Derived.WalkLawsBesides
import Derived.WalkSmall
import Derived.Laws.BytesString
import Derived.Lib.ItoaNum
namespace Go.Proofs.YtdcmpbljedbdhaaDoor
open Go.RowKit

theorem digL_dec (k : Nat) : ∀ out, 0 < k → digL k out = Lib.decDigits k ++ out := by
  induction k using Nat.strongRecOn with
  | ind k ih =>
    intro out h
    have e : 48 + UInt8.ofNat (k % 10) = UInt8.ofNat (48 + k % 10) := by rw [UInt8.ofNat_add]; rfl
    rw [digL_pos k out h, e]
    by_cases hq : k < 10
    · have : k / 10 = 0 := by omega
      have h2 : k % 10 = k := by omega
      rw [this, digL_zero, Lib.decDigits_one hq, h2]; rfl
    · rw [ih (k / 10) (by omega) _ (by omega), Lib.decDigits.eq_1 k, dif_neg hq]
      simp

set_option maxHeartbeats 1600000 in
/-- Of a number above 0. -/
theorem digits_pos (k : Nat) (w : World) (h0 : 0 < k) (h1 : k ≤ 9223372036854775807) :
    Calls Tryd.prog 19 #[.int .i64 k] w fun e w' => ∃ t, e = .returned (.string t) ∧ t.data.toList = digL k [] ∧ Below w.heap.size w w' := by
  have hk : ((k : Int) == 0) = false := by rw [beq_eq_false_iff_ne]; omega
  have hk' : ¬ ((k : Int) < 0) := by omega
  have hcv := conv1
  go_enter Tryd.func19, Tryd.ntmps19
  go_wp2
  go_loopw [0, 4, 5] (fun t v d wr => ∃ (m f : Nat) (out : ByteArray), m ≤ 9223372036854775807 ∧ m < 10 ^ f ∧ out.size + f ≤ 19 ∧ t = .int .i64 m ∧ v = .string out ∧ Hid (digL k [] = digL m out.data.toList) ∧ Below w.heap.size w wr) (fun t _ _ _ => (intOf t).toNat)
  case atStart => exact ⟨k, 19, ⟨#[]⟩, by omega, by omega, by show 0 + 19 ≤ 19; omega, rfl, rfl, rfl, Below.refl _ _⟩
  case round =>
    obtain ⟨m, f, out, hm1, hmf, hsz, rfl, rfl, HD, hb⟩ := hrel
    have hhs := hb.size
    by_cases hlt : 0 < m
    · obtain ⟨f', rfl⟩ : ∃ f', f = f' + 1 := by
        cases f with
        | zero => simp at hmf; omega
        | succ f => exact ⟨f, rfl⟩
      have hmf' := div_ten_lt m f' hmf
      have hlt' : (0 : Int) < m := by omega
      have e0 : ((m : Int) == 0) = false := by rw [beq_eq_false_iff_ne]; omega
      have e1 : ¬ ((m : Int) % 10 < 0) := by omega
      clear hmf
      go_wp2
      go_roundw
      case rel => exact ⟨m / 10, f', _, by omega, hmf', by rw [size_snoc]; omega, by go_num, rfl, by show _ = _; rw [HD.out, digL_pos m _ hlt, toList_snoc], hb.alloc hhs _⟩
      case measure => simp [intOf]; omega
    · have hm0 : m = 0 := by omega
      subst hm0
      have hd : digL k [] = out.data.toList := HD.out.trans (digL_zero _)
      clear HD
      go_wp2
      go_ret
      exact ⟨_, rfl, hd.symm, hb⟩

theorem neg_mod (m : Nat) : (-(m : Int)).tmod 10 = -((m % 10 : Nat) : Int) := by
  rw [Int.neg_tmod, Int.tmod_eq_emod_of_nonneg (by omega)]; omega
theorem neg_div (m : Nat) : (-(m : Int)).tdiv 10 = -((m / 10 : Nat) : Int) := by
  rw [Int.neg_tdiv, Int.tdiv_eq_ediv_of_nonneg (by omega)]; omega

theorem byte_nought (m : Nat) (h : m % 10 = 0) : UInt8.ofNat (48 + -((m : Int) % 10)).toNat = 48 + UInt8.ofNat (m % 10) := by
  have e : (m : Int) % 10 = 0 := by omega
  rw [e, h]; rfl

set_option maxHeartbeats 1600000 in
/-- Of a number below 0. -/
theorem digits_neg (k : Nat) (w : World) (h0 : 0 < k) (h1 : k ≤ 9223372036854775808) :
    Calls Tryd.prog 19 #[.int .i64 (-(k : Int))] w fun e w' => ∃ t, e = .returned (.string t) ∧ t.data.toList = 45 :: digL k [] ∧ Below w.heap.size w w' := by
  have hk : ((-(k : Int)) == 0) = false := by rw [beq_eq_false_iff_ne]; omega
  have hk' : (-(k : Int)) < 0 := by omega
  have hcv := conv1
  go_enter Tryd.func19, Tryd.ntmps19
  go_wp2
  go_loopw [0, 4, 5] (fun t v d wr => ∃ (m f : Nat) (out : ByteArray), m ≤ 9223372036854775808 ∧ m < 10 ^ f ∧ out.size + f ≤ 19 ∧ t = .int .i64 (-(m : Int)) ∧ v = .string out ∧ Hid (digL k [] = digL m out.data.toList) ∧ Below w.heap.size w wr) (fun t _ _ _ => (-(intOf t)).toNat)
  case atStart => exact ⟨k, 19, ⟨#[]⟩, by omega, by omega, by show 0 + 19 ≤ 19; omega, rfl, rfl, rfl, Below.refl _ _⟩
  case round =>
    obtain ⟨m, f, out, hm1, hmf, hsz, rfl, rfl, HD, hb⟩ := hrel
    have hhs := hb.size
    by_cases hlt : 0 < m
    · obtain ⟨f', rfl⟩ : ∃ f', f = f' + 1 := by
        cases f with
        | zero => simp at hmf; omega
        | succ f => exact ⟨f, rfl⟩
      have hmf' := div_ten_lt m f' hmf
      have e0 : ((-(m : Int)) == 0) = false := by rw [beq_eq_false_iff_ne]; omega
      clear hmf
      by_cases hz : m % 10 = 0
      · have eb := byte_nought m hz
        go_wp2
        go_roundw
        case rel => exact ⟨m / 10, f', _, by omega, hmf', by rw [size_snoc]; omega, by go_num, rfl, by show _ = _; rw [HD.out, digL_pos m _ hlt, toList_snoc, hz]; rfl, hb.alloc hhs _⟩
        case measure => simp [intOf]; omega
      · go_wp2
        go_roundw
        case rel => exact ⟨m / 10, f', _, by omega, hmf', by rw [size_snoc]; omega, by go_num, rfl, by show _ = _; rw [HD.out, digL_pos m _ hlt, toList_snoc], hb.alloc hhs _⟩
        case measure => simp [intOf]; omega
    · have hm0 : m = 0 := by omega
      subst hm0
      have hd : digL k [] = out.data.toList := HD.out.trans (digL_zero _)
      clear HD
      go_wp2
      go_ret
      exact ⟨_, rfl, by rw [hd]; exact toList_snoc 45 out, hb⟩

/-- Of every int. -/
theorem digits_any (n : Int) (w : World) (h0 : -9223372036854775808 ≤ n) (h1 : n ≤ 9223372036854775807) :
    Calls Tryd.prog 19 #[.int .i64 n] w fun e w' => ∃ t, e = .returned (.string t) ∧ t.data.toList = Lib.itoa n ∧ Below w.heap.size w w' := by
  unfold Lib.itoa
  by_cases hn : n < 0
  · rw [if_pos hn]
    have h := digits_neg n.natAbs w (by omega) (by omega)
    rw [digL_dec _ _ (by omega), List.append_nil] at h
    have e : -((n.natAbs : Nat) : Int) = n := by omega
    rw [e] at h
    exact h
  · rw [if_neg hn]
    obtain ⟨k, rfl⟩ := Int.eq_ofNat_of_zero_le (by omega : 0 ≤ n)
    by_cases hk : 0 < k
    · have h := digits_pos k w hk (by omega)
      rw [digL_dec _ _ hk, List.append_nil] at h
      exact h
    · obtain rfl : k = 0 := by omega
      go_enter Tryd.func19, Tryd.ntmps19
      go_wp2
      go_ret
      exact ⟨_, rfl, by show _ = Lib.decDigits 0; rw [Lib.decDigits_one (by omega)]; rfl, Below.refl _ _⟩

end Go.Proofs.YtdcmpbljedbdhaaDoor
