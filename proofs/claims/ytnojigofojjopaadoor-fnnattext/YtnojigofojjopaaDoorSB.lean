/- Several small texts in one: SPow0, SPow, SLimb, SUp, SMax, SPlus, SCmp, SRoot, SNatOf, SNatPow. -/
import Derived.Test.YtnojigofojjopaaDoorBase
import Derived.Laws.MakeOwn
import Derived.Test.YtnojigofojjopaaDoorOne
import Derived.Test.YtnojigofojjopaaDoorSBits
import Derived.Test.YtnojigofojjopaaDoorSTimes
/- The specification's l2Pow, by its contract. -/
namespace Go.Proofs.YtnojigofojjopaaDoor
open Go.RowKit

theorem two_pow_le {k m : Nat} (h : k ≤ m) : (2 : Int) ^ k ≤ 2 ^ m := by
  have h1 := Nat.pow_le_pow_right (by omega : 0 < 2) h
  have e1 : ((2 ^ k : Nat) : Int) = (2 : Int) ^ k := by simp
  have e2 : ((2 ^ m : Nat) : Int) = (2 : Int) ^ m := by simp
  omega
theorem two_pow_pos (k : Nat) : (0 : Int) < 2 ^ k := Int.pow_pos (by omega)

end Go.Proofs.YtnojigofojjopaaDoor

/- The specification's l2Pow, by its contract, and what is said of limbs. -/

/- The specification's l2Limb, by its contract. -/
namespace Go.Proofs.YtnojigofojjopaaDoor
open Go.RowKit

end Go.Proofs.YtnojigofojjopaaDoor

/- The specification's l2Up and NatShl, by their contracts. -/
namespace Go.Proofs.YtnojigofojjopaaDoor
open Go.RowKit

theorem up_step (i : Nat) (c x f A xk : Int) (ys : List Int) (hi : ys.length = i) (h : lval ys + 16777216 ^ i * c = f * A) (hx : x = xk * f + c) :
    lval (ys ++ [x % 16777216]) + 16777216 ^ (i + 1) * (x / 16777216) = f * (A + 16777216 ^ i * xk) := by
  rw [lval_snoc, hi, Int.pow_succ]
  have e : x = 16777216 * (x / 16777216) + x % 16777216 := by omega
  have e3 : (16777216 : Int) ^ i * x = 16777216 ^ i * 16777216 * (x / 16777216) + 16777216 ^ i * (x % 16777216) := by
    conv => lhs; rw [e]
    rw [Int.mul_add, ← Int.mul_assoc]
  have e2 : (16777216 : Int) ^ i * x = 16777216 ^ i * (xk * f) + 16777216 ^ i * c := by rw [hx, Int.mul_add]
  have e4 : f * (A + 16777216 ^ i * xk) = f * A + 16777216 ^ i * (xk * f) := by
    rw [Int.mul_add, Int.mul_comm xk f, ← Int.mul_assoc, ← Int.mul_assoc, Int.mul_comm f (16777216 ^ i)]
  omega

theorem mul_bd {d f : Int} (d0 : 0 ≤ d) (d1 : d < 16777216) (f0 : 0 < f) (_f1 : f ≤ 8388608) : 0 ≤ d * f ∧ d * f ≤ 16777215 * f := 
  ⟨Int.mul_nonneg d0 (by omega), Int.mul_le_mul_of_nonneg_right (by omega) (by omega)⟩

theorem pow24 (k : Nat) : (16777216 : Int) ^ (k / 24) * 2 ^ (k % 24) = 2 ^ k := by
  have e : (16777216 : Int) = 2 ^ 24 := by decide
  rw [e, ← Int.pow_mul, ← Int.pow_add]
  congr 1
  omega

end Go.Proofs.YtnojigofojjopaaDoor

/- The specification's l1Max, by its contract. -/
namespace Go.Proofs.YtnojigofojjopaaDoor
open Go.RowKit

end Go.Proofs.YtnojigofojjopaaDoor

/- The specification's l2Plus, by its contract. -/
namespace Go.Proofs.YtnojigofojjopaaDoor
open Go.RowKit

end Go.Proofs.YtnojigofojjopaaDoor

/- The specification's l2Cmp, by its contract. -/
namespace Go.Proofs.YtnojigofojjopaaDoor
open Go.RowKit

end Go.Proofs.YtnojigofojjopaaDoor

/- The specification's l3Root, by its contract. -/
namespace Go.Proofs.YtnojigofojjopaaDoor
open Go.RowKit

end Go.Proofs.YtnojigofojjopaaDoor

/- The specification's NatOf, by its contract. -/
namespace Go.Proofs.YtnojigofojjopaaDoor
open Go.RowKit

set_option maxHeartbeats 1600000 in
theorem sNatOf (n : Int) (w : World) (h1 : n ≤ 9223372036854775807) : Calls Tryd.prog 39 #[.int .i64 n] w (ansI w (ofR n)) := by
  have ho := made_own w
  by_cases hn : n < 0
  · have HE : Hid (ofR n = ([], false)) := by show _ = _; rw [ofR, if_pos hn]
    go_enter Tryd.func39, Tryd.ntmps39
    go_wp2
    go_ret2
    exact ⟨_, by rw [HE.out]; rfl, by rw [HE.out]; exact ho, (Below.refl _ _).alloc (Nat.le_refl _) _⟩
  · have HE : Hid (ofR n = (limbs n.toNat, true)) := by show _ = _; rw [ofR, if_neg hn]
    have hn0 : 0 ≤ n := by omega
    go_enter Tryd.func39, Tryd.ntmps39
    go_wp2
    go_loopw [0, 4] (fun t v wr => ∃ (m : Nat) (out : List Int), (m : Int) ≤ 9223372036854775807 ∧ t = .int .i64 m ∧ Hid (limbs n.toNat = out ++ limbs m) ∧ ownsI wr w.heap.size v out ∧ Below w.heap.size w wr) (fun t _ _ => (intOf t).toNat)
    case atStart => exact ⟨n.toNat, [], by omega, by congr 1; omega, by show _ = _; simp, made_own w, (Below.refl _ _).alloc (Nat.le_refl _) _⟩
    case round =>
      obtain ⟨m, out, hm1, rfl, HL, hown, hbw⟩ := hrel
      have hol : out.length ≤ 3 := by
        have h2 := congrArg List.length HL.out
        rw [List.length_append] at h2
        have h3 := limbs_len_le n.toNat 3 (by omega)
        omega
      have hsz := hbw.size
      by_cases hlt : 0 < m
      · have hlt' : (0 : Int) < (m : Int) := by omega
        have hp : limbs m = ((m % 16777216 : Nat) : Int) :: limbs (m / 16777216) := limbs_pos m hlt
        have HP : Hid (limbs m = ((m % 16777216 : Nat) : Int) :: limbs (m / 16777216)) := hp
        clear hp
        go_wp2_with (at_builtin; refine wpI_app w wr rfl (.tmp 11) (.tmp 14) rfl w.heap.size _ out _ rfl hown hbw rfl (by omega) hsz ?_; intro v1 w1 o1 b1)
        go_roundw
        case rel => exact ⟨m / 16777216, _, by omega, by go_num, by show _ = _; rw [HL.out, HP.out]; simp, o1, b1⟩
        case measure => simp [intOf]; omega
      · have hm0 : m = 0 := by omega
        subst hm0
        have hfin : limbs n.toNat = out := by rw [HL.out, limbs_zero, List.append_nil]
        go_wp2
        go_ret2
        exact ⟨_, by rw [HE.out]; rfl, by rw [HE.out]; show ownsI _ _ _ (limbs n.toNat); rw [hfin]; exact hown, hbw⟩

end Go.Proofs.YtnojigofojjopaaDoor

/- The specification's NatPow, by its contract. -/
namespace Go.Proofs.YtnojigofojjopaaDoor
open Go.RowKit

theorem fit_pow {n i k : Nat} (hik : i ≤ k) (h : ¬ (limbs (n ^ i)).length ≤ 48) : ¬ (limbs (n ^ k)).length ≤ 48 := by
  intro hk
  apply h
  by_cases hn : n = 0
  · subst hn
    by_cases hi : i = 0
    · subst hi; rw [Nat.pow_zero]; exact Nat.le_trans (limbs_len_le 1 1 (by decide)) (by omega)
    · rw [Nat.zero_pow (by omega), limbs_zero]; simp
  · exact Nat.le_trans (limbs_len_mono (Nat.pow_le_pow_right (by omega) hik)) hk

set_option maxHeartbeats 1600000 in
theorem sNatPow (n k : Int) (w : World) : Calls Tryd.prog 22 #[.int .i64 n, .int .i64 k] w (ansI w (powR n k)) := by
  have ho := made_own w
  by_cases hn : 0 ≤ n ∧ n ≤ 16777215
  · have ka := in_yes n 0 16777215 w hn.1 hn.2
    by_cases hk : 0 ≤ k ∧ k ≤ 1000
    · have kb := in_yes k 0 1000 w hk.1 hk.2
      obtain ⟨m, rfl⟩ : ∃ m : Nat, n = m := ⟨n.toNat, by omega⟩
      obtain ⟨j, rfl⟩ : ∃ j : Nat, k = j := ⟨k.toNat, by omega⟩
      have HE : Hid (powR m j = fitR (m ^ j)) := by show _ = _; rw [powR, if_pos ⟨hn.1, hn.2, hk.1, hk.2⟩, Int.toNat_natCast, Int.toNat_natCast]
      have kc := sNatOf m w (by omega)
      rw [ofR, if_neg (by omega), Int.toNat_natCast] at kc
      have hlm : (limbs m).length ≤ 1 := limbs_len_le m 1 (by omega)
      have hj := hk.2
      clear hn hk
      go_enter Tryd.func22, Tryd.ntmps22
      go_wp2_with fail
      refine ka.mono ?_
      rintro e w ⟨rfl, rfl⟩
      go_wp2_with fail
      refine kb.mono ?_
      rintro e w ⟨rfl, rfl⟩
      go_wp2_with fail
      refine kc.mono ?_
      rintro e w1 ⟨v1, rfl, o1, b1⟩
      have l1 : limbs 1 = [1] := by rw [limbs_pos 1 (by omega), show 1 / 16777216 = 0 by decide, limbs_zero]; rfl
      have oo := one_own w1
      rw [← l1] at oo
      have r1 := o1.row.below ((Below.refl w1.heap.size w1).alloc (Nat.le_refl _) (.cells #[.int .i64 1] 3)) (Nat.le_refl _)
      have s1 := b1.size
      go_wp2
      go_loopw [8, 9] (fun v i wr => ∃ (q : Nat), q ≤ j ∧ i = .int .i64 q ∧ (limbs (m ^ q)).length ≤ 48 ∧ ownsI wr w.heap.size v (limbs (m ^ q)) ∧ rowI wr v1 (limbs m) ∧ Below w.heap.size w wr) (fun _ i _ => j - (intOf i).toNat)
      case atStart => exact ⟨0, Nat.zero_le _, rfl, by rw [Nat.pow_zero, l1]; decide, ownsI_mono oo s1, r1, b1.alloc s1 _⟩
      case round =>
        obtain ⟨q, hq, rfl, hq48, hown, hrow, hbw⟩ := hrel
        have hsz := hbw.size
        by_cases hlt : q < j
        · have hlt' : (q : Int) < (j : Int) := by omega
          have kt := sTimes u8 v1 (limbs (m ^ q)) (limbs m) wr hown.row hrow (limbs_inR _) (limbs_inR _) (by omega) (by omega)
          rw [num_limbs, num_limbs, ← Nat.pow_succ] at kt
          by_cases hfit : (limbs (m ^ (q + 1))).length ≤ 48
          · have hfit' : ((limbs (m ^ (q + 1))).length : Int) ≤ 48 := by omega
            clear hown
            go_wp2_with fail
            refine kt.mono ?_
            rintro e w3 ⟨v3, rfl, o3, b3⟩
            have hr3 := hrow.below b3 (Nat.le_refl _)
            have B3 := hbw.trans (b3.mono hsz)
            have o3' := ownsI_mono o3 hsz
            obtain ⟨a3, c3, rfl, -⟩ := o3.row
            clear o3 b3 kt hrow
            go_wp2
            go_roundw
            case rel => exact ⟨q + 1, by omega, by go_num, hfit, o3', hr3, B3⟩
            case measure => simp [intOf] <;> omega
          · have hfit' : (48 : Int) < ((limbs (m ^ (q + 1))).length : Int) := by omega
            have HF : Hid (fitR (m ^ j) = ([], false)) := by show _ = _; rw [fitR, if_neg (fit_pow (show q + 1 ≤ j by omega) hfit)]
            clear hown
            go_wp2_with fail
            refine kt.mono ?_
            rintro e w3 ⟨v3, rfl, o3, b3⟩
            have B3 := hbw.trans (b3.mono hsz)
            have s3 := b3.size
            obtain ⟨a3, c3, rfl, -⟩ := o3.row
            have o9 := made_own w3
            clear o3 b3 kt hrow
            go_wp2
            go_ret2
            exact ⟨_, by rw [HE.out, HF.out]; rfl, by rw [HE.out, HF.out]; exact ownsI_mono o9 (Nat.le_trans hsz s3), B3.alloc (Nat.le_trans hsz s3) _⟩
        · have hqj : q = j := by omega
          subst hqj
          have HF : Hid (fitR (m ^ q) = (limbs (m ^ q), true)) := by show _ = _; rw [fitR, if_pos hq48]
          go_wp2
          go_ret2
          exact ⟨_, by rw [HE.out, HF.out]; rfl, by rw [HE.out, HF.out]; exact hown, hbw⟩
    · have HE : Hid (powR n k = ([], false)) := by show _ = _; rw [powR, if_neg (fun h => hk h.2.2)]
      have kb := in_no k 0 1000 w hk
      clear hn hk
      go_enter Tryd.func22, Tryd.ntmps22
      go_wp2_with fail
      refine ka.mono ?_
      rintro e w ⟨rfl, rfl⟩
      go_wp2_with fail
      refine kb.mono ?_
      rintro e w ⟨rfl, rfl⟩
      go_wp2
      go_ret2
      exact ⟨_, by rw [HE.out]; rfl, by rw [HE.out]; exact ho, (Below.refl _ _).alloc (Nat.le_refl _) _⟩
  · have HE : Hid (powR n k = ([], false)) := by show _ = _; rw [powR, if_neg (fun h => hn ⟨h.1, h.2.1⟩)]
    have ka := in_no n 0 16777215 w hn
    clear hn
    go_enter Tryd.func22, Tryd.ntmps22
    go_wp2_with fail
    refine ka.mono ?_
    rintro e w ⟨rfl, rfl⟩
    go_wp2
    go_ret2
    exact ⟨_, by rw [HE.out]; rfl, by rw [HE.out]; exact ho, (Below.refl _ _).alloc (Nat.le_refl _) _⟩

end Go.Proofs.YtnojigofojjopaaDoor
