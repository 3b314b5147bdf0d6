/- FnRootHeld: a root's ends, squared, hold what was rooted: the mathematics. -/
import Derived.Test.YtddakeohamefiaaDrRt
import Derived.Test.YtddakeohamefiaaIvRootB
import Derived.Test.YtddakeohamefiaaIWholeMul
import Derived.Test.YtddakeohamefiaaIWholeShift
import Derived.Test.YtddakeohamefiaaIWholeCmp
import Derived.Test.YtddakeohamefiaaLawMoved
namespace Go.Proofs.Ytddakeohamefiaa
open Go.RowKit
set_option linter.unusedSimpArgs false

theorem isqrt_mono {m n : Nat} (h : m ≤ n) : isqrt m ≤ isqrt n := by
  have h1 := (isqrt_spec m).1
  have h2 := (isqrt_spec n).2
  have := sq_lt (a := isqrt m) (b := isqrt n + 1) (by omega)
  omega
theorem rtUp_sq (n : Nat) : n ≤ rtUp n * rtUp n ∧ isqrt n ≤ rtUp n := by
  have h1 := isqrt_spec n
  unfold rtUp
  split
  · exact ⟨by omega, by omega⟩
  · exact ⟨by omega, Nat.le_refl _⟩
theorem mul_len48 {a b r : Wh} {f : Bool} (h : wmulR a b = (r, f)) : r.2.length ≤ 48 := by
  have : (wmulR a b).1.2.length ≤ 48 := by
    unfold wmulR
    split
    · exact fitW_len48 _
    · simp
  rw [h] at this
  exact this
theorem shift_len48 {a r : Wh} {k : Int} {f : Bool} (h : wshiftR a k = (r, f)) : r.2.length ≤ 48 := by
  have : (wshiftR a k).1.2.length ≤ 48 := by
    unfold wshiftR
    split
    · exact fitW_len48 _
    · simp
  rw [h] at this
  exact this
theorem root_no {a r : Vh} {p : Int} (h : ivRootR a p = (r, false)) : r = ((false, []), (false, [])) := by
  unfold ivRootR at h
  split at h
  · exact fitV_false h
  · exact (congrArg Prod.fst h).symm
theorem root_yes {a r : Vh} {p : Int} (h : ivRootR a p = (r, true)) :
    okV r = true ∧ r.1.2.length ≤ 48 ∧ r.2.2.length ≤ 48 ∧
      (∀ lo f b, wmulR r.1 r.1 = (lo, f) → wshiftR a.1 p = (b, true) → wcmpR lo b ≤ 0) ∧
      (∀ hi b, wmulR r.2 r.2 = (hi, true) → wshiftR a.2 p = (b, true) → 0 ≤ wcmpR hi b) := by
  unfold ivRootR at h
  split at h
  · rename_i hc
    obtain ⟨hok, h0, p0, p1⟩ := hc
    obtain ⟨k1, k2, k3⟩ := okV_yes hok
    obtain ⟨rfl, m1, m2⟩ := fitV_true h
    obtain ⟨u, hu⟩ := Int.eq_ofNat_of_zero_le h0
    obtain ⟨v, hv⟩ := Int.eq_ofNat_of_zero_le (Int.le_trans h0 k3)
    rw [hu] at m1
    rw [hv] at m2
    rw [hu, hv]
    have huv : u ≤ v := by omega
    simp only [Int.natAbs_natCast] at m1 m2 ⊢
    have hle : rtLo (u * 2 ^ p.toNat) ≤ ((rtUp (v * 2 ^ p.toNat) : Nat) : Int) := by
      unfold rtLo
      have e1 := isqrt_mono (Nat.mul_le_mul_right (2 ^ p.toNat) huv)
      have e2 := (rtUp_sq (v * 2 ^ p.toNat)).2
      omega
    refine ⟨okV_mk m1 m2 hle, m1, m2, fun lo f b hm hs => ?_, fun hi b hm hs => ?_⟩
    · have hs' : fitW ((u : Int) * 2 ^ p.toNat) = (b, true) := by
        unfold wshiftR at hs
        rw [if_pos ⟨k1, by omega, by omega⟩, hu] at hs
        unfold scaleI at hs
        rw [if_pos p0] at hs
        exact hs
      obtain ⟨rfl, mb⟩ := fitW_true hs'
      have hsq := (isqrt_spec (u * 2 ^ p.toNat)).1
      have hcast : ((u : Int) * 2 ^ p.toNat) = ((u * 2 ^ p.toNat : Nat) : Int) := by simp
      have hx : rtLo (u * 2 ^ p.toNat) * rtLo (u * 2 ^ p.toNat) = ((isqrt (u * 2 ^ p.toNat) * isqrt (u * 2 ^ p.toNat) : Nat) : Int) := by unfold rtLo; simp
      have hm' : fitW (rtLo (u * 2 ^ p.toNat) * rtLo (u * 2 ^ p.toNat)) = (lo, f) := by
        unfold wmulR at hm
        rw [if_pos ⟨okW_mk m1, okW_mk m1⟩, mkW_val] at hm
        exact hm
      rw [hx] at hm'
      rw [hcast] at mb ⊢
      have hl : (limbs ((isqrt (u * 2 ^ p.toNat) * isqrt (u * 2 ^ p.toNat) : Nat) : Int).natAbs).length ≤ 48 := fit_le mb (by rw [Int.natAbs_natCast, Int.natAbs_natCast]; exact hsq)
      rw [fitW_yes hl] at hm'
      have e := (congrArg Prod.fst hm').symm
      simp only at e
      rw [e, wcmp_mk (okW_mk hl) (okW_mk mb), mkW_val, mkW_val]
      split
      · omega
      · rw [if_neg (by omega)]
        omega
    · have hs' : fitW ((v : Int) * 2 ^ p.toNat) = (b, true) := by
        unfold wshiftR at hs
        rw [if_pos ⟨k2, by omega, by omega⟩, hv] at hs
        unfold scaleI at hs
        rw [if_pos p0] at hs
        exact hs
      obtain ⟨rfl, mb⟩ := fitW_true hs'
      have hsq := (rtUp_sq (v * 2 ^ p.toNat)).1
      have hcast : ((v : Int) * 2 ^ p.toNat) = ((v * 2 ^ p.toNat : Nat) : Int) := by simp
      have hm' : fitW (((rtUp (v * 2 ^ p.toNat) : Nat) : Int) * ((rtUp (v * 2 ^ p.toNat) : Nat) : Int)) = (hi, true) := by
        unfold wmulR at hm
        rw [if_pos ⟨okW_mk m2, okW_mk m2⟩, mkW_val] at hm
        exact hm
      obtain ⟨rfl, mh⟩ := fitW_true hm'
      have hx : ((rtUp (v * 2 ^ p.toNat) : Nat) : Int) * ((rtUp (v * 2 ^ p.toNat) : Nat) : Int) = ((rtUp (v * 2 ^ p.toNat) * rtUp (v * 2 ^ p.toNat) : Nat) : Int) := by simp
      rw [hx] at mh ⊢
      rw [hcast] at mb ⊢
      rw [wcmp_mk (okW_mk mh) (okW_mk mb), mkW_val, mkW_val, if_neg (by omega)]
      split <;> omega
  · cases h

end Go.Proofs.Ytddakeohamefiaa
