/- What the functions on great numbers answer; how a list and a flag are answered. -/
import Derived.Test.YtnojigofojjopaaDoorSNatOk
namespace Go.Proofs.YtnojigofojjopaaDoor
open Go.RowKit

def fitR (n : Nat) : List Int × Bool := if (limbs n).length ≤ 48 then (limbs n, true) else ([], false)
def mulR (xs ys : List Int) : List Int × Bool := if okB xs = true ∧ okB ys = true then fitR (num xs * num ys) else ([], false)
def ofR (n : Int) : List Int × Bool := if n < 0 then ([], false) else (limbs n.toNat, true)
def intR (xs : List Int) : Int × Bool := if okB xs = true ∧ num xs ≤ 9223372036854775807 then ((num xs : Int), true) else (0, false)
def addR (xs ys : List Int) : List Int × Bool := if okB xs = true ∧ okB ys = true then fitR (num xs + num ys) else ([], false)
def shlR (xs : List Int) (k : Int) : List Int × Bool := if okB xs = true ∧ 0 ≤ k ∧ k ≤ 1152 then fitR (num xs * 2 ^ k.toNat) else ([], false)
def shrR (xs : List Int) (k : Int) : List Int × Bool := if okB xs = true ∧ 0 ≤ k ∧ k ≤ 1152 then (limbs (num xs / 2 ^ k.toNat), true) else ([], false)
def subR (xs ys : List Int) : List Int × Bool := if okB xs = true ∧ okB ys = true ∧ num ys ≤ num xs then (limbs (num xs - num ys), true) else ([], false)
/-- How two numbers stand to each other. -/
def cmpI (m n : Nat) : Int := if m < n then -1 else if n < m then 1 else 0
def cmpR (xs ys : List Int) : Int := if okB xs = true ∧ okB ys = true then cmpI (num xs) (num ys) else -2

/-- A list and a flag are answered: the list in memory of the call's own. -/
def ansI (w : World) (r : List Int × Bool) (e : Ending) (w' : World) : Prop := ∃ v, e = .returned (.tuple #[v, .bool r.2]) ∧ ownsI w' w.heap.size v r.1 ∧ Below w.heap.size w w'

theorem fitR_len (n : Nat) : (fitR n).1.length ≤ 1048576 := by
  unfold fitR
  split
  · show (limbs n).length ≤ 1048576; omega
  · simp
theorem addR_len (xs ys : List Int) : (addR xs ys).1.length ≤ 1048576 := by
  unfold addR
  split
  · exact fitR_len _
  · simp
theorem mulR_len (xs ys : List Int) : (mulR xs ys).1.length ≤ 1048576 := by
  unfold mulR
  split
  · exact fitR_len _
  · simp
theorem shlR_len (xs : List Int) (k : Int) : (shlR xs k).1.length ≤ 1048576 := by
  unfold shlR
  split
  · exact fitR_len _
  · simp
theorem okL_lt {xs : List Int} (h : okL xs) : num xs < 16777216 ^ 48 := by
  have h1 := limbs_lt (num xs)
  have e : limbs (num xs) = xs := (okL_eq h).symm
  rw [e] at h1
  have := Nat.pow_le_pow_right (by omega : 0 < 16777216) h.1
  omega
theorem subR_len (xs ys : List Int) : (subR xs ys).1.length ≤ 1048576 := by
  unfold subR
  split
  · rename_i h
    have h1 := okL_lt ((okB_iff xs).1 h.1)
    have := limbs_len_le (num xs - num ys) 48 (by omega)
    show (limbs (num xs - num ys)).length ≤ 1048576
    omega
  · simp
theorem shrR_len (xs : List Int) (k : Int) : (shrR xs k).1.length ≤ 1048576 := by
  unfold shrR
  split
  · rename_i h
    have h1 := okL_lt ((okB_iff xs).1 h.1)
    have h2 : num xs / 2 ^ k.toNat ≤ num xs := Nat.div_le_self _ _
    have := limbs_len_le (num xs / 2 ^ k.toNat) 48 (by omega)
    show (limbs (num xs / 2 ^ k.toNat)).length ≤ 1048576
    omega
  · simp
theorem ofR_len (n : Int) (h : n ≤ 9223372036854775807) : (ofR n).1.length ≤ 1048576 := by
  unfold ofR
  split
  · simp
  · have := limbs_len_le n.toNat 3 (by omega)
    show (limbs n.toNat).length ≤ 1048576
    omega

end Go.Proofs.YtnojigofojjopaaDoor
