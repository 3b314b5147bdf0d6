/- Small facts on owned rows of bytes (no walk). -/
import Derived.Test.YtnojigofojjopaaDoorRows
import Derived.WalkKit
import Derived.WalkSmall
import Derived.Laws.OwnMore
namespace Go.Proofs.YtnojigofojjopaaDoor
open Go.RowKit

theorem Tryd.info5 : (Tryd.prog.info? 5).map (fun i => (i.zero, i.size, i.bytes)) = some (some (.int .u8 0), 1, 1) := by kernel_rfl

/-- The bytes 'k', 'k + 1', .. of so many places. -/
def marks (k : Int) : Nat → List Int
  | 0 => []
  | n + 1 => marks k n ++ [(k + n) % 256]
theorem marks_length (k : Int) (n : Nat) : (marks k n).length = n := by
  induction n with
  | zero => rfl
  | succ n ih => simp [marks, ih]
theorem marks_get (k : Int) (n j : Nat) (h : j < n) : (marks k n)[j]? = some ((k + j) % 256) := by
  induction n with
  | zero => omega
  | succ n ih =>
    simp only [marks]
    by_cases hj : j < n
    · rw [List.getElem?_append_left (by rw [marks_length]; exact hj)]; exact ih hj
    · have : j = n := by omega
      subst this
      rw [List.getElem?_append_right (by rw [marks_length]; exact Nat.le_refl _), marks_length]; simp

/-- 'v' owns the bytes 'xs' from block 'base' on. -/
def ownsB (w : World) (base : Nat) (v : Value) (xs : List Int) : Prop := w.ownsRow base 5 1 v xs.length (xs.map (Value.int .u8))

theorem ownsB.kept {w w' : World} {base : Nat} {v : Value} {xs : List Int} {row : Option Nat} (h : ownsB w base v xs) (hg : w.grownBy w' row) (hne : v.ownBlock = none ∨ v.ownBlock ≠ row) : ownsB w' base v xs :=
  World.ownsRow.kept h hg hne

theorem ownsB.below {w w' : World} {base B : Nat} {v : Value} {xs : List Int} (h : ownsB w base v xs) (hb : Below B w w') (hlt : w.heap.size ≤ B) : ownsB w' base v xs := by
  refine World.ownsRow.kept (row := none) h ⟨hb.os, hb.tape, hb.output, hb.size, fun k hk _ => hb.block k (by omega)⟩ ?_
  cases hv : v.ownBlock with
  | none => exact .inl rfl
  | some k => exact .inr (by simp)

theorem grown_trans {a b c : World} {row : Option Nat} (h : a.grownBy b row) (k : b.grownBy c row) : a.grownBy c row :=
  ⟨k.os.trans h.os, k.tape.trans h.tape, k.output.trans h.output, Nat.le_trans h.size k.size, fun i hi hr => (k.block i (Nat.lt_of_lt_of_le hi h.size) hr).trans (h.block i hi hr)⟩

theorem marks_step (k : Int) (xs : List Int) (j : Nat) (hj : j < xs.length) : ((marks k j ++ xs.drop j).map (Value.int .u8)).set j (.int .u8 ((k + j) % 256)) = (marks k (j + 1) ++ xs.drop (j + 1)).map (Value.int .u8) := by
  have e : (marks k j ++ xs.drop j).set j ((k + j) % 256) = marks k (j + 1) ++ xs.drop (j + 1) := by
    rw [List.set_append_right _ _ (by rw [marks_length]; exact Nat.le_refl _), marks_length, Nat.sub_self, List.drop_eq_getElem_cons hj, List.set_cons_zero]
    simp [marks]
  rw [← e, List.map_set]

theorem apart_rows {w1 w2 : World} {b : Nat} {v1 v2 : Value} {xs ys : List Int} (h1 : ownsB w1 b v1 xs) (h2 : ownsB w2 w1.heap.size v2 ys) : v1.ownBlock = none ∨ v1.ownBlock ≠ v2.ownBlock := by
  cases hv : v1.ownBlock with
  | none => exact .inl rfl
  | some k =>
    refine .inr fun h => ?_
    have a := (World.ownsRow.lt h1 k hv).2
    have b := (World.ownsRow.lt h2 k h.symm).1
    omega

end Go.Proofs.YtnojigofojjopaaDoor
