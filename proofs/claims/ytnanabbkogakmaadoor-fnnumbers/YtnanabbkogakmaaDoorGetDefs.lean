/- What GetNum answers, as a function; how the program's own panic reads. -/
import Derived.Test.YtnanabbkogakmaaDoorParts
import Derived.Defers
import Derived.Recover
import Derived.Laws.Pointers
import Derived.WalkSpells
import Derived.WalkLawsBesides
namespace Go.Proofs.YtnanabbkogakmaaDoor
open Go.RowKit

/-- What the program's own panic leaves: the variable's value, not recovered. -/
def thrown (u : TypeId) (pv : Value) : List PanicEntry := [{ v := .iface u pv, recovered := false }]

/-- The number that begins at place 'a': 'f' bytes may follow still, 'k' are read, 'n' is their sum. -/
def getFrom (xs : List Int) (a : Nat) : Nat → Nat → Int → Option (Int × Int)
  | 0, _, _ => none
  | f + 1, k, n =>
    if a + k < xs.length then
      if xs.getD (a + k) 0 < 128 then
        if (0 < k ∧ xs.getD (a + k) 0 = 0) ∨ 2147483647 < n + xs.getD (a + k) 0 % 128 * 128 ^ k then none else some (n + xs.getD (a + k) 0 % 128 * 128 ^ k, (a : Int) + k + 1)
      else getFrom xs a f (k + 1) (n + xs.getD (a + k) 0 % 128 * 128 ^ k)
    else none
def getR (xs : List Int) (at' : Int) : Option (Int × Int) := if at' < 0 then none else getFrom xs at'.toNat 5 0 0

theorem getFrom_out (xs : List Int) (a f k : Nat) (n : Int) (h : ¬ a + k < xs.length) : getFrom xs a (f + 1) k n = none := by rw [getFrom, if_neg h]
theorem getFrom_more (xs : List Int) (a f k : Nat) (n d : Int) (h : a + k < xs.length) (hd : xs.getD (a + k) 0 = d) (h1 : ¬ d < 128) : getFrom xs a (f + 1) k n = getFrom xs a f (k + 1) (n + d % 128 * 128 ^ k) := by
  rw [getFrom, if_pos h, hd, if_neg h1]
theorem getFrom_bad (xs : List Int) (a f k : Nat) (n d : Int) (h : a + k < xs.length) (hd : xs.getD (a + k) 0 = d) (h1 : d < 128) (h2 : (0 < k ∧ d = 0) ∨ 2147483647 < n + d % 128 * 128 ^ k) : getFrom xs a (f + 1) k n = none := by
  rw [getFrom, if_pos h, hd, if_pos h1, if_pos h2]
theorem getFrom_good (xs : List Int) (a f k : Nat) (n d : Int) (h : a + k < xs.length) (hd : xs.getD (a + k) 0 = d) (h1 : d < 128) (h2 : ¬ ((0 < k ∧ d = 0) ∨ 2147483647 < n + d % 128 * 128 ^ k)) : getFrom xs a (f + 1) k n = some (n + d % 128 * 128 ^ k, (a : Int) + k + 1) := by
  rw [getFrom, if_pos h, hd, if_pos h1, if_neg h2]
/-- What GetNum returns of such an answer. -/
def resT : Option (Int × Int) → Value
  | none => .tuple #[.int .i64 0, .int .i64 0, .bool false]
  | some (n, p) => .tuple #[.int .i64 n, .int .i64 p, .bool true]
theorem pow_cases (k f : Nat) (h : k + f = 5) : (k = 0 ∧ f = 4 + 1) ∨ (k = 1 ∧ f = 3 + 1) ∨ (k = 2 ∧ f = 2 + 1) ∨ (k = 3 ∧ f = 1 + 1) ∨ (k = 4 ∧ f = 0 + 1) ∨ (k = 5 ∧ f = 0) := by omega

end Go.Proofs.YtnanabbkogakmaaDoor
