/- PutNum, of the specification and of the program: each by its contract. -/
import Derived.Test.YtmaemcfcoieejaaParts
namespace Go.Proofs.Ytmaemcfcoieejaa
open Go.RowKit

/-- The bytes of a number: seven bits a byte, the low ones first; 'f' bounds how many. -/
def groups : Nat → Int → List Int
  | 0, n => [n]
  | f + 1, n => if 127 < n then (n % 128 + 128) :: groups f (n / 128) else [n]

theorem groups_last (f : Nat) (n : Int) (h : ¬ 127 < n) : groups f n = [n] := by
  cases f with
  | zero => rfl
  | succ f => simp [groups, h]

def capOf (f : Nat) : Int := 128 ^ (f + 1)
theorem capOf_succ (f : Nat) : capOf (f + 1) = 128 * capOf f := by unfold capOf; rw [Int.pow_succ 128 (f + 1)]; omega
theorem capOf_four : capOf 4 = 34359738368 := by rfl
theorem groups_step (f : Nat) (n : Int) (h : 127 < n) (hb : n < capOf f) : ∃ f', groups f n = (n % 128 + 128) :: groups f' (n / 128) ∧ n / 128 < capOf f' ∧ f' + 1 = f := by
  cases f with
  | zero => exfalso; have : capOf 0 = 128 := by rfl
            omega
  | succ f =>
    refine ⟨f, by simp [groups, h], ?_, rfl⟩
    rw [capOf_succ] at hb
    omega

theorem groups_le (f : Nat) (n : Int) : (groups f n).length ≤ f + 1 := by
  induction f generalizing n with
  | zero => simp [groups]
  | succ f ih => unfold groups; split <;> simp; exact ih _

/-- 'append(out, byte)' on a row of the call's own. -/
theorem wpB_app (w0 w : World) {ops : Array Oper} {rest : List Oper} {o : Oper} {a : Act} {Q : Exit → Act → World → Prop} (hgd : o.guard = none) (s x : Operand)
    (ho : o.op = Op.call { callee := Callee.builtin Builtin.append, args := #[s, x], argTypes := #[28, 28] }) (base : Nat) (v : Value) (xs : List Int) (y : Int)
    (hs : a.eval s = v) (hown : ownsB w base v xs) (hb : Below base w0 w) (hx : a.eval x = .slice (some ⟨w.heap.size, 0, none⟩) 1 1) (hlen : xs.length ≤ 1099511627776) (hbase : base ≤ w.heap.size)
    (h : ∀ v' w', ownsB w' base v' (xs ++ [y]) → Below base w0 w' → wpList Try.prog ops Q rest (a.put o.dst v') w') :
    wpList Try.prog ops Q (o :: rest) a (w.alloc (.cells #[.int .u8 y] 5)) := by
  obtain ⟨i0, hi, hz0, hz1, hz2⟩ := info_parts Try.info5
  refine wpList_append_own _ hgd s x 28 ho base 5 i0 (.int .u8 0) 1 1 Try.underlying28 hi hz0 hz1 hz2 rfl (by decide) v xs.length (xs.map (Value.int .u8)) hs (World.ownsRow.alloc hown _) ⟨w.heap.size, 0, none⟩ 1 1 [.int .u8 y] hx rfl ?_ ?_ ?_ ?_ ?_ ?_
  · intro j u hj
    match j, hj with
    | 0, hj => simp at hj; subst hj; simp [Addr.add]
  · intro u hu; simp at hu; subst hu; rfl
  · unfold maxLen; omega
  · omega
  · simp; omega
  · intro v' w' ho' hg _
    refine h v' w' ?_ ((hb.alloc hbase _).grown hg (by simp; omega) fun k hk => (World.ownsRow.lt hown k hk).1)
    unfold ownsB
    simpa using ho'

theorem l1In_yes (x lo hi : Int) (w : World) (h1 : lo ≤ x) (h2 : x ≤ hi) : Calls Try.prog 21 #[.int .i64 x, .int .i64 lo, .int .i64 hi] w fun e w' => e = .returned (.bool true) ∧ w' = w := by
  go_enter Try.func21, Try.ntmps21
  go_wp2
  go_ret
  exact ⟨rfl, rfl⟩

/-- The bytes of whatever number. -/
def put (n : Int) : List Int := if 0 ≤ n ∧ n ≤ 2147483647 then groups 4 n else []
theorem put_le (n : Int) : (put n).length ≤ 5 := by
  unfold put
  split
  · exact groups_le 4 n
  · simp
end Go.Proofs.Ytmaemcfcoieejaa
