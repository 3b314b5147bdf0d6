/- Several small texts in one: STwo, STwo2, SOrd, ISpan, ITwoSp, SOf. -/
import Derived.Test.YtmbopjjpepbgkaaSFrom
import Derived.OwnWalk
import Derived.Test.YtmbopjjpepbgkaaSG
import Derived.Test.YtmbopjjpepbgkaaGB
import Derived.Test.YtmbopjjpepbgkaaVB
import Derived.Test.YtmbopjjpepbgkaaSWhole
/- The program's twoSigned, by its contract. -/
namespace Go.Proofs.Ytmbopjjpepbgkaa
open Go.RowKit

end Go.Proofs.Ytmbopjjpepbgkaa

/- The program's twoSigned: where the numbers stand, too. -/
namespace Go.Proofs.Ytmbopjjpepbgkaa
open Go.RowKit

end Go.Proofs.Ytmbopjjpepbgkaa

/- The program's order of numbers with a sign, by its contract. -/
namespace Go.Proofs.Ytmbopjjpepbgkaa
open Go.RowKit

theorem ord_z {x y : Int} : (if x < y then (-1 : Int) else if y < x then 1 else 0) = if decide (x < 0) = decide (y < 0) then (if x < 0 then cmpI y.natAbs x.natAbs else cmpI x.natAbs y.natAbs) else (if x < 0 then -1 else 1) := by
  unfold cmpI
  by_cases hx : x < 0 <;> by_cases hy : y < 0 <;> simp [hx, hy] <;> (repeat' split) <;> omega

end Go.Proofs.Ytmbopjjpepbgkaa

/- The program's spans: rising, spanFrom and IvOk, each by its contract. -/
namespace Go.Proofs.Ytmbopjjpepbgkaa
open Go.RowKit
set_option linter.unusedSimpArgs false

def okV (a : Vh) : Bool := okW a.1 && okW a.2 && decide (valW a.1 ≤ valW a.2)
theorem okV_yes {a : Vh} (h : okV a = true) : okW a.1 = true ∧ okW a.2 = true ∧ valW a.1 ≤ valW a.2 := by
  unfold okV at h
  simp only [Bool.and_eq_true, decide_eq_true_eq] at h
  exact ⟨h.1.1, h.1.2, h.2⟩
theorem ord_le (x y : Int) : decide ((if x < y then (-1 : Int) else if y < x then 1 else 0) ≤ 0) = decide (x ≤ y) := by
  by_cases h : x < y
  · rw [if_pos h, decide_eq_true (by omega), decide_eq_true (by omega)]
  · rw [if_neg h]
    by_cases h2 : y < x
    · rw [if_pos h2, decide_eq_false (by omega), decide_eq_false (by omega)]
    · rw [if_neg h2, decide_eq_true (by omega), decide_eq_true (by omega)]

/-- What spanFrom answers. -/
def spanA (a : Vh) (w : World) (e : Ending) (w' : World) : Prop :=
  (okV a = true ∧ ∃ p q, e = .returned (.tuple #[.agg #[.pointer (some ⟨p, 0, none⟩), .pointer (some ⟨q, 0, none⟩)], .bool true]) ∧ SG w' p (valW a.1) ∧ SG w' q (valW a.2) ∧ w.heap.size ≤ p ∧ w.heap.size ≤ q ∧ Below w.heap.size w w') ∨
  (okV a = false ∧ ∃ x y : Option Addr, e = .returned (.tuple #[.agg #[.pointer x, .pointer y], .bool false]) ∧ Below w.heap.size w w')

end Go.Proofs.Ytmbopjjpepbgkaa

/- The program's twoSpans, by its contract. -/
namespace Go.Proofs.Ytmbopjjpepbgkaa
open Go.RowKit
set_option linter.unusedSimpArgs false

theorem results_cell2_tmp {fn : Func} {p q u : Tmp} {ty ty' : TypeId} (h : fn.results = #[.cell p ty, .cell q ty', .tmp u]) (tmps : Array Value) (P : Program) (w : World) :
    (results fn tmps).run P w = ((asAddr (tmps.getD p undef)).run P w).andThen fun a w₁ => ((loadVar ty a).run P w₁).andThen fun v w₂ => ((asAddr (tmps.getD q undef)).run P w₂).andThen fun b w₃ => ((loadVar ty' b).run P w₃).andThen fun v' w₄ => .ok (.tuple #[v, v', tmps.getD u undef]) w₄ := by
  simp only [results, h]
  simp [Sem.run_bind, Result.andThen]

theorem SG.tn {w w' : World} {b : Nat} {z : Int} {S : List Nat} (h : SG w b z) (ht : Tn S w w') (hS : b ∉ S) : SG w' b z :=
  ⟨(World.cell?_of_block (w := w) (a := ⟨b, 0, none⟩) (ht.block b h.lt hS)).trans h.sign, h.mag.tn ht hS⟩

/-- What twoSpans answers. -/
def spansA (a b : Vh) (w : World) (e : Ending) (w' : World) : Prop := ∃ (X Y X' Y' : Option Addr), e = .returned (.tuple #[.agg #[.pointer X, .pointer Y], .agg #[.pointer X', .pointer Y'], .bool (okV a && okV b)]) ∧ Below w.heap.size w w' ∧
  (okV a = true → okV b = true → ∃ p q p' q', X = some ⟨p, 0, none⟩ ∧ Y = some ⟨q, 0, none⟩ ∧ X' = some ⟨p', 0, none⟩ ∧ Y' = some ⟨q', 0, none⟩ ∧ SG w' p (valW a.1) ∧ SG w' q (valW a.2) ∧ SG w' p' (valW b.1) ∧ SG w' q' (valW b.2) ∧ w.heap.size ≤ p ∧ w.heap.size ≤ q ∧ w.heap.size ≤ p' ∧ w.heap.size ≤ q')

end Go.Proofs.Ytmbopjjpepbgkaa

/- The program's signedOf and WholeOf, each by its contract. -/
namespace Go.Proofs.Ytmbopjjpepbgkaa
open Go.RowKit

set_option maxRecDepth 20000 in
set_option maxHeartbeats 1600000 in
theorem sOf (n : Int) (w : World) (h0 : -9223372036854775808 ≤ n) (h1 : n ≤ 9223372036854775807) :
    Calls Try.prog 48 #[.int .i64 n] w fun e w' => ∃ b, e = .returned (.pointer (some ⟨b, 0, none⟩)) ∧ w.heap.size ≤ b ∧ SG w' b n ∧ Below w.heap.size w w' := by
  by_cases hn : n < 0
  · obtain ⟨m, rfl⟩ : ∃ m : Nat, n = -(m : Int) := ⟨n.natAbs, by omega⟩
    have hm0 : 0 < m := by omega
    have hm : m ≤ 9223372036854775808 := by omega
    have l3 := limbs_len3 (n := m) (by omega)
    have kG := fun W => gOf m W (by omega)
    have kN := fun W => newSigned_c true m W (by omega)
    have q : decide (-(m : Int) < 0) = true := decide_eq_true hn
    have w1 : IntKind.u64.wrap (-(m : Int)) = 18446744073709551616 - (m : Int) := by rw [IntKind.wrap_u64]; omega
    have w2 : IntKind.u64.wrap (-(18446744073709551616 - (m : Int))) = (m : Int) := by rw [IntKind.wrap_u64]; omega
    clear hn
    go_enter Try.func48, Try.ntmps48
    go_wp2_with fail
    refine (kG _).mono ?_
    rintro e w3 ⟨rfl, b1⟩
    go_wp2_with fail
    refine (kN _).mono ?_
    rintro e w4 ⟨b, rfl, hb, sb, b2⟩
    have HS : Hid (SG w4 b (-(m : Int))) := by show SG w4 b (-(m : Int)); simpa using sb
    clear sb
    go_wp2
    go_ret
    exact ⟨b, rfl, Nat.le_trans b1.size hb, HS.out, b1.trans (b2.mono b1.size)⟩
  · obtain ⟨m, rfl⟩ : ∃ m : Nat, n = (m : Int) := ⟨n.toNat, by omega⟩
    have hm : m ≤ 9223372036854775807 := by omega
    have l3 := limbs_len3 (n := m) (by omega)
    have kG := fun W => gOf m W (by omega)
    have kN := fun W => newSigned_c false m W (by omega)
    go_enter Try.func48, Try.ntmps48
    go_wp2_with fail
    refine (kG _).mono ?_
    rintro e w1 ⟨rfl, b1⟩
    go_wp2_with fail
    refine (kN _).mono ?_
    rintro e w2 ⟨b, rfl, hb, sb, b2⟩
    have HS : Hid (SG w2 b (m : Int)) := by show SG w2 b (m : Int); simpa using sb
    clear sb
    go_wp2
    go_ret
    exact ⟨b, rfl, Nat.le_trans b1.size hb, HS.out, b1.trans (b2.mono b1.size)⟩

end Go.Proofs.Ytmbopjjpepbgkaa
