/- Several small texts in one: Parts, Row, OwnI, RowI, Limb, SIn, SNatOk, NatR, LimbMore, Num, DivR, WholeR, EqI, Tn0, ToI, ToW0, MarkI, Tn, ToW. -/
import Derived.Test.YtlpfjpbnedankaaRows
import Derived.WalkKit
import Derived.WalkSmall
import Derived.Laws.OwnMore
import Derived.Laws.AppendOwnNone
import Derived.Below
import Derived.Deep.QuietTactic
import Derived.BigQuiet
import Derived.Laws.MakeOwn
import Derived.Laws.ResultCell
/- Small facts on owned rows of bytes (no walk). -/
namespace Go.Proofs.Ytlpfjpbnedankaa
open Go.RowKit

theorem Try.info5 : (Try.prog.info? 5).map (fun i => (i.zero, i.size, i.bytes)) = some (some (.int .u8 0), 1, 1) := by kernel_rfl

/-- The bytes 'k', 'k + 1', .. of so many places. -/
def marks (k : Int) : Nat → List Int
  | 0 => []
  | n + 1 => marks k n ++ [(k + n) % 256]
theorem marks_length (k : Int) (n : Nat) : (marks k n).length = n := by
  induction n with
  | zero => rfl
  | succ n ih => simp [marks, ih]
theorem marks_get (k : Int) (n j : Nat) (h : j < n) : (marks k n)[j]? = some ((k + j) % 256) := by
  induction n with
  | zero => omega
  | succ n ih =>
    simp only [marks]
    by_cases hj : j < n
    · rw [List.getElem?_append_left (by rw [marks_length]; exact hj)]; exact ih hj
    · have : j = n := by omega
      subst this
      rw [List.getElem?_append_right (by rw [marks_length]; exact Nat.le_refl _), marks_length]; simp

/-- 'v' owns the bytes 'xs' from block 'base' on. -/
def ownsB (w : World) (base : Nat) (v : Value) (xs : List Int) : Prop := w.ownsRow base 5 1 v xs.length (xs.map (Value.int .u8))

theorem ownsB.kept {w w' : World} {base : Nat} {v : Value} {xs : List Int} {row : Option Nat} (h : ownsB w base v xs) (hg : w.grownBy w' row) (hne : v.ownBlock = none ∨ v.ownBlock ≠ row) : ownsB w' base v xs :=
  World.ownsRow.kept h hg hne

theorem ownsB.below {w w' : World} {base B : Nat} {v : Value} {xs : List Int} (h : ownsB w base v xs) (hb : Below B w w') (hlt : w.heap.size ≤ B) : ownsB w' base v xs := by
  refine World.ownsRow.kept (row := none) h ⟨hb.os, hb.tape, hb.output, hb.size, fun k hk _ => hb.block k (by omega)⟩ ?_
  cases hv : v.ownBlock with
  | none => exact .inl rfl
  | some k => exact .inr (by simp)

theorem grown_trans {a b c : World} {row : Option Nat} (h : a.grownBy b row) (k : b.grownBy c row) : a.grownBy c row :=
  ⟨k.os.trans h.os, k.tape.trans h.tape, k.output.trans h.output, Nat.le_trans h.size k.size, fun i hi hr => (k.block i (Nat.lt_of_lt_of_le hi h.size) hr).trans (h.block i hi hr)⟩

theorem marks_step (k : Int) (xs : List Int) (j : Nat) (hj : j < xs.length) : ((marks k j ++ xs.drop j).map (Value.int .u8)).set j (.int .u8 ((k + j) % 256)) = (marks k (j + 1) ++ xs.drop (j + 1)).map (Value.int .u8) := by
  have e : (marks k j ++ xs.drop j).set j ((k + j) % 256) = marks k (j + 1) ++ xs.drop (j + 1) := by
    rw [List.set_append_right _ _ (by rw [marks_length]; exact Nat.le_refl _), marks_length, Nat.sub_self, List.drop_eq_getElem_cons hj, List.set_cons_zero]
    simp [marks]
  rw [← e, List.map_set]

theorem apart_rows {w1 w2 : World} {b : Nat} {v1 v2 : Value} {xs ys : List Int} (h1 : ownsB w1 b v1 xs) (h2 : ownsB w2 w1.heap.size v2 ys) : v1.ownBlock = none ∨ v1.ownBlock ≠ v2.ownBlock := by
  cases hv : v1.ownBlock with
  | none => exact .inl rfl
  | some k =>
    refine .inr fun h => ?_
    have a := (World.ownsRow.lt h1 k hv).2
    have b := (World.ownsRow.lt h2 k h.symm).1
    omega

end Go.Proofs.Ytlpfjpbnedankaa

/- Slices of integers that came in. -/
namespace Go.Proofs.Ytlpfjpbnedankaa
open Go.RowKit

/-- What is known of a slice of integers that came in: nil, or a row of 'cap' cells, the numbers 'zs', the first 'len' its elements. -/
def IsRow (k : IntKind) (w : World) (a : Option Addr) (len cap : Nat) (zs : List Int) : Prop :=
  (a = none ∧ len = 0 ∧ cap = 0 ∧ zs = []) ∨
  ∃ x, a = some x ∧ len ≤ cap ∧ cap ≤ maxLen ∧ zs.length = cap ∧ (∀ i, i < zs.length → w.cell? (x.add i) = some (.int k (zs.getD i 0))) ∧ ∀ n ∈ zs, (Lit.int k n).wf = true

theorem IsRow.below {k : IntKind} {w w' : World} {a : Option Addr} {len cap : Nat} {zs : List Int} (h : IsRow k w a len cap zs) (hb : Below w.heap.size w w') : IsRow k w' a len cap zs := by
  rcases h with h | ⟨x, h1, h2, h3, h4, h5, h6⟩
  · exact .inl h
  · refine .inr ⟨x, h1, h2, h3, h4, fun i hi => ?_, h6⟩
    have := h5 i hi
    exact (hb.cell (block_lt_of_cell this)).trans this

theorem IsRow.len_le {k : IntKind} {w : World} {a : Option Addr} {len cap : Nat} {zs : List Int} (h : IsRow k w a len cap zs) : len ≤ 9223372036854775807 := by
  rcases h with ⟨-, h, -⟩ | ⟨x, -, h2, h3, -⟩
  · omega
  · unfold maxLen at h3; omega

end Go.Proofs.Ytlpfjpbnedankaa

/- Rows of ints of the call's own: what is owned, marks, append. -/
namespace Go.Proofs.Ytlpfjpbnedankaa
open Go.RowKit

theorem Try.info3 : (Try.prog.info? 3).map (fun i => (i.zero, i.size, i.bytes)) = some (some (.int .i64 0), 1, 8) := by kernel_rfl

/-- The numbers 'k', 'k + 1', .. of so many places. -/
def marksI (k : Int) : Nat → List Int
  | 0 => []
  | n + 1 => marksI k n ++ [k + n]
theorem marksI_length (k : Int) (n : Nat) : (marksI k n).length = n := by
  induction n with
  | zero => rfl
  | succ n ih => simp [marksI, ih]
theorem marksI_get (k : Int) (n j : Nat) (h : j < n) : (marksI k n)[j]? = some (k + j) := by
  induction n with
  | zero => omega
  | succ n ih =>
    simp only [marksI]
    by_cases hj : j < n
    · rw [List.getElem?_append_left (by rw [marksI_length]; exact hj)]; exact ih hj
    · have : j = n := by omega
      subst this
      rw [List.getElem?_append_right (by rw [marksI_length]; exact Nat.le_refl _), marksI_length]; simp

/-- 'v' owns the numbers 'xs' from block 'base' on. -/
def ownsI (w : World) (base : Nat) (v : Value) (xs : List Int) : Prop := w.ownsRow base 3 1 v xs.length (xs.map (Value.int .i64))

theorem ownsI.kept {w w' : World} {base : Nat} {v : Value} {xs : List Int} {row : Option Nat} (h : ownsI w base v xs) (hg : w.grownBy w' row) (hne : v.ownBlock = none ∨ v.ownBlock ≠ row) : ownsI w' base v xs :=
  World.ownsRow.kept h hg hne

theorem ownsI.below {w w' : World} {base B : Nat} {v : Value} {xs : List Int} (h : ownsI w base v xs) (hb : Below B w w') (hlt : w.heap.size ≤ B) : ownsI w' base v xs := by
  refine World.ownsRow.kept (row := none) h ⟨hb.os, hb.tape, hb.output, hb.size, fun k hk _ => hb.block k (by omega)⟩ ?_
  cases hv : v.ownBlock with
  | none => exact .inl rfl
  | some k => exact .inr (by simp)

theorem marksI_step (k : Int) (xs : List Int) (j : Nat) (hj : j < xs.length) : ((marksI k j ++ xs.drop j).map (Value.int .i64)).set j (.int .i64 (k + j)) = (marksI k (j + 1) ++ xs.drop (j + 1)).map (Value.int .i64) := by
  have e : (marksI k j ++ xs.drop j).set j (k + j) = marksI k (j + 1) ++ xs.drop (j + 1) := by
    rw [List.set_append_right _ _ (by rw [marksI_length]; exact Nat.le_refl _), marksI_length, Nat.sub_self, List.drop_eq_getElem_cons hj, List.set_cons_zero]
    simp [marksI]
  rw [← e, List.map_set]

theorem apart_rowsI {w1 w2 : World} {b : Nat} {v1 v2 : Value} {xs ys : List Int} (h1 : ownsI w1 b v1 xs) (h2 : ownsI w2 w1.heap.size v2 ys) : v1.ownBlock = none ∨ v1.ownBlock ≠ v2.ownBlock := by
  cases hv : v1.ownBlock with
  | none => exact .inl rfl
  | some k =>
    refine .inr fun h => ?_
    have a := (World.ownsRow.lt h1 k hv).2
    have b := (World.ownsRow.lt h2 k h.symm).1
    omega

/-- 'append(out, n)' on a row of the call's own. -/
theorem wpI_app (w0 w : World) {ops : Array Oper} {rest : List Oper} {o : Oper} {a : Act} {Q : Exit → Act → World → Prop} (hgd : o.guard = none) (s x : Operand)
    (ho : o.op = Op.call { callee := Callee.builtin Builtin.append, args := #[s, x], argTypes := #[25, 25] }) (base : Nat) (v : Value) (xs : List Int) (y : Int)
    (hs : a.eval s = v) (hown : ownsI w base v xs) (hb : Below base w0 w) (hx : a.eval x = .slice (some ⟨w.heap.size, 0, none⟩) 1 1) (hlen : xs.length ≤ 1099511627776) (hbase : base ≤ w.heap.size)
    (h : ∀ v' w', ownsI w' base v' (xs ++ [y]) → Below base w0 w' → wpList Try.prog ops Q rest (a.put o.dst v') w') :
    wpList Try.prog ops Q (o :: rest) a (w.alloc (.cells #[.int .i64 y] 3)) := by
  obtain ⟨i0, hi, hz0, hz1, hz2⟩ := info_parts Try.info3
  refine wpList_append_own _ hgd s x 25 ho base 3 i0 (.int .i64 0) 1 8 Try.underlying25 hi hz0 hz1 hz2 rfl (by decide) v xs.length (xs.map (Value.int .i64)) hs (World.ownsRow.alloc hown _) ⟨w.heap.size, 0, none⟩ 1 1 [.int .i64 y] hx rfl ?_ ?_ ?_ ?_ ?_ ?_
  · intro j u hj
    match j, hj with
    | 0, hj => simp at hj; subst hj; simp [Addr.add]
  · intro u hu; simp at hu; subst hu; rfl
  · unfold maxLen; omega
  · omega
  · simp; omega
  · intro v' w' ho' hg _
    refine h v' w' ?_ ((hb.alloc hbase _).grown hg (by simp; omega) fun k hk => (World.ownsRow.lt hown k hk).1)
    unfold ownsI
    simpa using ho'

end Go.Proofs.Ytlpfjpbnedankaa

/- Rows of ints that are read: whoever owns them. -/
namespace Go.Proofs.Ytlpfjpbnedankaa
open Go.RowKit

/-- 'v' is a slice that holds the numbers 'xs'. -/
def rowI (w : World) (v : Value) (xs : List Int) : Prop :=
  ∃ (a : Option Addr) (cap : Nat), v = .slice a xs.length cap ∧ xs.length ≤ cap ∧ cap ≤ maxLen ∧ (a = none → cap = 0) ∧ (∀ x, a = some x → x.spot = none) ∧
    ∀ j, j < xs.length → ∃ g off, a = some ⟨g, off, none⟩ ∧ g < w.heap.size ∧ w.cell? ⟨g, off + j, none⟩ = some (.int .i64 (xs.getD j 0))

theorem ownsI.row {w : World} {base : Nat} {v : Value} {xs : List Int} (h : ownsI w base v xs) : rowI w v xs := by
  have hlt := fun q => World.ownsRow.lt h q
  rcases h.2 with ⟨rfl, h0⟩ | ⟨g, cap, _, rfl, hb, hg, h1, h2, -⟩
  · exact ⟨none, 0, by rw [h0], by omega, by unfold maxLen; omega, fun _ => rfl, (by intro x hx; cases hx), fun j hj => by omega⟩
  · refine ⟨_, cap, rfl, h1, h2, (by intro h; cases h), (by intro x hx; cases hx; rfl), fun j hj => ⟨g, 0, rfl, (hlt g rfl).2, ?_⟩⟩
    have := World.ownsRow.cellAt (show w.ownsRow base 3 1 (.slice (some ⟨g, 0, none⟩) xs.length cap) xs.length (xs.map (Value.int .i64)) from h) j (by omega)
    rw [Nat.zero_add, this]
    simp [List.getElem?_map, List.getElem?_eq_getElem hj, List.getD]

theorem rowI.below {w w' : World} {v : Value} {xs : List Int} {B : Nat} (h : rowI w v xs) (hb : Below B w w') (hB : w.heap.size ≤ B) : rowI w' v xs := by
  obtain ⟨a, cap, h1, h2, h3, h4, h5, h6⟩ := h
  refine ⟨a, cap, h1, h2, h3, h4, h5, fun j hj => ?_⟩
  obtain ⟨g, off, e, hg, hc⟩ := h6 j hj
  exact ⟨g, off, e, Nat.lt_of_lt_of_le hg hb.size, (hb.cell (p := ⟨g, off + j, none⟩) (by show g < B; omega)).trans hc⟩

theorem rowI.drawn {w : World} {v : Value} {xs : List Int} (h : rowI w v xs) (n : Nat) : rowI (w.drewN n) v xs := h

/-- The first numbers of a row: 'a[:n]'. -/
theorem rowI.take {w : World} {a : Option Addr} {len cap : Nat} {xs : List Int} (h : rowI w (.slice a len cap) xs) (n : Nat) (hn : n ≤ xs.length) : rowI w (.slice a n cap) (xs.take n) := by
  obtain ⟨a', cap', h1, h2, h3, h4, h5, h6⟩ := h
  simp only [Value.slice.injEq] at h1
  obtain ⟨rfl, rfl, rfl⟩ := h1
  have hl : (xs.take n).length = n := by rw [List.length_take]; omega
  refine ⟨a, cap, by rw [hl], by omega, h3, h4, h5, fun j hj => ?_⟩
  obtain ⟨g, off, e, hg, hc⟩ := h6 j (by omega)
  refine ⟨g, off, e, hg, ?_⟩
  rw [hc, List.getD_eq_getElem?_getD, List.getD_eq_getElem?_getD, List.getElem?_take, if_pos (by omega)]

/-- 'append(row of the call's own, row...)'. -/
theorem wpI_all (w0 w : World) {ops : Array Oper} {rest : List Oper} {o : Oper} {a : Act} {Q : Exit → Act → World → Prop} (hgd : o.guard = none) (s x : Operand)
    (ho : o.op = Op.call { callee := Callee.builtin Builtin.append, args := #[s, x], argTypes := #[25, 25] }) (base : Nat) (v v2 : Value) (xs ys : List Int)
    (hs : a.eval s = v) (hown : ownsI w base v xs) (hx : a.eval x = v2) (hy : rowI w v2 ys) (hb : Below base w0 w) (hlen : xs.length + ys.length ≤ 1099511627776) (hbase : base ≤ w.heap.size)
    (h : ∀ v' w', ownsI w' base v' (xs ++ ys) → Below base w0 w' → wpList Try.prog ops Q rest (a.put o.dst v') w') :
    wpList Try.prog ops Q (o :: rest) a w := by
  obtain ⟨i0, hi, hz0, hz1, hz2⟩ := info_parts Try.info3
  obtain ⟨ad, cap, rfl, h2, h3, h4, h5, h6⟩ := hy
  cases ad with
  | none =>
    have hc := h4 rfl
    have hy0 : ys.length = 0 := by omega
    obtain rfl := List.eq_nil_of_length_eq_zero hy0
    subst hc
    refine wpList_append_own_none hgd s x 25 ho base 3 i0 1 Try.underlying25 hi v xs.length (xs.map (Value.int .i64)) hs hown hx ?_
    exact h v w (by rw [List.append_nil]; exact hown) hb
  | some ad =>
    obtain ⟨g0, off0, spot⟩ := ad
    have hsp : spot = none := h5 _ rfl
    subst hsp
    refine wpList_append_own _ hgd s x 25 ho base 3 i0 (.int .i64 0) 1 8 Try.underlying25 hi hz0 hz1 hz2 rfl (by decide) v xs.length (xs.map (Value.int .i64)) hs hown ⟨g0, off0, none⟩ ys.length cap (ys.map (Value.int .i64)) hx (by simp) ?_ ?_ ?_ ?_ hbase ?_
    · intro j u hj
      rw [List.getElem?_map] at hj
      have hjl : j < ys.length := by
        apply Classical.byContradiction; intro hn
        rw [List.getElem?_eq_none (by omega)] at hj; cases hj
      obtain ⟨g, off, e, hg, hc⟩ := h6 j hjl
      cases e
      rw [List.getElem?_eq_getElem hjl] at hj
      simp only [Option.map_some, Option.some.injEq] at hj
      subst hj
      have hgd : ys.getD j 0 = ys[j] := by rw [List.getD_eq_getElem?_getD, List.getElem?_eq_getElem hjl]; rfl
      rw [hgd] at hc
      unfold Addr.add
      by_cases hj0 : j = 0
      · subst hj0; simpa using hc
      · simpa [hj0] using hc
    · intro u hu; obtain ⟨z, _, rfl⟩ := List.mem_map.1 hu; rfl
    · unfold maxLen; omega
    · omega
    · intro v' w' ho' hg _
      refine h v' w' ?_ (hb.grown hg hbase fun k hk => (World.ownsRow.lt hown k hk).1)
      unfold ownsI
      rw [List.length_append, List.map_append]
      exact ho'

theorem made_own (w : World) : ownsI (w.alloc (.cells #[] 3)) w.heap.size (.slice (some ⟨w.heap.size, 0, none⟩) 0 0) [] :=
  World.ownsRow_made _ _ 0 (Nat.le_refl _) (by decide) rfl
theorem rowI.at {w : World} {a : Option Addr} {len cap : Nat} {xs : List Int} (h : rowI w (.slice a len cap) xs) (j : Nat) (hj : j < xs.length) :
    ∃ g off, a = some ⟨g, off, none⟩ ∧ w.cell? ⟨g, off + j, none⟩ = some (.int .i64 (xs.getD j 0)) := by
  obtain ⟨a', cap', e1, -, -, -, -, h6⟩ := h
  simp only [Value.slice.injEq] at e1
  obtain ⟨rfl, -, -⟩ := e1
  obtain ⟨g, off, e, -, hc⟩ := h6 j hj
  exact ⟨g, off, e, hc⟩

end Go.Proofs.Ytlpfjpbnedankaa

/- Great numbers as lists of limbs: what they stand for, the one right list of a number (plain facts, no program). -/
namespace Go.Proofs.Ytlpfjpbnedankaa

/-- What a list of limbs stands for. -/
def lval : List Int → Int
  | [] => 0
  | x :: r => x + 16777216 * lval r
/-- Each limb from 0 to Base - 1. -/
def inR (xs : List Int) : Prop := ∀ x ∈ xs, 0 ≤ x ∧ x < 16777216
/-- The one right list of a number. -/
def limbs (n : Nat) : List Int := if n = 0 then [] else ((n % 16777216 : Nat) : Int) :: limbs (n / 16777216)
  termination_by n
  decreasing_by omega
theorem limbs_zero : limbs 0 = [] := by rw [limbs]; simp
theorem limbs_pos (n : Nat) (h : 0 < n) : limbs n = ((n % 16777216 : Nat) : Int) :: limbs (n / 16777216) := by
  conv => lhs; rw [limbs]
  rw [if_neg (by omega)]
theorem inR_nil : inR [] := by intro x hx; cases hx
theorem inR_cons {x : Int} {r : List Int} : inR (x :: r) ↔ (0 ≤ x ∧ x < 16777216) ∧ inR r := by
  constructor
  · intro h; exact ⟨h x (by simp), fun y hy => h y (by simp [hy])⟩
  · rintro ⟨h, h2⟩ y hy
    rcases List.mem_cons.1 hy with rfl | hy
    · exact h
    · exact h2 y hy
theorem inR_append {xs ys : List Int} : inR (xs ++ ys) ↔ inR xs ∧ inR ys := by
  constructor
  · intro h; exact ⟨fun x hx => h x (by simp [hx]), fun x hx => h x (by simp [hx])⟩
  · rintro ⟨h1, h2⟩ x hx
    rcases List.mem_append.1 hx with hx | hx
    · exact h1 x hx
    · exact h2 x hx
theorem inR_take {xs : List Int} (h : inR xs) (n : Nat) : inR (xs.take n) := fun x hx => h x (List.mem_of_mem_take hx)
theorem inR_drop {xs : List Int} (h : inR xs) (n : Nat) : inR (xs.drop n) := fun x hx => h x (List.mem_of_mem_drop hx)
theorem lval_nonneg {xs : List Int} (h : inR xs) : 0 ≤ lval xs := by
  induction xs with
  | nil => simp [lval]
  | cons x r ih =>
    obtain ⟨h1, h2⟩ := inR_cons.1 h
    have := ih h2
    simp only [lval]; omega
theorem lval_append (xs ys : List Int) : lval (xs ++ ys) = lval xs + 16777216 ^ xs.length * lval ys := by
  induction xs with
  | nil => simp [lval]
  | cons x r ih =>
    simp only [List.cons_append, lval, ih, List.length_cons, Int.pow_succ]
    rw [Int.mul_add, ← Int.mul_assoc, Int.mul_comm 16777216 (16777216 ^ r.length)]
    omega
theorem lval_snoc (xs : List Int) (x : Int) : lval (xs ++ [x]) = lval xs + 16777216 ^ xs.length * x := by
  rw [lval_append]; simp [lval]
theorem pow_pos (n : Nat) : (0 : Int) < 16777216 ^ n := Int.pow_pos (by omega)
theorem lval_lt {xs : List Int} (h : inR xs) : lval xs < 16777216 ^ xs.length := by
  induction xs with
  | nil => simp [lval]
  | cons x r ih =>
    obtain ⟨h1, h2⟩ := inR_cons.1 h
    have := ih h2
    simp only [lval, List.length_cons, Int.pow_succ]
    omega
theorem lval_zeros (n : Nat) : lval (List.replicate n 0) = 0 := by
  induction n with
  | zero => rfl
  | succ n ih => simp [List.replicate_succ, lval, ih]
theorem limbs_val (n : Nat) : lval (limbs n) = n := by
  induction n using Nat.strongRecOn with
  | ind n ih =>
    by_cases h : n = 0
    · subst h; rw [limbs_zero]; rfl
    · rw [limbs_pos n (by omega), lval, ih (n / 16777216) (by omega)]
      omega
theorem limbs_inR (n : Nat) : inR (limbs n) := by
  induction n using Nat.strongRecOn with
  | ind n ih =>
    by_cases h : n = 0
    · subst h; rw [limbs_zero]; exact inR_nil
    · rw [limbs_pos n (by omega)]
      exact inR_cons.2 ⟨by omega, ih (n / 16777216) (by omega)⟩
/-- No nought at the end. -/
def noZ (xs : List Int) : Prop := ∀ h : xs ≠ [], xs.getLast h ≠ 0
theorem limbs_noZ (n : Nat) : noZ (limbs n) := by
  induction n using Nat.strongRecOn with
  | ind n ih =>
    intro hne
    by_cases h : n = 0
    · subst h; exact absurd limbs_zero hne
    · have e := limbs_pos n (by omega)
      by_cases hq : n / 16777216 = 0
      · have e2 : limbs n = [((n % 16777216 : Nat) : Int)] := by rw [e, hq, limbs_zero]
        simp only [e2, List.getLast_singleton]
        omega
      · have hne2 : limbs (n / 16777216) ≠ [] := by rw [limbs_pos _ (by omega)]; simp
        have := ih (n / 16777216) (by omega) hne2
        simp only [e]
        rwa [List.getLast_cons hne2]
/-- A list with right limbs and no nought at the end is the one right list. -/
theorem limbs_of {xs : List Int} (h : inR xs) (hz : noZ xs) : xs = limbs (lval xs).toNat := by
  induction xs with
  | nil => simp [lval, limbs_zero]
  | cons x r ih =>
    obtain ⟨h1, h2⟩ := inR_cons.1 h
    have hr0 := lval_nonneg h2
    have hzr : noZ r := fun hne => by
      have := hz (by simp)
      rwa [List.getLast_cons hne] at this
    have ih := ih h2 hzr
    have hpos : 0 < lval (x :: r) := by
      simp only [lval]
      by_cases hr : r = []
      · subst hr
        have := hz (by simp)
        simp at this
        simp [lval]; omega
      · have : lval r ≠ 0 := fun e => by
          rw [e] at ih
          simp [limbs_zero] at ih
          exact hr ih
        omega
    rw [limbs_pos _ (by omega)]
    have e1 : (lval (x :: r)).toNat % 16777216 = x.toNat := by simp only [lval]; omega
    have e2 : (lval (x :: r)).toNat / 16777216 = (lval r).toNat := by simp only [lval]; omega
    rw [e1, e2, ← ih]
    congr 1
    omega
/-- How long the right list is. -/
theorem limbs_len_le (n k : Nat) (h : n < 16777216 ^ k) : (limbs n).length ≤ k := by
  induction k generalizing n with
  | zero =>
    have : n = 0 := by simpa using h
    subst this; rw [limbs_zero]; simp
  | succ k ih =>
    by_cases h0 : n = 0
    · subst h0; rw [limbs_zero]; simp
    · rw [limbs_pos n (by omega), List.length_cons]
      have := ih (n / 16777216) (by rw [Nat.pow_succ] at h; omega)
      omega
theorem limbs_lt (n : Nat) : n < 16777216 ^ (limbs n).length := by
  have h := lval_lt (limbs_inR n)
  rw [limbs_val] at h
  have e : ((16777216 ^ (limbs n).length : Nat) : Int) = (16777216 : Int) ^ (limbs n).length := by simp
  omega
theorem limbs_len_mono {m n : Nat} (h : m ≤ n) : (limbs m).length ≤ (limbs n).length := limbs_len_le m _ (Nat.lt_of_le_of_lt h (limbs_lt n))

/-- NatOk. -/
def okL (xs : List Int) : Prop := xs.length ≤ 48 ∧ inR xs ∧ noZ xs
theorem okL_eq {xs : List Int} (h : okL xs) : xs = limbs (lval xs).toNat := limbs_of h.2.1 h.2.2
/-- The number of a list that is NatOk. -/
def num (xs : List Int) : Nat := (lval xs).toNat
theorem num_val {xs : List Int} (h : inR xs) : (num xs : Int) = lval xs := by
  have := lval_nonneg h
  unfold num; omega
theorem okL_limbs {n : Nat} (h : (limbs n).length ≤ 48) : okL (limbs n) := ⟨h, limbs_inR n, limbs_noZ n⟩
theorem num_limbs (n : Nat) : num (limbs n) = n := by unfold num; rw [limbs_val]; simp

/-- Where noughts stand at the end, the rest stands for the same number. -/
theorem lval_trim (xs : List Int) (n : Nat) (h : ∀ j, n ≤ j → j < xs.length → xs.getD j 0 = 0) : lval (xs.take n) = lval xs := by
  by_cases hn : n < xs.length
  · have e : xs.drop n = List.replicate (xs.length - n) 0 := by
      apply List.ext_getElem
      · simp
      · intro i h1 h2
        have hi : n + i < xs.length := by rw [List.length_drop] at h1; omega
        have := h (n + i) (by omega) hi
        rw [List.getD_eq_getElem?_getD, List.getElem?_eq_getElem hi] at this
        simpa using this
    have := lval_append (xs.take n) (xs.drop n)
    rw [List.take_append_drop, e, lval_zeros] at this
    omega
  · rw [List.take_of_length_le (by omega)]

/-- What is cut at its last limb that is no nought is the right list. -/
theorem trim_limbs (xs : List Int) (n : Nat) (hr : inR xs) (hn : n ≤ xs.length) (h : ∀ j, n ≤ j → j < xs.length → xs.getD j 0 = 0) (h0 : 0 < n → xs.getD (n - 1) 0 ≠ 0) : xs.take n = limbs (num xs) := by
  have e := limbs_of (inR_take hr n) (fun hne => by
    have hpos : 0 < n := by
      rcases Nat.eq_zero_or_pos n with rfl | h
      · simp at hne
      · exact h
    have := h0 hpos
    rw [List.getLast_eq_getElem]
    have hl : (xs.take n).length = n := by rw [List.length_take]; omega
    rw [List.getD_eq_getElem?_getD, List.getElem?_eq_getElem (by omega : n - 1 < xs.length)] at this
    simp only [hl, List.getElem_take]
    simpa using this)
  rw [e, lval_trim xs n h]
  rfl

end Go.Proofs.Ytlpfjpbnedankaa

/- The specification's l1In, by its contract. -/
namespace Go.Proofs.Ytlpfjpbnedankaa
open Go.RowKit

theorem in_yes (x lo hi : Int) (w : World) (h1 : lo ≤ x) (h2 : x ≤ hi) : Calls Try.prog 47 #[.int .i64 x, .int .i64 lo, .int .i64 hi] w fun e w' => e = .returned (.bool true) ∧ w' = w := by
  go_enter Try.func47, Try.ntmps47
  go_wp2
  go_ret
  exact ⟨rfl, rfl⟩
theorem in_no (x lo hi : Int) (w : World) (h : ¬ (lo ≤ x ∧ x ≤ hi)) : Calls Try.prog 47 #[.int .i64 x, .int .i64 lo, .int .i64 hi] w fun e w' => e = .returned (.bool false) ∧ w' = w := by
  by_cases h1 : lo ≤ x
  · have h2 : decide (x ≤ hi) = false := by simp; omega
    clear h
    go_enter Try.func47, Try.ntmps47
    go_wp2
    go_ret
    exact ⟨rfl, rfl⟩
  · have h2 : decide (lo ≤ x) = false := by simp; omega
    clear h h1
    go_enter Try.func47, Try.ntmps47
    go_wp2
    go_ret
    exact ⟨rfl, rfl⟩

end Go.Proofs.Ytlpfjpbnedankaa

/- The specification's NatOk, l2Limb, l2Trim, each by its contract. -/
namespace Go.Proofs.Ytlpfjpbnedankaa
open Go.RowKit

def okB (xs : List Int) : Bool := decide (xs.length ≤ 48) && xs.all (fun x => decide (0 ≤ x) && decide (x < 16777216)) && (xs.getLast? != some 0)
theorem okB_iff (xs : List Int) : okB xs = true ↔ okL xs := by
  unfold okB okL inR noZ
  simp only [Bool.and_eq_true, decide_eq_true_eq, List.all_eq_true, bne_iff_ne, ne_eq, and_assoc]
  constructor
  · rintro ⟨h1, h2, h3⟩
    refine ⟨h1, fun x hx => h2 x hx, fun hne e => h3 ?_⟩
    rw [List.getLast?_eq_some_getLast hne, e]
  · rintro ⟨h1, h2, h3⟩
    refine ⟨h1, fun x hx => h2 x hx, fun e => ?_⟩
    have hne : xs ≠ [] := by rintro rfl; simp at e
    rw [List.getLast?_eq_some_getLast hne] at e
    exact h3 hne (Option.some.inj e)
theorem okB_no {xs : List Int} (h : ¬ okL xs) : okB xs = false := by
  cases e : okB xs
  · rfl
  · exact absurd ((okB_iff xs).1 e) h
theorem okB_yes {xs : List Int} (h : okL xs) : okB xs = true := (okB_iff xs).2 h
theorem getD_in {xs : List Int} {k : Nat} (h : k < xs.length) : xs.getD k 0 ∈ xs := by
  rw [List.getD_eq_getElem?_getD, List.getElem?_eq_getElem h]; exact List.getElem_mem _
theorem inR_getD {xs : List Int} (h : inR xs) (k : Nat) : 0 ≤ xs.getD k 0 ∧ xs.getD k 0 < 16777216 := by
  by_cases hk : k < xs.length
  · exact h _ (getD_in hk)
  · rw [List.getD_eq_getElem?_getD, List.getElem?_eq_none (by omega)]; simp
theorem last_getD {xs : List Int} (hne : xs ≠ []) : xs.getLast hne = xs.getD (xs.length - 1) 0 := by
  have hl : 0 < xs.length := List.length_pos_iff.2 hne
  rw [List.getLast_eq_getElem, List.getD_eq_getElem?_getD, List.getElem?_eq_getElem (by omega)]; rfl
theorem noZ_of {xs : List Int} (h : xs = [] ∨ xs.getD (xs.length - 1) 0 ≠ 0) : noZ xs := fun hne => by
  rw [last_getD hne]
  rcases h with h | h
  · exact absurd h hne
  · exact h

set_option maxHeartbeats 1600000 in
/-- NatOk. -/
theorem sNatOk (v : Value) (xs : List Int) (w : World) (h : rowI w v xs) (hl : xs.length ≤ 1099511627776) :
    Calls Try.prog 104 #[v] w fun e w' => e = .returned (.bool (okB xs)) ∧ w' = w := by
  obtain ⟨a, cap, rfl, h2, h3, h4, h5, h6⟩ := h
  have H6 : Hid (∀ j, j < xs.length → ∃ g off, a = some ⟨g, off, none⟩ ∧ g < w.heap.size ∧ w.cell? ⟨g, off + j, none⟩ = some (.int .i64 (xs.getD j 0))) := h6
  clear h6 h4 h5
  by_cases hlen : xs.length ≤ 48
  · have hlen' : ¬ ((48 : Int) < (xs.length : Int)) := by omega
    go_enter Try.func104, Try.ntmps104
    go_wp2
    go_loop [3] (fun i => ∃ k : Nat, k ≤ xs.length ∧ i = .int .i64 k ∧ inR (xs.take k)) (fun i => xs.length - (intOf i).toNat)
    case atStart => exact ⟨0, Nat.zero_le _, rfl, by simpa using inR_nil⟩
    case round =>
      obtain ⟨k, hk, rfl, hin⟩ := hrel
      by_cases hlt : k < xs.length
      · obtain ⟨g, off, rfl, hg, hc⟩ := H6.out k hlt
        have hmem := getD_in hlt
        have hsn : xs.take (k + 1) = xs.take k ++ [xs.getD k 0] := by
          rw [List.take_succ_eq_append_getElem hlt, List.getD_eq_getElem?_getD, List.getElem?_eq_getElem hlt]; rfl
        obtain ⟨d, hd⟩ : ∃ d, xs.getD k 0 = d := ⟨_, rfl⟩
        rw [hd] at hc hmem hsn
        have HS : Hid (xs.take (k + 1) = xs.take k ++ [d]) := hsn
        clear hd hsn
        by_cases hr : 0 ≤ d ∧ d < 16777216
        · obtain ⟨r1, r2⟩ := hr
          have r2' : d ≤ 16777215 := by omega
          go_wp2_with (go_at_call 47; refine (in_yes d 0 16777215 w r1 r2').mono ?_; rintro e w ⟨rfl, rfl⟩)
          go_round
          case rel => exact ⟨k + 1, by omega, by go_num, by rw [HS.out]; exact inR_append.2 ⟨hin, inR_cons.2 ⟨⟨r1, r2⟩, inR_nil⟩⟩⟩
          case measure => simp [intOf]; omega
        · have HB : Hid (okB xs = false) := okB_no fun hok => hr (hok.2.1 d hmem)
          have hr' : ¬ (0 ≤ d ∧ d ≤ 16777215) := by omega
          have HR : Hid (¬ (0 ≤ d ∧ d ≤ 16777215)) := hr'
          clear hr hr'
          go_wp2_with (go_at_call 47; refine (in_no d 0 16777215 w (by have := HR.out; omega)).mono ?_; rintro e w ⟨rfl, rfl⟩)
          go_ret
          exact ⟨by rw [HB.out]; rfl, rfl⟩
      · have hin' : inR xs := by rwa [List.take_of_length_le (by omega)] at hin
        clear hin
        by_cases h0 : xs.length = 0
        · have hx : xs = [] := List.eq_nil_of_length_eq_zero h0
          have HB : Hid (okB xs = true) := okB_yes ⟨hlen, hin', noZ_of (.inl hx)⟩
          have e0 : ((xs.length : Int) == 0) = true := by rw [h0]; rfl
          clear hin' hx
          go_wp2
          go_ret
          exact ⟨by rw [HB.out]; rfl, rfl⟩
        · obtain ⟨g, off, rfl, hg, hc⟩ := H6.out (xs.length - 1) (by omega)
          have e0 : ((xs.length : Int) == 0) = false := by rw [beq_eq_false_iff_ne]; omega
          have hpos : 0 < xs.length := by omega
          have hres : okB xs = !(xs.getD (xs.length - 1) 0 == 0) := by
            by_cases hz : xs.getD (xs.length - 1) 0 = 0
            · rw [okB_no (fun hok => hok.2.2 (List.length_pos_iff.1 hpos) (by rw [last_getD]; exact hz)), hz]; rfl
            · rw [okB_yes ⟨hlen, hin', noZ_of (.inr hz)⟩, beq_eq_false_iff_ne.2 hz]; rfl
          obtain ⟨d, hd⟩ : ∃ d, xs.getD (xs.length - 1) 0 = d := ⟨_, rfl⟩
          rw [hd] at hc hres
          have HB : Hid (okB xs = !(d == 0)) := hres
          clear hd hin' hres
          go_wp2
          go_ret
          exact ⟨by rw [HB.out]; rfl, rfl⟩
  · have hlen' : (48 : Int) < (xs.length : Int) := by omega
    have HB : Hid (okB xs = false) := okB_no fun hok => hlen hok.1
    go_enter Try.func104, Try.ntmps104
    go_wp2
    go_ret
    exact ⟨by rw [HB.out]; rfl, rfl⟩

end Go.Proofs.Ytlpfjpbnedankaa

/- What the functions on great numbers answer; how a list and a flag are answered. -/
namespace Go.Proofs.Ytlpfjpbnedankaa
open Go.RowKit

def fitR (n : Nat) : List Int × Bool := if (limbs n).length ≤ 48 then (limbs n, true) else ([], false)
def mulR (xs ys : List Int) : List Int × Bool := if okB xs = true ∧ okB ys = true then fitR (num xs * num ys) else ([], false)
def ofR (n : Int) : List Int × Bool := if n < 0 then ([], false) else (limbs n.toNat, true)
def intR (xs : List Int) : Int × Bool := if okB xs = true ∧ num xs ≤ 9223372036854775807 then ((num xs : Int), true) else (0, false)
def addR (xs ys : List Int) : List Int × Bool := if okB xs = true ∧ okB ys = true then fitR (num xs + num ys) else ([], false)
def shlR (xs : List Int) (k : Int) : List Int × Bool := if okB xs = true ∧ 0 ≤ k ∧ k ≤ 1152 then fitR (num xs * 2 ^ k.toNat) else ([], false)
def shrR (xs : List Int) (k : Int) : List Int × Bool := if okB xs = true ∧ 0 ≤ k ∧ k ≤ 1152 then (limbs (num xs / 2 ^ k.toNat), true) else ([], false)
def subR (xs ys : List Int) : List Int × Bool := if okB xs = true ∧ okB ys = true ∧ num ys ≤ num xs then (limbs (num xs - num ys), true) else ([], false)
/-- How two numbers stand to each other. -/
def cmpI (m n : Nat) : Int := if m < n then -1 else if n < m then 1 else 0
def cmpR (xs ys : List Int) : Int := if okB xs = true ∧ okB ys = true then cmpI (num xs) (num ys) else -2

/-- A list and a flag are answered: the list in memory of the call's own. -/
def ansI (w : World) (r : List Int × Bool) (e : Ending) (w' : World) : Prop := ∃ v, e = .returned (.tuple #[v, .bool r.2]) ∧ ownsI w' w.heap.size v r.1 ∧ Below w.heap.size w w'

theorem fitR_len (n : Nat) : (fitR n).1.length ≤ 1048576 := by
  unfold fitR
  split
  · show (limbs n).length ≤ 1048576; omega
  · simp
theorem addR_len (xs ys : List Int) : (addR xs ys).1.length ≤ 1048576 := by
  unfold addR
  split
  · exact fitR_len _
  · simp
theorem mulR_len (xs ys : List Int) : (mulR xs ys).1.length ≤ 1048576 := by
  unfold mulR
  split
  · exact fitR_len _
  · simp
theorem shlR_len (xs : List Int) (k : Int) : (shlR xs k).1.length ≤ 1048576 := by
  unfold shlR
  split
  · exact fitR_len _
  · simp
theorem okL_lt {xs : List Int} (h : okL xs) : num xs < 16777216 ^ 48 := by
  have h1 := limbs_lt (num xs)
  have e : limbs (num xs) = xs := (okL_eq h).symm
  rw [e] at h1
  have := Nat.pow_le_pow_right (by omega : 0 < 16777216) h.1
  omega
theorem subR_len (xs ys : List Int) : (subR xs ys).1.length ≤ 1048576 := by
  unfold subR
  split
  · rename_i h
    have h1 := okL_lt ((okB_iff xs).1 h.1)
    have := limbs_len_le (num xs - num ys) 48 (by omega)
    show (limbs (num xs - num ys)).length ≤ 1048576
    omega
  · simp
theorem shrR_len (xs : List Int) (k : Int) : (shrR xs k).1.length ≤ 1048576 := by
  unfold shrR
  split
  · rename_i h
    have h1 := okL_lt ((okB_iff xs).1 h.1)
    have h2 : num xs / 2 ^ k.toNat ≤ num xs := Nat.div_le_self _ _
    have := limbs_len_le (num xs / 2 ^ k.toNat) 48 (by omega)
    show (limbs (num xs / 2 ^ k.toNat)).length ≤ 1048576
    omega
  · simp
theorem ofR_len (n : Int) (h : n ≤ 9223372036854775807) : (ofR n).1.length ≤ 1048576 := by
  unfold ofR
  split
  · simp
  · have := limbs_len_le n.toNat 3 (by omega)
    show (limbs n.toNat).length ≤ 1048576
    omega

end Go.Proofs.Ytlpfjpbnedankaa

/- More on limbs: sums, differences, order (plain facts). -/
namespace Go.Proofs.Ytlpfjpbnedankaa
open Go.RowKit

theorem ownsI_mono {w : World} {base base' : Nat} {v : Value} {xs : List Int} (h : ownsI w base v xs) (hb : base' ≤ base) : ownsI w base' v xs := by
  refine ⟨h.1, ?_⟩
  rcases h.2 with h | ⟨g, cap, cur, h1, h2, h3⟩
  · exact .inl h
  · exact .inr ⟨g, cap, cur, h1, Nat.le_trans hb h2, h3⟩

/-- The first limbs, one more. -/
theorem lval_take_succ (xs : List Int) (k : Nat) : lval (xs.take (k + 1)) = lval (xs.take k) + 16777216 ^ k * xs.getD k 0 := by
  by_cases h : k < xs.length
  · rw [List.take_succ_eq_append_getElem h, lval_snoc, List.length_take, Nat.min_eq_left (by omega), List.getD_eq_getElem?_getD, List.getElem?_eq_getElem h]; rfl
  · rw [List.take_of_length_le (by omega), List.take_of_length_le (by omega), List.getD_eq_getElem?_getD, List.getElem?_eq_none (by omega)]
    simp

theorem plus_step (k : Nat) (c x A B : Int) (out : List Int) (hk : out.length = k) (h : lval out + 16777216 ^ k * c = A + B) (xk yk : Int) (hx : x = xk + yk + c) :
    lval (out ++ [x % 16777216]) + 16777216 ^ (k + 1) * (x / 16777216) = (A + 16777216 ^ k * xk) + (B + 16777216 ^ k * yk) := by
  rw [lval_snoc, hk, Int.pow_succ]
  have e : x = 16777216 * (x / 16777216) + x % 16777216 := by omega
  have e2 : (16777216 : Int) ^ k * x = 16777216 ^ k * xk + 16777216 ^ k * yk + 16777216 ^ k * c := by rw [hx, Int.mul_add, Int.mul_add]
  have e3 : (16777216 : Int) ^ k * x = 16777216 ^ k * 16777216 * (x / 16777216) + 16777216 ^ k * (x % 16777216) := by
    conv => lhs; rw [e]
    rw [Int.mul_add, ← Int.mul_assoc]
  omega

theorem less_step (k : Nat) (b x A B : Int) (out : List Int) (hk : out.length = k) (h : lval out - 16777216 ^ k * b = A - B) (xk yk : Int) (b' z : Int) (hx : x = xk - yk - b) (hz : z = x + 16777216 * b') :
    lval (out ++ [z]) - 16777216 ^ (k + 1) * b' = (A + 16777216 ^ k * xk) - (B + 16777216 ^ k * yk) := by
  rw [lval_snoc, hk, Int.pow_succ, hz, hx]
  have e1 : (16777216 : Int) ^ k * (xk - yk - b + 16777216 * b') = 16777216 ^ k * xk - 16777216 ^ k * yk - 16777216 ^ k * b + 16777216 ^ k * 16777216 * b' := by
    rw [Int.mul_add, Int.mul_sub, Int.mul_sub, ← Int.mul_assoc]
  omega

theorem lval_drop (xs : List Int) (k : Nat) : lval (xs.drop k) = xs.getD k 0 + 16777216 * lval (xs.drop (k + 1)) := by
  by_cases h : k < xs.length
  · rw [List.drop_eq_getElem_cons h, lval, List.getD_eq_getElem?_getD, List.getElem?_eq_getElem h]; rfl
  · rw [List.drop_of_length_le (by omega), List.drop_of_length_le (by omega), List.getD_eq_getElem?_getD, List.getElem?_eq_none (by omega)]; rfl
theorem lval_split (xs : List Int) (k : Nat) : lval xs = lval (xs.take k) + 16777216 ^ k * lval (xs.drop k) := by
  by_cases h : k ≤ xs.length
  · have := lval_append (xs.take k) (xs.drop k)
    rw [List.take_append_drop, List.length_take, Nat.min_eq_left h] at this
    exact this
  · rw [List.take_of_length_le (by omega), List.drop_of_length_le (by omega)]; simp [lval]
theorem pow_le {j k : Nat} (h : j ≤ k) : (16777216 : Int) ^ j ≤ 16777216 ^ k := by
  have h1 := Nat.pow_le_pow_right (by omega : 0 < 16777216) h
  have e1 : ((16777216 ^ j : Nat) : Int) = (16777216 : Int) ^ j := by simp
  have e2 : ((16777216 ^ k : Nat) : Int) = (16777216 : Int) ^ k := by simp
  omega
theorem lval_take_lt {xs : List Int} (h : inR xs) (k : Nat) : lval (xs.take k) < 16777216 ^ k := by
  have h1 := lval_lt (inR_take h k)
  have h2 : (16777216 : Int) ^ (xs.take k).length ≤ 16777216 ^ k := pow_le (by rw [List.length_take]; omega)
  omega
theorem cmp_lt {xs ys : List Int} (hx : inR xs) (hy : inR ys) (k : Nat) (h : lval (xs.drop k) < lval (ys.drop k)) : num xs < num ys := by
  have h1 := num_val hx
  have h2 := num_val hy
  have h3 := lval_split xs k
  have h4 := lval_split ys k
  have h5 := lval_take_lt hx k
  have h6 := lval_nonneg (inR_take hy k)
  have h7 : (16777216 : Int) ^ k * (lval (xs.drop k) + 1) ≤ 16777216 ^ k * lval (ys.drop k) := Int.mul_le_mul_of_nonneg_left (by omega) (by have := pow_pos k; omega)
  rw [Int.mul_add, Int.mul_one] at h7
  omega

end Go.Proofs.Ytlpfjpbnedankaa

/- Decimal texts: their numbers, and which texts are a number's own digits (plain facts, no program). -/
namespace Go.Proofs.Ytlpfjpbnedankaa

def isDig (c : UInt8) : Prop := 48 ≤ c.toNat ∧ c.toNat ≤ 57
instance (c : UInt8) : Decidable (isDig c) := by unfold isDig; infer_instance
def val (l : List UInt8) : Nat := l.foldl (fun a c => 10 * a + (c.toNat - 48)) 0
theorem val_snoc (l : List UInt8) (c : UInt8) : val (l ++ [c]) = 10 * val l + (c.toNat - 48) := by simp [val, List.foldl_append]
theorem val_lt (l : List UInt8) (h : ∀ c ∈ l, isDig c) : val l < 10 ^ l.length := by
  suffices ∀ (r : List UInt8), (∀ c ∈ r.reverse, isDig c) → val r.reverse < 10 ^ r.length by
    have := this l.reverse (by simpa using h); simpa using this
  intro r
  induction r with
  | nil => intro _; simp [val]
  | cons c r ih =>
    intro h
    simp only [List.reverse_cons] at h ⊢
    have h1 := ih (fun x hx => h x (by simp at hx ⊢; exact .inl hx))
    have h2 : isDig c := h c (by simp)
    rw [val_snoc, List.length_cons, Nat.pow_succ]
    unfold isDig at h2
    omega

/-- A text that begins with no nought has a number of as many digits. -/
theorem val_ge (c : UInt8) (hc : isDig c) (h48 : c ≠ 48) : ∀ r : List UInt8, (∀ x ∈ r.reverse, isDig x) → 10 ^ r.length ≤ val (c :: r.reverse) := by
  intro r
  induction r with
  | nil =>
    intro _
    have : c.toNat ≠ 48 := fun e => h48 (by apply UInt8.toNat_inj.1; simpa using e)
    unfold isDig at hc
    simp [val]
    omega
  | cons x r ih =>
    intro h
    simp only [List.reverse_cons] at h ⊢
    have h1 := ih (fun y hy => h y (by simp at hy ⊢; exact .inl hy))
    have h2 : isDig x := h x (by simp)
    rw [← List.cons_append, val_snoc, List.length_cons, Nat.pow_succ]
    omega
theorem val_ge' (c : UInt8) (r : List UInt8) (hc : isDig c) (h48 : c ≠ 48) (h : ∀ x ∈ r, isDig x) : 10 ^ r.length ≤ val (c :: r) := by
  have := val_ge c hc h48 r.reverse (by simpa using h)
  simpa using this

/-- The decimal digits of a number ahead of 'out'. -/
def digL (k : Nat) (out : List UInt8) : List UInt8 := if 0 < k then digL (k / 10) ((48 + UInt8.ofNat (k % 10)) :: out) else out
  termination_by k
  decreasing_by omega
theorem digL_pos (k : Nat) (out : List UInt8) (h : 0 < k) : digL k out = digL (k / 10) ((48 + UInt8.ofNat (k % 10)) :: out) := by
  conv => lhs; rw [digL]
  rw [if_pos h]
theorem digL_zero (out : List UInt8) : digL 0 out = out := by rw [digL]; simp
def numL (k : Nat) : List UInt8 := if k = 0 then [48] else digL k []

theorem byte_of_dig (c : UInt8) (h : isDig c) (q : Nat) : 48 + UInt8.ofNat ((10 * q + (c.toNat - 48)) % 10) = c := by
  unfold isDig at h
  apply UInt8.toNat_inj.1
  rw [UInt8.toNat_add, UInt8.toNat_ofNat']
  have : (48 : UInt8).toNat = 48 := rfl
  omega

/-- A text of digits that begins with no nought is its number's own text. -/
theorem digL_val (c : UInt8) (hc : isDig c) (h48 : c ≠ 48) : ∀ (r out : List UInt8), (∀ x ∈ r.reverse, isDig x) → digL (val (c :: r.reverse)) out = c :: r.reverse ++ out := by
  intro r
  induction r with
  | nil =>
    intro out h
    have h1 := val_ge c hc h48 [] (by simp)
    have e : val [c] = 10 * 0 + (c.toNat - 48) := by simp [val]
    rw [List.reverse_nil] at h1 ⊢
    rw [digL_pos _ _ (by simp at h1; omega), e, byte_of_dig c hc 0]
    have : (10 * 0 + (c.toNat - 48)) / 10 = 0 := by unfold isDig at hc; omega
    rw [this, digL_zero]; rfl
  | cons x r ih =>
    intro out h
    simp only [List.reverse_cons] at h ⊢
    have h1 := val_ge c hc h48 r (fun y hy => h y (by simp at hy ⊢; exact .inl hy))
    have hp : 0 < 10 ^ r.length := Nat.pow_pos (by omega)
    have h2 : isDig x := h x (by simp)
    rw [← List.cons_append, val_snoc, digL_pos _ _ (by omega), byte_of_dig x h2]
    have : (10 * val (c :: r.reverse) + (x.toNat - 48)) / 10 = val (c :: r.reverse) := by unfold isDig at h2; omega
    rw [this, ih _ (fun y hy => h y (by simp at hy ⊢; exact .inl hy))]
    simp
theorem numL_val (c : UInt8) (r : List UInt8) (hc : isDig c) (h48 : c ≠ 48) (h : ∀ x ∈ r, isDig x) : numL (val (c :: r)) = c :: r := by
  have h1 := val_ge' c r hc h48 h
  have hp : 0 < 10 ^ r.length := Nat.pow_pos (by omega)
  have h2 := digL_val c hc h48 r.reverse [] (by simpa using h)
  rw [numL, if_neg (by omega)]
  simpa using h2

/-- The text of a number that is not 0 begins with no nought. -/
theorem digL_head (k : Nat) : ∀ out, 0 < k → ∃ c r, digL k out = c :: r ∧ c ≠ 48 := by
  induction k using Nat.strongRecOn with
  | ind k ih =>
    intro out h
    rw [digL_pos k out h]
    by_cases hq : 0 < k / 10
    · exact ih (k / 10) (by omega) _ hq
    · have : k / 10 = 0 := by omega
      rw [this, digL_zero]
      refine ⟨_, _, rfl, fun e => ?_⟩
      have := congrArg UInt8.toNat e
      rw [UInt8.toNat_add, UInt8.toNat_ofNat'] at this
      have h48 : (48 : UInt8).toNat = 48 := rfl
      omega
theorem numL_nought (r : List UInt8) (hr : r ≠ []) (k : Nat) : numL k ≠ 48 :: r := by
  intro e
  unfold numL at e
  split at e
  · simp at e; exact hr e
  · obtain ⟨c, r', h1, h2⟩ := digL_head k [] (by omega)
    rw [h1] at e
    simp at e
    exact h2 e.1

/-- Which texts are a number's. -/
def good (l : List UInt8) : Prop := 1 ≤ l.length ∧ l.length ≤ 6 ∧ (∀ c ∈ l, isDig c) ∧ (l.head? = some 48 → l.length = 1)
instance (l : List UInt8) : Decidable (good l) := by unfold good; infer_instance
theorem good_text (l : List UInt8) (h1 : 1 ≤ l.length) (h6 : l.length ≤ 6) (hd : ∀ c ∈ l, isDig c) : good l ↔ numL (val l) = l := by
  match l, h1 with
  | c :: r, _ =>
    by_cases h48 : c = 48
    · subst h48
      by_cases hr : r = []
      · subst hr
        exact ⟨fun _ => by simp [val, numL], fun _ => ⟨by simp, by simp, hd, by simp⟩⟩
      · refine ⟨fun h => ?_, fun h => absurd h (numL_nought r hr _)⟩
        have := h.2.2.2 rfl
        simp at this
        exact absurd this hr
    · refine ⟨fun _ => numL_val c r (hd c (by simp)) h48 (fun x hx => hd x (by simp [hx])), fun _ => ⟨by simp, h6, hd, fun e => ?_⟩⟩
      simp at e
      exact absurd e h48
theorem good_lt (l : List UInt8) (h : good l) : val l ≤ 999999 := by
  have h1 := val_lt l h.2.2.1
  have h2 : 10 ^ l.length ≤ 10 ^ 6 := Nat.pow_le_pow_right (by omega) h.2.1
  omega
/-- What the program asks is what the specification asks. -/
theorem good_of_small (c : UInt8) (r : List UInt8) (hd : ∀ x ∈ c :: r, isDig x) (h0 : ¬ (c = 48 ∧ r ≠ [])) (hv : val (c :: r) ≤ 999999) : good (c :: r) := by
  by_cases h48 : c = 48
  · have hr : r = [] := Classical.byContradiction fun h => h0 ⟨h48, h⟩
    subst hr
    exact ⟨by simp, by simp, hd, by simp⟩
  · have h1 := val_ge' c r (hd c (by simp)) h48 (fun x hx => hd x (by simp [hx]))
    refine ⟨by simp, ?_, hd, fun e => by simp at e; exact absurd e h48⟩
    rw [List.length_cons]
    apply Classical.byContradiction
    intro hn
    have h2 : 10 ^ 6 ≤ 10 ^ r.length := Nat.pow_le_pow_right (by omega) (by omega)
    omega

def numR (l : List UInt8) : Int × Bool := if good l then ((val l : Int), true) else (0, false)

end Go.Proofs.Ytlpfjpbnedankaa

/- What the functions on quotients, roots and texts answer; the facts of numbers behind them (no program). -/
namespace Go.Proofs.Ytlpfjpbnedankaa
open Go.RowKit

def divR (xs ys : List Int) : List Int × List Int × Bool := if okB xs = true ∧ okB ys = true ∧ ys ≠ [] then (limbs (num xs / num ys), limbs (num xs % num ys), true) else ([], [], false)
/-- The root of a number, rounded down. -/
def isqrt : Nat → Nat
  | 0 => 0
  | n + 1 => if (isqrt n + 1) * (isqrt n + 1) ≤ n + 1 then isqrt n + 1 else isqrt n
theorem isqrt_spec (n : Nat) : isqrt n * isqrt n ≤ n ∧ n < (isqrt n + 1) * (isqrt n + 1) := by
  induction n with
  | zero => simp [isqrt]
  | succ n ih =>
    unfold isqrt
    split
    · rename_i h
      refine ⟨h, ?_⟩
      obtain ⟨_, h2⟩ := ih
      generalize isqrt n = r at *
      have : (r + 1 + 1) * (r + 1 + 1) = (r + 1) * (r + 1) + 2 * r + 3 := by grind
      omega
    · rename_i h
      omega
theorem isqrt_unique {n r : Nat} (h1 : r * r ≤ n) (h2 : n < (r + 1) * (r + 1)) : r = isqrt n := by
  obtain ⟨a, b⟩ := isqrt_spec n
  have k1 : r < isqrt n + 1 := by
    apply Classical.byContradiction
    intro h
    have := Nat.mul_le_mul (show isqrt n + 1 ≤ r by omega) (show isqrt n + 1 ≤ r by omega)
    omega
  have k2 : isqrt n < r + 1 := by
    apply Classical.byContradiction
    intro h
    have := Nat.mul_le_mul (show r + 1 ≤ isqrt n by omega) (show r + 1 ≤ isqrt n by omega)
    omega
  omega
theorem isqrt_le (n : Nat) : isqrt n ≤ n := by
  obtain ⟨a, _⟩ := isqrt_spec n
  by_cases h : isqrt n = 0
  · omega
  · have := Nat.le_mul_of_pos_right (isqrt n) (Nat.pos_of_ne_zero h)
    omega
def rootR (xs : List Int) : List Int × Bool := if okB xs = true then (limbs (isqrt (num xs)), true) else ([], false)
def powR (n k : Int) : List Int × Bool := if 0 ≤ n ∧ n ≤ 16777215 ∧ 0 ≤ k ∧ k ≤ 1000 then fitR (n.toNat ^ k.toNat) else ([], false)
def textR (xs : List Int) : ByteArray := if okB xs = true then ⟨(numL (num xs)).toArray⟩ else ⟨#[]⟩
def fromOk (l : List UInt8) : Prop := 1 ≤ l.length ∧ l.length ≤ 400 ∧ (∀ c ∈ l, isDig c) ∧ (limbs (val l)).length ≤ 48 ∧ numL (val l) = l
instance (l : List UInt8) : Decidable (fromOk l) := by unfold fromOk; infer_instance
def fromR (s : ByteArray) : List Int × Bool := if fromOk s.data.toList then (limbs (val s.data.toList), true) else ([], false)

theorem divR_len (xs ys : List Int) : (divR xs ys).1.length ≤ 1048576 ∧ (divR xs ys).2.1.length ≤ 1048576 := by
  unfold divR
  split
  · rename_i h
    have h1 := okL_lt ((okB_iff xs).1 h.1)
    have h2 : num xs / num ys ≤ num xs := Nat.div_le_self _ _
    have h3 : num xs % num ys ≤ num xs := Nat.mod_le _ _
    have a := limbs_len_le (num xs / num ys) 48 (by omega)
    have b := limbs_len_le (num xs % num ys) 48 (by omega)
    exact ⟨by show (limbs (num xs / num ys)).length ≤ 1048576; omega, by show (limbs (num xs % num ys)).length ≤ 1048576; omega⟩
  · simp
theorem rootR_len (xs : List Int) : (rootR xs).1.length ≤ 1048576 := by
  unfold rootR
  split
  · rename_i h
    have h1 := okL_lt ((okB_iff xs).1 h)
    have h2 := isqrt_le (num xs)
    have a := limbs_len_le (isqrt (num xs)) 48 (by omega)
    show (limbs (isqrt (num xs))).length ≤ 1048576
    omega
  · simp
theorem powR_len (n k : Int) : (powR n k).1.length ≤ 1048576 := by
  unfold powR
  split
  · exact fitR_len _
  · simp
theorem fromR_len (s : ByteArray) : (fromR s).1.length ≤ 1048576 := by
  unfold fromR
  split
  · rename_i h
    show (limbs (val s.data.toList)).length ≤ 1048576
    have := h.2.2.2.1
    omega
  · simp

/-! ### Division bit by bit -/
theorem bit_next (n k : Nat) : n / 2 ^ k = 2 * (n / 2 ^ (k + 1)) + n / 2 ^ k % 2 := by
  have : n / 2 ^ (k + 1) = n / 2 ^ k / 2 := by rw [Nat.pow_succ, Nat.div_div_eq_div_mul]
  omega
theorem div_bit {h d b h' : Nat} (hd : 0 < d) (hb : b ≤ 1) (hh : h' = 2 * h + b) :
    (if d ≤ 2 * (h % d) + b then h' % d = 2 * (h % d) + b - d ∧ h' / d = 2 * (h / d) + 1 else h' % d = 2 * (h % d) + b ∧ h' / d = 2 * (h / d)) := by
  have e := Nat.div_add_mod h d
  have l := Nat.mod_lt h hd
  generalize h % d = r at *
  generalize h / d = q at *
  subst e hh
  split
  · have e2 : 2 * (d * q + r) + b = (2 * r + b - d) + d * (2 * q + 1) := by
      rw [Nat.mul_add d, Nat.mul_add 2, ← Nat.mul_assoc, ← Nat.mul_assoc, Nat.mul_comm d 2]; omega
    rw [e2, Nat.add_mul_mod_self_left, Nat.mod_eq_of_lt (by omega), Nat.add_mul_div_left _ _ hd, Nat.div_eq_of_lt (by omega)]
    exact ⟨rfl, by omega⟩
  · have e2 : 2 * (d * q + r) + b = (2 * r + b) + d * (2 * q) := by
      rw [Nat.mul_add 2, ← Nat.mul_assoc, ← Nat.mul_assoc, Nat.mul_comm d 2]; omega
    rw [e2, Nat.add_mul_mod_self_left, Nat.mod_eq_of_lt (by omega), Nat.add_mul_div_left _ _ hd, Nat.div_eq_of_lt (by omega)]
    exact ⟨rfl, by omega⟩

/-- A limb of a number. -/
theorem limb_of {xs : List Int} (h : inR xs) (i : Nat) : xs.getD i 0 = ((num xs / 16777216 ^ i % 16777216 : Nat) : Int) := by
  have h1 := lval_split xs i
  have h2 := lval_drop xs i
  have h3 := lval_take_lt h i
  have h4 := lval_nonneg (inR_take h i)
  have h5 := num_val h
  have h6 := inR_getD h i
  have e1 : lval xs / 16777216 ^ i = lval (xs.drop i) := by
    rw [h1, Int.add_mul_ediv_left _ _ (by have := pow_pos i; omega), Int.ediv_eq_zero_of_lt h4 h3]
    omega
  have e2 : ((num xs / 16777216 ^ i % 16777216 : Nat) : Int) = lval xs / 16777216 ^ i % 16777216 := by rw [← h5]; simp
  rw [e2, e1, h2, Int.add_mul_emod_self_left, Int.emod_eq_of_lt h6.1 h6.2]

theorem pow24N (k : Nat) : 16777216 ^ (k / 24) * 2 ^ (k % 24) = 2 ^ k := by
  rw [show 16777216 = 2 ^ 24 by decide, ← Nat.pow_mul, ← Nat.pow_add]
  congr 1
  omega

/-- A bit of a number, out of its limb. -/
theorem bit_of {xs : List Int} (h : inR xs) (k : Nat) : xs.getD (k / 24) 0 / 2 ^ (k % 24) % 2 = ((num xs / 2 ^ k % 2 : Nat) : Int) := by
  rw [limb_of h, ← pow24N k, ← Nat.div_div_eq_div_mul]
  generalize num xs / 16777216 ^ (k / 24) = m
  have e : (m % 16777216) / 2 ^ (k % 24) % 2 = m / 2 ^ (k % 24) % 2 := by
    have hp : 16777216 = 2 ^ (k % 24) * (2 * 2 ^ (23 - k % 24)) := by
      rw [← Nat.pow_succ', ← Nat.pow_add, show k % 24 + (23 - k % 24).succ = 24 by omega]
    rw [hp, Nat.mod_mul_right_div_self, Nat.mod_mul_right_mod]
  have e2 : (((m % 16777216) / 2 ^ (k % 24) % 2 : Nat) : Int) = ((m % 16777216 : Nat) : Int) / 2 ^ (k % 24) % 2 := by simp
  rw [← e2, e]

/-- The limb of a number whose lower bits are nought has room for the bit. -/
theorem limb_room {zs : List Int} (h : inR zs) (k q : Nat) (hq : num zs = q * 2 ^ (k + 1)) : zs.getD (k / 24) 0 + 2 ^ (k % 24) < 16777216 := by
  have e0 : num zs / 16777216 ^ (k / 24) = 2 ^ (k % 24 + 1) * q := by
    rw [hq, Nat.pow_succ, ← pow24N k]
    have : q * (16777216 ^ (k / 24) * 2 ^ (k % 24) * 2) = 16777216 ^ (k / 24) * (2 ^ (k % 24 + 1) * q) := by rw [Nat.pow_succ]; grind
    rw [this, Nat.mul_div_cancel_left _ (Nat.pow_pos (by omega))]
  have hp : 16777216 = 2 ^ (k % 24 + 1) * 2 ^ (23 - k % 24) := by rw [← Nat.pow_add, show k % 24 + 1 + (23 - k % 24) = 24 by omega]
  have e1 : num zs / 16777216 ^ (k / 24) % 16777216 = 2 ^ (k % 24 + 1) * (q % 2 ^ (23 - k % 24)) := by
    rw [e0]
    conv => lhs; rw [hp]
    rw [Nat.mul_mod_mul_left]
  have e2 := limb_of h (k / 24)
  rw [e1] at e2
  have l : q % 2 ^ (23 - k % 24) < 2 ^ (23 - k % 24) := Nat.mod_lt _ (Nat.pow_pos (by omega))
  generalize q % 2 ^ (23 - k % 24) = t at *
  have l2 : 2 ^ (k % 24 + 1) * (t + 1) ≤ 2 ^ (k % 24 + 1) * 2 ^ (23 - k % 24) := Nat.mul_le_mul_left _ l
  rw [← hp, Nat.mul_add, Nat.mul_one] at l2
  have l3 : 2 ^ (k % 24) < 2 ^ (k % 24 + 1) := by rw [Nat.pow_succ]; have := Nat.pow_pos (n := k % 24) (show 0 < 2 by omega); omega
  have l4 : 2 ^ (k % 24 + 1) * t + 2 ^ (k % 24) < 16777216 := by omega
  rw [e2]
  have e3 : (((2 ^ (k % 24 + 1) * t + 2 ^ (k % 24) : Nat)) : Int) = ((2 ^ (k % 24 + 1) * t : Nat) : Int) + 2 ^ (k % 24) := by simp
  omega

theorem cmpI_ge {m n : Nat} (h : n ≤ m) : 0 ≤ cmpI m n := by unfold cmpI; rw [if_neg (by omega)]; split <;> omega
theorem cmpI_lt {m n : Nat} (h : m < n) : cmpI m n < 0 := by unfold cmpI; rw [if_pos h]; omega
theorem cmpI_le {m n : Nat} (h : m ≤ n) : cmpI m n ≤ 0 := by unfold cmpI; split; omega; rw [if_neg (by omega)]; omega
theorem cmpI_gt {m n : Nat} (h : n < m) : 0 < cmpI m n := by unfold cmpI; rw [if_neg (by omega), if_pos h]; omega
theorem cmpI_bd (m n : Nat) : -1 ≤ cmpI m n ∧ cmpI m n ≤ 1 := by unfold cmpI; split; omega; split <;> omega
theorem eq_limbs {ys : List Int} (h : inR ys ∧ noZ ys) : ys = limbs (num ys) := limbs_of h.1 h.2

theorem pow2_limbs (k : Nat) : (limbs (2 ^ k)).length ≤ k / 24 + 1 := by
  apply limbs_len_le
  rw [show 16777216 = 2 ^ 24 by decide, ← Nat.pow_mul]
  exact Nat.pow_lt_pow_right (by omega) (by omega)
theorem add_limbs (a b m : Nat) (ha : (limbs a).length ≤ m) (hb : (limbs b).length ≤ m) : (limbs (a + b)).length ≤ m + 1 := by
  apply limbs_len_le
  have h1 := limbs_lt a
  have h2 := limbs_lt b
  have h3 := Nat.pow_le_pow_right (show 0 < 16777216 by omega) ha
  have h4 := Nat.pow_le_pow_right (show 0 < 16777216 by omega) hb
  rw [Nat.pow_succ]
  omega
theorem mul_limbs (a b : Nat) : (limbs (a * b)).length ≤ (limbs a).length + (limbs b).length := by
  apply limbs_len_le
  rw [Nat.pow_add]
  exact Nat.mul_lt_mul_of_lt_of_le (limbs_lt a) (Nat.le_of_lt (limbs_lt b)) (Nat.pow_pos (by omega))

/-- The root, bit by bit. -/
theorem root_step {n r p : Nat} (h1 : r * r ≤ n) (h2 : n < (r + 2 * p) * (r + 2 * p)) :
    if (r + p) * (r + p) ≤ n then (r + p) * (r + p) ≤ n ∧ n < (r + p + p) * (r + p + p) else r * r ≤ n ∧ n < (r + p) * (r + p) := by
  split
  · rename_i h
    refine ⟨h, ?_⟩
    rw [show r + p + p = r + 2 * p by omega]
    exact h2
  · rename_i h
    exact ⟨h1, by omega⟩

end Go.Proofs.Ytlpfjpbnedankaa

/- Great numbers with a sign: what stands for them, what the functions on them answer (no program). -/
namespace Go.Proofs.Ytlpfjpbnedankaa
open Go.RowKit

/-- A sign and limbs. -/
abbrev Wh := Bool × List Int
def okW (a : Wh) : Bool := okB a.2 && (!a.1 || decide (0 < a.2.length))
/-- The number that a sign and limbs stand for. -/
def valW (a : Wh) : Int := if a.1 = true then -(num a.2 : Int) else (num a.2 : Int)
/-- The sign and the limbs of a number. -/
def mkW (z : Int) : Wh := (decide (z < 0), limbs z.natAbs)
/-- A value that holds a sign and limbs, to be read. -/
def rowW (w : World) (v : Value) (a : Wh) : Prop := ∃ s, v = .agg #[.bool a.1, s] ∧ rowI w s a.2
/-- .. in memory of the call's own. -/
def ownsW (w : World) (base : Nat) (v : Value) (a : Wh) : Prop := ∃ s, v = .agg #[.bool a.1, s] ∧ ownsI w base s a.2

theorem ownsW.row {w : World} {base : Nat} {v : Value} {a : Wh} (h : ownsW w base v a) : rowW w v a := by
  obtain ⟨s, rfl, h⟩ := h
  exact ⟨s, rfl, h.row⟩
theorem rowW.below {w w' : World} {v : Value} {a : Wh} {B : Nat} (h : rowW w v a) (hb : Below B w w') (hB : w.heap.size ≤ B) : rowW w' v a := by
  obtain ⟨s, rfl, h⟩ := h
  exact ⟨s, rfl, h.below hb hB⟩
theorem ownsW.below {w w' : World} {base B : Nat} {v : Value} {a : Wh} (h : ownsW w base v a) (hb : Below B w w') (hlt : w.heap.size ≤ B) : ownsW w' base v a := by
  obtain ⟨s, rfl, h⟩ := h
  exact ⟨s, rfl, ownsI.below h hb hlt⟩
theorem ownsW_mono {w : World} {base base' : Nat} {v : Value} {a : Wh} (h : ownsW w base v a) (hb : base' ≤ base) : ownsW w base' v a := by
  obtain ⟨s, rfl, h⟩ := h
  exact ⟨s, rfl, ownsI_mono h hb⟩

theorem mkW_val (z : Int) : valW (mkW z) = z := by
  unfold valW mkW
  simp only [num_limbs, decide_eq_true_eq]
  split <;> omega
theorem okW_iff (a : Wh) : okW a = true ↔ okL a.2 ∧ (a.1 = true → 0 < a.2.length) := by
  unfold okW
  rw [Bool.and_eq_true, okB_iff]
  cases a.1 <;> simp
theorem num_pos_len {xs : List Int} (h : inR xs ∧ noZ xs) (hl : 0 < xs.length) : 0 < num xs := by
  apply Nat.pos_of_ne_zero
  intro h0
  have := eq_limbs h
  rw [h0, limbs_zero] at this
  rw [this] at hl
  simp at hl
theorem mkW_of {a : Wh} (h : okW a = true) : a = mkW (valW a) := by
  obtain ⟨h1, h2⟩ := (okW_iff a).1 h
  obtain ⟨n, xs⟩ := a
  have e := eq_limbs h1.2
  unfold mkW valW
  cases n with
  | false =>
    have : ¬ ((num xs : Int) < 0) := by omega
    simp [this]
    exact e
  | true =>
    have hp : 0 < num xs := num_pos_len h1.2 (h2 rfl)
    simp [hp]
    exact e
theorem mkW_neg (z : Int) (h : z < 0) : mkW z = (true, limbs z.natAbs) := by unfold mkW; simp [h]
theorem mkW_pos (z : Int) (h : 0 ≤ z) : mkW z = (false, limbs z.natAbs) := by unfold mkW; simp; omega
theorem mkW_zero : mkW 0 = (false, []) := by rw [mkW_pos 0 (by omega)]; simp [limbs_zero]

/-- What fits is answered, else nought and no. -/
def fitW (z : Int) : Wh × Bool := if (limbs z.natAbs).length ≤ 48 then (mkW z, true) else ((false, []), false)
def wofR (n : Int) : Wh := mkW n
def wintR (a : Wh) : Int × Bool := if okW a = true ∧ (valW a).natAbs ≤ 9223372036854775807 then (valW a, true) else (0, false)
def wcmpR (a b : Wh) : Int := if okW a = true ∧ okW b = true then (if valW a < valW b then -1 else if valW b < valW a then 1 else 0) else -2
def wnegR (a : Wh) : Wh := if okW a = true then mkW (-(valW a)) else (false, [])
def waddR (a b : Wh) : Wh × Bool := if okW a = true ∧ okW b = true then fitW (valW a + valW b) else ((false, []), false)
def wsubR (a b : Wh) : Wh × Bool := if okW a = true ∧ okW b = true then fitW (valW a - valW b) else ((false, []), false)
def wmulR (a b : Wh) : Wh × Bool := if okW a = true ∧ okW b = true then fitW (valW a * valW b) else ((false, []), false)
/-- The floor of a number times 2^k, whatever sign k has. -/
def scaleI (z k : Int) : Int := if 0 ≤ k then z * 2 ^ k.toNat else z / 2 ^ (-k).toNat
def wshiftR (a : Wh) (k : Int) : Wh × Bool := if okW a = true ∧ -1152 ≤ k ∧ k ≤ 1152 then fitW (scaleI (valW a) k) else ((false, []), false)
def wtextR (a : Wh) : ByteArray := if okW a = true then (if a.1 = true then ⟨#[45]⟩ ++ ⟨(numL (num a.2)).toArray⟩ else ⟨(numL (num a.2)).toArray⟩) else ⟨#[]⟩

theorem fitW_len (z : Int) : (fitW z).1.2.length ≤ 1048576 := by
  unfold fitW
  split
  · show (limbs z.natAbs).length ≤ 1048576; omega
  · simp

end Go.Proofs.Ytlpfjpbnedankaa

/- The law's own eqIntS, by its contract. -/
namespace Go.Proofs.Ytlpfjpbnedankaa
open Go.RowKit

theorem cellsI_of {w : World} {base g n cap : Nat} {xs : List Int} (h : w.ownsRow base 3 1 (.slice (some ⟨g, 0, none⟩) n cap) n (xs.map (Value.int .i64))) (hn : xs.length = n) :
    ∀ j, j < n → w.cell? ⟨g, j, none⟩ = some (.int .i64 (xs.getD j 0)) := by
  intro j hj
  rw [h.cellAt j (by omega)]
  simp [List.getElem?_map, List.getElem?_eq_getElem (by omega : j < xs.length), List.getD]

theorem apart_symm {v1 v2 : Value} (h : v1.ownBlock = none ∨ v1.ownBlock ≠ v2.ownBlock) : v2.ownBlock = none ∨ v2.ownBlock ≠ v1.ownBlock := by
  cases h2 : v2.ownBlock with
  | none => exact .inl rfl
  | some k =>
    refine .inr fun e => ?_
    rcases h with h | h
    · rw [h] at e; cases e
    · exact h (by rw [← e, h2])

end Go.Proofs.Ytlpfjpbnedankaa

/- Frames of a law's walk: which blocks a value owns, which have turned. -/
namespace Go.Proofs.Ytlpfjpbnedankaa
open Go.RowKit

/-- Of what was there, the blocks in 'S' alone may have turned. -/
structure Tn (S : List Nat) (w w' : World) : Prop where
  os : w'.os = w.os
  tape : w'.tape = w.tape
  output : w'.output = w.output
  size : w.heap.size ≤ w'.heap.size
  block : ∀ k, k < w.heap.size → k ∉ S → w'.heap[k]? = w.heap[k]?

def Apart (S T : List Nat) : Prop := ∀ k ∈ S, k ∉ T
theorem Apart.symm {S T : List Nat} (h : Apart S T) : Apart T S := fun k hk hs => h k hs hk
theorem apart_of {S T : List Nat} {n : Nat} (h1 : ∀ k ∈ S, k < n) (h2 : ∀ k ∈ T, n ≤ k) : Apart S T := fun k hk ht => by
  have := h1 k hk
  have := h2 k ht
  omega
theorem Apart.append {S T U : List Nat} (h1 : Apart S U) (h2 : Apart T U) : Apart (S ++ T) U := fun k hk => by
  rcases List.mem_append.1 hk with h | h
  · exact h1 k h
  · exact h2 k h
theorem Apart.left {S T U : List Nat} (h : Apart (S ++ T) U) : Apart S U := fun k hk => h k (List.mem_append.2 (.inl hk))
theorem Apart.right {S T U : List Nat} (h : Apart (S ++ T) U) : Apart T U := fun k hk => h k (List.mem_append.2 (.inr hk))

theorem Tn.of_grown {w w' : World} {row : Option Nat} (h : w.grownBy w' row) : Tn row.toList w w' :=
  ⟨h.os, h.tape, h.output, h.size, fun k hk hn => h.block k hk (by intro e; apply hn; rw [← e]; simp)⟩
theorem Tn.mono {S T : List Nat} {w w' : World} (h : Tn S w w') (hs : ∀ k ∈ S, k ∈ T) : Tn T w w' :=
  ⟨h.os, h.tape, h.output, h.size, fun k hk hn => h.block k hk (fun hs' => hn (hs k hs'))⟩
theorem Tn.trans {S : List Nat} {a b c : World} (h : Tn S a b) (k : Tn S b c) : Tn S a c :=
  ⟨k.os.trans h.os, k.tape.trans h.tape, k.output.trans h.output, Nat.le_trans h.size k.size, fun i hi hr => (k.block i (Nat.lt_of_lt_of_le hi h.size) hr).trans (h.block i hi hr)⟩
theorem Tn.of_below {w w' : World} (h : Below w.heap.size w w') (S : List Nat) : Tn S w w' := ⟨h.os, h.tape, h.output, h.size, fun k hk _ => h.block k hk⟩
theorem Tn.below {S : List Nat} {B : Nat} {a w w' : World} (h : Tn S w w') (hb : Below B a w) (hB : B ≤ w.heap.size) (hs : ∀ k ∈ S, B ≤ k) : Below B a w' :=
  hb.trans ⟨h.os, h.tape, h.output, h.size, fun k hk => h.block k (by omega) (fun e => by have := hs k e; omega)⟩

/-- The block of a row. -/
def blkI (v : Value) : List Nat := v.ownBlock.toList
theorem ownsI.ltb {w : World} {base : Nat} {v : Value} {xs : List Int} (h : ownsI w base v xs) : ∀ k ∈ blkI v, base ≤ k ∧ k < w.heap.size := fun k hk => by
  unfold blkI at hk
  rw [Option.mem_toList] at hk
  exact World.ownsRow.lt h k hk
theorem ownsI.tn {w w' : World} {base : Nat} {v : Value} {xs : List Int} {S : List Nat} (h : ownsI w base v xs) (ht : Tn S w w') (ha : Apart (blkI v) S) : ownsI w' base v xs := by
  have hlt := h.ltb
  refine ⟨h.1, ?_⟩
  rcases h.2 with h0 | ⟨g, cap, cur, rfl, h2, h3, h4⟩
  · exact .inl h0
  · have hg : g ∈ blkI (.slice (some ⟨g, 0, none⟩) xs.length cap) := by simp [blkI, Value.ownBlock]
    refine .inr ⟨g, cap, cur, rfl, h2, ?_, h4⟩
    rw [ht.block g (hlt g hg).2 (ha g hg)]
    exact h3
theorem apart_I {v0 v1 : Value} (h : v0.ownBlock = none ∨ v0.ownBlock ≠ v1.ownBlock) : Apart (blkI v0) (blkI v1) := fun k hk ht => by
  unfold blkI at hk ht
  rw [Option.mem_toList] at hk ht
  rcases h with h | h
  · rw [h] at hk; cases hk
  · exact h (hk.trans ht.symm)

end Go.Proofs.Ytlpfjpbnedankaa

/- The law's own toIntS: a copy in new memory, by its contract. -/
namespace Go.Proofs.Ytlpfjpbnedankaa
open Go.RowKit

theorem set_next {α : Type} (ys rest : List α) (y : α) (j : Nat) (hy : ys.length = j) (hj : j < rest.length) : (ys ++ rest.drop j).set j y = (ys ++ [y]) ++ rest.drop (j + 1) := by
  rw [List.set_append_right _ _ (by omega), hy, Nat.sub_self, List.drop_eq_getElem_cons hj, List.set_cons_zero]
  simp

theorem take_next (zs : List Int) (k : Nat) (h : k < zs.length) : zs.take (k + 1) = zs.take k ++ [zs[k]?.getD 0] := by
  rw [List.take_add_one, List.getElem?_eq_getElem h]; rfl

theorem toI_step (zs : List Int) (cur : List Value) (k len : Nat) (hk : k < len) (hz : len ≤ zs.length) (hc : cur.length = len) :
    ((zs.take k).map (Value.int .i64) ++ cur.drop k).set k (.int .i64 (zs[k]?.getD 0)) = (zs.take (k + 1)).map (Value.int .i64) ++ cur.drop (k + 1) := by
  rw [set_next _ _ _ _ (by rw [List.length_map, List.length_take]; omega) (by omega), take_next zs k (by omega), List.map_append]
  rfl

end Go.Proofs.Ytlpfjpbnedankaa

/- The law's own helpers on great numbers with a sign, each by its contract. -/
namespace Go.Proofs.Ytlpfjpbnedankaa
open Go.RowKit

/-- The block in which the limbs lie. -/
def blkW : Value → List Nat
  | .agg #[_, s] => blkI s
  | _ => []

theorem results_cell1 {fn : Func} {p : Tmp} {ty : TypeId} (h : fn.results = #[.cell p ty]) (tmps : Array Value) (P : Program) (w : World) :
    (results fn tmps).run P w = ((asAddr (tmps.getD p undef)).run P w).andThen fun a w₁ => (loadVar ty a).run P w₁ := by
  simp only [results, h]
  simp [Sem.run_bind, Result.andThen]
theorem cell_made {W : World} {B : Nat} (h : W.heap.size = B) (a b : Value) (t : TypeId) : (W.alloc (.cells #[a, b] t)).cell? ⟨B, 0, none⟩ = some a ∧ (W.alloc (.cells #[a, b] t)).cell? ⟨B, 1, none⟩ = some b ∧ (W.alloc (.cells #[a, b] t)).frozen? ⟨B, 0, none⟩ = false ∧ (W.alloc (.cells #[a, b] t)).frozen? ⟨B, 1, none⟩ = false := by
  subst h
  refine ⟨by simp, by simp, by simp, by simp⟩
theorem ownsRow_mono {w : World} {base base' n : Nat} {e : TypeId} {size : Nat} {v : Value} {xs : List Value} (h : w.ownsRow base e size v n xs) (hb : base' ≤ base) : w.ownsRow base' e size v n xs := by
  obtain ⟨h1, h2⟩ := h
  refine ⟨h1, ?_⟩
  rcases h2 with h | ⟨g, cap, cur, e1, e2, rest⟩
  · exact .inl h
  · exact .inr ⟨g, cap, cur, e1, Nat.le_trans hb e2, rest⟩
theorem below3 (w : World) (o1 o2 o3 : Obj) : Below w.heap.size w (((w.alloc o1).alloc o2).alloc o3) :=
  (((Below.refl w.heap.size w).alloc (Nat.le_refl _) o1).alloc (by simp) o2).alloc (by simp; omega) o3
theorem below2 (w : World) (o1 o2 : Obj) : Below w.heap.size w ((w.alloc o1).alloc o2) :=
  ((Below.refl w.heap.size w).alloc (Nat.le_refl _) o1).alloc (by simp) o2
theorem below1 (w : World) (o1 : Obj) : Below w.heap.size w (w.alloc o1) := (Below.refl w.heap.size w).alloc (Nat.le_refl _) o1

theorem grown_alloc1 (w : World) (o : Obj) (row : Option Nat) : w.grownBy (w.alloc o) row :=
  ⟨rfl, rfl, rfl, by simp, fun k hk _ => Below.heap_alloc w o k hk⟩

theorem ownsW.ltb {w : World} {base : Nat} {v : Value} {a : Wh} (h : ownsW w base v a) : ∀ k ∈ blkW v, base ≤ k ∧ k < w.heap.size := by
  obtain ⟨s, rfl, h⟩ := h
  exact h.ltb
theorem ownsW.tn {w w' : World} {base : Nat} {v : Value} {a : Wh} {S : List Nat} (h : ownsW w base v a) (ht : Tn S w w') (ha : Apart (blkW v) S) : ownsW w' base v a := by
  obtain ⟨s, rfl, h⟩ := h
  exact ⟨s, rfl, h.tn ht ha⟩

/-- The box of a variable of two cells. -/
structure BoxW (w : World) (base b : Nat) (x y : Value) : Prop where
  lo : base ≤ b
  hi : b < w.heap.size
  c0 : w.cell? ⟨b, 0, none⟩ = some x
  c1 : w.cell? ⟨b, 1, none⟩ = some y
  f0 : w.frozen? ⟨b, 0, none⟩ = false
  f1 : w.frozen? ⟨b, 1, none⟩ = false
theorem BoxW.made (w : World) (x y : Value) (t : TypeId) : BoxW (w.alloc (.cells #[x, y] t)) w.heap.size w.heap.size x y :=
  ⟨Nat.le_refl _, by simp, by simp, by simp, by simp, by simp⟩
theorem BoxW.below {w w' : World} {base b B : Nat} {x y : Value} (h : BoxW w base b x y) (hb : Below B w w') (hB : w.heap.size ≤ B) : BoxW w' base b x y :=
  have hlt : b < B := Nat.lt_of_lt_of_le h.hi hB
  ⟨h.lo, Nat.lt_of_lt_of_le h.hi hb.size, (hb.cell (p := ⟨b, 0, none⟩) hlt).trans h.c0, (hb.cell (p := ⟨b, 1, none⟩) hlt).trans h.c1, (hb.frozen (p := ⟨b, 0, none⟩) hlt).trans h.f0, (hb.frozen (p := ⟨b, 1, none⟩) hlt).trans h.f1⟩
theorem BoxW.ltb {w : World} {base b : Nat} {x y : Value} (h : BoxW w base b x y) : ∀ k ∈ [b], base ≤ k ∧ k < w.heap.size := fun k hk => by
  simp at hk
  subst hk
  exact ⟨h.lo, h.hi⟩
theorem BoxW.tn {w w' : World} {base b : Nat} {x y : Value} {S : List Nat} (h : BoxW w base b x y) (ht : Tn S w w') (ha : Apart [b] S) : BoxW w' base b x y := by
  have hk := ht.block b h.hi (ha b (by simp))
  exact ⟨h.lo, Nat.lt_of_lt_of_le h.hi ht.size, (World.cell?_of_block (w := w) (a := ⟨b, 0, none⟩) hk).trans h.c0, (World.cell?_of_block (w := w) (a := ⟨b, 1, none⟩) hk).trans h.c1, (World.frozen?_of_block (w := w) (a := ⟨b, 0, none⟩) hk).trans h.f0, (World.frozen?_of_block (w := w) (a := ⟨b, 1, none⟩) hk).trans h.f1⟩

end Go.Proofs.Ytlpfjpbnedankaa

/- The law's own markIntS and heldIntS, each by its contract. -/
namespace Go.Proofs.Ytlpfjpbnedankaa
open Go.RowKit

end Go.Proofs.Ytlpfjpbnedankaa

/- The law's marks on lists, in the frame of blocks. -/
namespace Go.Proofs.Ytlpfjpbnedankaa
open Go.RowKit

end Go.Proofs.Ytlpfjpbnedankaa

/- The law's marks on numbers with a sign. -/
namespace Go.Proofs.Ytlpfjpbnedankaa
open Go.RowKit

end Go.Proofs.Ytlpfjpbnedankaa
