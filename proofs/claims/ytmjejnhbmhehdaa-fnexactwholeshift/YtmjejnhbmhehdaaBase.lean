/- What the other texts stand on: rows of numbers, what a call owns, limbs. -/
import Derived.Test.YtmjejnhbmhehdaaRows
import Derived.WalkKit
import Derived.WalkSmall
import Derived.Laws.OwnMore
import Derived.Deep.QuietTactic
import Derived.BigQuiet
import Derived.Laws.MakeOwn
import Derived.Laws.AppendOwnNone
import Derived.Below
/- Small facts on owned rows of bytes (no walk). -/
namespace Go.Proofs.Ytmjejnhbmhehdaa
open Go.RowKit

theorem Try.info5 : (Try.prog.info? 5).map (fun i => (i.zero, i.size, i.bytes)) = some (some (.int .u8 0), 1, 1) := by kernel_rfl

/-- The bytes 'k', 'k + 1', .. of so many places. -/
def marks (k : Int) : Nat → List Int
  | 0 => []
  | n + 1 => marks k n ++ [(k + n) % 256]
theorem marks_length (k : Int) (n : Nat) : (marks k n).length = n := by
  induction n with
  | zero => rfl
  | succ n ih => simp [marks, ih]
theorem marks_get (k : Int) (n j : Nat) (h : j < n) : (marks k n)[j]? = some ((k + j) % 256) := by
  induction n with
  | zero => omega
  | succ n ih =>
    simp only [marks]
    by_cases hj : j < n
    · rw [List.getElem?_append_left (by rw [marks_length]; exact hj)]; exact ih hj
    · have : j = n := by omega
      subst this
      rw [List.getElem?_append_right (by rw [marks_length]; exact Nat.le_refl _), marks_length]; simp

/-- 'v' owns the bytes 'xs' from block 'base' on. -/
def ownsB (w : World) (base : Nat) (v : Value) (xs : List Int) : Prop := w.ownsRow base 5 1 v xs.length (xs.map (Value.int .u8))

theorem ownsB.kept {w w' : World} {base : Nat} {v : Value} {xs : List Int} {row : Option Nat} (h : ownsB w base v xs) (hg : w.grownBy w' row) (hne : v.ownBlock = none ∨ v.ownBlock ≠ row) : ownsB w' base v xs :=
  World.ownsRow.kept h hg hne

theorem ownsB.below {w w' : World} {base B : Nat} {v : Value} {xs : List Int} (h : ownsB w base v xs) (hb : Below B w w') (hlt : w.heap.size ≤ B) : ownsB w' base v xs := by
  refine World.ownsRow.kept (row := none) h ⟨hb.os, hb.tape, hb.output, hb.size, fun k hk _ => hb.block k (by omega)⟩ ?_
  cases hv : v.ownBlock with
  | none => exact .inl rfl
  | some k => exact .inr (by simp)

theorem grown_trans {a b c : World} {row : Option Nat} (h : a.grownBy b row) (k : b.grownBy c row) : a.grownBy c row :=
  ⟨k.os.trans h.os, k.tape.trans h.tape, k.output.trans h.output, Nat.le_trans h.size k.size, fun i hi hr => (k.block i (Nat.lt_of_lt_of_le hi h.size) hr).trans (h.block i hi hr)⟩

theorem marks_step (k : Int) (xs : List Int) (j : Nat) (hj : j < xs.length) : ((marks k j ++ xs.drop j).map (Value.int .u8)).set j (.int .u8 ((k + j) % 256)) = (marks k (j + 1) ++ xs.drop (j + 1)).map (Value.int .u8) := by
  have e : (marks k j ++ xs.drop j).set j ((k + j) % 256) = marks k (j + 1) ++ xs.drop (j + 1) := by
    rw [List.set_append_right _ _ (by rw [marks_length]; exact Nat.le_refl _), marks_length, Nat.sub_self, List.drop_eq_getElem_cons hj, List.set_cons_zero]
    simp [marks]
  rw [← e, List.map_set]

theorem apart_rows {w1 w2 : World} {b : Nat} {v1 v2 : Value} {xs ys : List Int} (h1 : ownsB w1 b v1 xs) (h2 : ownsB w2 w1.heap.size v2 ys) : v1.ownBlock = none ∨ v1.ownBlock ≠ v2.ownBlock := by
  cases hv : v1.ownBlock with
  | none => exact .inl rfl
  | some k =>
    refine .inr fun h => ?_
    have a := (World.ownsRow.lt h1 k hv).2
    have b := (World.ownsRow.lt h2 k h.symm).1
    omega

end Go.Proofs.Ytmjejnhbmhehdaa

/- Slices of integers that came in. -/
namespace Go.Proofs.Ytmjejnhbmhehdaa
open Go.RowKit

/-- What is known of a slice of integers that came in: nil, or a row of 'cap' cells, the numbers 'zs', the first 'len' its elements. -/
def IsRow (k : IntKind) (w : World) (a : Option Addr) (len cap : Nat) (zs : List Int) : Prop :=
  (a = none ∧ len = 0 ∧ cap = 0 ∧ zs = []) ∨
  ∃ x, a = some x ∧ len ≤ cap ∧ cap ≤ maxLen ∧ zs.length = cap ∧ (∀ i, i < zs.length → w.cell? (x.add i) = some (.int k (zs.getD i 0))) ∧ ∀ n ∈ zs, (Lit.int k n).wf = true

theorem IsRow.below {k : IntKind} {w w' : World} {a : Option Addr} {len cap : Nat} {zs : List Int} (h : IsRow k w a len cap zs) (hb : Below w.heap.size w w') : IsRow k w' a len cap zs := by
  rcases h with h | ⟨x, h1, h2, h3, h4, h5, h6⟩
  · exact .inl h
  · refine .inr ⟨x, h1, h2, h3, h4, fun i hi => ?_, h6⟩
    have := h5 i hi
    exact (hb.cell (block_lt_of_cell this)).trans this

theorem IsRow.len_le {k : IntKind} {w : World} {a : Option Addr} {len cap : Nat} {zs : List Int} (h : IsRow k w a len cap zs) : len ≤ 9223372036854775807 := by
  rcases h with ⟨-, h, -⟩ | ⟨x, -, h2, h3, -⟩
  · omega
  · unfold maxLen at h3; omega

end Go.Proofs.Ytmjejnhbmhehdaa

/- Rows of ints of the call's own: what is owned, marks, append. -/
namespace Go.Proofs.Ytmjejnhbmhehdaa
open Go.RowKit

theorem Try.info3 : (Try.prog.info? 3).map (fun i => (i.zero, i.size, i.bytes)) = some (some (.int .i64 0), 1, 8) := by kernel_rfl

/-- The numbers 'k', 'k + 1', .. of so many places. -/
def marksI (k : Int) : Nat → List Int
  | 0 => []
  | n + 1 => marksI k n ++ [k + n]
theorem marksI_length (k : Int) (n : Nat) : (marksI k n).length = n := by
  induction n with
  | zero => rfl
  | succ n ih => simp [marksI, ih]
theorem marksI_get (k : Int) (n j : Nat) (h : j < n) : (marksI k n)[j]? = some (k + j) := by
  induction n with
  | zero => omega
  | succ n ih =>
    simp only [marksI]
    by_cases hj : j < n
    · rw [List.getElem?_append_left (by rw [marksI_length]; exact hj)]; exact ih hj
    · have : j = n := by omega
      subst this
      rw [List.getElem?_append_right (by rw [marksI_length]; exact Nat.le_refl _), marksI_length]; simp

/-- 'v' owns the numbers 'xs' from block 'base' on. -/
def ownsI (w : World) (base : Nat) (v : Value) (xs : List Int) : Prop := w.ownsRow base 3 1 v xs.length (xs.map (Value.int .i64))

theorem ownsI.kept {w w' : World} {base : Nat} {v : Value} {xs : List Int} {row : Option Nat} (h : ownsI w base v xs) (hg : w.grownBy w' row) (hne : v.ownBlock = none ∨ v.ownBlock ≠ row) : ownsI w' base v xs :=
  World.ownsRow.kept h hg hne

theorem ownsI.below {w w' : World} {base B : Nat} {v : Value} {xs : List Int} (h : ownsI w base v xs) (hb : Below B w w') (hlt : w.heap.size ≤ B) : ownsI w' base v xs := by
  refine World.ownsRow.kept (row := none) h ⟨hb.os, hb.tape, hb.output, hb.size, fun k hk _ => hb.block k (by omega)⟩ ?_
  cases hv : v.ownBlock with
  | none => exact .inl rfl
  | some k => exact .inr (by simp)

theorem marksI_step (k : Int) (xs : List Int) (j : Nat) (hj : j < xs.length) : ((marksI k j ++ xs.drop j).map (Value.int .i64)).set j (.int .i64 (k + j)) = (marksI k (j + 1) ++ xs.drop (j + 1)).map (Value.int .i64) := by
  have e : (marksI k j ++ xs.drop j).set j (k + j) = marksI k (j + 1) ++ xs.drop (j + 1) := by
    rw [List.set_append_right _ _ (by rw [marksI_length]; exact Nat.le_refl _), marksI_length, Nat.sub_self, List.drop_eq_getElem_cons hj, List.set_cons_zero]
    simp [marksI]
  rw [← e, List.map_set]

theorem apart_rowsI {w1 w2 : World} {b : Nat} {v1 v2 : Value} {xs ys : List Int} (h1 : ownsI w1 b v1 xs) (h2 : ownsI w2 w1.heap.size v2 ys) : v1.ownBlock = none ∨ v1.ownBlock ≠ v2.ownBlock := by
  cases hv : v1.ownBlock with
  | none => exact .inl rfl
  | some k =>
    refine .inr fun h => ?_
    have a := (World.ownsRow.lt h1 k hv).2
    have b := (World.ownsRow.lt h2 k h.symm).1
    omega

/-- 'append(out, n)' on a row of the call's own. -/
theorem wpI_app (w0 w : World) {ops : Array Oper} {rest : List Oper} {o : Oper} {a : Act} {Q : Exit → Act → World → Prop} (hgd : o.guard = none) (s x : Operand)
    (ho : o.op = Op.call { callee := Callee.builtin Builtin.append, args := #[s, x], argTypes := #[22, 22] }) (base : Nat) (v : Value) (xs : List Int) (y : Int)
    (hs : a.eval s = v) (hown : ownsI w base v xs) (hb : Below base w0 w) (hx : a.eval x = .slice (some ⟨w.heap.size, 0, none⟩) 1 1) (hlen : xs.length ≤ 1099511627776) (hbase : base ≤ w.heap.size)
    (h : ∀ v' w', ownsI w' base v' (xs ++ [y]) → Below base w0 w' → wpList Try.prog ops Q rest (a.put o.dst v') w') :
    wpList Try.prog ops Q (o :: rest) a (w.alloc (.cells #[.int .i64 y] 3)) := by
  obtain ⟨i0, hi, hz0, hz1, hz2⟩ := info_parts Try.info3
  refine wpList_append_own _ hgd s x 22 ho base 3 i0 (.int .i64 0) 1 8 Try.underlying22 hi hz0 hz1 hz2 rfl (by decide) v xs.length (xs.map (Value.int .i64)) hs (World.ownsRow.alloc hown _) ⟨w.heap.size, 0, none⟩ 1 1 [.int .i64 y] hx rfl ?_ ?_ ?_ ?_ ?_ ?_
  · intro j u hj
    match j, hj with
    | 0, hj => simp at hj; subst hj; simp [Addr.add]
  · intro u hu; simp at hu; subst hu; rfl
  · unfold maxLen; omega
  · omega
  · simp; omega
  · intro v' w' ho' hg _
    refine h v' w' ?_ ((hb.alloc hbase _).grown hg (by simp; omega) fun k hk => (World.ownsRow.lt hown k hk).1)
    unfold ownsI
    simpa using ho'

end Go.Proofs.Ytmjejnhbmhehdaa

/- The law's own eqIntS, by its contract. -/
namespace Go.Proofs.Ytmjejnhbmhehdaa
open Go.RowKit

set_option maxHeartbeats 800000 in
theorem eqI_nil (a b : Option Addr) (c d : Nat) (w : World) :
    Calls Try.prog 38 #[.slice a 0 c, .slice b 0 d] w fun e w' => e = .returned (.bool true) ∧ ∃ n, w' = w.drewN n := by
  go_enter Try.func38, Try.ntmps38
  go_wp2
  refine wp_loop_rounds 1 ?_
  rw [rounds_succ]
  go_wp2
  go_ret
  exact ⟨rfl, 0, rfl⟩

set_option maxHeartbeats 1600000 in
theorem eqI_row (g1 g2 n c d : Nat) (xs : List Int) (w : World) (hn : xs.length = n) (hm : n ≤ 1099511627776)
    (h1 : ∀ j, j < n → w.cell? ⟨g1, j, none⟩ = some (.int .i64 (xs.getD j 0))) (h2 : ∀ j, j < n → w.cell? ⟨g2, j, none⟩ = some (.int .i64 (xs.getD j 0))) :
    Calls Try.prog 38 #[.slice (some ⟨g1, 0, none⟩) n c, .slice (some ⟨g2, 0, none⟩) n d] w fun e w' => e = .returned (.bool true) ∧ ∃ n, w' = w.drewN n := by
  go_enter Try.func38, Try.ntmps38
  go_wp2
  go_loopw [5] (fun i wr => ∃ k m : Nat, k ≤ n ∧ i = .int .i64 k ∧ wr = w.drewN m) (fun i _ => n - (intOf i).toNat)
  case atStart => exact ⟨0, 0, Nat.zero_le _, rfl, rfl⟩
  case round =>
    obtain ⟨k, m, hk, rfl, rfl⟩ := hrel
    by_cases hlt : k < n
    · have c1 : (w.drewN m).cell? ⟨g1, k, none⟩ = some (.int .i64 (xs.getD k 0)) := h1 k hlt
      have c2 : (w.drewN m).cell? ⟨g2, k, none⟩ = some (.int .i64 (xs.getD k 0)) := h2 k hlt
      go_wp2
      go_quiet (fail)
      go_wp2
      go_roundw
      case rel => exact ⟨k + 1, m + nq, by omega, by go_num, rfl⟩
      case measure => simp [intOf]; omega
    · go_wp2
      go_ret
      exact ⟨rfl, m, rfl⟩

theorem cellsI_of {w : World} {base g n cap : Nat} {xs : List Int} (h : w.ownsRow base 3 1 (.slice (some ⟨g, 0, none⟩) n cap) n (xs.map (Value.int .i64))) (hn : xs.length = n) :
    ∀ j, j < n → w.cell? ⟨g, j, none⟩ = some (.int .i64 (xs.getD j 0)) := by
  intro j hj
  rw [h.cellAt j (by omega)]
  simp [List.getElem?_map, List.getElem?_eq_getElem (by omega : j < xs.length), List.getD]

/-- eqIntS of two rows that hold the same bytes: true; nothing turns but the tape. -/
theorem eqI (b1 b2 : Nat) (va vb : Value) (xs : List Int) (w : World) (hm : xs.length ≤ 1099511627776) (h1 : ownsI w b1 va xs) (h2 : ownsI w b2 vb xs) :
    Calls Try.prog 38 #[va, vb] w fun e w' => e = .returned (.bool true) ∧ ∃ n, w' = w.drewN n := by
  rcases h1.2 with ⟨rfl, h0⟩ | ⟨g1, c1, _, rfl, -⟩ <;> rcases h2.2 with ⟨rfl, h0'⟩ | ⟨g2, c2, _, rfl, -⟩
  · exact eqI_nil _ _ _ _ w
  · rw [h0]; exact eqI_nil _ _ _ _ w
  · rw [h0']; exact eqI_nil _ _ _ _ w
  · exact eqI_row g1 g2 _ c1 c2 xs w rfl hm (cellsI_of h1 rfl) (cellsI_of h2 rfl)

theorem eqI' (b1 b2 : Nat) (va vb : Value) (xs : List Int) (w : World) (hm : xs.length ≤ 1099511627776) (h1 : ownsI w b1 va xs) (h2 : ownsI w b2 vb xs) :
    Calls Try.prog 38 #[va, vb] w fun e w' => e = .returned (.bool true) ∧ Below w.heap.size w w' := by
  refine (eqI b1 b2 va vb xs w hm h1 h2).mono ?_
  rintro e w' ⟨rfl, n, rfl⟩
  exact ⟨rfl, ⟨rfl, rfl, rfl, Nat.le_refl _, fun _ _ => rfl⟩⟩

theorem apart_symm {v1 v2 : Value} (h : v1.ownBlock = none ∨ v1.ownBlock ≠ v2.ownBlock) : v2.ownBlock = none ∨ v2.ownBlock ≠ v1.ownBlock := by
  cases h2 : v2.ownBlock with
  | none => exact .inl rfl
  | some k =>
    refine .inr fun e => ?_
    rcases h with h | h
    · rw [h] at e; cases e
    · exact h (by rw [← e, h2])

end Go.Proofs.Ytmjejnhbmhehdaa

/- The law's own toIntS: a copy in new memory, by its contract. -/
namespace Go.Proofs.Ytmjejnhbmhehdaa
open Go.RowKit

theorem set_next {α : Type} (ys rest : List α) (y : α) (j : Nat) (hy : ys.length = j) (hj : j < rest.length) : (ys ++ rest.drop j).set j y = (ys ++ [y]) ++ rest.drop (j + 1) := by
  rw [List.set_append_right _ _ (by omega), hy, Nat.sub_self, List.drop_eq_getElem_cons hj, List.set_cons_zero]
  simp

theorem take_next (zs : List Int) (k : Nat) (h : k < zs.length) : zs.take (k + 1) = zs.take k ++ [zs[k]?.getD 0] := by
  rw [List.take_add_one, List.getElem?_eq_getElem h]; rfl

theorem toI_step (zs : List Int) (cur : List Value) (k len : Nat) (hk : k < len) (hz : len ≤ zs.length) (hc : cur.length = len) :
    ((zs.take k).map (Value.int .i64) ++ cur.drop k).set k (.int .i64 (zs[k]?.getD 0)) = (zs.take (k + 1)).map (Value.int .i64) ++ cur.drop (k + 1) := by
  rw [set_next _ _ _ _ (by rw [List.length_map, List.length_take]; omega) (by omega), take_next zs k (by omega), List.map_append]
  rfl

set_option maxHeartbeats 1600000 in
theorem toI_row (b off len cap : Nat) (zs : List Int) (w : World) (hlen : len ≤ 1099511627776) (hz : len ≤ zs.length) (hcell : ∀ j, j < zs.length → w.cell? ⟨b, off + j, none⟩ = some (.int .i64 (zs.getD j 0))) (h0 : 0 < len) :
    Calls Try.prog 44 #[.slice (some ⟨b, off, none⟩) len cap] w fun e w' => ∃ v, e = .returned v ∧ ownsI w' w.heap.size v (zs.take len) ∧ Below w.heap.size w w' := by
  obtain ⟨i0, hi, hz0, hz1, hz2⟩ := info_parts Try.info3
  obtain ⟨w1, hmk, hown1, hg1⟩ := run_make_full (P := Try.prog) w w.heap.size 22 3 i0 (.int .i64 0) 1 Try.underlying22 hi hz0 hz1 .i64 .i64 len (by rw [hz2]; omega) (by unfold maxLen; omega) (Nat.le_refl _)
  have hb : b < w.heap.size := block_lt_of_cell (hcell 0 (by omega))
  have hb1 : Below w.heap.size w w1 := (Below.refl _ _).grown hg1 (Nat.le_refl _) (fun k hk => by cases hk)
  obtain ⟨cur, hcl, hown⟩ : ∃ cur : List Value, cur.length = len ∧ w1.ownsRow w.heap.size 3 1 (.slice (some ⟨w.heap.size, 0, none⟩) len len) len cur := ⟨_, by have := hown1.1; omega, hown1⟩
  clear hown1 hg1 hi hz0 hz1 hz2
  go_enter Try.func44, Try.ntmps44
  go_wp2
  go_loopw [4] (fun i wr => ∃ k : Nat, k ≤ len ∧ i = .int .i64 k ∧ wr.ownsRow w.heap.size 3 1 (.slice (some ⟨w.heap.size, 0, none⟩) len len) len ((zs.take k).map (Value.int .i64) ++ cur.drop k) ∧ Below w.heap.size w wr) (fun i _ => len - (intOf i).toNat)
  case atStart => exact ⟨0, Nat.zero_le _, rfl, hown, hb1⟩
  case round =>
    obtain ⟨k, hk, rfl, howk, hbk⟩ := hrel
    by_cases hlt : k < len
    · have hc : wr.cell? ⟨b, off + k, none⟩ = some (.int .i64 (zs.getD k 0)) := (hbk.cell (p := ⟨b, off + k, none⟩) hb).trans (hcell k (by omega))
      have hf := howk.frozenAt k
      have hcx : ∃ u, wr.cell? ⟨w.heap.size, k, none⟩ = some u := by
        rw [howk.cellAt k (by omega)]
        exact ⟨_, List.getElem?_eq_getElem (by rw [howk.1]; omega)⟩
      obtain ⟨ux, hcx⟩ := hcx
      have hs := howk.stored k (.int .i64 (zs[k]?.getD 0))
      rw [toI_step zs cur k len hlt hz hcl] at hs
      have hbs : Below w.heap.size w (wr.setCell ⟨w.heap.size, k, none⟩ (.int .i64 (zs[k]?.getD 0))) := hbk.setCell (Nat.le_refl _) _
      clear howk hbk
      go_wp2
      go_roundw
      case rel => exact ⟨k + 1, by omega, by go_num, hs.1, hbs⟩
      case measure => simp [intOf]; omega
    · have hke : k = len := by omega
      subst hke
      rw [List.drop_of_length_le (by omega), List.append_nil] at howk
      go_wp2
      go_ret
      refine ⟨_, rfl, ?_, hbk⟩
      unfold ownsI
      rw [List.length_take, Nat.min_eq_left hz]
      exact howk

set_option maxHeartbeats 1600000 in
theorem toI_empty (a : Option Addr) (cap : Nat) (w : World) :
    Calls Try.prog 44 #[.slice a 0 cap] w fun e w' => ∃ v, e = .returned v ∧ ownsI w' w.heap.size v [] ∧ Below w.heap.size w w' := by
  obtain ⟨i0, hi, hz0, hz1, hz2⟩ := info_parts Try.info3
  obtain ⟨w1, hmk, hown1, hg1⟩ := run_make_full (P := Try.prog) w w.heap.size 22 3 i0 (.int .i64 0) 1 Try.underlying22 hi hz0 hz1 .i64 .i64 0 (by omega) (by unfold maxLen; omega) (Nat.le_refl _)
  have hb1 : Below w.heap.size w w1 := (Below.refl _ _).grown hg1 (Nat.le_refl _) (fun k hk => by cases hk)
  have hown : ownsI w1 w.heap.size (.slice (some ⟨w.heap.size, 0, none⟩) 0 0) [] := by
    have e : (madeCells (Value.int .i64 0).cells (0 * 1)).toList = [] := List.eq_nil_of_length_eq_zero (by have := hown1.1; omega)
    rw [e] at hown1
    exact hown1
  have hmk' : (Instr.makeSlice 22 (.int .i64 0) (.int .i64 0)).run Try.prog w = .ok (.slice (some ⟨w.heap.size, 0, none⟩) 0 0) w1 := by simpa using hmk
  clear hown1 hg1 hi hz0 hz1 hz2 hmk
  go_enter Try.func44, Try.ntmps44
  go_wp2
  refine wp_loop_rounds 1 ?_
  rw [rounds_succ]
  go_wp2
  go_ret
  exact ⟨_, rfl, hown, hb1⟩

/-- toIntS: the same bytes in new memory. -/
theorem toI (a : Option Addr) (len cap : Nat) (zs : List Int) (w : World) (hlen : len ≤ 1099511627776) (hr : IsRow .i64 w a len cap zs) :
    Calls Try.prog 44 #[.slice a len cap] w fun e w' => ∃ v, e = .returned v ∧ ownsI w' w.heap.size v (zs.take len) ∧ Below w.heap.size w w' := by
  rcases hr with ⟨rfl, rfl, rfl, rfl⟩ | ⟨⟨b, off, spot⟩, rfl, h2, h3, h4, h5, h6⟩
  · exact toI_empty none 0 w
  · by_cases h0 : len = 0
    · subst h0; rw [List.take_zero]; exact toI_empty _ _ w
    · have hc := h5 0 (by omega)
      have hspot : spot = none := by simpa [Addr.add] using World.cell?_spot hc
      subst hspot
      refine toI_row b off len cap zs w hlen (by omega) (fun j hj => ?_) (by omega)
      have := h5 j hj
      by_cases hj0 : j = 0
      · subst hj0; simpa [Addr.add] using this
      · simpa [Addr.add, hj0] using this

end Go.Proofs.Ytmjejnhbmhehdaa

/- Frames of a law's walk: which blocks a value owns, which have turned. -/
namespace Go.Proofs.Ytmjejnhbmhehdaa
open Go.RowKit

/-- Of what was there, the blocks in 'S' alone may have turned. -/
structure Tn (S : List Nat) (w w' : World) : Prop where
  os : w'.os = w.os
  tape : w'.tape = w.tape
  output : w'.output = w.output
  size : w.heap.size ≤ w'.heap.size
  block : ∀ k, k < w.heap.size → k ∉ S → w'.heap[k]? = w.heap[k]?

def Apart (S T : List Nat) : Prop := ∀ k ∈ S, k ∉ T
theorem Apart.symm {S T : List Nat} (h : Apart S T) : Apart T S := fun k hk hs => h k hs hk
theorem apart_of {S T : List Nat} {n : Nat} (h1 : ∀ k ∈ S, k < n) (h2 : ∀ k ∈ T, n ≤ k) : Apart S T := fun k hk ht => by
  have := h1 k hk
  have := h2 k ht
  omega
theorem Apart.append {S T U : List Nat} (h1 : Apart S U) (h2 : Apart T U) : Apart (S ++ T) U := fun k hk => by
  rcases List.mem_append.1 hk with h | h
  · exact h1 k h
  · exact h2 k h
theorem Apart.left {S T U : List Nat} (h : Apart (S ++ T) U) : Apart S U := fun k hk => h k (List.mem_append.2 (.inl hk))
theorem Apart.right {S T U : List Nat} (h : Apart (S ++ T) U) : Apart T U := fun k hk => h k (List.mem_append.2 (.inr hk))

theorem Tn.of_grown {w w' : World} {row : Option Nat} (h : w.grownBy w' row) : Tn row.toList w w' :=
  ⟨h.os, h.tape, h.output, h.size, fun k hk hn => h.block k hk (by intro e; apply hn; rw [← e]; simp)⟩
theorem Tn.mono {S T : List Nat} {w w' : World} (h : Tn S w w') (hs : ∀ k ∈ S, k ∈ T) : Tn T w w' :=
  ⟨h.os, h.tape, h.output, h.size, fun k hk hn => h.block k hk (fun hs' => hn (hs k hs'))⟩
theorem Tn.trans {S : List Nat} {a b c : World} (h : Tn S a b) (k : Tn S b c) : Tn S a c :=
  ⟨k.os.trans h.os, k.tape.trans h.tape, k.output.trans h.output, Nat.le_trans h.size k.size, fun i hi hr => (k.block i (Nat.lt_of_lt_of_le hi h.size) hr).trans (h.block i hi hr)⟩
theorem Tn.of_below {w w' : World} (h : Below w.heap.size w w') (S : List Nat) : Tn S w w' := ⟨h.os, h.tape, h.output, h.size, fun k hk _ => h.block k hk⟩
theorem Tn.below {S : List Nat} {B : Nat} {a w w' : World} (h : Tn S w w') (hb : Below B a w) (hB : B ≤ w.heap.size) (hs : ∀ k ∈ S, B ≤ k) : Below B a w' :=
  hb.trans ⟨h.os, h.tape, h.output, h.size, fun k hk => h.block k (by omega) (fun e => by have := hs k e; omega)⟩

/-- The block of a row. -/
def blkI (v : Value) : List Nat := v.ownBlock.toList
theorem ownsI.ltb {w : World} {base : Nat} {v : Value} {xs : List Int} (h : ownsI w base v xs) : ∀ k ∈ blkI v, base ≤ k ∧ k < w.heap.size := fun k hk => by
  unfold blkI at hk
  rw [Option.mem_toList] at hk
  exact World.ownsRow.lt h k hk
theorem ownsI.tn {w w' : World} {base : Nat} {v : Value} {xs : List Int} {S : List Nat} (h : ownsI w base v xs) (ht : Tn S w w') (ha : Apart (blkI v) S) : ownsI w' base v xs := by
  have hlt := h.ltb
  refine ⟨h.1, ?_⟩
  rcases h.2 with h0 | ⟨g, cap, cur, rfl, h2, h3, h4⟩
  · exact .inl h0
  · have hg : g ∈ blkI (.slice (some ⟨g, 0, none⟩) xs.length cap) := by simp [blkI, Value.ownBlock]
    refine .inr ⟨g, cap, cur, rfl, h2, ?_, h4⟩
    rw [ht.block g (hlt g hg).2 (ha g hg)]
    exact h3
theorem apart_I {v0 v1 : Value} (h : v0.ownBlock = none ∨ v0.ownBlock ≠ v1.ownBlock) : Apart (blkI v0) (blkI v1) := fun k hk ht => by
  unfold blkI at hk ht
  rw [Option.mem_toList] at hk ht
  rcases h with h | h
  · rw [h] at hk; cases hk
  · exact h (hk.trans ht.symm)

end Go.Proofs.Ytmjejnhbmhehdaa

/- The law's own markIntS and heldIntS, each by its contract. -/
namespace Go.Proofs.Ytmjejnhbmhehdaa
open Go.RowKit

set_option maxHeartbeats 800000 in
theorem markI_nil (a : Option Addr) (c : Nat) (k : Int) (w : World) :
    Calls Try.prog 39 #[.slice a 0 c, .int .i64 k] w fun e w' => e = .returned (.int .i64 k) ∧ w' = w := by
  go_enter Try.func39, Try.ntmps39
  go_wp2
  refine wp_loop_rounds 1 ?_
  rw [rounds_succ]
  go_wp2
  go_ret
  exact ⟨rfl, rfl⟩

set_option maxHeartbeats 1600000 in
theorem markI_row (b g n c : Nat) (xs : List Int) (k : Int) (w : World) (hn : xs.length = n) (hm : n ≤ 1099511627776) (hk0 : 0 ≤ k) (hk1 : k ≤ 1099511627776)
    (h : w.ownsRow b 3 1 (.slice (some ⟨g, 0, none⟩) n c) n (xs.map (Value.int .i64))) :
    Calls Try.prog 39 #[.slice (some ⟨g, 0, none⟩) n c, .int .i64 k] w fun e w' => e = .returned (.int .i64 (k + n)) ∧
      w'.ownsRow b 3 1 (.slice (some ⟨g, 0, none⟩) n c) n ((marksI k n).map (Value.int .i64)) ∧ w.grownBy w' (some g) := by
  go_enter Try.func39, Try.ntmps39
  go_wp2
  go_loopw [1, 5] (fun t i wr => ∃ j : Nat, j ≤ n ∧ i = .int .i64 j ∧ t = .int .i64 (k + j) ∧ wr.ownsRow b 3 1 (.slice (some ⟨g, 0, none⟩) n c) n ((marksI k j ++ xs.drop j).map (Value.int .i64)) ∧ w.grownBy wr (some g)) (fun _ i _ => n - (intOf i).toNat)
  case atStart => exact ⟨0, Nat.zero_le _, rfl, by go_num, h, World.grownBy.refl _ _⟩
  case round =>
    obtain ⟨j, hj, rfl, rfl, hown, hg⟩ := hrel
    by_cases hlt : j < n
    · have hc := cellsI_of hown (by simp [marksI_length]; omega) j hlt
      have hf := hown.frozenAt j
      have hs := hown.stored j (.int .i64 (k + j))
      clear hown
      go_wp2
      go_roundw
      case rel => exact ⟨j + 1, by omega, by go_num, by go_num, by rw [← marksI_step k xs j (by omega)]; exact hs.1, grown_trans hg hs.2⟩
      case measure => simp [intOf]; omega
    · have hjn : j = n := by omega
      subst hjn
      rw [List.drop_of_length_le (by omega), List.append_nil] at hown
      go_wp2
      go_ret
      exact ⟨rfl, hown, hg⟩

/-- markIntS of a row: it holds the marksI behind it; nothing else turns. -/
theorem markI (b : Nat) (va : Value) (xs : List Int) (k : Int) (w : World) (hm : xs.length ≤ 1099511627776) (hk0 : 0 ≤ k) (hk1 : k ≤ 1099511627776) (h1 : ownsI w b va xs) :
    Calls Try.prog 39 #[va, .int .i64 k] w fun e w' => e = .returned (.int .i64 (k + xs.length)) ∧ ownsI w' b va (marksI k xs.length) ∧ w.grownBy w' va.ownBlock := by
  unfold ownsI
  rw [marksI_length]
  rcases h1.2 with ⟨rfl, h0⟩ | ⟨g1, c1, _, rfl, -⟩
  · rw [h0]
    refine (markI_nil _ _ k w).mono ?_
    rintro e w' ⟨rfl, rfl⟩
    exact ⟨by simp, World.ownsRow_nil _ _ _ _, World.grownBy.refl _ _⟩
  · exact markI_row b g1 _ c1 xs k w rfl hm hk0 hk1 h1

set_option maxHeartbeats 800000 in
theorem heldI_nil (a : Option Addr) (c : Nat) (k : Int) (w : World) :
    Calls Try.prog 40 #[.slice a 0 c, .int .i64 k] w fun e w' => e = .returned (.int .i64 k) ∧ w' = w := by
  go_enter Try.func40, Try.ntmps40
  go_wp2
  refine wp_loop_rounds 1 ?_
  rw [rounds_succ]
  go_wp2
  go_ret
  exact ⟨rfl, rfl⟩

set_option maxHeartbeats 1600000 in
theorem heldI_row (g n c : Nat) (k : Int) (w : World) (hm : n ≤ 1099511627776) (hk0 : 0 ≤ k) (hk1 : k ≤ 1099511627776)
    (h : ∀ j : Nat, j < n → w.cell? ⟨g, j, none⟩ = some (.int .i64 (k + j))) :
    Calls Try.prog 40 #[.slice (some ⟨g, 0, none⟩) n c, .int .i64 k] w fun e w' => e = .returned (.int .i64 (k + n)) ∧ w' = w := by
  go_enter Try.func40, Try.ntmps40
  go_wp2
  go_loop [1, 5] (fun t i => ∃ j : Nat, j ≤ n ∧ i = .int .i64 j ∧ t = .int .i64 (k + j)) (fun _ i => n - (intOf i).toNat)
  case atStart => exact ⟨0, Nat.zero_le _, rfl, by go_num⟩
  case round =>
    obtain ⟨j, hj, rfl, rfl⟩ := hrel
    by_cases hlt : j < n
    · have hc := h j hlt
      go_wp2
      go_round
      case rel => exact ⟨j + 1, by omega, by go_num, by go_num⟩
      case measure => simp [intOf]; omega
    · have hjn : j = n := by omega
      subst hjn
      go_wp2
      go_ret
      exact ⟨rfl, rfl⟩

/-- heldIntS of a row that holds the marksI: the number behind the last one. -/
theorem heldI (b : Nat) (va : Value) (k : Int) (n : Nat) (w : World) (hm : n ≤ 1099511627776) (hk0 : 0 ≤ k) (hk1 : k ≤ 1099511627776) (h1 : ownsI w b va (marksI k n)) :
    Calls Try.prog 40 #[va, .int .i64 k] w fun e w' => e = .returned (.int .i64 (k + n)) ∧ w' = w := by
  unfold ownsI at h1
  rw [marksI_length] at h1
  rcases h1.2 with ⟨rfl, h0⟩ | ⟨g1, c1, _, rfl, -⟩
  · subst h0
    refine (heldI_nil _ _ k w).mono ?_
    rintro e w' ⟨rfl, rfl⟩
    exact ⟨by simp, rfl⟩
  · refine heldI_row g1 n c1 k w hm hk0 hk1 fun j hj => ?_
    rw [h1.cellAt j (by omega), List.getElem?_map, marksI_get k n j hj]; rfl

end Go.Proofs.Ytmjejnhbmhehdaa

/- The law's marks on lists, in the frame of blocks. -/
namespace Go.Proofs.Ytmjejnhbmhehdaa
open Go.RowKit

theorem markN (b : Nat) (va : Value) (xs : List Int) (k : Int) (w : World) (hm : xs.length ≤ 1048576) (hk0 : 0 ≤ k) (hk1 : k ≤ 1099511627776) (h1 : ownsI w b va xs) :
    Calls Try.prog 39 #[va, .int .i64 k] w fun e w' => e = .returned (.int .i64 (k + xs.length)) ∧ ownsI w' b va (marksI k xs.length) ∧ Tn (blkI va) w w' := by
  refine (markI b va xs k w (by omega) hk0 hk1 h1).mono ?_
  rintro e w' ⟨rfl, o, g⟩
  exact ⟨rfl, o, Tn.of_grown g⟩
theorem heldN (b : Nat) (va : Value) (k : Int) (n : Nat) (w : World) (hm : n ≤ 1048576) (hk0 : 0 ≤ k) (hk1 : k ≤ 1099511627776) (h1 : ownsI w b va (marksI k n)) :
    Calls Try.prog 40 #[va, .int .i64 k] w fun e w' => e = .returned (.int .i64 (k + n)) ∧ Below w.heap.size w w' := by
  refine (heldI b va k n w (by omega) hk0 hk1 h1).mono ?_
  rintro e w' ⟨rfl, rfl⟩
  exact ⟨rfl, Below.refl _ _⟩

end Go.Proofs.Ytmjejnhbmhehdaa

/- Rows of ints that are read: whoever owns them. -/
namespace Go.Proofs.Ytmjejnhbmhehdaa
open Go.RowKit

/-- 'v' is a slice that holds the numbers 'xs'. -/
def rowI (w : World) (v : Value) (xs : List Int) : Prop :=
  ∃ (a : Option Addr) (cap : Nat), v = .slice a xs.length cap ∧ xs.length ≤ cap ∧ cap ≤ maxLen ∧ (a = none → cap = 0) ∧ (∀ x, a = some x → x.spot = none) ∧
    ∀ j, j < xs.length → ∃ g off, a = some ⟨g, off, none⟩ ∧ g < w.heap.size ∧ w.cell? ⟨g, off + j, none⟩ = some (.int .i64 (xs.getD j 0))

theorem ownsI.row {w : World} {base : Nat} {v : Value} {xs : List Int} (h : ownsI w base v xs) : rowI w v xs := by
  have hlt := fun q => World.ownsRow.lt h q
  rcases h.2 with ⟨rfl, h0⟩ | ⟨g, cap, _, rfl, hb, hg, h1, h2, -⟩
  · exact ⟨none, 0, by rw [h0], by omega, by unfold maxLen; omega, fun _ => rfl, (by intro x hx; cases hx), fun j hj => by omega⟩
  · refine ⟨_, cap, rfl, h1, h2, (by intro h; cases h), (by intro x hx; cases hx; rfl), fun j hj => ⟨g, 0, rfl, (hlt g rfl).2, ?_⟩⟩
    have := World.ownsRow.cellAt (show w.ownsRow base 3 1 (.slice (some ⟨g, 0, none⟩) xs.length cap) xs.length (xs.map (Value.int .i64)) from h) j (by omega)
    rw [Nat.zero_add, this]
    simp [List.getElem?_map, List.getElem?_eq_getElem hj, List.getD]

theorem rowI.below {w w' : World} {v : Value} {xs : List Int} {B : Nat} (h : rowI w v xs) (hb : Below B w w') (hB : w.heap.size ≤ B) : rowI w' v xs := by
  obtain ⟨a, cap, h1, h2, h3, h4, h5, h6⟩ := h
  refine ⟨a, cap, h1, h2, h3, h4, h5, fun j hj => ?_⟩
  obtain ⟨g, off, e, hg, hc⟩ := h6 j hj
  exact ⟨g, off, e, Nat.lt_of_lt_of_le hg hb.size, (hb.cell (p := ⟨g, off + j, none⟩) (by show g < B; omega)).trans hc⟩

theorem rowI.drawn {w : World} {v : Value} {xs : List Int} (h : rowI w v xs) (n : Nat) : rowI (w.drewN n) v xs := h

/-- The first numbers of a row: 'a[:n]'. -/
theorem rowI.take {w : World} {a : Option Addr} {len cap : Nat} {xs : List Int} (h : rowI w (.slice a len cap) xs) (n : Nat) (hn : n ≤ xs.length) : rowI w (.slice a n cap) (xs.take n) := by
  obtain ⟨a', cap', h1, h2, h3, h4, h5, h6⟩ := h
  simp only [Value.slice.injEq] at h1
  obtain ⟨rfl, rfl, rfl⟩ := h1
  have hl : (xs.take n).length = n := by rw [List.length_take]; omega
  refine ⟨a, cap, by rw [hl], by omega, h3, h4, h5, fun j hj => ?_⟩
  obtain ⟨g, off, e, hg, hc⟩ := h6 j (by omega)
  refine ⟨g, off, e, hg, ?_⟩
  rw [hc, List.getD_eq_getElem?_getD, List.getD_eq_getElem?_getD, List.getElem?_take, if_pos (by omega)]

/-- 'append(row of the call's own, row...)'. -/
theorem wpI_all (w0 w : World) {ops : Array Oper} {rest : List Oper} {o : Oper} {a : Act} {Q : Exit → Act → World → Prop} (hgd : o.guard = none) (s x : Operand)
    (ho : o.op = Op.call { callee := Callee.builtin Builtin.append, args := #[s, x], argTypes := #[22, 22] }) (base : Nat) (v v2 : Value) (xs ys : List Int)
    (hs : a.eval s = v) (hown : ownsI w base v xs) (hx : a.eval x = v2) (hy : rowI w v2 ys) (hb : Below base w0 w) (hlen : xs.length + ys.length ≤ 1099511627776) (hbase : base ≤ w.heap.size)
    (h : ∀ v' w', ownsI w' base v' (xs ++ ys) → Below base w0 w' → wpList Try.prog ops Q rest (a.put o.dst v') w') :
    wpList Try.prog ops Q (o :: rest) a w := by
  obtain ⟨i0, hi, hz0, hz1, hz2⟩ := info_parts Try.info3
  obtain ⟨ad, cap, rfl, h2, h3, h4, h5, h6⟩ := hy
  cases ad with
  | none =>
    have hc := h4 rfl
    have hy0 : ys.length = 0 := by omega
    obtain rfl := List.eq_nil_of_length_eq_zero hy0
    subst hc
    refine wpList_append_own_none hgd s x 22 ho base 3 i0 1 Try.underlying22 hi v xs.length (xs.map (Value.int .i64)) hs hown hx ?_
    exact h v w (by rw [List.append_nil]; exact hown) hb
  | some ad =>
    obtain ⟨g0, off0, spot⟩ := ad
    have hsp : spot = none := h5 _ rfl
    subst hsp
    refine wpList_append_own _ hgd s x 22 ho base 3 i0 (.int .i64 0) 1 8 Try.underlying22 hi hz0 hz1 hz2 rfl (by decide) v xs.length (xs.map (Value.int .i64)) hs hown ⟨g0, off0, none⟩ ys.length cap (ys.map (Value.int .i64)) hx (by simp) ?_ ?_ ?_ ?_ hbase ?_
    · intro j u hj
      rw [List.getElem?_map] at hj
      have hjl : j < ys.length := by
        apply Classical.byContradiction; intro hn
        rw [List.getElem?_eq_none (by omega)] at hj; cases hj
      obtain ⟨g, off, e, hg, hc⟩ := h6 j hjl
      cases e
      rw [List.getElem?_eq_getElem hjl] at hj
      simp only [Option.map_some, Option.some.injEq] at hj
      subst hj
      have hgd : ys.getD j 0 = ys[j] := by rw [List.getD_eq_getElem?_getD, List.getElem?_eq_getElem hjl]; rfl
      rw [hgd] at hc
      unfold Addr.add
      by_cases hj0 : j = 0
      · subst hj0; simpa using hc
      · simpa [hj0] using hc
    · intro u hu; obtain ⟨z, _, rfl⟩ := List.mem_map.1 hu; rfl
    · unfold maxLen; omega
    · omega
    · intro v' w' ho' hg _
      refine h v' w' ?_ (hb.grown hg hbase fun k hk => (World.ownsRow.lt hown k hk).1)
      unfold ownsI
      rw [List.length_append, List.map_append]
      exact ho'

theorem made_own (w : World) : ownsI (w.alloc (.cells #[] 3)) w.heap.size (.slice (some ⟨w.heap.size, 0, none⟩) 0 0) [] :=
  World.ownsRow_made _ _ 0 (Nat.le_refl _) (by decide) rfl
theorem rowI.at {w : World} {a : Option Addr} {len cap : Nat} {xs : List Int} (h : rowI w (.slice a len cap) xs) (j : Nat) (hj : j < xs.length) :
    ∃ g off, a = some ⟨g, off, none⟩ ∧ w.cell? ⟨g, off + j, none⟩ = some (.int .i64 (xs.getD j 0)) := by
  obtain ⟨a', cap', e1, -, -, -, -, h6⟩ := h
  simp only [Value.slice.injEq] at e1
  obtain ⟨rfl, -, -⟩ := e1
  obtain ⟨g, off, e, -, hc⟩ := h6 j hj
  exact ⟨g, off, e, hc⟩

end Go.Proofs.Ytmjejnhbmhehdaa

/- Great numbers as lists of limbs: what they stand for, the one right list of a number (plain facts, no program). -/
namespace Go.Proofs.Ytmjejnhbmhehdaa

/-- What a list of limbs stands for. -/
def lval : List Int → Int
  | [] => 0
  | x :: r => x + 16777216 * lval r
/-- Each limb from 0 to Base - 1. -/
def inR (xs : List Int) : Prop := ∀ x ∈ xs, 0 ≤ x ∧ x < 16777216
/-- The one right list of a number. -/
def limbs (n : Nat) : List Int := if n = 0 then [] else ((n % 16777216 : Nat) : Int) :: limbs (n / 16777216)
  termination_by n
  decreasing_by omega
theorem limbs_zero : limbs 0 = [] := by rw [limbs]; simp
theorem limbs_pos (n : Nat) (h : 0 < n) : limbs n = ((n % 16777216 : Nat) : Int) :: limbs (n / 16777216) := by
  conv => lhs; rw [limbs]
  rw [if_neg (by omega)]
theorem inR_nil : inR [] := by intro x hx; cases hx
theorem inR_cons {x : Int} {r : List Int} : inR (x :: r) ↔ (0 ≤ x ∧ x < 16777216) ∧ inR r := by
  constructor
  · intro h; exact ⟨h x (by simp), fun y hy => h y (by simp [hy])⟩
  · rintro ⟨h, h2⟩ y hy
    rcases List.mem_cons.1 hy with rfl | hy
    · exact h
    · exact h2 y hy
theorem inR_append {xs ys : List Int} : inR (xs ++ ys) ↔ inR xs ∧ inR ys := by
  constructor
  · intro h; exact ⟨fun x hx => h x (by simp [hx]), fun x hx => h x (by simp [hx])⟩
  · rintro ⟨h1, h2⟩ x hx
    rcases List.mem_append.1 hx with hx | hx
    · exact h1 x hx
    · exact h2 x hx
theorem inR_take {xs : List Int} (h : inR xs) (n : Nat) : inR (xs.take n) := fun x hx => h x (List.mem_of_mem_take hx)
theorem inR_drop {xs : List Int} (h : inR xs) (n : Nat) : inR (xs.drop n) := fun x hx => h x (List.mem_of_mem_drop hx)
theorem lval_nonneg {xs : List Int} (h : inR xs) : 0 ≤ lval xs := by
  induction xs with
  | nil => simp [lval]
  | cons x r ih =>
    obtain ⟨h1, h2⟩ := inR_cons.1 h
    have := ih h2
    simp only [lval]; omega
theorem lval_append (xs ys : List Int) : lval (xs ++ ys) = lval xs + 16777216 ^ xs.length * lval ys := by
  induction xs with
  | nil => simp [lval]
  | cons x r ih =>
    simp only [List.cons_append, lval, ih, List.length_cons, Int.pow_succ]
    rw [Int.mul_add, ← Int.mul_assoc, Int.mul_comm 16777216 (16777216 ^ r.length)]
    omega
theorem lval_snoc (xs : List Int) (x : Int) : lval (xs ++ [x]) = lval xs + 16777216 ^ xs.length * x := by
  rw [lval_append]; simp [lval]
theorem pow_pos (n : Nat) : (0 : Int) < 16777216 ^ n := Int.pow_pos (by omega)
theorem lval_lt {xs : List Int} (h : inR xs) : lval xs < 16777216 ^ xs.length := by
  induction xs with
  | nil => simp [lval]
  | cons x r ih =>
    obtain ⟨h1, h2⟩ := inR_cons.1 h
    have := ih h2
    simp only [lval, List.length_cons, Int.pow_succ]
    omega
theorem lval_zeros (n : Nat) : lval (List.replicate n 0) = 0 := by
  induction n with
  | zero => rfl
  | succ n ih => simp [List.replicate_succ, lval, ih]
theorem limbs_val (n : Nat) : lval (limbs n) = n := by
  induction n using Nat.strongRecOn with
  | ind n ih =>
    by_cases h : n = 0
    · subst h; rw [limbs_zero]; rfl
    · rw [limbs_pos n (by omega), lval, ih (n / 16777216) (by omega)]
      omega
theorem limbs_inR (n : Nat) : inR (limbs n) := by
  induction n using Nat.strongRecOn with
  | ind n ih =>
    by_cases h : n = 0
    · subst h; rw [limbs_zero]; exact inR_nil
    · rw [limbs_pos n (by omega)]
      exact inR_cons.2 ⟨by omega, ih (n / 16777216) (by omega)⟩
/-- No nought at the end. -/
def noZ (xs : List Int) : Prop := ∀ h : xs ≠ [], xs.getLast h ≠ 0
theorem limbs_noZ (n : Nat) : noZ (limbs n) := by
  induction n using Nat.strongRecOn with
  | ind n ih =>
    intro hne
    by_cases h : n = 0
    · subst h; exact absurd limbs_zero hne
    · have e := limbs_pos n (by omega)
      by_cases hq : n / 16777216 = 0
      · have e2 : limbs n = [((n % 16777216 : Nat) : Int)] := by rw [e, hq, limbs_zero]
        simp only [e2, List.getLast_singleton]
        omega
      · have hne2 : limbs (n / 16777216) ≠ [] := by rw [limbs_pos _ (by omega)]; simp
        have := ih (n / 16777216) (by omega) hne2
        simp only [e]
        rwa [List.getLast_cons hne2]
/-- A list with right limbs and no nought at the end is the one right list. -/
theorem limbs_of {xs : List Int} (h : inR xs) (hz : noZ xs) : xs = limbs (lval xs).toNat := by
  induction xs with
  | nil => simp [lval, limbs_zero]
  | cons x r ih =>
    obtain ⟨h1, h2⟩ := inR_cons.1 h
    have hr0 := lval_nonneg h2
    have hzr : noZ r := fun hne => by
      have := hz (by simp)
      rwa [List.getLast_cons hne] at this
    have ih := ih h2 hzr
    have hpos : 0 < lval (x :: r) := by
      simp only [lval]
      by_cases hr : r = []
      · subst hr
        have := hz (by simp)
        simp at this
        simp [lval]; omega
      · have : lval r ≠ 0 := fun e => by
          rw [e] at ih
          simp [limbs_zero] at ih
          exact hr ih
        omega
    rw [limbs_pos _ (by omega)]
    have e1 : (lval (x :: r)).toNat % 16777216 = x.toNat := by simp only [lval]; omega
    have e2 : (lval (x :: r)).toNat / 16777216 = (lval r).toNat := by simp only [lval]; omega
    rw [e1, e2, ← ih]
    congr 1
    omega
/-- How long the right list is. -/
theorem limbs_len_le (n k : Nat) (h : n < 16777216 ^ k) : (limbs n).length ≤ k := by
  induction k generalizing n with
  | zero =>
    have : n = 0 := by simpa using h
    subst this; rw [limbs_zero]; simp
  | succ k ih =>
    by_cases h0 : n = 0
    · subst h0; rw [limbs_zero]; simp
    · rw [limbs_pos n (by omega), List.length_cons]
      have := ih (n / 16777216) (by rw [Nat.pow_succ] at h; omega)
      omega
theorem limbs_lt (n : Nat) : n < 16777216 ^ (limbs n).length := by
  have h := lval_lt (limbs_inR n)
  rw [limbs_val] at h
  have e : ((16777216 ^ (limbs n).length : Nat) : Int) = (16777216 : Int) ^ (limbs n).length := by simp
  omega
theorem limbs_len_mono {m n : Nat} (h : m ≤ n) : (limbs m).length ≤ (limbs n).length := limbs_len_le m _ (Nat.lt_of_le_of_lt h (limbs_lt n))

/-- NatOk. -/
def okL (xs : List Int) : Prop := xs.length ≤ 48 ∧ inR xs ∧ noZ xs
theorem okL_eq {xs : List Int} (h : okL xs) : xs = limbs (lval xs).toNat := limbs_of h.2.1 h.2.2
/-- The number of a list that is NatOk. -/
def num (xs : List Int) : Nat := (lval xs).toNat
theorem num_val {xs : List Int} (h : inR xs) : (num xs : Int) = lval xs := by
  have := lval_nonneg h
  unfold num; omega
theorem okL_limbs {n : Nat} (h : (limbs n).length ≤ 48) : okL (limbs n) := ⟨h, limbs_inR n, limbs_noZ n⟩
theorem num_limbs (n : Nat) : num (limbs n) = n := by unfold num; rw [limbs_val]; simp

/-- Where noughts stand at the end, the rest stands for the same number. -/
theorem lval_trim (xs : List Int) (n : Nat) (h : ∀ j, n ≤ j → j < xs.length → xs.getD j 0 = 0) : lval (xs.take n) = lval xs := by
  by_cases hn : n < xs.length
  · have e : xs.drop n = List.replicate (xs.length - n) 0 := by
      apply List.ext_getElem
      · simp
      · intro i h1 h2
        have hi : n + i < xs.length := by rw [List.length_drop] at h1; omega
        have := h (n + i) (by omega) hi
        rw [List.getD_eq_getElem?_getD, List.getElem?_eq_getElem hi] at this
        simpa using this
    have := lval_append (xs.take n) (xs.drop n)
    rw [List.take_append_drop, e, lval_zeros] at this
    omega
  · rw [List.take_of_length_le (by omega)]

/-- What is cut at its last limb that is no nought is the right list. -/
theorem trim_limbs (xs : List Int) (n : Nat) (hr : inR xs) (hn : n ≤ xs.length) (h : ∀ j, n ≤ j → j < xs.length → xs.getD j 0 = 0) (h0 : 0 < n → xs.getD (n - 1) 0 ≠ 0) : xs.take n = limbs (num xs) := by
  have e := limbs_of (inR_take hr n) (fun hne => by
    have hpos : 0 < n := by
      rcases Nat.eq_zero_or_pos n with rfl | h
      · simp at hne
      · exact h
    have := h0 hpos
    rw [List.getLast_eq_getElem]
    have hl : (xs.take n).length = n := by rw [List.length_take]; omega
    rw [List.getD_eq_getElem?_getD, List.getElem?_eq_getElem (by omega : n - 1 < xs.length)] at this
    simp only [hl, List.getElem_take]
    simpa using this)
  rw [e, lval_trim xs n h]
  rfl

end Go.Proofs.Ytmjejnhbmhehdaa
