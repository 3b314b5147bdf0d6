/- Rows of texts: eqStringS, markText, markStringS, heldStringS; strings.Clone; each by its contract. -/
import Derived.Test.YtnanabbkogakmalBytes
import Derived.WalkSpells
import Derived.WalkLawsBesides
import Derived.Lib.UnsafeStr
import Derived.Lib.Strings
import Derived.Laws.MakeOwn
import Derived.Deep.RegionWith
namespace Go.Proofs.Ytnanabbkogakmal
open Go.RowKit

theorem Try.info9 : (Try.prog.info? 9).map (fun i => (i.zero, i.size, i.bytes)) = some (some (.string ⟨#[]⟩), 1, 16) := by kernel_rfl

/-- 'v' owns the texts 'xs' from block 'base' on. -/
def ownsS (w : World) (base : Nat) (v : Value) (xs : List ByteArray) : Prop := w.ownsRow base 9 1 v xs.length (xs.map Value.string)

theorem ownsS.kept {w w' : World} {base : Nat} {v : Value} {xs : List ByteArray} {row : Option Nat} (h : ownsS w base v xs) (hg : w.grownBy w' row) (hne : v.ownBlock = none ∨ v.ownBlock ≠ row) : ownsS w' base v xs :=
  World.ownsRow.kept h hg hne

theorem ownsS.below {w w' : World} {base B : Nat} {v : Value} {xs : List ByteArray} (h : ownsS w base v xs) (hb : Below B w w') (hlt : w.heap.size ≤ B) : ownsS w' base v xs := by
  refine World.ownsRow.kept (row := none) h ⟨hb.os, hb.tape, hb.output, hb.size, fun k hk _ => hb.block k (by omega)⟩ ?_
  cases hv : v.ownBlock with
  | none => exact .inl rfl
  | some k => exact .inr (by simp)

theorem apart_texts {w1 w2 : World} {b : Nat} {v1 v2 : Value} {xs ys : List ByteArray} (h1 : ownsS w1 b v1 xs) (h2 : ownsS w2 w1.heap.size v2 ys) : v1.ownBlock = none ∨ v1.ownBlock ≠ v2.ownBlock := by
  cases hv : v1.ownBlock with
  | none => exact .inl rfl
  | some k =>
    refine .inr fun h => ?_
    have a := (World.ownsRow.lt h1 k hv).2
    have b := (World.ownsRow.lt h2 k h.symm).1
    omega

/-- 'append(out, text)' on a row of the call's own. -/
theorem wpS_app (w0 w : World) {ops : Array Oper} {rest : List Oper} {o : Oper} {a : Act} {Q : Exit → Act → World → Prop} (hgd : o.guard = none) (s x : Operand)
    (ho : o.op = Op.call { callee := Callee.builtin Builtin.append, args := #[s, x], argTypes := #[27, 27] }) (base : Nat) (v : Value) (xs : List ByteArray) (y : ByteArray)
    (hs : a.eval s = v) (hown : ownsS w base v xs) (hb : Below base w0 w) (hx : a.eval x = .slice (some ⟨w.heap.size, 0, none⟩) 1 1) (hlen : xs.length ≤ 1099511627776) (hbase : base ≤ w.heap.size)
    (h : ∀ v' w', ownsS w' base v' (xs ++ [y]) → Below base w0 w' → wpList Try.prog ops Q rest (a.put o.dst v') w') :
    wpList Try.prog ops Q (o :: rest) a (w.alloc (.cells #[.string y] 9)) := by
  obtain ⟨i0, hi, hz0, hz1, hz2⟩ := info_parts Try.info9
  refine wpList_append_own _ hgd s x 27 ho base 9 i0 (.string ⟨#[]⟩) 1 16 Try.underlying27 hi hz0 hz1 hz2 rfl (by decide) v xs.length (xs.map Value.string) hs (World.ownsRow.alloc hown _) ⟨w.heap.size, 0, none⟩ 1 1 [.string y] hx rfl ?_ ?_ ?_ ?_ ?_ ?_
  · intro j u hj
    match j, hj with
    | 0, hj => simp at hj; subst hj; simp [Addr.add]
  · intro u hu; simp at hu; subst hu; rfl
  · unfold maxLen; omega
  · omega
  · simp; omega
  · intro v' w' ho' hg _
    refine h v' w' ?_ ((hb.alloc hbase _).grown hg (by simp; omega) fun k hk => (World.ownsRow.lt hown k hk).1)
    unfold ownsS
    simpa using ho'

theorem cellsS_of {w : World} {base g n cap : Nat} {xs : List ByteArray} (h : w.ownsRow base 9 1 (.slice (some ⟨g, 0, none⟩) n cap) n (xs.map Value.string)) (hn : xs.length = n) :
    ∀ j, j < n → w.cell? ⟨g, j, none⟩ = some (.string (xs.getD j ⟨#[]⟩)) := by
  intro j hj
  rw [h.cellAt j (by omega)]
  simp [List.getElem?_map, List.getElem?_eq_getElem (by omega : j < xs.length), List.getD]

set_option maxHeartbeats 800000 in
theorem eqS_nil (a b : Option Addr) (c d : Nat) (w : World) :
    Calls Try.prog 12 #[.slice a 0 c, .slice b 0 d] w fun e w' => e = .returned (.bool true) ∧ ∃ n, w' = w.drewN n := by
  go_enter Try.func12, Try.ntmps12
  go_wp2
  refine wp_loop_rounds 1 ?_
  rw [rounds_succ]
  go_wp2
  go_ret
  exact ⟨rfl, 0, rfl⟩

set_option maxHeartbeats 1600000 in
theorem eqS_row (g1 g2 n c d : Nat) (xs : List ByteArray) (w : World) (hn : xs.length = n) (hm : n ≤ 1099511627776)
    (h1 : ∀ j, j < n → w.cell? ⟨g1, j, none⟩ = some (.string (xs.getD j ⟨#[]⟩))) (h2 : ∀ j, j < n → w.cell? ⟨g2, j, none⟩ = some (.string (xs.getD j ⟨#[]⟩))) :
    Calls Try.prog 12 #[.slice (some ⟨g1, 0, none⟩) n c, .slice (some ⟨g2, 0, none⟩) n d] w fun e w' => e = .returned (.bool true) ∧ ∃ n, w' = w.drewN n := by
  go_enter Try.func12, Try.ntmps12
  go_wp2
  go_loopw [5] (fun i wr => ∃ k m : Nat, k ≤ n ∧ i = .int .i64 k ∧ wr = w.drewN m) (fun i _ => n - (intOf i).toNat)
  case atStart => exact ⟨0, 0, Nat.zero_le _, rfl, rfl⟩
  case round =>
    obtain ⟨k, m, hk, rfl, rfl⟩ := hrel
    by_cases hlt : k < n
    · have c1 : (w.drewN m).cell? ⟨g1, k, none⟩ = some (.string (xs.getD k ⟨#[]⟩)) := h1 k hlt
      have c2 : (w.drewN m).cell? ⟨g2, k, none⟩ = some (.string (xs.getD k ⟨#[]⟩)) := h2 k hlt
      go_wp2
      go_quiet (fail)
      go_wp2
      go_roundw
      case rel => exact ⟨k + 1, m + nq, by omega, by go_num, rfl⟩
      case measure => simp [intOf]; omega
    · go_wp2
      go_ret
      exact ⟨rfl, m, rfl⟩

/-- eqStringS of two rows that hold the same texts: true; nothing turns but the tape. -/
theorem eqS (b1 b2 : Nat) (va vb : Value) (xs : List ByteArray) (w : World) (hm : xs.length ≤ 1099511627776) (h1 : ownsS w b1 va xs) (h2 : ownsS w b2 vb xs) :
    Calls Try.prog 12 #[va, vb] w fun e w' => e = .returned (.bool true) ∧ ∃ n, w' = w.drewN n := by
  rcases h1.2 with ⟨rfl, h0⟩ | ⟨g1, c1, _, rfl, -⟩ <;> rcases h2.2 with ⟨rfl, h0'⟩ | ⟨g2, c2, _, rfl, -⟩
  · exact eqS_nil _ _ _ _ w
  · rw [h0]; exact eqS_nil _ _ _ _ w
  · rw [h0']; exact eqS_nil _ _ _ _ w
  · exact eqS_row g1 g2 _ c1 c2 xs w rfl hm (cellsS_of h1 rfl) (cellsS_of h2 rfl)

theorem conv1 (W : World) (n : Int) : (convert 22 9 (.slice (some ⟨W.heap.size, 0, none⟩) 1 1)).run Try.prog (W.alloc (.cells #[.int .u8 n] 5)) = .ok (.string ⟨#[UInt8.ofNat n.toNat]⟩) (W.alloc (.cells #[.int .u8 n] 5)) := by
  rw [run_convert_bytes_string _ 22 9 5 _ _ _ Try.underlying22 Try.underlying5 Try.underlying9]
  rw [run_bytesToString _ ⟨W.heap.size, 0, none⟩ 1 1 [n] (by simp [loadCells, go_sem])]
  rfl

/-- The decimal digits of a number ahead of 'out', as the law's own markText lays them. -/
def digs (k : Nat) (out : ByteArray) : ByteArray := if 0 < k then digs (k / 10) (⟨#[48 + UInt8.ofNat (k % 10)]⟩ ++ out) else out
termination_by k
decreasing_by omega
theorem digs_pos (k : Nat) (out : ByteArray) (h : 0 < k) : digs k out = digs (k / 10) (⟨#[48 + UInt8.ofNat (k % 10)]⟩ ++ out) := by
  conv => lhs; rw [digs]
  rw [if_pos h]
theorem digs_zero (out : ByteArray) : digs 0 out = out := by rw [digs]; simp
def mtext (k : Nat) : ByteArray := ⟨#[109]⟩ ++ digs k ⟨#[]⟩
theorem size_snoc (x : UInt8) (out : ByteArray) : ((⟨#[x]⟩ : ByteArray) ++ out).size = out.size + 1 := by
  rw [ByteArray.size_append]; show 1 + out.size = _; omega

set_option maxHeartbeats 1600000 in
theorem mtext_any (k : Nat) (w : World) (h0 : 0 < k) (h1 : k ≤ 1099511627776) :
    Calls Try.prog 17 #[.int .i64 k] w fun e w' => e = .returned (.string (mtext k)) ∧ Below w.heap.size w w' := by
  have hk : ¬ ((k : Int) ≤ 0) := by omega
  have hcv := conv1
  go_enter Try.func17, Try.ntmps17
  go_wp2
  go_loopw [0, 3] (fun t v wr => ∃ (m : Nat) (out : ByteArray), m ≤ 1099511627776 ∧ out.size + m ≤ k ∧ t = .int .i64 m ∧ v = .string out ∧ Hid (digs k ⟨#[]⟩ = digs m out) ∧ Below w.heap.size w wr) (fun t _ _ => (intOf t).toNat)
  case atStart => exact ⟨k, ⟨#[]⟩, by omega, by show 0 + k ≤ k; omega, rfl, rfl, rfl, Below.refl _ _⟩
  case round =>
    obtain ⟨m, out, hm1, hsz, rfl, rfl, HD, hb⟩ := hrel
    have hhs := hb.size
    by_cases hlt : 0 < m
    · have hlt' : (0 : Int) < m := by omega
      go_wp2
      go_roundw
      case rel => exact ⟨m / 10, _, by omega, by rw [size_snoc]; omega, by go_num, rfl, by show _ = _; rw [HD.out, digs_pos m out hlt], hb.alloc hhs _⟩
      case measure => simp [intOf]; omega
    · have hm0 : m = 0 := by omega
      subst hm0
      have hd : digs k ⟨#[]⟩ = out := HD.out.trans (digs_zero out)
      clear HD
      go_wp2
      go_ret
      exact ⟨by rw [mtext, hd]; rfl, hb⟩

/-- The texts that markStringS lays from 'k' on. -/
def marksS (k : Nat) : Nat → List ByteArray
  | 0 => []
  | n + 1 => marksS k n ++ [mtext (k + n)]
theorem marksS_length (k n : Nat) : (marksS k n).length = n := by
  induction n with
  | zero => rfl
  | succ n ih => simp [marksS, ih]
theorem marksS_get (k n j : Nat) (h : j < n) : (marksS k n)[j]? = some (mtext (k + j)) := by
  induction n with
  | zero => omega
  | succ n ih =>
    simp only [marksS]
    by_cases hj : j < n
    · rw [List.getElem?_append_left (by rw [marksS_length]; exact hj)]; exact ih hj
    · have : j = n := by omega
      subst this
      rw [List.getElem?_append_right (by rw [marksS_length]; exact Nat.le_refl _), marksS_length]; simp
theorem marksS_step (k : Nat) (xs : List ByteArray) (j : Nat) (hj : j < xs.length) : ((marksS k j ++ xs.drop j).map Value.string).set j (.string (mtext (k + j))) = (marksS k (j + 1) ++ xs.drop (j + 1)).map Value.string := by
  have e : (marksS k j ++ xs.drop j).set j (mtext (k + j)) = marksS k (j + 1) ++ xs.drop (j + 1) := by
    rw [List.set_append_right _ _ (by rw [marksS_length]; exact Nat.le_refl _), marksS_length, Nat.sub_self, List.drop_eq_getElem_cons hj, List.set_cons_zero]
    simp [marksS]
  rw [← e, List.map_set]

set_option maxHeartbeats 800000 in
theorem markS_nil (a : Option Addr) (c : Nat) (k : Int) (w : World) :
    Calls Try.prog 13 #[.slice a 0 c, .int .i64 k] w fun e w' => e = .returned (.int .i64 k) ∧ w' = w := by
  go_enter Try.func13, Try.ntmps13
  go_wp2
  refine wp_loop_rounds 1 ?_
  rw [rounds_succ]
  go_wp2
  go_ret
  exact ⟨rfl, rfl⟩

set_option maxHeartbeats 1600000 in
theorem markS_row (b g n c : Nat) (xs : List ByteArray) (k : Nat) (w : World) (hn : xs.length = n) (hm : n ≤ 1073741824) (hk0 : 0 < k) (hk1 : k ≤ 1073741824)
    (h : w.ownsRow b 9 1 (.slice (some ⟨g, 0, none⟩) n c) n (xs.map Value.string)) :
    Calls Try.prog 13 #[.slice (some ⟨g, 0, none⟩) n c, .int .i64 k] w fun e w' => e = .returned (.int .i64 (k + n)) ∧
      w'.ownsRow b 9 1 (.slice (some ⟨g, 0, none⟩) n c) n ((marksS k n).map Value.string) ∧ w.grownBy w' (some g) := by
  go_enter Try.func13, Try.ntmps13
  go_wp2
  go_loopw [1, 5] (fun t i wr => ∃ j : Nat, j ≤ n ∧ i = .int .i64 j ∧ t = .int .i64 (k + j : Nat) ∧ wr.ownsRow b 9 1 (.slice (some ⟨g, 0, none⟩) n c) n ((marksS k j ++ xs.drop j).map Value.string) ∧ w.grownBy wr (some g)) (fun _ i _ => n - (intOf i).toNat)
  case atStart => exact ⟨0, Nat.zero_le _, rfl, by go_num, h, World.grownBy.refl _ _⟩
  case round =>
    obtain ⟨j, hj, rfl, rfl, hown, hg⟩ := hrel
    by_cases hlt : j < n
    · go_wp2_with fail
      refine (mtext_any (k + j) wr (by omega) (by omega)).mono ?_
      rintro e w1 ⟨rfl, b1⟩
      have hown1 : w1.ownsRow b 9 1 (.slice (some ⟨g, 0, none⟩) n c) n ((marksS k j ++ xs.drop j).map Value.string) := World.ownsRow.kept (row := none) hown ⟨b1.os, b1.tape, b1.output, b1.size, fun k hk _ => b1.block k hk⟩ (.inr (by simp [Value.ownBlock]))
      have hg1 : w.grownBy w1 (some g) := grown_trans hg ⟨b1.os, b1.tape, b1.output, b1.size, fun k hk _ => b1.block k hk⟩
      have hc := cellsS_of hown1 (by simp [marksS_length]; omega) j hlt
      have hf := hown1.frozenAt j
      have hs := hown1.stored j (.string (mtext (k + j)))
      clear hown hown1 b1 hg
      go_wp2
      go_roundw
      case rel => exact ⟨j + 1, by omega, by go_num, by go_num, by rw [← marksS_step k xs j (by omega)]; exact hs.1, grown_trans hg1 hs.2⟩
      case measure => simp [intOf]; omega
    · have hjn : j = n := by omega
      subst hjn
      rw [List.drop_of_length_le (by omega), List.append_nil] at hown
      go_wp2
      go_ret
      exact ⟨by go_num, hown, hg⟩

set_option maxHeartbeats 800000 in
theorem heldS_nil (a : Option Addr) (c : Nat) (k : Int) (w : World) :
    Calls Try.prog 14 #[.slice a 0 c, .int .i64 k] w fun e w' => e = .returned (.int .i64 k) ∧ w' = w := by
  go_enter Try.func14, Try.ntmps14
  go_wp2
  refine wp_loop_rounds 1 ?_
  rw [rounds_succ]
  go_wp2
  go_ret
  exact ⟨rfl, rfl⟩

set_option maxHeartbeats 1600000 in
theorem heldS_row (g n c : Nat) (k : Nat) (w : World) (hm : n ≤ 1073741824) (hk0 : 0 < k) (hk1 : k ≤ 1073741824) (hgw : g < w.heap.size)
    (h : ∀ j : Nat, j < n → w.cell? ⟨g, j, none⟩ = some (.string (mtext (k + j)))) :
    Calls Try.prog 14 #[.slice (some ⟨g, 0, none⟩) n c, .int .i64 k] w fun e w' => e = .returned (.int .i64 (k + n)) ∧ Below w.heap.size w w' := by
  go_enter Try.func14, Try.ntmps14
  go_wp2
  go_loopw [1, 5] (fun t i wr => ∃ j : Nat, j ≤ n ∧ i = .int .i64 j ∧ t = .int .i64 (k + j : Nat) ∧ Below w.heap.size w wr) (fun _ i _ => n - (intOf i).toNat)
  case atStart => exact ⟨0, Nat.zero_le _, rfl, by go_num, Below.refl _ _⟩
  case round =>
    obtain ⟨j, hj, rfl, rfl, hb⟩ := hrel
    by_cases hlt : j < n
    · have hc : wr.cell? ⟨g, j, none⟩ = some (.string (mtext (k + j))) := (hb.cell (p := ⟨g, j, none⟩) hgw).trans (h j hlt)
      have hgr : g < wr.heap.size := Nat.lt_of_lt_of_le hgw hb.size
      go_wp2_with fail
      go_region_with (go_at_call 17; refine (mtext_any (k + j) _ (by omega) (by omega)).mono ?_; rintro e w1 ⟨rfl, b1⟩; have hc1 : w1.cell? ⟨g, j, none⟩ = some (.string (mtext (k + j))) := (b1.cell (p := ⟨g, j, none⟩) (by exact hgr)).trans hc)
      all_goals
        have hb1 : Below w.heap.size w w1 := by first | exact hb.trans (b1.mono hb.size) | exact hb.drew.trans (b1.mono hb.size)
        clear hc hc1 b1 hb
        go_wp2
        go_roundw
        case rel => exact ⟨j + 1, by omega, by go_num, by go_num, by first | exact hb1 | exact hb1.drew⟩
        case measure => simp [intOf]; omega
    · have hjn : j = n := by omega
      subst hjn
      go_wp2
      go_ret
      exact ⟨by go_num, hb⟩

/-- markStringS of a row: it holds the marks behind it; nothing else that was there turns. -/
theorem markS (b : Nat) (va : Value) (xs : List ByteArray) (k : Nat) (w : World) (hm : xs.length ≤ 1073741824) (hk0 : 0 < k) (hk1 : k ≤ 1073741824) (h1 : ownsS w b va xs) :
    Calls Try.prog 13 #[va, .int .i64 k] w fun e w' => e = .returned (.int .i64 (k + xs.length)) ∧ ownsS w' b va (marksS k xs.length) ∧ w.grownBy w' va.ownBlock := by
  unfold ownsS
  rw [marksS_length]
  rcases h1.2 with ⟨rfl, h0⟩ | ⟨g1, c1, _, rfl, -⟩
  · rw [h0]
    refine (markS_nil _ _ k w).mono ?_
    rintro e w' ⟨rfl, rfl⟩
    exact ⟨by simp, World.ownsRow_nil _ _ _ _, World.grownBy.refl _ _⟩
  · exact markS_row b g1 _ c1 xs k w rfl hm hk0 hk1 h1

/-- heldStringS of a row that holds the marks: the number behind the last one. -/
theorem heldS (b : Nat) (va : Value) (k n : Nat) (w : World) (hm : n ≤ 1073741824) (hk0 : 0 < k) (hk1 : k ≤ 1073741824) (h1 : ownsS w b va (marksS k n)) :
    Calls Try.prog 14 #[va, .int .i64 k] w fun e w' => e = .returned (.int .i64 (k + n)) ∧ Below w.heap.size w w' := by
  unfold ownsS at h1
  rw [marksS_length] at h1
  have hlt := fun q => World.ownsRow.lt h1 q
  rcases h1.2 with ⟨rfl, h0⟩ | ⟨g1, c1, _, rfl, -⟩
  · subst h0
    refine (heldS_nil _ _ k w).mono ?_
    rintro e w' ⟨rfl, rfl⟩
    exact ⟨by simp, Below.refl _ _⟩
  · refine heldS_row g1 n c1 k w hm hk0 hk1 (hlt g1 rfl).2 fun j hj => ?_
    rw [h1.cellAt j (by omega), List.getElem?_map, marksS_get k n j hj]; rfl

end Go.Proofs.Ytnanabbkogakmal
