/- The cursor of a draw: l1New, l1Byte, l1Below, each by its contract: what is drawn is bounded; nothing but the cursor's own block turns. -/
import Derived.Test.YtnojigofojjopaaDoorRow
import Derived.Deep.QuietTactic
import Derived.BigQuiet
import Derived.Laws.BitsAllLaws
import Derived.Laws.Pointers
import Derived.WalkSpells
import Derived.WalkLawsBesides
namespace Go.Proofs.YtnojigofojjopaaDoor
open Go.RowKit

theorem wrap_id (x : Int) (h0 : 0 ≤ x) (h1 : x ≤ 9223372036854775807) : IntKind.i64.wrap x = x := by rw [IntKind.wrap_i64]; omega

/-- What is masked is not beyond the mask. -/
theorem and_le (x : Int) (m : Nat) (hm : m ≤ 1073741823) : 0 ≤ bits .and .i64 x m ∧ bits .and .i64 x m ≤ m := by
  have e2 : (BitVec.ofInt 64 (m : Int)).toNat = m := ofInt_u64 m (by omega)
  have h3 : ((BitVec.ofInt 64 x) &&& (BitVec.ofInt 64 (m : Int))).toNat ≤ m := by
    rw [BitVec.toNat_and, e2]; exact Nat.and_le_right
  have e : bits .and .i64 x m = (((BitVec.ofInt 64 x) &&& (BitVec.ofInt 64 (m : Int))).toNat : Int) := by
    show IntKind.i64.wrap (((BitVec.ofInt 64 x) &&& (BitVec.ofInt 64 (m : Int))).toNat : Int) = _
    exact wrap_id _ (by omega) (by omega)
  rw [e]
  omega

theorem and255 (x : Int) : 0 ≤ bits .and .i64 x 255 ∧ bits .and .i64 x 255 ≤ 255 := and_le x 255 (by omega)
theorem add_block (x : Addr) (i : Nat) : (x.add i).block = x.block := by unfold Addr.add; split <;> rfl

/-- The cursor lies in block 'B': the code, a place, a number. -/
def CurAt (w : World) (B : Nat) : Prop :=
  ∃ (a : Option Addr) (len cap : Nat) (zs : List Int) (i : Nat) (h : Int), w.heap[B]? = some (.cells #[.slice a len cap, .int .i64 i, .int .i64 h] 83 (0, 0)) ∧ IsRow .u8 w a len cap zs ∧ (∀ x, a = some x → 0 < zs.length → x.block < B) ∧ i ≤ len ∧ len ≤ 1048576

theorem IsRow.grown {k : IntKind} {w w' : World} {a : Option Addr} {len cap : Nat} {zs : List Int} {B : Nat} (h : IsRow k w a len cap zs) (hg : w.grownBy w' (some B)) (hne : ∀ x, a = some x → 0 < zs.length → x.block ≠ B) : IsRow k w' a len cap zs := by
  rcases h with h | ⟨x, h1, h2, h3, h4, h5, h6⟩
  · exact .inl h
  · refine .inr ⟨x, h1, h2, h3, h4, fun i hi => ?_, h6⟩
    have hc := h5 i hi
    have hb := add_block x i
    exact hg.cell hc (by rw [hb]; intro e; exact hne x h1 (by omega) (Option.some.inj e))

theorem CurAt.lt {w : World} {B : Nat} (h : CurAt w B) : B < w.heap.size := by
  obtain ⟨_, _, _, _, _, _, h, _⟩ := h
  exact (Array.getElem?_eq_some_iff.1 h).1

theorem CurAt.kept {w w' : World} {B : Nat} {row : Option Nat} (h : CurAt w B) (hg : w.grownBy w' row) (hne : ∀ k, row = some k → B < k) : CurAt w' B := by
  have hlt := h.lt
  obtain ⟨a, len, cap, zs, i, x, h1, h2, h3, h4, h5⟩ := h
  refine ⟨a, len, cap, zs, i, x, (hg.block B hlt (fun e => by have := hne B e.symm; omega)).trans h1, ?_, h3, h4, h5⟩
  rcases h2 with h | ⟨y, g1, g2, g3, g4, g5, g6⟩
  · exact .inl h
  · refine .inr ⟨y, g1, g2, g3, g4, fun j hj => ?_, g6⟩
    have hc := g5 j hj
    have hb := add_block y j
    refine hg.cell hc (fun e => ?_)
    have := hne _ e.symm
    have := h3 y g1 (by omega)
    omega

theorem CurAt.below {w w' : World} {B b : Nat} (h : CurAt w B) (hb : Below b w w') (hB : B < b) : CurAt w' B := by
  have hlt := h.lt
  obtain ⟨a, len, cap, zs, i, x, h1, h2, h3, h4, h5⟩ := h
  refine ⟨a, len, cap, zs, i, x, (hb.block B hB).trans h1, ?_, h3, h4, h5⟩
  rcases h2 with h | ⟨y, g1, g2, g3, g4, g5, g6⟩
  · exact .inl h
  · refine .inr ⟨y, g1, g2, g3, g4, fun j hj => ?_, g6⟩
    have hc := g5 j hj
    have := h3 y g1 (by omega)
    exact (hb.cell (p := y.add j) (by rw [add_block]; omega)).trans hc

theorem grown_drawn {a w : World} {row : Option Nat} (h : a.grownBy w row) (n : Nat) : a.grownBy (w.drewN n) row := ⟨h.os, h.tape, h.output, h.size, h.block⟩

theorem grown_set {a w : World} {B : Nat} (h : a.grownBy w (some B)) (j : Nat) (v : Value) : a.grownBy (w.setCell ⟨B, j, none⟩ v) (some B) :=
  grown_trans h ⟨rfl, rfl, rfl, by simp, fun k _ hk => Below.heap_setCell w ⟨B, j, none⟩ v k (fun e => hk (by rw [e]))⟩

theorem CurAt.drawn {w : World} {B : Nat} (h : CurAt w B) (n : Nat) : CurAt (w.drewN n) B := h

set_option maxHeartbeats 1600000 in
/-- l1Byte: some byte. -/
theorem curByte (B : Nat) (w : World) (hc : CurAt w B) :
    Calls Tryd.prog 63 #[.pointer (some ⟨B, 0, none⟩)] w fun e w' => ∃ x : Int, e = .returned (.int .i64 x) ∧ 0 ≤ x ∧ x ≤ 255 ∧ CurAt w' B ∧ w.grownBy w' (some B) := by
  obtain ⟨a, len, cap, zs, i, h, hblk, hrow, hlt, hi, hlen⟩ := hc
  have c0 : w.cell? ⟨B, 0, none⟩ = some (.slice a len cap) := by rw [cell_of_row w B 0 _ _ (0, 0) hblk]; rfl
  have c1 : w.cell? ⟨B, 1, none⟩ = some (.int .i64 i) := by rw [cell_of_row w B 1 _ _ (0, 0) hblk]; rfl
  have c2 : w.cell? ⟨B, 2, none⟩ = some (.int .i64 h) := by rw [cell_of_row w B 2 _ _ (0, 0) hblk]; rfl
  have f1 : w.frozen? ⟨B, 1, none⟩ = false := frozen_of_row w B 1 _ _ hblk
  have f2 : w.frozen? ⟨B, 2, none⟩ = false := frozen_of_row w B 2 _ _ hblk
  have fin : ∀ (h' : Int) (i' : Nat), i' ≤ len → (CurAt (w.setCell ⟨B, 2, none⟩ (.int .i64 h')) B ∧ w.grownBy (w.setCell ⟨B, 2, none⟩ (.int .i64 h')) (some B)) ∧
      (CurAt ((w.setCell ⟨B, 2, none⟩ (.int .i64 h')).setCell ⟨B, 1, none⟩ (.int .i64 i')) B ∧ w.grownBy ((w.setCell ⟨B, 2, none⟩ (.int .i64 h')).setCell ⟨B, 1, none⟩ (.int .i64 i')) (some B)) := by
    intro h' i' hi'
    have g1 := grown_set (World.grownBy.refl w (some B)) 2 (.int .i64 h')
    have g2 := grown_set g1 1 (.int .i64 i')
    have k1 := heap_setCell_same w B 2 _ _ (.int .i64 h') hblk
    have k2 := heap_setCell_same _ B 1 _ _ (.int .i64 i') k1
    have hne : ∀ x, a = some x → 0 < zs.length → x.block ≠ B := fun x hx hz e => by have := hlt x hx hz; omega
    exact ⟨⟨⟨a, len, cap, zs, i, h', k1, hrow.grown g1 hne, hlt, hi, hlen⟩, g1⟩, ⟨⟨a, len, cap, zs, i', h', k2, hrow.grown g2 hne, hlt, hi', hlen⟩, g2⟩⟩
  by_cases hil : i < len
  · rcases hrow with ⟨_, h0, _, _⟩ | ⟨⟨b, off, spot⟩, rfl, g2, g3, g4, g5, g6⟩
    · omega
    · have hc := g5 i (by omega)
      have hspot : spot = none := by simpa [Addr.add] using World.cell?_spot (g5 0 (by omega))
      subst hspot
      obtain ⟨z, hz⟩ : ∃ z, zs.getD i 0 = z := ⟨_, rfl⟩
      rw [hz] at hc
      have hca : w.cell? ⟨b, off + i, none⟩ = some (.int .u8 z) := by
        by_cases h0 : i = 0
        · subst h0; simpa [Addr.add] using hc
        · simpa [Addr.add, h0] using hc
      have hbB : b ≠ B := by have := hlt _ rfl (by omega); intro e; subst e; exact absurd this (Nat.lt_irrefl _)
      have hcc : ∀ v, (w.setCell ⟨B, 2, none⟩ v).cell? ⟨b, off + i, none⟩ = some (.int .u8 z) := fun v => (World.cell?_setCell_other _ _ _ _ (fun e => hbB (congrArg Addr.block e).symm)).trans hca
      clear hc hz g5 g6
      go_enter Tryd.func63, Tryd.ntmps63
      go_wp2
      go_quiet (fail)
      go_wp2
      go_quiet (fail)
      go_wp2
      go_quiet (fail)
      go_wp2
      go_ret
      exact ⟨_, rfl, (and255 _).1, (and255 _).2, (fin _ (i + 1) hil).2.1.drawn _, grown_drawn (fin _ (i + 1) hil).2.2 _⟩
  · go_enter Tryd.func63, Tryd.ntmps63
    go_wp2
    go_quiet (fail)
    go_wp2
    go_quiet (fail)
    go_wp2
    go_ret
    exact ⟨_, rfl, (and255 _).1, (and255 _).2, ((fin _ i hi).1.1.drawn _).drawn _, grown_drawn (grown_drawn (fin _ i hi).1.2 _) _⟩

set_option maxHeartbeats 1600000 in
/-- l1Below: a number below n; 0 where n is not above 0. -/
theorem curBelow (B : Nat) (n : Int) (w : World) (hc : CurAt w B) (hn : n ≤ 4294967296) :
    Calls Tryd.prog 52 #[.pointer (some ⟨B, 0, none⟩), .int .i64 n] w fun e w' => ∃ x : Int, e = .returned (.int .i64 x) ∧ 0 ≤ x ∧ (0 < n → x < n) ∧ (n ≤ 0 → x = 0) ∧ CurAt w' B ∧ w.grownBy w' (some B) := by
  by_cases h0 : n ≤ 0
  · go_enter Tryd.func52, Tryd.ntmps52
    go_wp2
    go_ret
    exact ⟨_, rfl, Int.le_refl 0, fun h => absurd h (by omega), fun _ => rfl, hc, World.grownBy.refl _ _⟩
  · have hpos : 0 < n := by omega
    have hne : ¬ n = 0 := by omega
    by_cases h1 : n ≤ 256
    · go_enter Tryd.func52, Tryd.ntmps52
      go_wp2_with (go_at_call 63; refine (curByte B _ hc).mono ?_; rintro e w1 ⟨x, rfl, x0, x1, c1, g1⟩)
      go_ret
      exact ⟨_, rfl, Int.emod_nonneg _ hne, fun _ => Int.emod_lt_of_pos _ hpos, fun h => absurd h (by omega), c1, g1⟩
    · go_enter Tryd.func52, Tryd.ntmps52
      go_wp2_with fail
      refine (curByte B _ hc).mono ?_
      rintro e w1 ⟨x1, rfl, x10, x11, c1, g1⟩
      go_wp2_with fail
      refine (curByte B _ c1).mono ?_
      rintro e w2 ⟨x2, rfl, x20, x21, c2, g2⟩
      go_wp2_with fail
      refine (curByte B _ c2).mono ?_
      rintro e w3 ⟨x3, rfl, x30, x31, c3, g3⟩
      go_wp2_with fail
      refine (curByte B _ c3).mono ?_
      rintro e w4 ⟨x4, rfl, x40, x41, c4, g4⟩
      have g := grown_trans g1 (grown_trans g2 (grown_trans g3 g4))
      clear g1 g2 g3 g4 c1 c2 c3
      go_wp2
      go_ret
      exact ⟨_, rfl, Int.emod_nonneg _ hne, fun _ => Int.emod_lt_of_pos _ hpos, fun h => absurd h (by omega), c4, g⟩

set_option maxHeartbeats 1600000 in
theorem curNew_row (b off len cap : Nat) (zs : List Int) (w : World) (hlen : len ≤ 1048576) (hr : IsRow .u8 w (some ⟨b, off, none⟩) len cap zs) (hcell : ∀ j, j < len → w.cell? ⟨b, off + j, none⟩ = some (.int .u8 (zs.getD j 0))) (hb : b < w.heap.size) :
    Calls Tryd.prog 33 #[.slice (some ⟨b, off, none⟩) len cap] w fun e w' => e = .returned (.pointer (some ⟨w.heap.size, 0, none⟩)) ∧ CurAt w' w.heap.size ∧ Below w.heap.size w w' := by
  have fin : ∀ h : Int, CurAt (w.alloc (.cells #[.slice (some ⟨b, off, none⟩) len cap, .int .i64 0, .int .i64 h] 83)) w.heap.size ∧ Below w.heap.size w (w.alloc (.cells #[.slice (some ⟨b, off, none⟩) len cap, .int .i64 0, .int .i64 h] 83)) := by
    intro h
    have hB : Below w.heap.size w (w.alloc (.cells #[.slice (some ⟨b, off, none⟩) len cap, .int .i64 0, .int .i64 h] 83)) := (Below.refl _ _).alloc (Nat.le_refl _) _
    exact ⟨⟨_, len, cap, zs, 0, h, heap_alloc_new w _, hr.below hB, fun x hx _ => by cases hx; exact hb, Nat.zero_le _, hlen⟩, hB⟩
  clear hr
  go_enter Tryd.func33, Tryd.ntmps33
  go_wp2
  go_loop [3, 4] (fun t i => ∃ (k : Nat) (h : Int), k ≤ len ∧ i = .int .i64 k ∧ t = .int .i64 h) (fun _ i => len - (intOf i).toNat)
  case atStart => exact ⟨0, _, Nat.zero_le _, rfl, rfl⟩
  case round =>
    obtain ⟨k, h, hk, rfl, rfl⟩ := hrel
    by_cases hlt : k < len
    · by_cases h4 : (k : Int) < 4000
      · have hc := hcell k hlt
        go_wp2
        go_round
        case rel => exact ⟨k + 1, _, by omega, by go_num, rfl⟩
        case measure => simp [intOf]; omega
      · go_wp2
        go_ret
        exact ⟨rfl, fin _⟩
    · go_wp2
      go_ret
      exact ⟨rfl, fin _⟩

set_option maxHeartbeats 1600000 in
theorem curNew_empty (a : Option Addr) (cap : Nat) (zs : List Int) (w : World) (hr : IsRow .u8 w a 0 cap zs) (hb : ∀ x, a = some x → 0 < zs.length → x.block < w.heap.size) :
    Calls Tryd.prog 33 #[.slice a 0 cap] w fun e w' => e = .returned (.pointer (some ⟨w.heap.size, 0, none⟩)) ∧ CurAt w' w.heap.size ∧ Below w.heap.size w w' := by
  have fin : ∀ h : Int, CurAt (w.alloc (.cells #[.slice a 0 cap, .int .i64 0, .int .i64 h] 83)) w.heap.size ∧ Below w.heap.size w (w.alloc (.cells #[.slice a 0 cap, .int .i64 0, .int .i64 h] 83)) := by
    intro h
    have hB : Below w.heap.size w (w.alloc (.cells #[.slice a 0 cap, .int .i64 0, .int .i64 h] 83)) := (Below.refl _ _).alloc (Nat.le_refl _) _
    exact ⟨⟨_, 0, cap, zs, 0, h, heap_alloc_new w _, hr.below hB, hb, Nat.zero_le _, by omega⟩, hB⟩
  clear hr
  go_enter Tryd.func33, Tryd.ntmps33
  go_wp2
  refine wp_loop_rounds 1 ?_
  rw [rounds_succ]
  go_wp2
  go_ret
  exact ⟨rfl, fin _⟩

/-- What is known of the code that came in: it is a row, and lies in memory that was there. -/
def CodeIs (w : World) (a : Option Addr) (len cap : Nat) (zs : List Int) : Prop := IsRow .u8 w a len cap zs ∧ (∀ x, a = some x → 0 < zs.length → x.block < w.heap.size)
theorem CodeIs.below {w w' : World} {a : Option Addr} {len cap : Nat} {zs : List Int} (h : CodeIs w a len cap zs) (hb : Below w.heap.size w w') : CodeIs w' a len cap zs :=
  ⟨h.1.below hb, fun x hx hz => Nat.lt_of_lt_of_le (h.2 x hx hz) hb.size⟩

theorem code_of {w : World} {a : Option Addr} {len cap : Nat} {zs : List Int} (h : IsRow .u8 w a len cap zs) : CodeIs w a len cap zs := by
  refine ⟨h, fun x hx hz => ?_⟩
  rcases h with ⟨rfl, _⟩ | ⟨y, h1, h2, h3, h4, h5, h6⟩
  · cases hx
  · rw [h1] at hx
    cases hx
    have := block_lt_of_cell (h5 0 hz)
    rwa [add_block] at this

/-- l1New: a cursor in a new block. -/
theorem curNew (a : Option Addr) (len cap : Nat) (zs : List Int) (w : World) (hlen : len ≤ 1048576) (h : CodeIs w a len cap zs) :
    Calls Tryd.prog 33 #[.slice a len cap] w fun e w' => e = .returned (.pointer (some ⟨w.heap.size, 0, none⟩)) ∧ CurAt w' w.heap.size ∧ Below w.heap.size w w' := by
  obtain ⟨hr, hb⟩ := h
  by_cases h0 : len = 0
  · subst h0; exact curNew_empty a cap zs w hr hb
  · rcases hr with ⟨_, h, _, _⟩ | ⟨⟨b, off, spot⟩, rfl, h2, h3, h4, h5, h6⟩
    · exact absurd h h0
    · have hc := h5 0 (by omega)
      have hspot : spot = none := by simpa [Addr.add] using World.cell?_spot hc
      subst hspot
      refine curNew_row b off len cap zs w hlen (.inr ⟨_, rfl, h2, h3, h4, h5, h6⟩) (fun j hj => ?_) (hb _ rfl (by omega))
      have := h5 j (by omega)
      by_cases hj0 : j = 0
      · subst hj0; simpa [Addr.add] using this
      · simpa [Addr.add, hj0] using this

end Go.Proofs.YtnojigofojjopaaDoor
