/- Several small texts in one: Cur, Pick, DrN, DrD, DrW, PickA, DrV, DrV2, DrMv. -/
import Derived.Test.YtddakeohamefiaaBase
import Derived.Deep.QuietTactic
import Derived.BigQuiet
import Derived.Laws.BitsAllLaws
import Derived.Laws.Pointers
import Derived.WalkSpells
import Derived.WalkLawsBesides
import Derived.Test.YtddakeohamefiaaSB
import Derived.Test.YtddakeohamefiaaWB
import Derived.Test.YtddakeohamefiaaSNatOf
import Derived.Test.YtddakeohamefiaaSWholeOf
import Derived.Test.YtddakeohamefiaaVB
/- The cursor of a draw: l1New, l1Byte, l1Below, each by its contract: what is drawn is bounded; nothing but the cursor's own block turns. -/
namespace Go.Proofs.Ytddakeohamefiaa
open Go.RowKit

theorem wrap_id (x : Int) (h0 : 0 ≤ x) (h1 : x ≤ 9223372036854775807) : IntKind.i64.wrap x = x := by rw [IntKind.wrap_i64]; omega

/-- What is masked is not beyond the mask. -/
theorem and_le (x : Int) (m : Nat) (hm : m ≤ 1073741823) : 0 ≤ bits .and .i64 x m ∧ bits .and .i64 x m ≤ m := by
  have e2 : (BitVec.ofInt 64 (m : Int)).toNat = m := ofInt_u64 m (by omega)
  have h3 : ((BitVec.ofInt 64 x) &&& (BitVec.ofInt 64 (m : Int))).toNat ≤ m := by
    rw [BitVec.toNat_and, e2]; exact Nat.and_le_right
  have e : bits .and .i64 x m = (((BitVec.ofInt 64 x) &&& (BitVec.ofInt 64 (m : Int))).toNat : Int) := by
    show IntKind.i64.wrap (((BitVec.ofInt 64 x) &&& (BitVec.ofInt 64 (m : Int))).toNat : Int) = _
    exact wrap_id _ (by omega) (by omega)
  rw [e]
  omega

theorem and255 (x : Int) : 0 ≤ bits .and .i64 x 255 ∧ bits .and .i64 x 255 ≤ 255 := and_le x 255 (by omega)
theorem add_block (x : Addr) (i : Nat) : (x.add i).block = x.block := by unfold Addr.add; split <;> rfl

/-- The cursor lies in block 'B': the code, a place, a number. -/
def CurAt (w : World) (B : Nat) : Prop :=
  ∃ (a : Option Addr) (len cap : Nat) (zs : List Int) (i : Nat) (h : Int), w.heap[B]? = some (.cells #[.slice a len cap, .int .i64 i, .int .i64 h] 89 (0, 0)) ∧ IsRow .u8 w a len cap zs ∧ (∀ x, a = some x → 0 < zs.length → x.block < B) ∧ i ≤ len ∧ len ≤ 1048576

theorem IsRow.grown {k : IntKind} {w w' : World} {a : Option Addr} {len cap : Nat} {zs : List Int} {B : Nat} (h : IsRow k w a len cap zs) (hg : w.grownBy w' (some B)) (hne : ∀ x, a = some x → 0 < zs.length → x.block ≠ B) : IsRow k w' a len cap zs := by
  rcases h with h | ⟨x, h1, h2, h3, h4, h5, h6⟩
  · exact .inl h
  · refine .inr ⟨x, h1, h2, h3, h4, fun i hi => ?_, h6⟩
    have hc := h5 i hi
    have hb := add_block x i
    exact hg.cell hc (by rw [hb]; intro e; exact hne x h1 (by omega) (Option.some.inj e))

theorem CurAt.lt {w : World} {B : Nat} (h : CurAt w B) : B < w.heap.size := by
  obtain ⟨_, _, _, _, _, _, h, _⟩ := h
  exact (Array.getElem?_eq_some_iff.1 h).1

theorem CurAt.kept {w w' : World} {B : Nat} {row : Option Nat} (h : CurAt w B) (hg : w.grownBy w' row) (hne : ∀ k, row = some k → B < k) : CurAt w' B := by
  have hlt := h.lt
  obtain ⟨a, len, cap, zs, i, x, h1, h2, h3, h4, h5⟩ := h
  refine ⟨a, len, cap, zs, i, x, (hg.block B hlt (fun e => by have := hne B e.symm; omega)).trans h1, ?_, h3, h4, h5⟩
  rcases h2 with h | ⟨y, g1, g2, g3, g4, g5, g6⟩
  · exact .inl h
  · refine .inr ⟨y, g1, g2, g3, g4, fun j hj => ?_, g6⟩
    have hc := g5 j hj
    have hb := add_block y j
    refine hg.cell hc (fun e => ?_)
    have := hne _ e.symm
    have := h3 y g1 (by omega)
    omega

theorem CurAt.below {w w' : World} {B b : Nat} (h : CurAt w B) (hb : Below b w w') (hB : B < b) : CurAt w' B := by
  have hlt := h.lt
  obtain ⟨a, len, cap, zs, i, x, h1, h2, h3, h4, h5⟩ := h
  refine ⟨a, len, cap, zs, i, x, (hb.block B hB).trans h1, ?_, h3, h4, h5⟩
  rcases h2 with h | ⟨y, g1, g2, g3, g4, g5, g6⟩
  · exact .inl h
  · refine .inr ⟨y, g1, g2, g3, g4, fun j hj => ?_, g6⟩
    have hc := g5 j hj
    have := h3 y g1 (by omega)
    exact (hb.cell (p := y.add j) (by rw [add_block]; omega)).trans hc

theorem grown_drawn {a w : World} {row : Option Nat} (h : a.grownBy w row) (n : Nat) : a.grownBy (w.drewN n) row := ⟨h.os, h.tape, h.output, h.size, h.block⟩

theorem grown_set {a w : World} {B : Nat} (h : a.grownBy w (some B)) (j : Nat) (v : Value) : a.grownBy (w.setCell ⟨B, j, none⟩ v) (some B) :=
  grown_trans h ⟨rfl, rfl, rfl, by simp, fun k _ hk => Below.heap_setCell w ⟨B, j, none⟩ v k (fun e => hk (by rw [e]))⟩

theorem CurAt.drawn {w : World} {B : Nat} (h : CurAt w B) (n : Nat) : CurAt (w.drewN n) B := h

set_option maxHeartbeats 1600000 in
/-- l1Byte: some byte. -/
theorem curByte (B : Nat) (w : World) (hc : CurAt w B) :
    Calls Try.prog 61 #[.pointer (some ⟨B, 0, none⟩)] w fun e w' => ∃ x : Int, e = .returned (.int .i64 x) ∧ 0 ≤ x ∧ x ≤ 255 ∧ CurAt w' B ∧ w.grownBy w' (some B) := by
  obtain ⟨a, len, cap, zs, i, h, hblk, hrow, hlt, hi, hlen⟩ := hc
  have c0 : w.cell? ⟨B, 0, none⟩ = some (.slice a len cap) := by rw [cell_of_row w B 0 _ _ (0, 0) hblk]; rfl
  have c1 : w.cell? ⟨B, 1, none⟩ = some (.int .i64 i) := by rw [cell_of_row w B 1 _ _ (0, 0) hblk]; rfl
  have c2 : w.cell? ⟨B, 2, none⟩ = some (.int .i64 h) := by rw [cell_of_row w B 2 _ _ (0, 0) hblk]; rfl
  have f1 : w.frozen? ⟨B, 1, none⟩ = false := frozen_of_row w B 1 _ _ hblk
  have f2 : w.frozen? ⟨B, 2, none⟩ = false := frozen_of_row w B 2 _ _ hblk
  have fin : ∀ (h' : Int) (i' : Nat), i' ≤ len → (CurAt (w.setCell ⟨B, 2, none⟩ (.int .i64 h')) B ∧ w.grownBy (w.setCell ⟨B, 2, none⟩ (.int .i64 h')) (some B)) ∧
      (CurAt ((w.setCell ⟨B, 2, none⟩ (.int .i64 h')).setCell ⟨B, 1, none⟩ (.int .i64 i')) B ∧ w.grownBy ((w.setCell ⟨B, 2, none⟩ (.int .i64 h')).setCell ⟨B, 1, none⟩ (.int .i64 i')) (some B)) := by
    intro h' i' hi'
    have g1 := grown_set (World.grownBy.refl w (some B)) 2 (.int .i64 h')
    have g2 := grown_set g1 1 (.int .i64 i')
    have k1 := heap_setCell_same w B 2 _ _ (.int .i64 h') hblk
    have k2 := heap_setCell_same _ B 1 _ _ (.int .i64 i') k1
    have hne : ∀ x, a = some x → 0 < zs.length → x.block ≠ B := fun x hx hz e => by have := hlt x hx hz; omega
    exact ⟨⟨⟨a, len, cap, zs, i, h', k1, hrow.grown g1 hne, hlt, hi, hlen⟩, g1⟩, ⟨⟨a, len, cap, zs, i', h', k2, hrow.grown g2 hne, hlt, hi', hlen⟩, g2⟩⟩
  by_cases hil : i < len
  · rcases hrow with ⟨_, h0, _, _⟩ | ⟨⟨b, off, spot⟩, rfl, g2, g3, g4, g5, g6⟩
    · omega
    · have hc := g5 i (by omega)
      have hspot : spot = none := by simpa [Addr.add] using World.cell?_spot (g5 0 (by omega))
      subst hspot
      obtain ⟨z, hz⟩ : ∃ z, zs.getD i 0 = z := ⟨_, rfl⟩
      rw [hz] at hc
      have hca : w.cell? ⟨b, off + i, none⟩ = some (.int .u8 z) := by
        by_cases h0 : i = 0
        · subst h0; simpa [Addr.add] using hc
        · simpa [Addr.add, h0] using hc
      have hbB : b ≠ B := by have := hlt _ rfl (by omega); intro e; subst e; exact absurd this (Nat.lt_irrefl _)
      have hcc : ∀ v, (w.setCell ⟨B, 2, none⟩ v).cell? ⟨b, off + i, none⟩ = some (.int .u8 z) := fun v => (World.cell?_setCell_other _ _ _ _ (fun e => hbB (congrArg Addr.block e).symm)).trans hca
      clear hc hz g5 g6
      go_enter Try.func61, Try.ntmps61
      go_wp2
      go_quiet (fail)
      go_wp2
      go_quiet (fail)
      go_wp2
      go_quiet (fail)
      go_wp2
      go_ret
      exact ⟨_, rfl, (and255 _).1, (and255 _).2, (fin _ (i + 1) hil).2.1.drawn _, grown_drawn (fin _ (i + 1) hil).2.2 _⟩
  · go_enter Try.func61, Try.ntmps61
    go_wp2
    go_quiet (fail)
    go_wp2
    go_quiet (fail)
    go_wp2
    go_ret
    exact ⟨_, rfl, (and255 _).1, (and255 _).2, ((fin _ i hi).1.1.drawn _).drawn _, grown_drawn (grown_drawn (fin _ i hi).1.2 _) _⟩

set_option maxHeartbeats 1600000 in
/-- l1Below: a number below n; 0 where n is not above 0. -/
theorem curBelow (B : Nat) (n : Int) (w : World) (hc : CurAt w B) (hn : n ≤ 4294967296) :
    Calls Try.prog 28 #[.pointer (some ⟨B, 0, none⟩), .int .i64 n] w fun e w' => ∃ x : Int, e = .returned (.int .i64 x) ∧ 0 ≤ x ∧ (0 < n → x < n) ∧ (n ≤ 0 → x = 0) ∧ CurAt w' B ∧ w.grownBy w' (some B) := by
  by_cases h0 : n ≤ 0
  · go_enter Try.func28, Try.ntmps28
    go_wp2
    go_ret
    exact ⟨_, rfl, Int.le_refl 0, fun h => absurd h (by omega), fun _ => rfl, hc, World.grownBy.refl _ _⟩
  · have hpos : 0 < n := by omega
    have hne : ¬ n = 0 := by omega
    by_cases h1 : n ≤ 256
    · go_enter Try.func28, Try.ntmps28
      go_wp2_with (go_at_call 61; refine (curByte B _ hc).mono ?_; rintro e w1 ⟨x, rfl, x0, x1, c1, g1⟩)
      go_ret
      exact ⟨_, rfl, Int.emod_nonneg _ hne, fun _ => Int.emod_lt_of_pos _ hpos, fun h => absurd h (by omega), c1, g1⟩
    · go_enter Try.func28, Try.ntmps28
      go_wp2_with fail
      refine (curByte B _ hc).mono ?_
      rintro e w1 ⟨x1, rfl, x10, x11, c1, g1⟩
      go_wp2_with fail
      refine (curByte B _ c1).mono ?_
      rintro e w2 ⟨x2, rfl, x20, x21, c2, g2⟩
      go_wp2_with fail
      refine (curByte B _ c2).mono ?_
      rintro e w3 ⟨x3, rfl, x30, x31, c3, g3⟩
      go_wp2_with fail
      refine (curByte B _ c3).mono ?_
      rintro e w4 ⟨x4, rfl, x40, x41, c4, g4⟩
      have g := grown_trans g1 (grown_trans g2 (grown_trans g3 g4))
      clear g1 g2 g3 g4 c1 c2 c3
      go_wp2
      go_ret
      exact ⟨_, rfl, Int.emod_nonneg _ hne, fun _ => Int.emod_lt_of_pos _ hpos, fun h => absurd h (by omega), c4, g⟩

set_option maxHeartbeats 1600000 in
theorem curNew_row (b off len cap : Nat) (zs : List Int) (w : World) (hlen : len ≤ 1048576) (hr : IsRow .u8 w (some ⟨b, off, none⟩) len cap zs) (hcell : ∀ j, j < len → w.cell? ⟨b, off + j, none⟩ = some (.int .u8 (zs.getD j 0))) (hb : b < w.heap.size) :
    Calls Try.prog 25 #[.slice (some ⟨b, off, none⟩) len cap] w fun e w' => e = .returned (.pointer (some ⟨w.heap.size, 0, none⟩)) ∧ CurAt w' w.heap.size ∧ Below w.heap.size w w' := by
  have fin : ∀ h : Int, CurAt (w.alloc (.cells #[.slice (some ⟨b, off, none⟩) len cap, .int .i64 0, .int .i64 h] 89)) w.heap.size ∧ Below w.heap.size w (w.alloc (.cells #[.slice (some ⟨b, off, none⟩) len cap, .int .i64 0, .int .i64 h] 89)) := by
    intro h
    have hB : Below w.heap.size w (w.alloc (.cells #[.slice (some ⟨b, off, none⟩) len cap, .int .i64 0, .int .i64 h] 89)) := (Below.refl _ _).alloc (Nat.le_refl _) _
    exact ⟨⟨_, len, cap, zs, 0, h, heap_alloc_new w _, hr.below hB, fun x hx _ => by cases hx; exact hb, Nat.zero_le _, hlen⟩, hB⟩
  clear hr
  go_enter Try.func25, Try.ntmps25
  go_wp2
  go_loop [3, 4] (fun t i => ∃ (k : Nat) (h : Int), k ≤ len ∧ i = .int .i64 k ∧ t = .int .i64 h) (fun _ i => len - (intOf i).toNat)
  case atStart => exact ⟨0, _, Nat.zero_le _, rfl, rfl⟩
  case round =>
    obtain ⟨k, h, hk, rfl, rfl⟩ := hrel
    by_cases hlt : k < len
    · by_cases h4 : (k : Int) < 4000
      · have hc := hcell k hlt
        go_wp2
        go_round
        case rel => exact ⟨k + 1, _, by omega, by go_num, rfl⟩
        case measure => simp [intOf]; omega
      · go_wp2
        go_ret
        exact ⟨rfl, fin _⟩
    · go_wp2
      go_ret
      exact ⟨rfl, fin _⟩

set_option maxHeartbeats 1600000 in
theorem curNew_empty (a : Option Addr) (cap : Nat) (zs : List Int) (w : World) (hr : IsRow .u8 w a 0 cap zs) (hb : ∀ x, a = some x → 0 < zs.length → x.block < w.heap.size) :
    Calls Try.prog 25 #[.slice a 0 cap] w fun e w' => e = .returned (.pointer (some ⟨w.heap.size, 0, none⟩)) ∧ CurAt w' w.heap.size ∧ Below w.heap.size w w' := by
  have fin : ∀ h : Int, CurAt (w.alloc (.cells #[.slice a 0 cap, .int .i64 0, .int .i64 h] 89)) w.heap.size ∧ Below w.heap.size w (w.alloc (.cells #[.slice a 0 cap, .int .i64 0, .int .i64 h] 89)) := by
    intro h
    have hB : Below w.heap.size w (w.alloc (.cells #[.slice a 0 cap, .int .i64 0, .int .i64 h] 89)) := (Below.refl _ _).alloc (Nat.le_refl _) _
    exact ⟨⟨_, 0, cap, zs, 0, h, heap_alloc_new w _, hr.below hB, hb, Nat.zero_le _, by omega⟩, hB⟩
  clear hr
  go_enter Try.func25, Try.ntmps25
  go_wp2
  refine wp_loop_rounds 1 ?_
  rw [rounds_succ]
  go_wp2
  go_ret
  exact ⟨rfl, fin _⟩

/-- What is known of the code that came in: it is a row, and lies in memory that was there. -/
def CodeIs (w : World) (a : Option Addr) (len cap : Nat) (zs : List Int) : Prop := IsRow .u8 w a len cap zs ∧ (∀ x, a = some x → 0 < zs.length → x.block < w.heap.size)
theorem CodeIs.below {w w' : World} {a : Option Addr} {len cap : Nat} {zs : List Int} (h : CodeIs w a len cap zs) (hb : Below w.heap.size w w') : CodeIs w' a len cap zs :=
  ⟨h.1.below hb, fun x hx hz => Nat.lt_of_lt_of_le (h.2 x hx hz) hb.size⟩

theorem code_of {w : World} {a : Option Addr} {len cap : Nat} {zs : List Int} (h : IsRow .u8 w a len cap zs) : CodeIs w a len cap zs := by
  refine ⟨h, fun x hx hz => ?_⟩
  rcases h with ⟨rfl, _⟩ | ⟨y, h1, h2, h3, h4, h5, h6⟩
  · cases hx
  · rw [h1] at hx
    cases hx
    have := block_lt_of_cell (h5 0 hz)
    rwa [add_block] at this

/-- l1New: a cursor in a new block. -/
theorem curNew (a : Option Addr) (len cap : Nat) (zs : List Int) (w : World) (hlen : len ≤ 1048576) (h : CodeIs w a len cap zs) :
    Calls Try.prog 25 #[.slice a len cap] w fun e w' => e = .returned (.pointer (some ⟨w.heap.size, 0, none⟩)) ∧ CurAt w' w.heap.size ∧ Below w.heap.size w w' := by
  obtain ⟨hr, hb⟩ := h
  by_cases h0 : len = 0
  · subst h0; exact curNew_empty a cap zs w hr hb
  · rcases hr with ⟨_, h, _, _⟩ | ⟨⟨b, off, spot⟩, rfl, h2, h3, h4, h5, h6⟩
    · exact absurd h h0
    · have hc := h5 0 (by omega)
      have hspot : spot = none := by simpa [Addr.add] using World.cell?_spot hc
      subst hspot
      refine curNew_row b off len cap zs w hlen (.inr ⟨_, rfl, h2, h3, h4, h5, h6⟩) (fun j hj => ?_) (hb _ rfl (by omega))
      have := h5 j (by omega)
      by_cases hj0 : j = 0
      · subst hj0; simpa [Addr.add] using this
      · simpa [Addr.add, hj0] using this

end Go.Proofs.Ytddakeohamefiaa

/- l1PickInt: one of the numbers of a list. -/
namespace Go.Proofs.Ytddakeohamefiaa
open Go.RowKit

set_option maxHeartbeats 1600000 in
theorem pickInt (B g n c : Nat) (xs : List Int) (w : World) (hc : CurAt w B) (hn : xs.length = n) (h0 : 0 < n) (h1 : n ≤ 4096) (hg : g ≠ B) (hcell : ∀ j, j < n → w.cell? ⟨g, j, none⟩ = some (.int .i64 (xs.getD j 0))) :
    Calls Try.prog 27 #[.pointer (some ⟨B, 0, none⟩), .slice (some ⟨g, 0, none⟩) n c] w fun e w' => ∃ x, e = .returned (.int .i64 x) ∧ x ∈ xs ∧ CurAt w' B ∧ w.grownBy w' (some B) := by
  go_enter Try.func27, Try.ntmps27
  go_wp2_with fail
  refine (curBelow B n w hc (by omega)).mono ?_
  rintro e w1 ⟨x, rfl, x0, x1, -, c1, g1⟩
  have x2 := x1 (by omega)
  obtain ⟨k, rfl⟩ := Int.eq_ofNat_of_zero_le x0
  have hk : k < n := by omega
  have hcc : w1.cell? ⟨g, k, none⟩ = some (.int .i64 (xs.getD k 0)) := g1.cell (hcell k hk) (by simpa using hg)
  have hmem : xs.getD k 0 ∈ xs := by
    rw [List.getD_eq_getElem?_getD, List.getElem?_eq_getElem (by omega : k < xs.length)]
    exact List.getElem_mem _
  obtain ⟨y, hy⟩ : ∃ y, xs.getD k 0 = y := ⟨_, rfl⟩
  rw [hy] at hcc hmem
  clear hy x1 hcell
  go_wp2
  go_ret
  exact ⟨_, rfl, hmem, c1, g1⟩

end Go.Proofs.Ytddakeohamefiaa

/- The draws of great numbers: l1Once, l2Right, l2Draw, each by its contract: what is handed out is a row of the call's own; of what was there the cursor alone turns. -/
namespace Go.Proofs.Ytddakeohamefiaa
open Go.RowKit

theorem lit_cells (w : World) (xs : List Int) (t : TypeId) : ∀ j, j < xs.length → (w.alloc (.cells (xs.map (Value.int .i64)).toArray t)).cell? ⟨w.heap.size, j, none⟩ = some (.int .i64 (xs.getD j 0)) := by
  intro j hj
  rw [cell_of_row _ _ j _ t (0, 0) (heap_alloc_new w _)]
  simp [List.getElem?_eq_getElem hj]
theorem grown_of {w w' : World} (h : Below w.heap.size w w') (row : Option Nat) : w.grownBy w' row := ⟨h.os, h.tape, h.output, h.size, fun k hk _ => h.block k hk⟩
theorem grown_then {a w w' : World} {row : Option Nat} (h : a.grownBy w row) (k : Below a.heap.size w w') : a.grownBy w' row :=
  ⟨k.os.trans h.os, k.tape.trans h.tape, k.output.trans h.output, Nat.le_trans h.size k.size, fun i hi hr => (k.block i hi).trans (h.block i hi hr)⟩
theorem grown_alloc {a w : World} {row : Option Nat} (h : a.grownBy w row) (o : Obj) : a.grownBy (w.alloc o) row :=
  grown_trans h (grown_of ((Below.refl _ _).alloc (Nat.le_refl _) o) row)
theorem ownsI.cur {w w' : World} {base B : Nat} {v : Value} {xs : List Int} (h : ownsI w base v xs) (hg : w.grownBy w' (some B)) (hB : B < base) : ownsI w' base v xs := by
  refine h.kept hg ?_
  cases hv : v.ownBlock with
  | none => exact .inl rfl
  | some k =>
    refine .inr fun e => ?_
    have := (World.ownsRow.lt h k hv).1
    cases e
    omega
theorem CurAt.alloc {w : World} {B : Nat} (h : CurAt w B) (o : Obj) : CurAt (w.alloc o) B := h.below ((Below.refl w.heap.size w).alloc (Nat.le_refl _) o) h.lt
theorem below_cur {a w w' : World} {B b : Nat} (h : Below b a w) (hg : w.grownBy w' (some B)) (hb : b ≤ B) (hs : b ≤ w.heap.size) : Below b a w' := h.grown hg hs (fun k hk => by cases hk; exact hb)

set_option maxHeartbeats 1600000 in
theorem drOnce (B : Nat) (n : Int) (w : World) (hc : CurAt w B) (hn : n ≤ 4294967296) :
    Calls Try.prog 47 #[.pointer (some ⟨B, 0, none⟩), .int .i64 n] w fun e w' => ∃ b : Bool, e = .returned (.bool b) ∧ CurAt w' B ∧ w.grownBy w' (some B) := by
  go_enter Try.func47, Try.ntmps47
  go_wp2_with fail
  refine (curBelow B n w hc hn).mono ?_
  rintro e w1 ⟨x, rfl, x0, -, -, c1, g1⟩
  go_wp2
  go_ret
  exact ⟨_, rfl, c1, g1⟩

def rightList : List Int := [0, 1, 1, 2, 3, 5, 9, 24, 47, 48]
theorem rightList_bd {n : Int} (h : n ∈ rightList) : 0 ≤ n ∧ n ≤ 48 := by
  simp [rightList] at h
  omega

set_option maxRecDepth 20000 in
set_option maxHeartbeats 3200000 in
theorem drRight (B : Nat) (w : World) (hc : CurAt w B) :
    Calls Try.prog 110 #[.pointer (some ⟨B, 0, none⟩)] w fun e w' => ∃ v xs, e = .returned v ∧ ownsI w' w.heap.size v xs ∧ xs.length ≤ 48 ∧ okB xs = true ∧ CurAt w' B ∧ w.grownBy w' (some B) := by
  have hB := hc.lt
  go_enter Try.func110, Try.ntmps110
  go_wp2_with fail
  refine (pickInt B w.heap.size 10 10 rightList _ (hc.alloc _) rfl (by omega) (by omega) (by omega) (lit_cells w rightList 3)).mono ?_
  rintro e w1 ⟨n, rfl, hn, c1, g1⟩
  obtain ⟨n0, n1⟩ := rightList_bd hn
  have G1 : w.grownBy w1 (some B) := grown_trans (grown_of ((Below.refl _ _).alloc (Nat.le_refl _) _) _) g1
  have o1 : ownsI (w1.alloc (.cells #[] 3)) w.heap.size (.slice (some ⟨w1.heap.size, 0, none⟩) 0 0) [] := ownsI_mono (made_own w1) G1.size
  have c1' := c1.alloc (.cells #[] 3)
  have G1' := grown_alloc G1 (.cells #[] 3)
  obtain ⟨m, rfl⟩ := Int.eq_ofNat_of_zero_le n0
  clear hn g1 G1 c1 n0 hc
  go_wp2
  go_loopw [4, 5] (fun v i wr => ∃ (j : Nat) (zs : List Int), j ≤ m ∧ i = .int .i64 j ∧ zs.length = j ∧ inR zs ∧ ownsI wr w.heap.size v zs ∧ CurAt wr B ∧ w.grownBy wr (some B)) (fun _ i _ => m - (intOf i).toNat)
  case atStart => exact ⟨0, [], Nat.zero_le _, rfl, rfl, inR_nil, o1, c1', G1'⟩
  case round =>
    obtain ⟨j, zs, hj, rfl, hzl, hzR, hown, hcur, hgr⟩ := hrel
    clear o1 c1' G1'
    by_cases hlt : j < m
    · have hlt' : (j : Int) < (m : Int) := by omega
      go_wp2_with fail
      refine (curBelow B 16777216 wr hcur (by omega)).mono ?_
      rintro e w2 ⟨x, rfl, x0, x1, -, c2, g2⟩
      have x1' := x1 (by omega)
      have o2 := hown.cur g2 hB
      have G2 := grown_trans hgr g2
      clear x1 hown hcur hgr g2
      go_wp2_with fail
      refine (curBelow B 16777216 w2 c2 (by omega)).mono ?_
      rintro e w3 ⟨y, rfl, y0, y1, -, c3, g3⟩
      have y1' := y1 (by omega)
      have o3 := o2.cur g3 hB
      have G3 := grown_trans G2 g3
      clear y1 o2 c2 G2 g3
      have hlit := lit_cells w3 [0, 1, x, 16777215, y] 3
      have hs3 := G3.size
      go_wp2_with fail
      refine (pickInt B w3.heap.size 5 5 [0, 1, x, 16777215, y] _ (c3.alloc _) rfl (by omega) (by omega) (by omega) hlit).mono ?_
      rintro e w4 ⟨z, rfl, hz, c4, g4⟩
      have hz' : 0 ≤ z ∧ z < 16777216 := by simp at hz; omega
      have o4 := (o3.below ((Below.refl w3.heap.size w3).alloc (Nat.le_refl _) _) (Nat.le_refl _)).cur g4 hB
      have G4 := grown_trans (grown_alloc G3 _) g4
      have hs4 := G4.size
      have hzl' : zs.length ≤ 1099511627776 := by omega
      clear hz hlit o3 c3 G3 g4
      go_wp2_with (at_builtin; refine wpI_app w4 w4 rfl (.tmp 15) (.tmp 23) rfl w.heap.size _ zs z rfl o4 (Below.refl _ _) rfl hzl' hs4 ?_; intro v5 w5 o5 b5)
      go_roundw
      case rel => exact ⟨j + 1, zs ++ [z], by omega, by go_num, by rw [List.length_append, List.length_singleton, hzl], inR_append.2 ⟨hzR, inR_cons.2 ⟨hz', inR_nil⟩⟩, o5, c4.below b5 hB, grown_then G4 b5⟩
      case measure => simp [intOf]; omega
    · have hlt' : ¬ (j : Int) < (m : Int) := by omega
      have kt := sTrim _ _ wr hown.row hzR (by omega)
      have hlen : (limbs (num zs)).length ≤ 48 := by
        refine Nat.le_trans (limbs_len_le (num zs) zs.length ?_) (by omega)
        have h1 := lval_lt hzR
        have h2 := num_val hzR
        have e : ((16777216 ^ zs.length : Nat) : Int) = (16777216 : Int) ^ zs.length := by simp
        omega
      have HOK : Hid (okB (limbs (num zs)) = true) := okB_yes (okL_limbs hlen)
      have hsz := hgr.size
      go_wp2_with fail
      refine kt.mono ?_
      rintro e w2 ⟨v1, rfl, o1, b1⟩
      go_wp2
      go_ret
      exact ⟨_, _, rfl, ownsI_mono o1 hsz, hlen, HOK.out, hcur.below b1 (Nat.lt_of_lt_of_le hB hsz), grown_then hgr (b1.mono hsz)⟩

end Go.Proofs.Ytddakeohamefiaa

/- l2Draw by its contract: a row of the call's own, of at most 49 numbers. -/
namespace Go.Proofs.Ytddakeohamefiaa
open Go.RowKit

/-- What a draw of a row hands out. -/
def DrawnI (w : World) (B : Nat) (e : Ending) (w' : World) : Prop := ∃ v xs, e = .returned v ∧ ownsI w' w.heap.size v xs ∧ xs.length ≤ 49 ∧ CurAt w' B ∧ w.grownBy w' (some B)
theorem DrawnI.mk {w w' : World} {B : Nat} {v : Value} {xs : List Int} (h1 : ownsI w' w.heap.size v xs) (h2 : xs.length ≤ 49) (h3 : CurAt w' B) (h4 : w.grownBy w' (some B)) : DrawnI w B (.returned v) w' := ⟨v, xs, rfl, h1, h2, h3, h4⟩

set_option maxRecDepth 20000 in
set_option maxHeartbeats 3200000 in
theorem drDraw (B : Nat) (w : World) (hc : CurAt w B) :
    Calls Try.prog 91 #[.pointer (some ⟨B, 0, none⟩)] w (DrawnI w B) := by
  have hB := hc.lt
  go_enter Try.func91, Try.ntmps91
  go_wp2_with fail
  refine (drRight B w hc).mono ?_
  rintro e w1 ⟨v, xs, rfl, o1, l1, -, c1, g1⟩
  go_wp2_with fail
  refine (curBelow B 14 w1 c1 (by omega)).mono ?_
  rintro e w2 ⟨x, rfl, x0, -, -, c2, g2⟩
  have o2 := o1.cur g2 hB
  have G2 := grown_trans g1 g2
  have hs2 := G2.size
  have l1' : xs.length ≤ 1099511627776 := by omega
  clear o1 c1 g1 g2 hc
  by_cases h0 : x = 0
  · subst h0
    clear x0
    go_wp2_with (at_builtin; refine wpI_app w2 w2 rfl (.tmp 10) (.tmp 11) rfl w.heap.size _ xs 0 rfl o2 (Below.refl _ _) rfl l1' hs2 ?_; intro v3 w3 o3 b3)
    go_ret
    exact DrawnI.mk o3 (by rw [List.length_append, List.length_singleton]; omega) (c2.below b3 hB) (grown_then G2 b3)
  · by_cases h1 : x = 1
    · subst h1
      clear x0
      go_wp2_with (at_builtin; refine wpI_app w2 w2 rfl (.tmp 15) (.tmp 16) rfl w.heap.size _ xs 16777216 rfl o2 (Below.refl _ _) rfl l1' hs2 ?_; intro v3 w3 o3 b3)
      go_ret
      exact DrawnI.mk o3 (by rw [List.length_append, List.length_singleton]; omega) (c2.below b3 hB) (grown_then G2 b3)
    · by_cases h2 : x = 2
      · subst h2
        clear x0
        go_wp2_with (at_builtin; refine wpI_app w2 w2 rfl (.tmp 20) (.tmp 21) rfl w.heap.size _ xs (-1) rfl o2 (Below.refl _ _) rfl l1' hs2 ?_; intro v3 w3 o3 b3)
        go_ret
        exact DrawnI.mk o3 (by rw [List.length_append, List.length_singleton]; omega) (c2.below b3 hB) (grown_then G2 b3)
      · by_cases h3 : x = 3
        · subst h3
          clear x0
          obtain ⟨ad, cp, rfl, -⟩ := o2.row
          go_wp2_with fail
          go_loopw [3] (fun v wr => ∃ (zs : List Int) (ad : Option Addr) (cp : Nat), v = .slice ad zs.length cp ∧ zs.length ≤ 49 ∧ ownsI wr w.heap.size v zs ∧ Below w.heap.size w2 wr) (fun v _ => 49 - (match v with | .slice _ n _ => n | _ => 0))
          case atStart => exact ⟨xs, ad, cp, rfl, by omega, o2, Below.refl _ _⟩
          case round =>
            obtain ⟨zs, ad', cp', rfl, hl, hown, hbw⟩ := hrel
            have hsw : w.heap.size ≤ wr.heap.size := Nat.le_trans hs2 hbw.size
            have hl' : zs.length ≤ 1099511627776 := by omega
            clear o2
            by_cases hlt : zs.length < 49
            · have hlt' : (zs.length : Int) < 49 := by omega
              go_wp2_with (at_builtin; refine wpI_app w2 wr rfl (.tmp 28) (.tmp 29) rfl w.heap.size _ zs 1 rfl hown hbw rfl hl' hsw ?_; intro v3 w3 o3 b3)
              obtain ⟨ad3, cp3, rfl, -⟩ := o3.row
              go_roundw
              case rel => exact ⟨zs ++ [1], ad3, cp3, rfl, by rw [List.length_append, List.length_singleton]; omega, o3, b3⟩
              case measure => simp [List.length_append]; omega
            · have hlt' : ¬ (zs.length : Int) < 49 := by omega
              go_wp2
              go_ret
              exact DrawnI.mk hown hl (c2.below hbw hB) (grown_then G2 hbw)
        · have e0 : (x == 0) = false := beq_eq_false_iff_ne.2 h0
          have e1 : (x == 1) = false := beq_eq_false_iff_ne.2 h1
          have e2 : (x == 2) = false := beq_eq_false_iff_ne.2 h2
          have e3 : (x == 3) = false := beq_eq_false_iff_ne.2 h3
          go_wp2
          go_ret
          exact DrawnI.mk o2 (by omega) c2 G2

end Go.Proofs.Ytddakeohamefiaa

/- The draws of numbers with a sign: l5Modes, l4Right, l4Draw, l5Int, each by its contract. -/
namespace Go.Proofs.Ytddakeohamefiaa
open Go.RowKit
set_option linter.unusedSimpArgs false

/-- What a draw of a number with a sign hands out. -/
def DrawnW (w : World) (B : Nat) (e : Ending) (w' : World) : Prop := ∃ v a, e = .returned v ∧ ownsW w' w.heap.size v a ∧ a.2.length ≤ 98 ∧ CurAt w' B ∧ w.grownBy w' (some B)
theorem BoxW.cur {w w' : World} {base b B : Nat} {x y : Value} (h : BoxW w base b x y) (hg : w.grownBy w' (some B)) (hne : B < b) : BoxW w' base b x y :=
  h.tn (Tn.of_grown hg) (fun k hk hs => by simp at hk hs; omega)
theorem drFin {w w5 : World} {B : Nat} (g : Bool) {v : Value} {l : List Int} (q5 : ownsI w5 (w.heap.size + 1) v l) (c5 : CurAt w5 B) (G5 : w.grownBy w5 (some B)) (hB : B < w.heap.size) (hl : l.length ≤ 98) :
    DrawnW w B (.returned (.agg #[.bool g, v])) ((w5.setCell ⟨w.heap.size, 0, none⟩ (.bool g)).setCell ⟨w.heap.size, 1, none⟩ v) := by
  have o4 := ownsRow_setCell_below (a := ⟨w.heap.size, 0, none⟩) q5 (by show w.heap.size < w.heap.size + 1; omega) (.bool g)
  have o5 := ownsRow_setCell_below (a := ⟨w.heap.size, 1, none⟩) o4 (by show w.heap.size < w.heap.size + 1; omega) v
  have bb : Below w.heap.size w5 ((w5.setCell ⟨w.heap.size, 0, none⟩ (.bool g)).setCell ⟨w.heap.size, 1, none⟩ v) := ((Below.refl _ _).setCell (p := ⟨w.heap.size, 0, none⟩) (Nat.le_refl _) _).setCell (p := ⟨w.heap.size, 1, none⟩) (Nat.le_refl _) _
  exact ⟨_, (g, l), rfl, ⟨_, rfl, ownsRow_mono o5 (by omega)⟩, hl, c5.below bb hB, grown_then G5 bb⟩
theorem ownsI.set {w : World} {base : Nat} {v : Value} {l : List Int} (q : ownsI w base v l) (b j : Nat) (hb : b < base) (x : Value) : ownsI (w.setCell ⟨b, j, none⟩ x) base v l := ownsRow_setCell_below (a := ⟨b, j, none⟩) q hb x
theorem CurAt.set {w : World} {B : Nat} (h : CurAt w B) (b j : Nat) (hb : B < b) (x : Value) : CurAt (w.setCell ⟨b, j, none⟩ x) B := h.below ((Below.refl b w).setCell (p := ⟨b, j, none⟩) (Nat.le_refl _) x) hb
theorem grown_put {a w : World} {row : Option Nat} (h : a.grownBy w row) (b j : Nat) (hb : a.heap.size ≤ b) (x : Value) : a.grownBy (w.setCell ⟨b, j, none⟩ x) row := grown_then h ((Below.refl a.heap.size w).setCell (p := ⟨b, j, none⟩) hb x)

def magList : List Int := [0, 1, 2, 3, 255, 256, 1000000, 9223372036854775807]
theorem magList_bd {n : Int} (h : n ∈ magList) : 0 ≤ n ∧ n ≤ 9223372036854775807 := by
  simp [magList] at h
  omega

set_option maxRecDepth 20000 in
set_option maxHeartbeats 3200000 in
theorem drWRight (B : Nat) (w : World) (hc : CurAt w B) :
    Calls Try.prog 90 #[.pointer (some ⟨B, 0, none⟩)] w (DrawnW w B) := by
  have hB := hc.lt
  have X0 := BoxW.made w (.bool false) (.slice none 0 0) 26
  have s0 : (w.alloc (.cells #[.bool false, .slice none 0 0] 26)).heap.size = w.heap.size + 1 := by simp
  have G0 : w.grownBy (w.alloc (.cells #[.bool false, .slice none 0 0] 26)) (some B) := grown_of (below1 w _) _
  have c0 := hc.alloc (.cells #[.bool false, .slice none 0 0] 26)
  clear hc
  go_enter Try.func90, Try.ntmps90
  go_wp2_with fail
  generalize w.alloc (.cells #[.bool false, .slice none 0 0] 26) = w0 at *
  refine (drRight B w0 c0).mono ?_
  rintro e w1 ⟨v1, xs, rfl, o1, l1, k1, c1, g1⟩
  have X1 := X0.cur g1 hB
  have G1 := grown_trans G0 g1
  rw [s0] at o1
  have hz1 : w.heap.size + 1 ≤ w1.heap.size := by have := g1.size; omega
  rw [show xs = limbs (num xs) from okL_eq ((okB_iff xs).1 k1)] at o1 l1
  generalize num xs = m at *
  clear c0 X0 G0 g1 k1 s0
  go_wp2_with fail
  refine (drOnce B 3 w1 c1 (by omega)).mono ?_
  rintro e w2 ⟨t, rfl, c2, g2⟩
  have X2 := X1.cur g2 hB
  have G2 := grown_trans G1 g2
  have o2 := o1.cur g2 (by omega)
  have hz2 : w.heap.size + 1 ≤ w2.heap.size := by have := g2.size; omega
  clear c1 X1 G1 g2 o1 hz1
  have REST : ∀ (W : World) (m : Nat) (v : Value), ownsI W (w.heap.size + 1) v (limbs m) → (limbs m).length ≤ 48 → CurAt W B → w.grownBy W (some B) → BoxW W w.heap.size w.heap.size (.bool false) (.slice none 0 0) → w.heap.size + 1 ≤ W.heap.size → True := fun _ _ _ _ _ _ _ _ _ => trivial
  clear REST
  cases t
  · go_wp2_with fail
    refine (drOnce B 2 w2 c2 (by omega)).mono ?_
    rintro e w5 ⟨t5, rfl, c5, g5⟩
    have X5 := X2.cur g5 hB
    have G5 := grown_trans G2 g5
    have o5 := o2.cur g5 (by omega)
    have hz5 : w.heap.size + 1 ≤ w5.heap.size := by have := g5.size; omega
    have kM := sMake t5 _ m _ w5 o5 (by omega)
    clear c2 X2 G2 g5 o2
    go_wp2_with fail
    refine kM.mono ?_
    rintro e w6 ⟨v6, rfl, o6, b6⟩
    have X6 := X5.below b6 (Nat.le_refl _)
    have G6 := grown_then G5 (b6.mono (by omega))
    have c6 := c5.below b6 (by omega)
    have hl6 : (mkW (if t5 = true then -(m : Int) else (m : Int))).2.length ≤ 98 := by
      rw [mkW_sign]
      show (limbs m).length ≤ 98
      omega
    generalize mkW (if t5 = true then -(m : Int) else (m : Int)) = r at *
    obtain ⟨rg, rl⟩ := r
    obtain ⟨s6, rfl, q6⟩ := o6
    obtain ⟨ad6, cp6, rfl, -⟩ := q6.row
    have HD : Hid (DrawnW w B (.returned (.agg #[.bool rg, .slice ad6 rl.length cp6])) _) := drFin rg q6 c6 G6 hB hl6
    have d0 := X6.c0
    have d1 := X6.c1
    have f0 := X6.f0
    have f1 := X6.f1
    clear q6 c6 G6 X5 X6 G5 c5 b6 kM o5
    go_wp2
    (try simp only [Exit.inBlock, Exit.then])
    refine bodyPost_ret (v := .agg #[.bool rg, .slice ad6 rl.length cp6]) ?_ rfl HD.out
    rw [results_cell1 rfl]
    go_simp
  · go_wp2_with fail
    refine (pickInt B w2.heap.size 8 8 magList _ (c2.alloc _) rfl (by omega) (by omega) (by omega) (lit_cells w2 magList 3)).mono ?_
    rintro e w3 ⟨n, rfl, hn, c3, g3⟩
    obtain ⟨n0, n1⟩ := magList_bd hn
    have X3 := (X2.below (below1 w2 _) (Nat.le_refl _)).cur g3 hB
    have G3 := grown_trans (grown_alloc G2 _) g3
    have hz3 : w.heap.size + 1 ≤ w3.heap.size := by have h := g3.size; simp at h; omega
    obtain ⟨k, rfl⟩ := Int.eq_ofNat_of_zero_le n0
    have kO := sNatOf (k : Int) w3 (by omega)
    have hR : ofR (k : Int) = (limbs k, true) := by unfold ofR; rw [if_neg (by omega)]; simp
    rw [hR] at kO
    have lk := limbs_len3 (n := k) (by omega)
    clear c2 X2 G2 o2 hn g3 hR
    go_wp2_with fail
    refine kO.mono ?_
    rintro e w4 ⟨v4, rfl, o4, b4⟩
    have X4 := X3.below b4 (Nat.le_refl _)
    have G4 := grown_then G3 (b4.mono (by omega))
    have c4 := c3.below b4 (by omega)
    have o4 := ownsI_mono o4 hz3
    have hz4 : w.heap.size + 1 ≤ w4.heap.size := by have := b4.size; omega
    have lk' : (limbs k).length ≤ 48 := by omega
    clear kO b4 X3 G3 c3 hz3
    go_wp2_with fail
    refine (drOnce B 2 w4 c4 (by omega)).mono ?_
    rintro e w5 ⟨t5, rfl, c5, g5⟩
    have X5 := X4.cur g5 hB
    have G5 := grown_trans G4 g5
    have o5 := o4.cur g5 (by omega)
    have hz5 : w.heap.size + 1 ≤ w5.heap.size := by have := g5.size; omega
    have kM := sMake t5 _ k _ w5 o5 (by omega)
    clear c4 X4 G4 g5 o4
    go_wp2_with fail
    refine kM.mono ?_
    rintro e w6 ⟨v6, rfl, o6, b6⟩
    have X6 := X5.below b6 (Nat.le_refl _)
    have G6 := grown_then G5 (b6.mono (by omega))
    have c6 := c5.below b6 (by omega)
    have hl6 : (mkW (if t5 = true then -(k : Int) else (k : Int))).2.length ≤ 98 := by
      rw [mkW_sign]
      show (limbs k).length ≤ 98
      omega
    generalize mkW (if t5 = true then -(k : Int) else (k : Int)) = r at *
    obtain ⟨rg, rl⟩ := r
    obtain ⟨s6, rfl, q6⟩ := o6
    obtain ⟨ad6, cp6, rfl, -⟩ := q6.row
    have HD : Hid (DrawnW w B (.returned (.agg #[.bool rg, .slice ad6 rl.length cp6])) _) := drFin rg q6 c6 G6 hB hl6
    have d0 := X6.c0
    have d1 := X6.c1
    have f0 := X6.f0
    have f1 := X6.f1
    clear q6 c6 G6 X5 X6 G5 c5 b6 kM o5
    go_wp2
    (try simp only [Exit.inBlock, Exit.then])
    refine bodyPost_ret (v := .agg #[.bool rg, .slice ad6 rl.length cp6]) ?_ rfl HD.out
    rw [results_cell1 rfl]
    go_simp

theorem tn_two (w : World) (b : Nat) (x y : Value) : Tn [b] w ((w.setCell ⟨b, 0, none⟩ x).setCell ⟨b, 1, none⟩ y) :=
  ⟨rfl, rfl, rfl, by simp [World.setCell], fun k _ hn => by
    have h1 : k ≠ b := fun e => hn (by simp [e])
    rw [Below.heap_setCell _ _ _ _ h1, Below.heap_setCell _ _ _ _ h1]⟩

set_option maxRecDepth 20000 in
set_option maxHeartbeats 3200000 in
theorem drWDraw (B : Nat) (w : World) (hc : CurAt w B) :
    Calls Try.prog 60 #[.pointer (some ⟨B, 0, none⟩)] w (DrawnW w B) := by
  have hB := hc.lt
  have X0 := BoxW.made w (.bool false) (.slice none 0 0) 26
  have s0 : (w.alloc (.cells #[.bool false, .slice none 0 0] 26)).heap.size = w.heap.size + 1 := by simp
  have G0 : w.grownBy (w.alloc (.cells #[.bool false, .slice none 0 0] 26)) (some B) := grown_of (below1 w _) _
  have c0 := hc.alloc (.cells #[.bool false, .slice none 0 0] 26)
  clear hc
  go_enter Try.func60, Try.ntmps60
  go_wp2_with fail
  generalize w.alloc (.cells #[.bool false, .slice none 0 0] 26) = w0 at *
  refine (drWRight B w0 c0).mono ?_
  rintro e w1 ⟨v1, a1, rfl, o1, l1, c1, g1⟩
  have X1 := X0.cur g1 hB
  have G1 := grown_trans G0 g1
  rw [s0] at o1
  have hz1 : w.heap.size + 1 ≤ w1.heap.size := by have := g1.size; omega
  obtain ⟨g, xs⟩ := a1
  obtain ⟨s1, rfl, q1⟩ := o1
  obtain ⟨ad, cp, rfl, -⟩ := q1.row
  have A1 := BoxW.made w1 (.bool g) (.slice ad xs.length cp) 26
  have bb := below1 w1 (.cells #[.bool g, .slice ad xs.length cp] 26)
  have X2 := X1.below bb (Nat.le_refl _)
  have q2 := ownsI.below q1 bb (Nat.le_refl _)
  have G2 := grown_alloc G1 (.cells #[.bool g, .slice ad xs.length cp] 26)
  have c2 := c1.alloc (.cells #[.bool g, .slice ad xs.length cp] 26)
  have s2 : (w1.alloc (.cells #[.bool g, .slice ad xs.length cp] 26)).heap.size = w1.heap.size + 1 := by simp
  clear c0 X0 G0 g1 s0 X1 q1 G1 bb c1
  go_wp2_with fail
  generalize w1.alloc (.cells #[.bool g, .slice ad xs.length cp] 26) = w2 at *
  refine (curBelow B 14 w2 c2 (by omega)).mono ?_
  rintro e w3 ⟨x, rfl, x0, -, -, c3, g3⟩
  have X3 := X2.cur g3 hB
  have A3 := A1.cur g3 (by omega)
  have G3 := grown_trans G2 g3
  have q3 := q2.cur g3 (by omega)
  have hz3 : w1.heap.size + 1 ≤ w3.heap.size := by have := g3.size; omega
  have hl98 : xs.length ≤ 98 := l1
  clear c2 X2 A1 G2 g3 q2 s2 l1
  have hne : ¬ w.heap.size = w1.heap.size := by omega
  have hne' : ¬ w1.heap.size = w.heap.size := by omega
  by_cases h0 : x = 0
  · subst h0
    clear x0
    go_wp2_with fail
    refine (drDraw B w3 c3).mono ?_
    rintro e w4 ⟨v4, ys, rfl, o4, l4, c4, g4⟩
    obtain ⟨ad4, cp4, rfl, -⟩ := o4.row
    have X4 := X3.cur g4 hB
    have A4 := A3.cur g4 (by omega)
    have G4 := grown_trans G3 g4
    have X5 : BoxW (w4.setCell ⟨w1.heap.size, 1, none⟩ (.slice ad4 ys.length cp4)) w.heap.size w.heap.size (.bool false) (.slice none 0 0) := X4.tn ⟨rfl, rfl, rfl, by simp, fun k _ hk => Below.heap_setCell w4 ⟨w1.heap.size, 1, none⟩ (.slice ad4 ys.length cp4) k (fun e => hk (List.mem_singleton.2 e))⟩ (fun k hk hs => by simp at hk hs; omega)
    have HD : Hid (DrawnW w B (.returned (.agg #[.bool g, (.slice ad4 ys.length cp4)])) _) := drFin g (ownsI_mono (o4.set w1.heap.size 1 (by omega) (.slice ad4 ys.length cp4)) (show w.heap.size + 1 ≤ w3.heap.size by omega)) (c4.set w1.heap.size 1 (by omega) (.slice ad4 ys.length cp4)) (grown_put G4 w1.heap.size 1 (by omega) (.slice ad4 ys.length cp4)) hB (by omega)
    have a0 := A4.c0
    have a1 := A4.c1
    have af1 := A4.f1
    have d0 := X5.c0
    have d1 := X5.c1
    have f0 := X5.f0
    have f1 := X5.f1
    have e0 := X4.c0
    have e1 := X4.c1
    have ef0 := X4.f0
    have ef1 := X4.f1
    clear X4 A4 G4 X5 g4 c4 o4 X3 A3 G3 c3 q3
    go_wp2
    (try simp only [Exit.inBlock, Exit.then])
    refine bodyPost_ret (v := .agg #[.bool g, (.slice ad4 ys.length cp4)]) ?_ rfl HD.out
    rw [results_cell1 rfl]
    go_simp
  · by_cases h1 : x = 1
    · subst h1
      clear x0
      have X5 : BoxW ((w3.setCell ⟨w1.heap.size, 0, none⟩ (.bool true)).setCell ⟨w1.heap.size, 1, none⟩ (.slice none 0 0)) w.heap.size w.heap.size (.bool false) (.slice none 0 0) := X3.tn (tn_two w3 w1.heap.size (.bool true) (.slice none 0 0)) (fun k hk hs => by simp at hk hs; omega)
      have HD : Hid (DrawnW w B (.returned (.agg #[.bool true, .slice none 0 0])) _) := drFin (l := []) true (World.ownsRow_nil _ _ _ _) ((c3.set w1.heap.size 0 (by omega) (.bool true)).set w1.heap.size 1 (by omega) (.slice none 0 0)) (grown_put (grown_put G3 w1.heap.size 0 (by omega) (.bool true)) w1.heap.size 1 (by omega) (.slice none 0 0)) hB (by simp)
      have a0 := A3.c0
      have a1 := A3.c1
      have af0 := A3.f0
      have af1 := A3.f1
      have d0 := X5.c0
      have d1 := X5.c1
      have f0 := X5.f0
      have f1 := X5.f1
      have e0 := X3.c0
      have e1 := X3.c1
      have ef0 := X3.f0
      have ef1 := X3.f1
      clear X5 X3 A3 G3 c3 q3
      go_wp2
      (try simp only [Exit.inBlock, Exit.then])
      refine bodyPost_ret (v := .agg #[.bool true, .slice none 0 0]) ?_ rfl HD.out
      rw [results_cell1 rfl]
      go_simp
    · have e0 : (x == 0) = false := beq_eq_false_iff_ne.2 h0
      have e1 : (x == 1) = false := beq_eq_false_iff_ne.2 h1
      have HD : Hid (DrawnW w B (.returned (.agg #[.bool g, .slice ad xs.length cp])) _) := drFin g q3 c3 G3 hB hl98
      have a0 := A3.c0
      have a1 := A3.c1
      have d0 := X3.c0
      have d1 := X3.c1
      have f0 := X3.f0
      have f1 := X3.f1
      clear X3 A3 G3 c3 q3
      go_wp2
      (try simp only [Exit.inBlock, Exit.then])
      refine bodyPost_ret (v := .agg #[.bool g, .slice ad xs.length cp]) ?_ rfl HD.out
      rw [results_cell1 rfl]
      go_simp

end Go.Proofs.Ytddakeohamefiaa

/- l1PickInt of a row of whichever numbers, by its contract. -/
namespace Go.Proofs.Ytddakeohamefiaa
open Go.RowKit

/-- Whether a value is a whole number. -/
def isI : Value → Bool
  | .int .i64 _ => true
  | _ => false
def intI : Value → Int
  | .int .i64 x => x
  | _ => 0
theorem isI_eq {v : Value} (h : isI v = true) : v = .int .i64 (intI v) := by
  unfold isI at h
  split at h
  · rfl
  · cases h
/-- l1PickInt of a row of whichever numbers. -/
theorem pickAny (B g n c : Nat) (cs : Array Value) (t : TypeId) (w : World) (hc : CurAt w B) (hg : g ≠ B) (hh : w.heap[g]? = some (.cells cs t (0, 0))) (hn : cs.size = n) (ha : cs.toList.all isI = true) (h0 : 0 < n) (h1 : n ≤ 4096) :
    Calls Try.prog 27 #[.pointer (some ⟨B, 0, none⟩), .slice (some ⟨g, 0, none⟩) n c] w fun e w' => ∃ x, e = .returned (.int .i64 x) ∧ CurAt w' B ∧ w.grownBy w' (some B) := by
  refine (pickInt B g n c (cs.toList.map intI) w hc (by simp [hn]) h0 h1 hg ?_).mono ?_
  · intro j hj
    have hj' : j < cs.size := by omega
    rw [cell_of_row w g j cs t (0, 0) hh, Array.getElem?_eq_getElem hj']
    have hm : cs[j] ∈ cs.toList := by simp
    have := isI_eq (List.all_eq_true.1 ha _ hm)
    rw [List.getD_eq_getElem?_getD, List.getElem?_map]
    have e : cs.toList[j]? = some cs[j] := by simp [hj']
    rw [e]
    simp
    exact this
  · rintro e w' ⟨x, hx, -, hc', hg'⟩
    exact ⟨x, hx, hc', hg'⟩

end Go.Proofs.Ytddakeohamefiaa

/- The draws of what is held between two numbers: l10Right, l10Draw, DrawIvMove, each by its contract. -/
namespace Go.Proofs.Ytddakeohamefiaa
open Go.RowKit
set_option linter.unusedSimpArgs false

/-- What a draw of a number with a sign hands out, the number said. -/
def DrawnWk (w : World) (B : Nat) (e : Ending) (w' : World) : Prop := ∃ v z, e = .returned v ∧ ownsW w' w.heap.size v (mkW z) ∧ (limbs z.natAbs).length ≤ 48 ∧ CurAt w' B ∧ w.grownBy w' (some B)
/-- What a draw of what is held hands out. -/
def DrawnV (w : World) (B : Nat) (e : Ending) (w' : World) : Prop := ∃ s t g h xs ys, e = .returned (.agg #[.bool g, s, .bool h, t]) ∧ ownsI w' (w.heap.size + 1) s xs ∧ ownsI w' (w.heap.size + 1) t ys ∧ xs.length ≤ 98 ∧ ys.length ≤ 98 ∧ CurAt w' B ∧ w.grownBy w' (some B)
theorem drFinK {w w5 : World} {B : Nat} (z : Int) (g : Bool) {v : Value} {l : List Int} (hm : mkW z = (g, l)) (q5 : ownsI w5 (w.heap.size + 1) v l) (c5 : CurAt w5 B) (G5 : w.grownBy w5 (some B)) (hB : B < w.heap.size) (hl : (limbs z.natAbs).length ≤ 48) :
    DrawnWk w B (.returned (.agg #[.bool g, v])) ((w5.setCell ⟨w.heap.size, 0, none⟩ (.bool g)).setCell ⟨w.heap.size, 1, none⟩ v) := by
  have o4 := ownsRow_setCell_below (a := ⟨w.heap.size, 0, none⟩) q5 (by show w.heap.size < w.heap.size + 1; omega) (.bool g)
  have o5 := ownsRow_setCell_below (a := ⟨w.heap.size, 1, none⟩) o4 (by show w.heap.size < w.heap.size + 1; omega) v
  have bb : Below w.heap.size w5 ((w5.setCell ⟨w.heap.size, 0, none⟩ (.bool g)).setCell ⟨w.heap.size, 1, none⟩ v) := ((Below.refl _ _).setCell (p := ⟨w.heap.size, 0, none⟩) (Nat.le_refl _) _).setCell (p := ⟨w.heap.size, 1, none⟩) (Nat.le_refl _) _
  exact ⟨_, z, rfl, by rw [hm]; exact ⟨_, rfl, ownsRow_mono o5 (by omega)⟩, hl, c5.below bb hB, grown_then G5 bb⟩
theorem drFinV {w w5 : World} {B : Nat} (g h : Bool) {s t : Value} (xs ys : List Int) (q : ownsI w5 (w.heap.size + 1) s xs) (q' : ownsI w5 (w.heap.size + 1) t ys) (c5 : CurAt w5 B) (G5 : w.grownBy w5 (some B)) (hB : B < w.heap.size) (hx : xs.length ≤ 98) (hy : ys.length ≤ 98) :
    DrawnV w B (.returned (.agg #[.bool g, s, .bool h, t])) ((((w5.setCell ⟨w.heap.size, 0, none⟩ (.bool g)).setCell ⟨w.heap.size, 1, none⟩ s).setCell ⟨w.heap.size, 2, none⟩ (.bool h)).setCell ⟨w.heap.size, 3, none⟩ t) :=
  ⟨s, t, g, h, xs, ys, rfl, (((q.set _ 0 (Nat.lt_succ_self _) _).set _ 1 (Nat.lt_succ_self _) _).set _ 2 (Nat.lt_succ_self _) _).set _ 3 (Nat.lt_succ_self _) _, (((q'.set _ 0 (Nat.lt_succ_self _) _).set _ 1 (Nat.lt_succ_self _) _).set _ 2 (Nat.lt_succ_self _) _).set _ 3 (Nat.lt_succ_self _) _, hx, hy,
    (((c5.set _ 0 hB _).set _ 1 hB _).set _ 2 hB _).set _ 3 hB _, grown_put (grown_put (grown_put (grown_put G5 _ 0 (Nat.le_refl _) _) _ 1 (Nat.le_refl _) _) _ 2 (Nat.le_refl _) _) _ 3 (Nat.le_refl _) _⟩
theorem BoxV.curD {w w' : World} {base b B : Nat} {x0 x1 x2 x3 : Value} (h : BoxV w base b x0 x1 x2 x3) (hg : w.grownBy w' (some B)) (hne : B < b) : BoxV w' base b x0 x1 x2 x3 :=
  h.tn (Tn.of_grown hg) (fun k hk hs => by simp at hk hs; omega)
theorem ownsW.up {w : World} {base base' : Nat} {v : Value} {a : Wh} (h : ownsW w base v a) (hb : base' ≤ base) : ownsW w base' v a := by
  obtain ⟨s, rfl, h⟩ := h
  exact ⟨s, rfl, ownsI_mono h hb⟩
theorem add_len49 (z n : Int) (hz : (limbs z.natAbs).length ≤ 48) (hn : n.natAbs ≤ 4294967296) : (limbs (z + n).natAbs).length ≤ 98 := by
  have h1 := limbs_lt z.natAbs
  have h2 : (16777216 : Nat) ^ (limbs z.natAbs).length ≤ 16777216 ^ 48 := Nat.pow_le_pow_right (by omega) hz
  have h3 : (z + n).natAbs ≤ z.natAbs + n.natAbs := Int.natAbs_add_le z n
  refine Nat.le_trans (limbs_len_le _ 49 ?_) (by omega)
  have h4 : (16777216 : Nat) ^ 48 + 4294967296 < 16777216 ^ 49 := by decide +kernel
  omega

theorem BoxW.pairsD {w : World} {base b : Nat} {x y : Value} (h : BoxW w base b x y) (x' y' : Value) : BoxW ((w.setCell ⟨b, 0, none⟩ x').setCell ⟨b, 1, none⟩ y') base b x' y' := by
  have c0 := h.c0
  have c1 := h.c1
  have f0 := h.f0
  have f1 := h.f1
  refine ⟨h.lo, ?_, ?_, ?_, ?_, ?_⟩
  · have := h.hi; simpa [World.setCell] using this
  · exact (World.cell?_setCell_other _ _ _ _ (by simp)).trans (World.cell?_setCell_same _ _ _ c0)
  · exact World.cell?_setCell_same _ _ _ ((World.cell?_setCell_other _ _ _ _ (by simp)).trans c1)
  · simp [*]
  · simp [*]

/-- The state of l10Right's walk: the answer's box, the number's box, its limbs, the cursor. -/
structure RtAt (w W : World) (B b1 : Nat) (g : Bool) (s : Value) (xs : List Int) : Prop where
  X : BoxV W w.heap.size w.heap.size (.bool false) (.slice none 0 0) (.bool false) (.slice none 0 0)
  A : BoxW W b1 b1 (.bool g) s
  q : ownsI W (w.heap.size + 1) s xs
  c : CurAt W B
  G : w.grownBy W (some B)
theorem RtAt.bel {w W W' : World} {B b1 : Nat} {g : Bool} {s : Value} {xs : List Int} (h : RtAt w W B b1 g s xs) (hb : Below W.heap.size W W') : RtAt w W' B b1 g s xs :=
  ⟨h.X.below hb (Nat.le_refl _), h.A.below hb (Nat.le_refl _), ownsI.below h.q hb (Nat.le_refl _), h.c.below hb h.c.lt, grown_then h.G (hb.mono h.G.size)⟩
theorem RtAt.cur {w W W' : World} {B b1 : Nat} {g : Bool} {s : Value} {xs : List Int} (h : RtAt w W B b1 g s xs) (hB : B < w.heap.size) (hb : w.heap.size < b1) (c : CurAt W' B) (g' : W.grownBy W' (some B)) : RtAt w W' B b1 g s xs :=
  ⟨h.X.curD g' hB, h.A.cur g' (by omega), h.q.cur g' (by omega), c, grown_trans h.G g'⟩
theorem RtAt.zz {w W : World} {B b1 : Nat} {g : Bool} {s : Value} {xs : List Int} (h : RtAt w W B b1 g s xs) : w.heap.size + 1 ≤ W.heap.size := h.X.hi
theorem RtAt.put {w W : World} {B b1 base : Nat} {g : Bool} {s s' : Value} {xs xs' : List Int} (h : RtAt w W B b1 g s xs) (hB : B < w.heap.size) (hb : w.heap.size < b1) (g' : Bool) (q : ownsI W base s' xs') (h1 : b1 < base) (h2 : w.heap.size + 1 ≤ base) : RtAt w ((W.setCell ⟨b1, 0, none⟩ (.bool g')).setCell ⟨b1, 1, none⟩ s') B b1 g' s' xs' :=
  ⟨h.X.tn (tn_two W b1 _ _) (fun k hk hs => by simp at hk hs; omega), h.A.pairsD _ _, ownsI_mono ((q.set b1 0 h1 _).set b1 1 h1 _) h2, (h.c.set b1 0 (by omega) _).set b1 1 (by omega) _, grown_put (grown_put h.G b1 0 (by omega) _) b1 1 (by omega) _⟩

set_option maxRecDepth 20000 in
set_option maxHeartbeats 3200000 in
theorem drWRightK (B : Nat) (w : World) (hc : CurAt w B) :
    Calls Try.prog 90 #[.pointer (some ⟨B, 0, none⟩)] w (DrawnWk w B) := by
  have hB := hc.lt
  have X0 := BoxW.made w (.bool false) (.slice none 0 0) 26
  have s0 : (w.alloc (.cells #[.bool false, .slice none 0 0] 26)).heap.size = w.heap.size + 1 := by simp
  have G0 : w.grownBy (w.alloc (.cells #[.bool false, .slice none 0 0] 26)) (some B) := grown_of (below1 w _) _
  have c0 := hc.alloc (.cells #[.bool false, .slice none 0 0] 26)
  clear hc
  go_enter Try.func90, Try.ntmps90
  go_wp2_with fail
  generalize w.alloc (.cells #[.bool false, .slice none 0 0] 26) = w0 at *
  refine (drRight B w0 c0).mono ?_
  rintro e w1 ⟨v1, xs, rfl, o1, l1, k1, c1, g1⟩
  have X1 := X0.cur g1 hB
  have G1 := grown_trans G0 g1
  rw [s0] at o1
  have hz1 : w.heap.size + 1 ≤ w1.heap.size := by have := g1.size; omega
  rw [show xs = limbs (num xs) from okL_eq ((okB_iff xs).1 k1)] at o1 l1
  generalize num xs = m at *
  clear c0 X0 G0 g1 k1 s0
  go_wp2_with fail
  refine (drOnce B 3 w1 c1 (by omega)).mono ?_
  rintro e w2 ⟨t, rfl, c2, g2⟩
  have X2 := X1.cur g2 hB
  have G2 := grown_trans G1 g2
  have o2 := o1.cur g2 (by omega)
  have hz2 : w.heap.size + 1 ≤ w2.heap.size := by have := g2.size; omega
  clear c1 X1 G1 g2 o1 hz1
  have REST : ∀ (W : World) (m : Nat) (v : Value), ownsI W (w.heap.size + 1) v (limbs m) → (limbs m).length ≤ 48 → CurAt W B → w.grownBy W (some B) → BoxW W w.heap.size w.heap.size (.bool false) (.slice none 0 0) → w.heap.size + 1 ≤ W.heap.size → True := fun _ _ _ _ _ _ _ _ _ => trivial
  clear REST
  cases t
  · go_wp2_with fail
    refine (drOnce B 2 w2 c2 (by omega)).mono ?_
    rintro e w5 ⟨t5, rfl, c5, g5⟩
    have X5 := X2.cur g5 hB
    have G5 := grown_trans G2 g5
    have o5 := o2.cur g5 (by omega)
    have hz5 : w.heap.size + 1 ≤ w5.heap.size := by have := g5.size; omega
    have kM := sMake t5 _ m _ w5 o5 (by omega)
    clear c2 X2 G2 g5 o2
    go_wp2_with fail
    refine kM.mono ?_
    rintro e w6 ⟨v6, rfl, o6, b6⟩
    have X6 := X5.below b6 (Nat.le_refl _)
    have G6 := grown_then G5 (b6.mono (by omega))
    have c6 := c5.below b6 (by omega)
    have hl6 : (mkW (if t5 = true then -(m : Int) else (m : Int))).2.length ≤ 48 := by
      rw [mkW_sign]
      show (limbs m).length ≤ 48
      omega
    obtain ⟨zz, hzz⟩ : ∃ z : Int, (if t5 = true then -(m : Int) else (m : Int)) = z := ⟨_, rfl⟩
    rw [hzz] at o6 hl6
    obtain ⟨r, hmr⟩ : ∃ r, mkW zz = r := ⟨_, rfl⟩
    have hk6 : (limbs zz.natAbs).length ≤ 48 := hl6
    rw [hmr] at o6
    obtain ⟨rg, rl⟩ := r
    obtain ⟨s6, rfl, q6⟩ := o6
    obtain ⟨ad6, cp6, rfl, -⟩ := q6.row
    have HD : Hid (DrawnWk w B (.returned (.agg #[.bool rg, .slice ad6 rl.length cp6])) _) := drFinK zz rg hmr q6 c6 G6 hB hk6
    have d0 := X6.c0
    have d1 := X6.c1
    have f0 := X6.f0
    have f1 := X6.f1
    clear q6 c6 G6 X5 X6 G5 c5 b6 kM o5
    go_wp2
    (try simp only [Exit.inBlock, Exit.then])
    refine bodyPost_ret (v := .agg #[.bool rg, .slice ad6 rl.length cp6]) ?_ rfl HD.out
    rw [results_cell1 rfl]
    go_simp
  · go_wp2_with fail
    refine (pickInt B w2.heap.size 8 8 magList _ (c2.alloc _) rfl (by omega) (by omega) (by omega) (lit_cells w2 magList 3)).mono ?_
    rintro e w3 ⟨n, rfl, hn, c3, g3⟩
    obtain ⟨n0, n1⟩ := magList_bd hn
    have X3 := (X2.below (below1 w2 _) (Nat.le_refl _)).cur g3 hB
    have G3 := grown_trans (grown_alloc G2 _) g3
    have hz3 : w.heap.size + 1 ≤ w3.heap.size := by have h := g3.size; simp at h; omega
    obtain ⟨k, rfl⟩ := Int.eq_ofNat_of_zero_le n0
    have kO := sNatOf (k : Int) w3 (by omega)
    have hR : ofR (k : Int) = (limbs k, true) := by unfold ofR; rw [if_neg (by omega)]; simp
    rw [hR] at kO
    have lk := limbs_len3 (n := k) (by omega)
    clear c2 X2 G2 o2 hn g3 hR
    go_wp2_with fail
    refine kO.mono ?_
    rintro e w4 ⟨v4, rfl, o4, b4⟩
    have X4 := X3.below b4 (Nat.le_refl _)
    have G4 := grown_then G3 (b4.mono (by omega))
    have c4 := c3.below b4 (by omega)
    have o4 := ownsI_mono o4 hz3
    have hz4 : w.heap.size + 1 ≤ w4.heap.size := by have := b4.size; omega
    have lk' : (limbs k).length ≤ 48 := by omega
    clear kO b4 X3 G3 c3 hz3
    go_wp2_with fail
    refine (drOnce B 2 w4 c4 (by omega)).mono ?_
    rintro e w5 ⟨t5, rfl, c5, g5⟩
    have X5 := X4.cur g5 hB
    have G5 := grown_trans G4 g5
    have o5 := o4.cur g5 (by omega)
    have hz5 : w.heap.size + 1 ≤ w5.heap.size := by have := g5.size; omega
    have kM := sMake t5 _ k _ w5 o5 (by omega)
    clear c4 X4 G4 g5 o4
    go_wp2_with fail
    refine kM.mono ?_
    rintro e w6 ⟨v6, rfl, o6, b6⟩
    have X6 := X5.below b6 (Nat.le_refl _)
    have G6 := grown_then G5 (b6.mono (by omega))
    have c6 := c5.below b6 (by omega)
    have hl6 : (mkW (if t5 = true then -(k : Int) else (k : Int))).2.length ≤ 48 := by
      rw [mkW_sign]
      show (limbs k).length ≤ 48
      omega
    obtain ⟨zz, hzz⟩ : ∃ z : Int, (if t5 = true then -(k : Int) else (k : Int)) = z := ⟨_, rfl⟩
    rw [hzz] at o6 hl6
    obtain ⟨r, hmr⟩ : ∃ r, mkW zz = r := ⟨_, rfl⟩
    have hk6 : (limbs zz.natAbs).length ≤ 48 := hl6
    rw [hmr] at o6
    obtain ⟨rg, rl⟩ := r
    obtain ⟨s6, rfl, q6⟩ := o6
    obtain ⟨ad6, cp6, rfl, -⟩ := q6.row
    have HD : Hid (DrawnWk w B (.returned (.agg #[.bool rg, .slice ad6 rl.length cp6])) _) := drFinK zz rg hmr q6 c6 G6 hB hk6
    have d0 := X6.c0
    have d1 := X6.c1
    have f0 := X6.f0
    have f1 := X6.f1
    clear q6 c6 G6 X5 X6 G5 c5 b6 kM o5
    go_wp2
    (try simp only [Exit.inBlock, Exit.then])
    refine bodyPost_ret (v := .agg #[.bool rg, .slice ad6 rl.length cp6]) ?_ rfl HD.out
    rw [results_cell1 rfl]
    go_simp

set_option maxRecDepth 20000 in
set_option maxHeartbeats 6400000 in
theorem drIvRight (B : Nat) (w : World) (hc : CurAt w B) :
    Calls Try.prog 59 #[.pointer (some ⟨B, 0, none⟩)] w (DrawnV w B) := by
  have hB := hc.lt
  have X0 := BoxV.made w (.bool false) (.slice none 0 0) (.bool false) (.slice none 0 0) 28
  have s0 : (w.alloc (.cells #[.bool false, .slice none 0 0, .bool false, .slice none 0 0] 28)).heap.size = w.heap.size + 1 := by simp
  have G0 : w.grownBy (w.alloc (.cells #[.bool false, .slice none 0 0, .bool false, .slice none 0 0] 28)) (some B) := grown_of (below1 w _) _
  have c0 := hc.alloc (.cells #[.bool false, .slice none 0 0, .bool false, .slice none 0 0] 28)
  clear hc
  go_enter Try.func59, Try.ntmps59
  go_wp2_with fail
  generalize w.alloc (.cells #[.bool false, .slice none 0 0, .bool false, .slice none 0 0] 28) = w0 at *
  refine (drWRightK B w0 c0).mono ?_
  rintro e w1 ⟨v1, z, rfl, o1, l1, c1, g1⟩
  have X1 := X0.curD g1 hB
  have G1 := grown_trans G0 g1
  rw [s0] at o1
  have hz1 : w.heap.size < w1.heap.size := by have := g1.size; omega
  obtain ⟨r, hm⟩ : ∃ r, mkW z = r := ⟨_, rfl⟩
  rw [hm] at o1
  obtain ⟨g, xs⟩ := r
  obtain ⟨s1, rfl, q1⟩ := o1
  obtain ⟨ad, cp, rfl, -⟩ := q1.row
  have bb := below1 w1 (.cells #[.bool g, .slice ad xs.length cp] 26)
  have RA : RtAt w (w1.alloc (.cells #[.bool g, .slice ad xs.length cp] 26)) B w1.heap.size g (.slice ad xs.length cp) xs := ⟨X1.below bb (Nat.le_refl _), BoxW.made w1 _ _ _, ownsI.below q1 bb (Nat.le_refl _), c1.alloc _, grown_alloc G1 _⟩
  clear X0 G0 c0 g1 s0 X1 G1 c1 q1 bb
  go_wp2_with fail
  generalize w1.alloc (.cells #[.bool g, .slice ad xs.length cp] 26) = w2 at *
  refine (drOnce B 2 w2 RA.c (by omega)).mono ?_
  rintro e w3 ⟨t, rfl, c3, g3⟩
  have R3 := RA.cur hB hz1 c3 g3
  clear RA c3 g3
  cases t
  · go_wp2_with fail
    have Rd := R3.bel ((Below.refl w3.heap.size w3).drew)
    have k0 := Rd.A.c0
    have k1 := Rd.A.c1
    have hne : ¬ w.heap.size = w1.heap.size := by omega
    have hne' : ¬ w1.heap.size = w.heap.size := by omega
    clear R3
    go_wp2_with fail
    go_region_held (fun W => W.cell? ⟨w1.heap.size, 0, none⟩ = some (.bool g) ∧ W.cell? ⟨w1.heap.size, 1, none⟩ = some (.slice ad xs.length cp)) (go_keep) (first
      | (go_at_call 28; refine (curBelow B 1000000 _ Rd.c (by omega)).mono ?_; rintro e wa ⟨y, rfl, y0, y1, -, ca, ga⟩; have y2 := y1 (by omega); have Ra := Rd.cur hB hz1 ca ga; have k0 := Ra.A.c0; have k1 := Ra.A.c1; have hlit := lit_cells wa [0, 1, 2, 17, 1000, y] 3; have hBa := ca.lt; clear y1 Rd ga ca)
      | (go_at_call 27; refine (pickInt B _ 6 6 [0, 1, 2, 17, 1000, y] _ (Ra.c.alloc _) rfl (by omega) (by omega) (by omega) hlit).mono ?_; rintro e wb ⟨n, rfl, hn, cb, gb⟩; have hn' : 0 ≤ n ∧ n ≤ 1000000 := (by simp at hn; omega); have Rb := (Ra.bel (below1 wa (.cells #[.int .i64 0, .int .i64 1, .int .i64 2, .int .i64 17, .int .i64 1000, .int .i64 y] 3))).cur hB hz1 cb gb; have k0 := Rb.A.c0; have k1 := Rb.A.c1; obtain ⟨n0, n1⟩ := hn'; clear hn hlit Ra cb gb y0 y2 hBa)
      | (go_at_call 50; refine (sWholeOf n _ (by omega) (by omega)).mono ?_; rintro e wc ⟨vc, rfl, oc, bc⟩; have Rc := Rb.bel bc; have oc' : ownsW wc wb.heap.size vc (mkW n) := oc; have k0 := Rc.A.c0; have k1 := Rc.A.c1; clear bc oc Rb)
      | (go_at_call 67; refine (sWAdd _ _ z n _ (by rw [hm]; exact ⟨_, rfl, Rc.q.row⟩) oc'.row (by omega) (by have := limbs_len3 (n := n.natAbs) (by omega); omega)).mono ?_; rintro e wd ⟨vd, rfl, od, bd⟩; have Rd := Rc.bel bd; have od' := ownsW.up od Rc.zz; have h49 := add_len49 z n l1 (by omega); obtain ⟨r2, hm2⟩ : ∃ r, mkW (z + n) = r := ⟨_, rfl⟩; rw [hm2] at od'; obtain ⟨g2, ys⟩ := r2; obtain ⟨s2, rfl, q2⟩ := od'; obtain ⟨ad2, cp2, rfl, -⟩ := q2.row; have k0 := Rd.A.c0; have k1 := Rd.A.c1; have d0 := Rd.X.c0; have d1 := Rd.X.c1; have d2 := Rd.X.c2; have d3 := Rd.X.c3; have f0 := Rd.X.f0; have f1 := Rd.X.f1; have f2 := Rd.X.f2; have f3 := Rd.X.f3; have hx98 : Hid (xs.length ≤ 98) := (by show _ ≤ _; have : limbs z.natAbs = xs := congrArg Prod.snd hm; rw [← this]; omega); have hy98 : Hid (ys.length ≤ 98) := (by show _ ≤ _; have : limbs (z + n).natAbs = ys := congrArg Prod.snd hm2; rw [← this]; omega); have HD : Hid _ := drFinV g g2 xs ys Rd.q q2 Rd.c Rd.G hB hx98.out hy98.out; clear Rc oc' od bd h49 q2 Rd))
    clear k0 k1 hm hm2 l1
    go_wp2
    (try simp only [Exit.inBlock, Exit.then])
    refine bodyPost_ret (v := .agg #[.bool g, .slice ad xs.length cp, .bool g2, .slice ad2 ys.length cp2]) ?_ rfl HD.out
    rw [results_cell1 rfl]
    go_simp
  · go_wp2_with fail
    refine (curBelow B 100000 w3 R3.c (by omega)).mono ?_
    rintro e w4 ⟨x, rfl, x0, x1, -, c4, g4⟩
    have x1' := x1 (by omega)
    have R4 := R3.cur hB hz1 c4 g4
    clear R3 c4 g4 x1
    have hw : IntKind.i64.wrap (x - 50000) = x - 50000 := by rw [IntKind.wrap_i64]; omega
    go_wp2_with fail
    (try simp only [hw])
    refine (sWholeOf (x - 50000) w4 (by omega) (by omega)).mono ?_
    rintro e w5 ⟨v5, rfl, o5, b5⟩
    have R5 := R4.bel b5
    have hb5 := R4.A.hi
    have l5 := limbs_len3 (n := (x - 50000).natAbs) (by omega)
    have l5' : (limbs (x - 50000).natAbs).length ≤ 48 := by omega
    obtain ⟨zz, hzz⟩ : ∃ z : Int, x - 50000 = z := ⟨_, rfl⟩
    have o5' : ownsW w5 w4.heap.size v5 (mkW (x - 50000)) := o5
    rw [hzz] at o5' l5'
    obtain ⟨r5, hm5⟩ : ∃ r, mkW zz = r := ⟨_, rfl⟩
    rw [hm5] at o5'
    obtain ⟨h, us⟩ := r5
    obtain ⟨s5, rfl, q5⟩ := o5'
    obtain ⟨ad5, cp5, rfl, -⟩ := q5.row
    have a0 := R5.A.c0
    have a1 := R5.A.c1
    have af0 := R5.A.f0
    have af1 := R5.A.f1
    have R6 := R5.put hB hz1 h q5 hb5 (by omega)
    clear R4 R5 b5 o5 q5 hw l5 hzz x0 x1' hm l1
    go_wp2_with fail
    clear a0 a1 af0 af1
    generalize (w5.setCell ⟨w1.heap.size, 0, none⟩ (.bool h)).setCell ⟨w1.heap.size, 1, none⟩ (.slice ad5 us.length cp5) = w6 at *
    have Rd := R6.bel ((Below.refl w6.heap.size w6).drew)
    have k0 := Rd.A.c0
    have k1 := Rd.A.c1
    have hne : ¬ w.heap.size = w1.heap.size := by omega
    have hne' : ¬ w1.heap.size = w.heap.size := by omega
    clear R6
    skip
    go_region_held (fun W => W.cell? ⟨w1.heap.size, 0, none⟩ = some (.bool h) ∧ W.cell? ⟨w1.heap.size, 1, none⟩ = some (.slice ad5 us.length cp5)) (go_keep) (first
      | (go_at_call 28; refine (curBelow B 1000000 _ Rd.c (by omega)).mono ?_; rintro e wa ⟨y, rfl, y0, y1, -, ca, ga⟩; have y2 := y1 (by omega); have Ra := Rd.cur hB hz1 ca ga; have k0 := Ra.A.c0; have k1 := Ra.A.c1; have hlit := lit_cells wa [0, 1, 2, 17, 1000, y] 3; have hBa := ca.lt; clear y1 Rd ga ca)
      | (go_at_call 27; refine (pickInt B _ 6 6 [0, 1, 2, 17, 1000, y] _ (Ra.c.alloc _) rfl (by omega) (by omega) (by omega) hlit).mono ?_; rintro e wb ⟨n, rfl, hn, cb, gb⟩; have hn' : 0 ≤ n ∧ n ≤ 1000000 := (by simp at hn; omega); have Rb := (Ra.bel (below1 wa (.cells #[.int .i64 0, .int .i64 1, .int .i64 2, .int .i64 17, .int .i64 1000, .int .i64 y] 3))).cur hB hz1 cb gb; have k0 := Rb.A.c0; have k1 := Rb.A.c1; obtain ⟨n0, n1⟩ := hn'; clear hn hlit Ra cb gb y0 y2 hBa)
      | (go_at_call 50; refine (sWholeOf n _ (by omega) (by omega)).mono ?_; rintro e wc ⟨vc, rfl, oc, bc⟩; have Rc := Rb.bel bc; have oc' : ownsW wc wb.heap.size vc (mkW n) := oc; have k0 := Rc.A.c0; have k1 := Rc.A.c1; clear bc oc Rb)
      | (go_at_call 67; refine (sWAdd _ _ zz n _ (by rw [hm5]; exact ⟨_, rfl, Rc.q.row⟩) oc'.row (by omega) (by have := limbs_len3 (n := n.natAbs) (by omega); omega)).mono ?_; rintro e wd ⟨vd, rfl, od, bd⟩; have Rd := Rc.bel bd; have od' := ownsW.up od Rc.zz; have h49 := add_len49 zz n l5' (by omega); obtain ⟨r2, hm2⟩ : ∃ r, mkW (zz + n) = r := ⟨_, rfl⟩; rw [hm2] at od'; obtain ⟨g2, ys⟩ := r2; obtain ⟨s2, rfl, q2⟩ := od'; obtain ⟨ad2, cp2, rfl, -⟩ := q2.row; have k0 := Rd.A.c0; have k1 := Rd.A.c1; have d0 := Rd.X.c0; have d1 := Rd.X.c1; have d2 := Rd.X.c2; have d3 := Rd.X.c3; have f0 := Rd.X.f0; have f1 := Rd.X.f1; have f2 := Rd.X.f2; have f3 := Rd.X.f3; have hx98 : Hid (us.length ≤ 98) := (by show _ ≤ _; have : limbs zz.natAbs = us := congrArg Prod.snd hm5; rw [← this]; omega); have hy98 : Hid (ys.length ≤ 98) := (by show _ ≤ _; have : limbs (zz + n).natAbs = ys := congrArg Prod.snd hm2; rw [← this]; omega); have HD : Hid _ := drFinV h g2 us ys Rd.q q2 Rd.c Rd.G hB hx98.out hy98.out; clear Rc oc' od bd h49 q2 Rd))
    clear k0 k1 hm5 hm2 l5'
    go_wp2
    (try simp only [Exit.inBlock, Exit.then])
    refine bodyPost_ret (v := .agg #[.bool h, .slice ad5 us.length cp5, .bool g2, .slice ad2 ys.length cp2]) ?_ rfl HD.out
    rw [results_cell1 rfl]
    go_simp

end Go.Proofs.Ytddakeohamefiaa

/- l10Draw and DrawIvMove, each by its contract. -/
namespace Go.Proofs.Ytddakeohamefiaa
open Go.RowKit
set_option linter.unusedSimpArgs false

/-- The state of l10Draw's walk: the answer's box, the variable's box, its limbs, the cursor. -/
structure VtAt (w W : World) (B b1 : Nat) (g h : Bool) (s t : Value) (xs ys : List Int) : Prop where
  X : BoxV W w.heap.size w.heap.size (.bool false) (.slice none 0 0) (.bool false) (.slice none 0 0)
  A : BoxV W b1 b1 (.bool g) s (.bool h) t
  q1 : ownsI W (w.heap.size + 1) s xs
  q2 : ownsI W (w.heap.size + 1) t ys
  c : CurAt W B
  G : w.grownBy W (some B)
theorem VtAt.bel {w W W' : World} {B b1 : Nat} {g h : Bool} {s t : Value} {xs ys : List Int} (k : VtAt w W B b1 g h s t xs ys) (hb : Below W.heap.size W W') : VtAt w W' B b1 g h s t xs ys :=
  ⟨k.X.below hb (Nat.le_refl _), k.A.below hb (Nat.le_refl _), ownsI.below k.q1 hb (Nat.le_refl _), ownsI.below k.q2 hb (Nat.le_refl _), k.c.below hb k.c.lt, grown_then k.G (hb.mono k.G.size)⟩
theorem VtAt.cur {w W W' : World} {B b1 : Nat} {g h : Bool} {s t : Value} {xs ys : List Int} (k : VtAt w W B b1 g h s t xs ys) (hB : B < w.heap.size) (hb : w.heap.size < b1) (c : CurAt W' B) (g' : W.grownBy W' (some B)) : VtAt w W' B b1 g h s t xs ys :=
  ⟨k.X.curD g' hB, k.A.curD g' (by omega), k.q1.cur g' (by omega), k.q2.cur g' (by omega), c, grown_trans k.G g'⟩
theorem tnD2 (w : World) (b i j : Nat) (x y : Value) : Tn [b] w ((w.setCell ⟨b, i, none⟩ x).setCell ⟨b, j, none⟩ y) :=
  ⟨rfl, rfl, rfl, by simp [World.setCell], fun k _ hn => by
    have h1 : k ≠ b := fun e => hn (by simp [e])
    rw [Below.heap_setCell _ _ _ _ h1, Below.heap_setCell _ _ _ _ h1]⟩
theorem VtAt.put0 {w W : World} {B b1 base : Nat} {g h : Bool} {s t s' : Value} {xs ys us : List Int} (k : VtAt w W B b1 g h s t xs ys) (hB : B < w.heap.size) (hb : w.heap.size < b1) (p : Bool) (q : ownsI W base s' us) (h1 : b1 < base) (h2 : w.heap.size + 1 ≤ base) (ha : ∀ k ∈ blkI t, k ≠ b1 := by trivial) : VtAt w ((W.setCell ⟨b1, 0, none⟩ (.bool p)).setCell ⟨b1, 1, none⟩ s') B b1 p h s' t us ys :=
  ⟨k.X.tn (tnD2 W b1 0 1 _ _) (fun k hk hs => by simp at hk hs; omega), (k.A.set0 _).set1 _, ownsI_mono ((q.set b1 0 h1 _).set b1 1 h1 _) h2, k.q2.tn (tnD2 W b1 0 1 _ _) (fun j hj hs => ha j hj (by simpa using hs)), (k.c.set b1 0 (by omega) _).set b1 1 (by omega) _, grown_put (grown_put k.G b1 0 (by omega) _) b1 1 (by omega) _⟩
theorem VtAt.put1 {w W : World} {B b1 base : Nat} {g h : Bool} {s t s' : Value} {xs ys us : List Int} (k : VtAt w W B b1 g h s t xs ys) (hB : B < w.heap.size) (hb : w.heap.size < b1) (p : Bool) (q : ownsI W base s' us) (h1 : b1 < base) (h2 : w.heap.size + 1 ≤ base) (ha : ∀ k ∈ blkI s, k ≠ b1 := by trivial) : VtAt w ((W.setCell ⟨b1, 2, none⟩ (.bool p)).setCell ⟨b1, 3, none⟩ s') B b1 g p s s' xs us :=
  ⟨k.X.tn (tnD2 W b1 2 3 _ _) (fun k hk hs => by simp at hk hs; omega), (k.A.set2 _).set3 _, k.q1.tn (tnD2 W b1 2 3 _ _) (fun j hj hs => ha j hj (by simpa using hs)), ownsI_mono ((q.set b1 2 h1 _).set b1 3 h1 _) h2, (k.c.set b1 2 (by omega) _).set b1 3 (by omega) _, grown_put (grown_put k.G b1 2 (by omega) _) b1 3 (by omega) _⟩

set_option maxRecDepth 20000 in
set_option maxHeartbeats 6400000 in
theorem drIvDraw (B : Nat) (w : World) (hc : CurAt w B) :
    Calls Try.prog 26 #[.pointer (some ⟨B, 0, none⟩)] w (DrawnV w B) := by
  have hB := hc.lt
  have X0 := BoxV.made w (.bool false) (.slice none 0 0) (.bool false) (.slice none 0 0) 28
  have s0 : (w.alloc (.cells #[.bool false, .slice none 0 0, .bool false, .slice none 0 0] 28)).heap.size = w.heap.size + 1 := by simp
  have G0 : w.grownBy (w.alloc (.cells #[.bool false, .slice none 0 0, .bool false, .slice none 0 0] 28)) (some B) := grown_of (below1 w _) _
  have c0 := hc.alloc (.cells #[.bool false, .slice none 0 0, .bool false, .slice none 0 0] 28)
  clear hc
  go_enter Try.func26, Try.ntmps26
  go_wp2_with fail
  generalize w.alloc (.cells #[.bool false, .slice none 0 0, .bool false, .slice none 0 0] 28) = w0 at *
  refine (drIvRight B w0 c0).mono ?_
  rintro e w1 ⟨s1, t1, g, h, xs, ys, rfl, q1, q2, lx, ly, c1, g1⟩
  have X1 := X0.curD g1 hB
  have G1 := grown_trans G0 g1
  rw [s0] at q1 q2
  have hz1 : w.heap.size < w1.heap.size := by have := g1.size; omega
  obtain ⟨ad, cp, rfl, -⟩ := q1.row
  obtain ⟨ae, cq, rfl, -⟩ := q2.row
  have bb := below1 w1 (.cells #[.bool g, .slice ad xs.length cp, .bool h, .slice ae ys.length cq] 28)
  have ht1 : ∀ k ∈ blkI (.slice ad xs.length cp), k ≠ w1.heap.size := fun k hk e => by have := (q1.ltb k hk).2; omega
  have ht2 : ∀ k ∈ blkI (.slice ae ys.length cq), k ≠ w1.heap.size := fun k hk e => by have := (q2.ltb k hk).2; omega
  have RA : VtAt w (w1.alloc (.cells #[.bool g, .slice ad xs.length cp, .bool h, .slice ae ys.length cq] 28)) B w1.heap.size g h (.slice ad xs.length cp) (.slice ae ys.length cq) xs ys := ⟨X1.below bb (Nat.le_refl _), BoxV.made w1 _ _ _ _ _, ownsI_mono (ownsI.below q1 bb (Nat.le_refl _)) (by omega), ownsI_mono (ownsI.below q2 bb (Nat.le_refl _)) (by omega), c1.alloc _, grown_alloc G1 _⟩
  clear X0 G0 c0 g1 s0 X1 G1 c1 q1 q2 bb
  go_wp2_with fail
  generalize w1.alloc (.cells #[.bool g, .slice ad xs.length cp, .bool h, .slice ae ys.length cq] 28) = w2 at *
  refine (curBelow B 12 w2 RA.c (by omega)).mono ?_
  rintro e w3 ⟨x, rfl, x0, -, -, c3, g3⟩
  have R3 := RA.cur hB hz1 c3 g3
  clear RA c3 g3
  have hne : ¬ w.heap.size = w1.heap.size := by omega
  have hne' : ¬ w1.heap.size = w.heap.size := by omega
  by_cases h0 : x = 0
  · subst h0
    clear x0
    go_wp2_with fail
    refine (drWDraw B w3 R3.c).mono ?_
    rintro e w4 ⟨v4, a4, rfl, o4, l4, c4, g4⟩
    have R4 := R3.cur hB hz1 c4 g4
    have hb4 := R3.A.hi
    obtain ⟨p, us⟩ := a4
    obtain ⟨s4, rfl, q4⟩ := o4
    obtain ⟨af, cr, rfl, -⟩ := q4.row
    have a0 := R4.A.c0
    have a1 := R4.A.c1
    have a2 := R4.A.c2
    have a3 := R4.A.c3
    have b0 := R4.A.f0
    have b1 := R4.A.f1
    have b2 := R4.A.f2
    have b3 := R4.A.f3
    have R5 := R4.put0 hB hz1 p q4 hb4 (by omega) ht2
    have hl4 : us.length ≤ 98 := l4
    have e0 := R5.A.c0
    have e1 := R5.A.c1
    have e2 := R5.A.c2
    have e3 := R5.A.c3
    have d0 := R5.X.c0
    have d1 := R5.X.c1
    have d2 := R5.X.c2
    have d3 := R5.X.c3
    have f0 := R5.X.f0
    have f1 := R5.X.f1
    have f2 := R5.X.f2
    have f3 := R5.X.f3
    have HD : Hid _ := drFinV p h us ys R5.q1 R5.q2 R5.c R5.G hB (by omega) (by omega)
    clear R3 R4 R5 g4 c4 q4 hb4 l4
    go_wp2
    (try simp only [Exit.inBlock, Exit.then])
    refine bodyPost_ret (v := .agg #[.bool p, .slice af us.length cr, .bool h, .slice ae ys.length cq]) ?_ rfl HD.out
    rw [results_cell1 rfl]
    go_simp
  · by_cases h1 : x = 1
    · subst h1
      clear x0
      go_wp2_with fail
      refine (drWDraw B w3 R3.c).mono ?_
      rintro e w4 ⟨v4, a4, rfl, o4, l4, c4, g4⟩
      have R4 := R3.cur hB hz1 c4 g4
      have hb4 := R3.A.hi
      obtain ⟨p, us⟩ := a4
      obtain ⟨s4, rfl, q4⟩ := o4
      obtain ⟨af, cr, rfl, -⟩ := q4.row
      have a0 := R4.A.c0
      have a1 := R4.A.c1
      have a2 := R4.A.c2
      have a3 := R4.A.c3
      have b0 := R4.A.f0
      have b1 := R4.A.f1
      have b2 := R4.A.f2
      have b3 := R4.A.f3
      have R5 := R4.put1 hB hz1 p q4 hb4 (by omega) ht1
      have hl4 : us.length ≤ 98 := l4
      have e0 := R5.A.c0
      have e1 := R5.A.c1
      have e2 := R5.A.c2
      have e3 := R5.A.c3
      have d0 := R5.X.c0
      have d1 := R5.X.c1
      have d2 := R5.X.c2
      have d3 := R5.X.c3
      have f0 := R5.X.f0
      have f1 := R5.X.f1
      have f2 := R5.X.f2
      have f3 := R5.X.f3
      have HD : Hid _ := drFinV g p xs us R5.q1 R5.q2 R5.c R5.G hB (by omega) (by omega)
      clear R3 R4 R5 g4 c4 q4 hb4 l4
      go_wp2
      (try simp only [Exit.inBlock, Exit.then])
      refine bodyPost_ret (v := .agg #[.bool g, .slice ad xs.length cp, .bool p, .slice af us.length cr]) ?_ rfl HD.out
      rw [results_cell1 rfl]
      go_simp
    · have e0 : (x == 0) = false := beq_eq_false_iff_ne.2 h0
      have e1 : (x == 1) = false := beq_eq_false_iff_ne.2 h1
      have a0 := R3.A.c0
      have a1 := R3.A.c1
      have a2 := R3.A.c2
      have a3 := R3.A.c3
      have d0 := R3.X.c0
      have d1 := R3.X.c1
      have d2 := R3.X.c2
      have d3 := R3.X.c3
      have f0 := R3.X.f0
      have f1 := R3.X.f1
      have f2 := R3.X.f2
      have f3 := R3.X.f3
      have HD : Hid _ := drFinV g h xs ys R3.q1 R3.q2 R3.c R3.G hB (by omega) (by omega)
      clear R3
      go_wp2
      (try simp only [Exit.inBlock, Exit.then])
      refine bodyPost_ret (v := .agg #[.bool g, .slice ad xs.length cp, .bool h, .slice ae ys.length cq]) ?_ rfl HD.out
      rw [results_cell1 rfl]
      go_simp

end Go.Proofs.Ytddakeohamefiaa

/- DrawIvMove, by its contract. -/
namespace Go.Proofs.Ytddakeohamefiaa
open Go.RowKit
set_option linter.unusedSimpArgs false

theorem results_cell_tmp2D {fn : Func} {p u u' : Tmp} {ty : TypeId} (h : fn.results = #[.cell p ty, .tmp u, .tmp u']) (tmps : Array Value) (P : Program) (w : World) :
    (results fn tmps).run P w = ((asAddr (tmps.getD p undef)).run P w).andThen fun a w₁ => ((loadVar ty a).run P w₁).andThen fun v w₂ => .ok (.tuple #[v, tmps.getD u undef, tmps.getD u' undef]) w₂ := by
  simp only [results, h]
  simp [Sem.run_bind, Result.andThen]

/-- What a draw of what is held and of two numbers hands out. -/
def DrawnVII (w : World) (e : Ending) (w' : World) : Prop := ∃ v a p q, e = .returned (.tuple #[v, .int .i64 p, .int .i64 q]) ∧ rowV w' v a ∧ a.1.2.length ≤ 98 ∧ a.2.2.length ≤ 98 ∧ Below w.heap.size w w'
/-- The state of a walk that draws what is held first: the answer's box, the variable's box, its limbs, the cursor. -/
structure MvAt (w W : World) (b1 : Nat) (g h : Bool) (s t : Value) (xs ys : List Int) : Prop where
  X : BoxV W w.heap.size w.heap.size (.bool false) (.slice none 0 0) (.bool false) (.slice none 0 0)
  A : BoxV W b1 b1 (.bool g) s (.bool h) t
  q1 : ownsI W (w.heap.size + 1 + 1) s xs
  q2 : ownsI W (w.heap.size + 1 + 1) t ys
  c : CurAt W (w.heap.size + 1)
  B : Below w.heap.size w W
theorem MvAt.bel {w W W' : World} {b1 : Nat} {g h : Bool} {s t : Value} {xs ys : List Int} (k : MvAt w W b1 g h s t xs ys) (hb : Below W.heap.size W W') : MvAt w W' b1 g h s t xs ys :=
  ⟨k.X.below hb (Nat.le_refl _), k.A.below hb (Nat.le_refl _), ownsI.below k.q1 hb (Nat.le_refl _), ownsI.below k.q2 hb (Nat.le_refl _), k.c.below hb k.c.lt, k.B.trans (hb.mono k.B.size)⟩
theorem MvAt.cur {w W W' : World} {b1 : Nat} {g h : Bool} {s t : Value} {xs ys : List Int} (k : MvAt w W b1 g h s t xs ys) (hb : w.heap.size + 1 < b1) (c : CurAt W' (w.heap.size + 1)) (g' : W.grownBy W' (some (w.heap.size + 1))) : MvAt w W' b1 g h s t xs ys :=
  ⟨k.X.tn (Tn.of_grown g') (fun k hk hs => by simp at hk hs; omega), k.A.curD g' (by omega), k.q1.cur g' (by omega), k.q2.cur g' (by omega), c, below_cur k.B g' (by omega) k.B.size⟩
theorem RtK {w wa wb : World} {o : Obj} {b1 : Nat} {g h : Bool} {s t : Value} {xs ys : List Int} (k : MvAt w wa b1 g h s t xs ys) (hb : w.heap.size + 1 < b1) (c : CurAt wb (w.heap.size + 1)) (g' : (wa.alloc o).grownBy wb (some (w.heap.size + 1))) : MvAt w wb b1 g h s t xs ys :=
  (k.bel (below1 wa o)).cur hb c g'
theorem drFinM {w W : World} {b1 : Nat} {g h : Bool} {s t : Value} {xs ys : List Int} (k : MvAt w W b1 g h s t xs ys) (p q : Int) (hx : xs.length ≤ 98) (hy : ys.length ≤ 98) :
    DrawnVII w (.returned (.tuple #[.agg #[.bool g, s, .bool h, t], .int .i64 p, .int .i64 q])) ((((W.setCell ⟨w.heap.size, 0, none⟩ (.bool g)).setCell ⟨w.heap.size, 1, none⟩ s).setCell ⟨w.heap.size, 2, none⟩ (.bool h)).setCell ⟨w.heap.size, 3, none⟩ t) :=
  ⟨_, ((g, xs), (h, ys)), p, q, rfl, ⟨s, t, rfl, ((((k.q1.set _ 0 (by omega) _).set _ 1 (by omega) _).set _ 2 (by omega) _).set _ 3 (by omega) _).row, ((((k.q2.set _ 0 (by omega) _).set _ 1 (by omega) _).set _ 2 (by omega) _).set _ 3 (by omega) _).row⟩, hx, hy,
    (((k.B.setCell (p := ⟨w.heap.size, 0, none⟩) (Nat.le_refl _) _).setCell (p := ⟨w.heap.size, 1, none⟩) (Nat.le_refl _) _).setCell (p := ⟨w.heap.size, 2, none⟩) (Nat.le_refl _) _).setCell (p := ⟨w.heap.size, 3, none⟩) (Nat.le_refl _) _⟩

set_option maxRecDepth 20000 in
set_option maxHeartbeats 6400000 in
theorem drIvMove (a : Option Addr) (len cap : Nat) (zs : List Int) (w : World) (hlen : len ≤ 1048576) (h : CodeIs w a len cap zs) :
    Calls Try.prog 7 #[.slice a len cap] w (DrawnVII w) := by
  have X0 := BoxV.made w (.bool false) (.slice none 0 0) (.bool false) (.slice none 0 0) 28
  have s0 : (w.alloc (.cells #[.bool false, .slice none 0 0, .bool false, .slice none 0 0] 28)).heap.size = w.heap.size + 1 := by simp
  have B0 := below1 w (.cells #[.bool false, .slice none 0 0, .bool false, .slice none 0 0] 28)
  have h := h.below B0
  go_enter Try.func7, Try.ntmps7
  go_wp2_with fail
  generalize w.alloc (.cells #[.bool false, .slice none 0 0, .bool false, .slice none 0 0] 28) = w0 at *
  refine (curNew a len cap zs w0 hlen h).mono ?_
  rintro e w1 ⟨rfl, cu, b1⟩
  have X1 := X0.below b1 (Nat.le_refl _)
  have B1 := B0.trans (b1.mono B0.size)
  have hz1 := cu.lt
  rw [s0] at cu hz1
  rw [s0]
  clear h s0 b1 X0 B0
  go_wp2_with fail
  refine (drIvDraw (w.heap.size + 1) w1 cu).mono ?_
  rintro e w2 ⟨s1, t1, g, h, xs, ys, rfl, q1, q2, lx, ly, c2, g2⟩
  have X2 := X1.tn (Tn.of_grown g2) (fun k hk hs => by simp at hk hs; omega)
  have B2 := below_cur B1 g2 (by omega) B1.size
  have hz2 : w.heap.size + 1 < w2.heap.size := by have := g2.size; omega
  obtain ⟨ad, cp, rfl, -⟩ := q1.row
  obtain ⟨ae, cq, rfl, -⟩ := q2.row
  have bb := below1 w2 (.cells #[.bool g, .slice ad xs.length cp, .bool h, .slice ae ys.length cq] 28)
  have R : MvAt w (w2.alloc (.cells #[.bool g, .slice ad xs.length cp, .bool h, .slice ae ys.length cq] 28)) w2.heap.size g h (.slice ad xs.length cp) (.slice ae ys.length cq) xs ys := ⟨X2.below bb (Nat.le_refl _), BoxV.made w2 _ _ _ _ _, ownsI_mono (ownsI.below q1 bb (Nat.le_refl _)) (by omega), ownsI_mono (ownsI.below q2 bb (Nat.le_refl _)) (by omega), c2.alloc _, B2.trans (bb.mono B2.size)⟩
  clear X1 B1 g2 X2 B2 q1 q2 bb c2 cu hz1
  go_wp2_with fail
  generalize w2.alloc (.cells #[.bool g, .slice ad xs.length cp, .bool h, .slice ae ys.length cq] 28) = w3 at *
  refine (curBelow (w.heap.size + 1) 480 w3 R.c (by omega)).mono ?_
  rintro e w4 ⟨x, rfl, x0, x1, -, c4, g4⟩
  have R4 := R.cur hz2 c4 g4
  have hB4 := c4.lt
  clear R c4 g4 x0 x1
  go_wp2_with fail
  refine (pickAny (w.heap.size + 1) _ 7 7 _ _ _ (R4.c.alloc _) (by omega) (heap_alloc_new _ _) rfl (by rfl) (by omega) (by omega)).mono ?_
  rintro e w5 ⟨p, rfl, c5, g5⟩
  have R5 := (R4.bel (below1 w4 (.cells #[.int .i64 0, .int .i64 10, .int .i64 100, .int .i64 480, .int .i64 481, .int .i64 (-1), .int .i64 x] 3))).cur hz2 c5 g5
  have R6 := R5.bel ((Below.refl w5.heap.size w5).drew)
  have k0 := R6.A.c0
  have k1 := R6.A.c1
  have k2 := R6.A.c2
  have k3 := R6.A.c3
  have hne : ¬ w.heap.size = w2.heap.size := by omega
  have hne' : ¬ w2.heap.size = w.heap.size := by omega
  clear R4 R5 c5 g5 hB4
  go_wp2_with fail
  go_region_held (fun W => W.cell? ⟨w2.heap.size, 0, none⟩ = some (.bool g) ∧ W.cell? ⟨w2.heap.size, 1, none⟩ = some (.slice ad xs.length cp) ∧ W.cell? ⟨w2.heap.size, 2, none⟩ = some (.bool h) ∧ W.cell? ⟨w2.heap.size, 3, none⟩ = some (.slice ae ys.length cq)) (go_keep) (first
    | (go_at_call 28; refine (curBelow (w.heap.size + 1) 480 _ R6.c (by omega)).mono ?_; rintro e wa ⟨y, rfl, y0, y1, -, ca, ga⟩; have Ra := R6.cur hz2 ca ga; have k0 := Ra.A.c0; have k1 := Ra.A.c1; have k2 := Ra.A.c2; have k3 := Ra.A.c3; have hBa := ca.lt; clear R6 y0 y1 ca ga)
    | (go_at_call 27; (try generalize IntKind.i64.wrap (p + 1) = z1); (try generalize IntKind.i64.wrap (p - 1) = z2); refine (pickAny (w.heap.size + 1) _ 9 9 _ _ _ (Ra.c.alloc _) (by omega) (heap_alloc_new _ _) rfl (by rfl) (by omega) (by omega)).mono ?_; rintro e wb ⟨q, rfl, cb, gb⟩; have Rb := RtK Ra hz2 cb gb; have k0 := Rb.A.c0; have k1 := Rb.A.c1; have k2 := Rb.A.c2; have k3 := Rb.A.c3; have d0 := Rb.X.c0; have f0 := Rb.X.f0; have d1 := Rb.X.c1; have f1 := Rb.X.f1; have d2 := Rb.X.c2; have f2 := Rb.X.f2; have d3 := Rb.X.c3; have f3 := Rb.X.f3; have HD : Hid _ := drFinM Rb p q lx ly; clear Ra Rb cb gb hBa))
  clear k0 k1 k2 k3
  go_wp2
  (try simp only [Exit.inBlock, Exit.then])
  refine bodyPost_ret (v := .tuple #[.agg #[.bool g, .slice ad xs.length cp, .bool h, .slice ae ys.length cq], .int .i64 p, .int .i64 q]) ?_ rfl HD.out
  rw [results_cell_tmp2D rfl]
  go_simp

end Go.Proofs.Ytddakeohamefiaa
