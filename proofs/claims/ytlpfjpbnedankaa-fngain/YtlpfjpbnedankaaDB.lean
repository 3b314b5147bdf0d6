/- Several small texts in one: Cur, Pick, DrN, PickA. -/
import Derived.Test.YtlpfjpbnedankaaBase
import Derived.Deep.QuietTactic
import Derived.BigQuiet
import Derived.Laws.BitsAllLaws
import Derived.Laws.Pointers
import Derived.WalkSpells
import Derived.WalkLawsBesides
import Derived.Test.YtlpfjpbnedankaaSB
/- The cursor of a draw: l1New, l1Byte, l1Below, each by its contract: what is drawn is bounded; nothing but the cursor's own block turns. -/
namespace Go.Proofs.Ytlpfjpbnedankaa
open Go.RowKit

theorem wrap_id (x : Int) (h0 : 0 ≤ x) (h1 : x ≤ 9223372036854775807) : IntKind.i64.wrap x = x := by rw [IntKind.wrap_i64]; omega

/-- What is masked is not beyond the mask. -/
theorem and_le (x : Int) (m : Nat) (hm : m ≤ 1073741823) : 0 ≤ bits .and .i64 x m ∧ bits .and .i64 x m ≤ m := by
  have e2 : (BitVec.ofInt 64 (m : Int)).toNat = m := ofInt_u64 m (by omega)
  have h3 : ((BitVec.ofInt 64 x) &&& (BitVec.ofInt 64 (m : Int))).toNat ≤ m := by
    rw [BitVec.toNat_and, e2]; exact Nat.and_le_right
  have e : bits .and .i64 x m = (((BitVec.ofInt 64 x) &&& (BitVec.ofInt 64 (m : Int))).toNat : Int) := by
    show IntKind.i64.wrap (((BitVec.ofInt 64 x) &&& (BitVec.ofInt 64 (m : Int))).toNat : Int) = _
    exact wrap_id _ (by omega) (by omega)
  rw [e]
  omega

theorem and255 (x : Int) : 0 ≤ bits .and .i64 x 255 ∧ bits .and .i64 x 255 ≤ 255 := and_le x 255 (by omega)
theorem add_block (x : Addr) (i : Nat) : (x.add i).block = x.block := by unfold Addr.add; split <;> rfl

/-- The cursor lies in block 'B': the code, a place, a number. -/
def CurAt (w : World) (B : Nat) : Prop :=
  ∃ (a : Option Addr) (len cap : Nat) (zs : List Int) (i : Nat) (h : Int), w.heap[B]? = some (.cells #[.slice a len cap, .int .i64 i, .int .i64 h] 115 (0, 0)) ∧ IsRow .u8 w a len cap zs ∧ (∀ x, a = some x → 0 < zs.length → x.block < B) ∧ i ≤ len ∧ len ≤ 1048576

theorem IsRow.grown {k : IntKind} {w w' : World} {a : Option Addr} {len cap : Nat} {zs : List Int} {B : Nat} (h : IsRow k w a len cap zs) (hg : w.grownBy w' (some B)) (hne : ∀ x, a = some x → 0 < zs.length → x.block ≠ B) : IsRow k w' a len cap zs := by
  rcases h with h | ⟨x, h1, h2, h3, h4, h5, h6⟩
  · exact .inl h
  · refine .inr ⟨x, h1, h2, h3, h4, fun i hi => ?_, h6⟩
    have hc := h5 i hi
    have hb := add_block x i
    exact hg.cell hc (by rw [hb]; intro e; exact hne x h1 (by omega) (Option.some.inj e))

theorem CurAt.lt {w : World} {B : Nat} (h : CurAt w B) : B < w.heap.size := by
  obtain ⟨_, _, _, _, _, _, h, _⟩ := h
  exact (Array.getElem?_eq_some_iff.1 h).1

theorem CurAt.kept {w w' : World} {B : Nat} {row : Option Nat} (h : CurAt w B) (hg : w.grownBy w' row) (hne : ∀ k, row = some k → B < k) : CurAt w' B := by
  have hlt := h.lt
  obtain ⟨a, len, cap, zs, i, x, h1, h2, h3, h4, h5⟩ := h
  refine ⟨a, len, cap, zs, i, x, (hg.block B hlt (fun e => by have := hne B e.symm; omega)).trans h1, ?_, h3, h4, h5⟩
  rcases h2 with h | ⟨y, g1, g2, g3, g4, g5, g6⟩
  · exact .inl h
  · refine .inr ⟨y, g1, g2, g3, g4, fun j hj => ?_, g6⟩
    have hc := g5 j hj
    have hb := add_block y j
    refine hg.cell hc (fun e => ?_)
    have := hne _ e.symm
    have := h3 y g1 (by omega)
    omega

theorem CurAt.below {w w' : World} {B b : Nat} (h : CurAt w B) (hb : Below b w w') (hB : B < b) : CurAt w' B := by
  have hlt := h.lt
  obtain ⟨a, len, cap, zs, i, x, h1, h2, h3, h4, h5⟩ := h
  refine ⟨a, len, cap, zs, i, x, (hb.block B hB).trans h1, ?_, h3, h4, h5⟩
  rcases h2 with h | ⟨y, g1, g2, g3, g4, g5, g6⟩
  · exact .inl h
  · refine .inr ⟨y, g1, g2, g3, g4, fun j hj => ?_, g6⟩
    have hc := g5 j hj
    have := h3 y g1 (by omega)
    exact (hb.cell (p := y.add j) (by rw [add_block]; omega)).trans hc

theorem grown_drawn {a w : World} {row : Option Nat} (h : a.grownBy w row) (n : Nat) : a.grownBy (w.drewN n) row := ⟨h.os, h.tape, h.output, h.size, h.block⟩

theorem grown_set {a w : World} {B : Nat} (h : a.grownBy w (some B)) (j : Nat) (v : Value) : a.grownBy (w.setCell ⟨B, j, none⟩ v) (some B) :=
  grown_trans h ⟨rfl, rfl, rfl, by simp, fun k _ hk => Below.heap_setCell w ⟨B, j, none⟩ v k (fun e => hk (by rw [e]))⟩

theorem CurAt.drawn {w : World} {B : Nat} (h : CurAt w B) (n : Nat) : CurAt (w.drewN n) B := h

set_option maxHeartbeats 1600000 in
/-- l1Byte: some byte. -/
theorem curByte (B : Nat) (w : World) (hc : CurAt w B) :
    Calls Try.prog 101 #[.pointer (some ⟨B, 0, none⟩)] w fun e w' => ∃ x : Int, e = .returned (.int .i64 x) ∧ 0 ≤ x ∧ x ≤ 255 ∧ CurAt w' B ∧ w.grownBy w' (some B) := by
  obtain ⟨a, len, cap, zs, i, h, hblk, hrow, hlt, hi, hlen⟩ := hc
  have c0 : w.cell? ⟨B, 0, none⟩ = some (.slice a len cap) := by rw [cell_of_row w B 0 _ _ (0, 0) hblk]; rfl
  have c1 : w.cell? ⟨B, 1, none⟩ = some (.int .i64 i) := by rw [cell_of_row w B 1 _ _ (0, 0) hblk]; rfl
  have c2 : w.cell? ⟨B, 2, none⟩ = some (.int .i64 h) := by rw [cell_of_row w B 2 _ _ (0, 0) hblk]; rfl
  have f1 : w.frozen? ⟨B, 1, none⟩ = false := frozen_of_row w B 1 _ _ hblk
  have f2 : w.frozen? ⟨B, 2, none⟩ = false := frozen_of_row w B 2 _ _ hblk
  have fin : ∀ (h' : Int) (i' : Nat), i' ≤ len → (CurAt (w.setCell ⟨B, 2, none⟩ (.int .i64 h')) B ∧ w.grownBy (w.setCell ⟨B, 2, none⟩ (.int .i64 h')) (some B)) ∧
      (CurAt ((w.setCell ⟨B, 2, none⟩ (.int .i64 h')).setCell ⟨B, 1, none⟩ (.int .i64 i')) B ∧ w.grownBy ((w.setCell ⟨B, 2, none⟩ (.int .i64 h')).setCell ⟨B, 1, none⟩ (.int .i64 i')) (some B)) := by
    intro h' i' hi'
    have g1 := grown_set (World.grownBy.refl w (some B)) 2 (.int .i64 h')
    have g2 := grown_set g1 1 (.int .i64 i')
    have k1 := heap_setCell_same w B 2 _ _ (.int .i64 h') hblk
    have k2 := heap_setCell_same _ B 1 _ _ (.int .i64 i') k1
    have hne : ∀ x, a = some x → 0 < zs.length → x.block ≠ B := fun x hx hz e => by have := hlt x hx hz; omega
    exact ⟨⟨⟨a, len, cap, zs, i, h', k1, hrow.grown g1 hne, hlt, hi, hlen⟩, g1⟩, ⟨⟨a, len, cap, zs, i', h', k2, hrow.grown g2 hne, hlt, hi', hlen⟩, g2⟩⟩
  by_cases hil : i < len
  · rcases hrow with ⟨_, h0, _, _⟩ | ⟨⟨b, off, spot⟩, rfl, g2, g3, g4, g5, g6⟩
    · omega
    · have hc := g5 i (by omega)
      have hspot : spot = none := by simpa [Addr.add] using World.cell?_spot (g5 0 (by omega))
      subst hspot
      obtain ⟨z, hz⟩ : ∃ z, zs.getD i 0 = z := ⟨_, rfl⟩
      rw [hz] at hc
      have hca : w.cell? ⟨b, off + i, none⟩ = some (.int .u8 z) := by
        by_cases h0 : i = 0
        · subst h0; simpa [Addr.add] using hc
        · simpa [Addr.add, h0] using hc
      have hbB : b ≠ B := by have := hlt _ rfl (by omega); intro e; subst e; exact absurd this (Nat.lt_irrefl _)
      have hcc : ∀ v, (w.setCell ⟨B, 2, none⟩ v).cell? ⟨b, off + i, none⟩ = some (.int .u8 z) := fun v => (World.cell?_setCell_other _ _ _ _ (fun e => hbB (congrArg Addr.block e).symm)).trans hca
      clear hc hz g5 g6
      go_enter Try.func101, Try.ntmps101
      go_wp2
      go_quiet (fail)
      go_wp2
      go_quiet (fail)
      go_wp2
      go_quiet (fail)
      go_wp2
      go_ret
      exact ⟨_, rfl, (and255 _).1, (and255 _).2, (fin _ (i + 1) hil).2.1.drawn _, grown_drawn (fin _ (i + 1) hil).2.2 _⟩
  · go_enter Try.func101, Try.ntmps101
    go_wp2
    go_quiet (fail)
    go_wp2
    go_quiet (fail)
    go_wp2
    go_ret
    exact ⟨_, rfl, (and255 _).1, (and255 _).2, ((fin _ i hi).1.1.drawn _).drawn _, grown_drawn (grown_drawn (fin _ i hi).1.2 _) _⟩

set_option maxHeartbeats 1600000 in
/-- l1Below: a number below n; 0 where n is not above 0. -/
theorem curBelow (B : Nat) (n : Int) (w : World) (hc : CurAt w B) (hn : n ≤ 4294967296) :
    Calls Try.prog 78 #[.pointer (some ⟨B, 0, none⟩), .int .i64 n] w fun e w' => ∃ x : Int, e = .returned (.int .i64 x) ∧ 0 ≤ x ∧ (0 < n → x < n) ∧ (n ≤ 0 → x = 0) ∧ CurAt w' B ∧ w.grownBy w' (some B) := by
  by_cases h0 : n ≤ 0
  · go_enter Try.func78, Try.ntmps78
    go_wp2
    go_ret
    exact ⟨_, rfl, Int.le_refl 0, fun h => absurd h (by omega), fun _ => rfl, hc, World.grownBy.refl _ _⟩
  · have hpos : 0 < n := by omega
    have hne : ¬ n = 0 := by omega
    by_cases h1 : n ≤ 256
    · go_enter Try.func78, Try.ntmps78
      go_wp2_with (go_at_call 101; refine (curByte B _ hc).mono ?_; rintro e w1 ⟨x, rfl, x0, x1, c1, g1⟩)
      go_ret
      exact ⟨_, rfl, Int.emod_nonneg _ hne, fun _ => Int.emod_lt_of_pos _ hpos, fun h => absurd h (by omega), c1, g1⟩
    · go_enter Try.func78, Try.ntmps78
      go_wp2_with fail
      refine (curByte B _ hc).mono ?_
      rintro e w1 ⟨x1, rfl, x10, x11, c1, g1⟩
      go_wp2_with fail
      refine (curByte B _ c1).mono ?_
      rintro e w2 ⟨x2, rfl, x20, x21, c2, g2⟩
      go_wp2_with fail
      refine (curByte B _ c2).mono ?_
      rintro e w3 ⟨x3, rfl, x30, x31, c3, g3⟩
      go_wp2_with fail
      refine (curByte B _ c3).mono ?_
      rintro e w4 ⟨x4, rfl, x40, x41, c4, g4⟩
      have g := grown_trans g1 (grown_trans g2 (grown_trans g3 g4))
      clear g1 g2 g3 g4 c1 c2 c3
      go_wp2
      go_ret
      exact ⟨_, rfl, Int.emod_nonneg _ hne, fun _ => Int.emod_lt_of_pos _ hpos, fun h => absurd h (by omega), c4, g⟩

set_option maxHeartbeats 1600000 in
theorem curNew_row (b off len cap : Nat) (zs : List Int) (w : World) (hlen : len ≤ 1048576) (hr : IsRow .u8 w (some ⟨b, off, none⟩) len cap zs) (hcell : ∀ j, j < len → w.cell? ⟨b, off + j, none⟩ = some (.int .u8 (zs.getD j 0))) (hb : b < w.heap.size) :
    Calls Try.prog 41 #[.slice (some ⟨b, off, none⟩) len cap] w fun e w' => e = .returned (.pointer (some ⟨w.heap.size, 0, none⟩)) ∧ CurAt w' w.heap.size ∧ Below w.heap.size w w' := by
  have fin : ∀ h : Int, CurAt (w.alloc (.cells #[.slice (some ⟨b, off, none⟩) len cap, .int .i64 0, .int .i64 h] 115)) w.heap.size ∧ Below w.heap.size w (w.alloc (.cells #[.slice (some ⟨b, off, none⟩) len cap, .int .i64 0, .int .i64 h] 115)) := by
    intro h
    have hB : Below w.heap.size w (w.alloc (.cells #[.slice (some ⟨b, off, none⟩) len cap, .int .i64 0, .int .i64 h] 115)) := (Below.refl _ _).alloc (Nat.le_refl _) _
    exact ⟨⟨_, len, cap, zs, 0, h, heap_alloc_new w _, hr.below hB, fun x hx _ => by cases hx; exact hb, Nat.zero_le _, hlen⟩, hB⟩
  clear hr
  go_enter Try.func41, Try.ntmps41
  go_wp2
  go_loop [3, 4] (fun t i => ∃ (k : Nat) (h : Int), k ≤ len ∧ i = .int .i64 k ∧ t = .int .i64 h) (fun _ i => len - (intOf i).toNat)
  case atStart => exact ⟨0, _, Nat.zero_le _, rfl, rfl⟩
  case round =>
    obtain ⟨k, h, hk, rfl, rfl⟩ := hrel
    by_cases hlt : k < len
    · by_cases h4 : (k : Int) < 4000
      · have hc := hcell k hlt
        go_wp2
        go_round
        case rel => exact ⟨k + 1, _, by omega, by go_num, rfl⟩
        case measure => simp [intOf]; omega
      · go_wp2
        go_ret
        exact ⟨rfl, fin _⟩
    · go_wp2
      go_ret
      exact ⟨rfl, fin _⟩

set_option maxHeartbeats 1600000 in
theorem curNew_empty (a : Option Addr) (cap : Nat) (zs : List Int) (w : World) (hr : IsRow .u8 w a 0 cap zs) (hb : ∀ x, a = some x → 0 < zs.length → x.block < w.heap.size) :
    Calls Try.prog 41 #[.slice a 0 cap] w fun e w' => e = .returned (.pointer (some ⟨w.heap.size, 0, none⟩)) ∧ CurAt w' w.heap.size ∧ Below w.heap.size w w' := by
  have fin : ∀ h : Int, CurAt (w.alloc (.cells #[.slice a 0 cap, .int .i64 0, .int .i64 h] 115)) w.heap.size ∧ Below w.heap.size w (w.alloc (.cells #[.slice a 0 cap, .int .i64 0, .int .i64 h] 115)) := by
    intro h
    have hB : Below w.heap.size w (w.alloc (.cells #[.slice a 0 cap, .int .i64 0, .int .i64 h] 115)) := (Below.refl _ _).alloc (Nat.le_refl _) _
    exact ⟨⟨_, 0, cap, zs, 0, h, heap_alloc_new w _, hr.below hB, hb, Nat.zero_le _, by omega⟩, hB⟩
  clear hr
  go_enter Try.func41, Try.ntmps41
  go_wp2
  refine wp_loop_rounds 1 ?_
  rw [rounds_succ]
  go_wp2
  go_ret
  exact ⟨rfl, fin _⟩

/-- What is known of the code that came in: it is a row, and lies in memory that was there. -/
def CodeIs (w : World) (a : Option Addr) (len cap : Nat) (zs : List Int) : Prop := IsRow .u8 w a len cap zs ∧ (∀ x, a = some x → 0 < zs.length → x.block < w.heap.size)
theorem CodeIs.below {w w' : World} {a : Option Addr} {len cap : Nat} {zs : List Int} (h : CodeIs w a len cap zs) (hb : Below w.heap.size w w') : CodeIs w' a len cap zs :=
  ⟨h.1.below hb, fun x hx hz => Nat.lt_of_lt_of_le (h.2 x hx hz) hb.size⟩

theorem code_of {w : World} {a : Option Addr} {len cap : Nat} {zs : List Int} (h : IsRow .u8 w a len cap zs) : CodeIs w a len cap zs := by
  refine ⟨h, fun x hx hz => ?_⟩
  rcases h with ⟨rfl, _⟩ | ⟨y, h1, h2, h3, h4, h5, h6⟩
  · cases hx
  · rw [h1] at hx
    cases hx
    have := block_lt_of_cell (h5 0 hz)
    rwa [add_block] at this

/-- l1New: a cursor in a new block. -/
theorem curNew (a : Option Addr) (len cap : Nat) (zs : List Int) (w : World) (hlen : len ≤ 1048576) (h : CodeIs w a len cap zs) :
    Calls Try.prog 41 #[.slice a len cap] w fun e w' => e = .returned (.pointer (some ⟨w.heap.size, 0, none⟩)) ∧ CurAt w' w.heap.size ∧ Below w.heap.size w w' := by
  obtain ⟨hr, hb⟩ := h
  by_cases h0 : len = 0
  · subst h0; exact curNew_empty a cap zs w hr hb
  · rcases hr with ⟨_, h, _, _⟩ | ⟨⟨b, off, spot⟩, rfl, h2, h3, h4, h5, h6⟩
    · exact absurd h h0
    · have hc := h5 0 (by omega)
      have hspot : spot = none := by simpa [Addr.add] using World.cell?_spot hc
      subst hspot
      refine curNew_row b off len cap zs w hlen (.inr ⟨_, rfl, h2, h3, h4, h5, h6⟩) (fun j hj => ?_) (hb _ rfl (by omega))
      have := h5 j (by omega)
      by_cases hj0 : j = 0
      · subst hj0; simpa [Addr.add] using this
      · simpa [Addr.add, hj0] using this

end Go.Proofs.Ytlpfjpbnedankaa

/- l1PickInt: one of the numbers of a list. -/
namespace Go.Proofs.Ytlpfjpbnedankaa
open Go.RowKit

set_option maxHeartbeats 1600000 in
theorem pickInt (B g n c : Nat) (xs : List Int) (w : World) (hc : CurAt w B) (hn : xs.length = n) (h0 : 0 < n) (h1 : n ≤ 4096) (hg : g ≠ B) (hcell : ∀ j, j < n → w.cell? ⟨g, j, none⟩ = some (.int .i64 (xs.getD j 0))) :
    Calls Try.prog 43 #[.pointer (some ⟨B, 0, none⟩), .slice (some ⟨g, 0, none⟩) n c] w fun e w' => ∃ x, e = .returned (.int .i64 x) ∧ x ∈ xs ∧ CurAt w' B ∧ w.grownBy w' (some B) := by
  go_enter Try.func43, Try.ntmps43
  go_wp2_with fail
  refine (curBelow B n w hc (by omega)).mono ?_
  rintro e w1 ⟨x, rfl, x0, x1, -, c1, g1⟩
  have x2 := x1 (by omega)
  obtain ⟨k, rfl⟩ := Int.eq_ofNat_of_zero_le x0
  have hk : k < n := by omega
  have hcc : w1.cell? ⟨g, k, none⟩ = some (.int .i64 (xs.getD k 0)) := g1.cell (hcell k hk) (by simpa using hg)
  have hmem : xs.getD k 0 ∈ xs := by
    rw [List.getD_eq_getElem?_getD, List.getElem?_eq_getElem (by omega : k < xs.length)]
    exact List.getElem_mem _
  obtain ⟨y, hy⟩ : ∃ y, xs.getD k 0 = y := ⟨_, rfl⟩
  rw [hy] at hcc hmem
  clear hy x1 hcell
  go_wp2
  go_ret
  exact ⟨_, rfl, hmem, c1, g1⟩

end Go.Proofs.Ytlpfjpbnedankaa

/- The draws of great numbers: l1Once, l2Right, l2Draw, each by its contract: what is handed out is a row of the call's own; of what was there the cursor alone turns. -/
namespace Go.Proofs.Ytlpfjpbnedankaa
open Go.RowKit

theorem lit_cells (w : World) (xs : List Int) (t : TypeId) : ∀ j, j < xs.length → (w.alloc (.cells (xs.map (Value.int .i64)).toArray t)).cell? ⟨w.heap.size, j, none⟩ = some (.int .i64 (xs.getD j 0)) := by
  intro j hj
  rw [cell_of_row _ _ j _ t (0, 0) (heap_alloc_new w _)]
  simp [List.getElem?_eq_getElem hj]
theorem grown_of {w w' : World} (h : Below w.heap.size w w') (row : Option Nat) : w.grownBy w' row := ⟨h.os, h.tape, h.output, h.size, fun k hk _ => h.block k hk⟩
theorem grown_then {a w w' : World} {row : Option Nat} (h : a.grownBy w row) (k : Below a.heap.size w w') : a.grownBy w' row :=
  ⟨k.os.trans h.os, k.tape.trans h.tape, k.output.trans h.output, Nat.le_trans h.size k.size, fun i hi hr => (k.block i hi).trans (h.block i hi hr)⟩
theorem grown_alloc {a w : World} {row : Option Nat} (h : a.grownBy w row) (o : Obj) : a.grownBy (w.alloc o) row :=
  grown_trans h (grown_of ((Below.refl _ _).alloc (Nat.le_refl _) o) row)
theorem ownsI.cur {w w' : World} {base B : Nat} {v : Value} {xs : List Int} (h : ownsI w base v xs) (hg : w.grownBy w' (some B)) (hB : B < base) : ownsI w' base v xs := by
  refine h.kept hg ?_
  cases hv : v.ownBlock with
  | none => exact .inl rfl
  | some k =>
    refine .inr fun e => ?_
    have := (World.ownsRow.lt h k hv).1
    cases e
    omega
theorem CurAt.alloc {w : World} {B : Nat} (h : CurAt w B) (o : Obj) : CurAt (w.alloc o) B := h.below ((Below.refl w.heap.size w).alloc (Nat.le_refl _) o) h.lt
theorem below_cur {a w w' : World} {B b : Nat} (h : Below b a w) (hg : w.grownBy w' (some B)) (hb : b ≤ B) (hs : b ≤ w.heap.size) : Below b a w' := h.grown hg hs (fun k hk => by cases hk; exact hb)

set_option maxHeartbeats 1600000 in
theorem drOnce (B : Nat) (n : Int) (w : World) (hc : CurAt w B) (hn : n ≤ 4294967296) :
    Calls Try.prog 100 #[.pointer (some ⟨B, 0, none⟩), .int .i64 n] w fun e w' => ∃ b : Bool, e = .returned (.bool b) ∧ CurAt w' B ∧ w.grownBy w' (some B) := by
  go_enter Try.func100, Try.ntmps100
  go_wp2_with fail
  refine (curBelow B n w hc hn).mono ?_
  rintro e w1 ⟨x, rfl, x0, -, -, c1, g1⟩
  go_wp2
  go_ret
  exact ⟨_, rfl, c1, g1⟩

def rightList : List Int := [0, 1, 1, 2, 3, 5, 9, 24, 47, 48]
theorem rightList_bd {n : Int} (h : n ∈ rightList) : 0 ≤ n ∧ n ≤ 48 := by
  simp [rightList] at h
  omega

set_option maxRecDepth 20000 in
set_option maxHeartbeats 3200000 in
theorem drRight (B : Nat) (w : World) (hc : CurAt w B) :
    Calls Try.prog 115 #[.pointer (some ⟨B, 0, none⟩)] w fun e w' => ∃ v xs, e = .returned v ∧ ownsI w' w.heap.size v xs ∧ xs.length ≤ 48 ∧ okB xs = true ∧ CurAt w' B ∧ w.grownBy w' (some B) := by
  have hB := hc.lt
  go_enter Try.func115, Try.ntmps115
  go_wp2_with fail
  refine (pickInt B w.heap.size 10 10 rightList _ (hc.alloc _) rfl (by omega) (by omega) (by omega) (lit_cells w rightList 3)).mono ?_
  rintro e w1 ⟨n, rfl, hn, c1, g1⟩
  obtain ⟨n0, n1⟩ := rightList_bd hn
  have G1 : w.grownBy w1 (some B) := grown_trans (grown_of ((Below.refl _ _).alloc (Nat.le_refl _) _) _) g1
  have o1 : ownsI (w1.alloc (.cells #[] 3)) w.heap.size (.slice (some ⟨w1.heap.size, 0, none⟩) 0 0) [] := ownsI_mono (made_own w1) G1.size
  have c1' := c1.alloc (.cells #[] 3)
  have G1' := grown_alloc G1 (.cells #[] 3)
  obtain ⟨m, rfl⟩ := Int.eq_ofNat_of_zero_le n0
  clear hn g1 G1 c1 n0 hc
  go_wp2
  go_loopw [4, 5] (fun v i wr => ∃ (j : Nat) (zs : List Int), j ≤ m ∧ i = .int .i64 j ∧ zs.length = j ∧ inR zs ∧ ownsI wr w.heap.size v zs ∧ CurAt wr B ∧ w.grownBy wr (some B)) (fun _ i _ => m - (intOf i).toNat)
  case atStart => exact ⟨0, [], Nat.zero_le _, rfl, rfl, inR_nil, o1, c1', G1'⟩
  case round =>
    obtain ⟨j, zs, hj, rfl, hzl, hzR, hown, hcur, hgr⟩ := hrel
    clear o1 c1' G1'
    by_cases hlt : j < m
    · have hlt' : (j : Int) < (m : Int) := by omega
      go_wp2_with fail
      refine (curBelow B 16777216 wr hcur (by omega)).mono ?_
      rintro e w2 ⟨x, rfl, x0, x1, -, c2, g2⟩
      have x1' := x1 (by omega)
      have o2 := hown.cur g2 hB
      have G2 := grown_trans hgr g2
      clear x1 hown hcur hgr g2
      go_wp2_with fail
      refine (curBelow B 16777216 w2 c2 (by omega)).mono ?_
      rintro e w3 ⟨y, rfl, y0, y1, -, c3, g3⟩
      have y1' := y1 (by omega)
      have o3 := o2.cur g3 hB
      have G3 := grown_trans G2 g3
      clear y1 o2 c2 G2 g3
      have hlit := lit_cells w3 [0, 1, x, 16777215, y] 3
      have hs3 := G3.size
      go_wp2_with fail
      refine (pickInt B w3.heap.size 5 5 [0, 1, x, 16777215, y] _ (c3.alloc _) rfl (by omega) (by omega) (by omega) hlit).mono ?_
      rintro e w4 ⟨z, rfl, hz, c4, g4⟩
      have hz' : 0 ≤ z ∧ z < 16777216 := by simp at hz; omega
      have o4 := (o3.below ((Below.refl w3.heap.size w3).alloc (Nat.le_refl _) _) (Nat.le_refl _)).cur g4 hB
      have G4 := grown_trans (grown_alloc G3 _) g4
      have hs4 := G4.size
      have hzl' : zs.length ≤ 1099511627776 := by omega
      clear hz hlit o3 c3 G3 g4
      go_wp2_with (at_builtin; refine wpI_app w4 w4 rfl (.tmp 15) (.tmp 23) rfl w.heap.size _ zs z rfl o4 (Below.refl _ _) rfl hzl' hs4 ?_; intro v5 w5 o5 b5)
      go_roundw
      case rel => exact ⟨j + 1, zs ++ [z], by omega, by go_num, by rw [List.length_append, List.length_singleton, hzl], inR_append.2 ⟨hzR, inR_cons.2 ⟨hz', inR_nil⟩⟩, o5, c4.below b5 hB, grown_then G4 b5⟩
      case measure => simp [intOf]; omega
    · have hlt' : ¬ (j : Int) < (m : Int) := by omega
      have kt := sTrim _ _ wr hown.row hzR (by omega)
      have hlen : (limbs (num zs)).length ≤ 48 := by
        refine Nat.le_trans (limbs_len_le (num zs) zs.length ?_) (by omega)
        have h1 := lval_lt hzR
        have h2 := num_val hzR
        have e : ((16777216 ^ zs.length : Nat) : Int) = (16777216 : Int) ^ zs.length := by simp
        omega
      have HOK : Hid (okB (limbs (num zs)) = true) := okB_yes (okL_limbs hlen)
      have hsz := hgr.size
      go_wp2_with fail
      refine kt.mono ?_
      rintro e w2 ⟨v1, rfl, o1, b1⟩
      go_wp2
      go_ret
      exact ⟨_, _, rfl, ownsI_mono o1 hsz, hlen, HOK.out, hcur.below b1 (Nat.lt_of_lt_of_le hB hsz), grown_then hgr (b1.mono hsz)⟩

end Go.Proofs.Ytlpfjpbnedankaa

/- l1PickInt of a row of whichever numbers, by its contract. -/
namespace Go.Proofs.Ytlpfjpbnedankaa
open Go.RowKit

/-- Whether a value is a whole number. -/
def isI : Value → Bool
  | .int .i64 _ => true
  | _ => false
def intI : Value → Int
  | .int .i64 x => x
  | _ => 0
theorem isI_eq {v : Value} (h : isI v = true) : v = .int .i64 (intI v) := by
  unfold isI at h
  split at h
  · rfl
  · cases h
/-- l1PickInt of a row of whichever numbers. -/
theorem pickAny (B g n c : Nat) (cs : Array Value) (t : TypeId) (w : World) (hc : CurAt w B) (hg : g ≠ B) (hh : w.heap[g]? = some (.cells cs t (0, 0))) (hn : cs.size = n) (ha : cs.toList.all isI = true) (h0 : 0 < n) (h1 : n ≤ 4096) :
    Calls Try.prog 43 #[.pointer (some ⟨B, 0, none⟩), .slice (some ⟨g, 0, none⟩) n c] w fun e w' => ∃ x, e = .returned (.int .i64 x) ∧ CurAt w' B ∧ w.grownBy w' (some B) := by
  refine (pickInt B g n c (cs.toList.map intI) w hc (by simp [hn]) h0 h1 hg ?_).mono ?_
  · intro j hj
    have hj' : j < cs.size := by omega
    rw [cell_of_row w g j cs t (0, 0) hh, Array.getElem?_eq_getElem hj']
    have hm : cs[j] ∈ cs.toList := by simp
    have := isI_eq (List.all_eq_true.1 ha _ hm)
    rw [List.getD_eq_getElem?_getD, List.getElem?_map]
    have e : cs.toList[j]? = some cs[j] := by simp [hj']
    rw [e]
    simp
    exact this
  · rintro e w' ⟨x, hx, -, hc', hg'⟩
    exact ⟨x, hx, hc', hg'⟩

end Go.Proofs.Ytlpfjpbnedankaa
