/- The program's great numbers inside: ninety-eight words and a size in one block; how they are read, written, copied (no walk of the program). -/
import Derived.Test.YtnojigofojjopaaDoorBase
import Derived.Laws.Rows
import Derived.Laws.Tables
import Derived.Laws.ResultCell
namespace Go.Proofs.YtnojigofojjopaaDoor
open Go.RowKit
set_option linter.unusedSimpArgs false

/-- The cells of a great number: its words, its size. -/
def gcell (ws : List Int) (k : Int) : Array Value := (ws.map (Value.int .u32) ++ [Value.int .i64 k]).toArray
/-- A block that holds a great number. -/
structure GB (w : World) (b : Nat) (ws : List Int) (k : Int) : Prop where
  blk : w.heap[b]? = some (.cells (gcell ws k) 50 (0, 0))
  len : ws.length = 98

theorem gcell_size {ws : List Int} (h : ws.length = 98) (k : Int) : (gcell ws k).size = 99 := by simp [gcell, h]
theorem zero_gcell : Tryd.zeroCells50 = gcell (List.replicate 98 0) 0 := by
  kernel_rfl
theorem great_size : (Tryd.prog.info? 50).map (·.size) = some 99 := by kernel_rfl
theorem gcell_one (ws : List Int) (k : Int) : (gcell ws k).all (·.oneCell') = true := by
  unfold gcell
  simp [Value.oneCell', Function.comp_def]

theorem GB.lt {w : World} {b : Nat} {ws : List Int} {k : Int} (h : GB w b ws k) : b < w.heap.size := by
  by_cases hlt : b < w.heap.size
  · exact hlt
  · have hn : w.heap[b]? = none := by simp; omega
    rw [h.blk] at hn; cases hn
theorem GB.word {w : World} {b : Nat} {ws : List Int} {k : Int} (h : GB w b ws k) (i : Nat) (hi : i < 98) : w.cell? ⟨b, i, none⟩ = some (.int .u32 (ws.getD i 0)) := by
  have hl : i < ws.length := by rw [h.len]; exact hi
  simp [World.cell?, h.blk, gcell, List.getElem?_append_left, List.getElem?_map, List.getElem?_eq_getElem hl, hl]
theorem GB.size {w : World} {b : Nat} {ws : List Int} {k : Int} (h : GB w b ws k) : w.cell? ⟨b, 98, none⟩ = some (.int .i64 k) := by
  simp [World.cell?, h.blk, gcell, List.getElem?_append, h.len]
theorem GB.free {w : World} {b : Nat} {ws : List Int} {k : Int} (h : GB w b ws k) (j : Nat) : w.frozen? ⟨b, j, none⟩ = false := by
  simp [World.frozen?, h.blk]
theorem gcell_set (ws : List Int) (k : Int) (i : Nat) (v : Int) (h : i < ws.length) : (gcell ws k).setIfInBounds i (.int .u32 v) = gcell (ws.set i v) k := by
  unfold gcell
  apply Array.ext'
  simp [List.set_append, h, List.map_set]
theorem gcell_setK (ws : List Int) (k k' : Int) (h : ws.length = 98) : (gcell ws k).setIfInBounds 98 (.int .i64 k') = gcell ws k' := by
  unfold gcell
  apply Array.ext'
  simp [List.set_append, h]
theorem GB.setW {w : World} {b : Nat} {ws : List Int} {k : Int} (h : GB w b ws k) (i : Nat) (hi : i < 98) (v : Int) : GB (w.setCell ⟨b, i, none⟩ (.int .u32 v)) b (ws.set i v) k := by
  refine ⟨?_, by rw [List.length_set]; exact h.len⟩
  rw [heap_setCell_same w b i _ _ _ h.blk, gcell_set _ _ _ _ (by rw [h.len]; exact hi)]
theorem GB.setK {w : World} {b : Nat} {ws : List Int} {k : Int} (h : GB w b ws k) (k' : Int) : GB (w.setCell ⟨b, 98, none⟩ (.int .i64 k')) b ws k' := by
  refine ⟨?_, h.len⟩
  rw [heap_setCell_same w b 98 _ _ _ h.blk, gcell_setK _ _ _ h.len]
theorem GB.other {w : World} {b : Nat} {ws : List Int} {k : Int} (h : GB w b ws k) (p : Addr) (hp : b ≠ p.block) (v : Value) : GB (w.setCell p v) b ws k :=
  ⟨(heap_setCell_other w p b v hp).trans h.blk, h.len⟩
theorem GB.below {w w' : World} {b B : Nat} {ws : List Int} {k : Int} (h : GB w b ws k) (hb : Below B w w') (hB : b < B) : GB w' b ws k := ⟨(hb.block b hB).trans h.blk, h.len⟩
theorem GB.tn {w w' : World} {b : Nat} {ws : List Int} {k : Int} {S : List Nat} (h : GB w b ws k) (ht : Tn S w w') (hS : b ∉ S) : GB w' b ws k := ⟨(ht.block b h.lt hS).trans h.blk, h.len⟩
theorem GB.drew {w : World} {b : Nat} {ws : List Int} {k : Int} (h : GB w b ws k) : GB w.drew b ws k := ⟨h.blk, h.len⟩
theorem GB.alloc {w : World} {b : Nat} {ws : List Int} {k : Int} (h : GB w b ws k) (o : Obj) : GB (w.alloc o) b ws k := ⟨(Below.heap_alloc w o b h.lt).trans h.blk, h.len⟩
theorem GB.made (w : World) (ws : List Int) (k : Int) (hl : ws.length = 98) : GB (w.alloc (.cells (gcell ws k) 50)) w.heap.size ws k := ⟨heap_alloc_new w _, hl⟩
theorem GB.made0 (w : World) : GB (w.alloc (.cells Tryd.zeroCells50 50)) w.heap.size (List.replicate 98 0) 0 := by
  rw [zero_gcell]
  exact GB.made w _ _ (by simp)

/-- A store into one's own block. -/
theorem Tn.cell {S : List Nat} {w w' : World} (h : Tn S w w') (p : Addr) (hp : p.block ∈ S) (v : Value) : Tn S w (w'.setCell p v) :=
  h.trans ⟨rfl, rfl, rfl, by simp [World.setCell], fun k _ hn => Below.heap_setCell _ _ _ _ (fun e => hn (e ▸ hp))⟩
theorem Tn.refl (S : List Nat) (w : World) : Tn S w w := ⟨rfl, rfl, rfl, Nat.le_refl _, fun _ _ _ => rfl⟩

/-- For a guard: the goal is a list of operations. -/
theorem wpL_id {P : Program} {ops : Array Oper} {Q : Exit → Act → World → Prop} {l : List Oper} {a : Act} {w : World} (h : wpList P ops Q l a w) : wpList P ops Q l a w := h
/-- A whole great number is read. -/
theorem wpG_load {ops : Array Oper} {rest : List Oper} {o : Oper} {a : Act} {w : World} {Q : Exit → Act → World → Prop} (hgd : o.guard = none) (x : Operand) (ho : o.op = .load 50 x)
    (b : Nat) (ws : List Int) (k : Int) (hx : a.eval x = .pointer (some ⟨b, 0, none⟩)) (hg : GB w b ws k)
    (h : wpList Tryd.prog ops Q rest (a.put o.dst (.agg (gcell ws k))) w) : wpList Tryd.prog ops Q (o :: rest) a w :=
  wpList_load_row hgd 50 x ho b hx 50 (gcell ws k) (0, 0) _ hg.blk Tryd.underlying50 rfl (by rw [gcell_size hg.len]; exact great_size) h
/-- A whole great number is written. -/
theorem wpG_store {ops : Array Oper} {rest : List Oper} {o : Oper} {a : Act} {w : World} {Q : Exit → Act → World → Prop} (hgd : o.guard = none) (x y : Operand) (ho : o.op = .store 50 x y)
    (b : Nat) (ws vs : List Int) (k l : Int) (hx : a.eval x = .pointer (some ⟨b, 0, none⟩)) (hy : a.eval y = .agg (gcell vs l)) (hg : GB w b ws k) (hl : vs.length = 98)
    (h : ∀ w', GB w' b vs l → Tn [b] w w' → w'.heap.size = w.heap.size → wpList Tryd.prog ops Q rest (a.put o.dst undef) w') : wpList Tryd.prog ops Q (o :: rest) a w :=
  wpList_store_row hgd 50 x y ho b (gcell vs l) hx hy 50 (gcell ws k) hg.blk (by rw [gcell_size hl]; exact great_size) (by rw [gcell_size hg.len, gcell_size hl]) (gcell_one _ _)
    (h _ ⟨setRow_heap w b _ _ _ _ hg.blk, hl⟩ ⟨rfl, rfl, rfl, by simp, fun j _ hn => setRow_other w b j _ (by intro e; apply hn; simp [e])⟩ (by simp))

/-- The words of a number, and noughts behind. -/
def pad (xs : List Int) : List Int := xs ++ List.replicate (98 - xs.length) 0
theorem pad_len {xs : List Int} (h : xs.length ≤ 98) : (pad xs).length = 98 := by simp [pad]; omega
theorem pad_getD (xs : List Int) (i : Nat) : (pad xs).getD i 0 = xs.getD i 0 := by
  unfold pad
  rw [List.getD_eq_getElem?_getD, List.getD_eq_getElem?_getD, List.getElem?_append]
  split
  · rfl
  · rename_i h
    rw [List.getElem?_eq_none (l := xs) (by omega), List.getElem?_replicate]
    split <;> rfl
theorem pad_set (xs : List Int) (v : Int) (h : xs.length < 98) : (pad xs).set xs.length v = pad (xs ++ [v]) := by
  unfold pad
  rw [List.set_append, if_neg (by omega), Nat.sub_self]
  obtain ⟨m, hm⟩ : ∃ m, 98 - xs.length = m + 1 := ⟨98 - xs.length - 1, by omega⟩
  rw [hm, List.replicate_succ, List.set_cons_zero, List.append_assoc, List.length_append, List.length_singleton, show 98 - (xs.length + 1) = m by omega]
  rfl
/-- The cells of the number n. -/
def gC (n : Nat) : Array Value := gcell (pad (limbs n)) ((limbs n).length : Int)
/-- A block that holds the number n. -/
def GN (w : World) (b n : Nat) : Prop := GB w b (pad (limbs n)) ((limbs n).length : Int)
theorem pad_zero : pad (limbs 0) = List.replicate 98 0 := by rw [limbs_zero]; rfl
theorem gC_zero : gC 0 = gcell (List.replicate 98 0) 0 := by unfold gC; rw [pad_zero, limbs_zero]; rfl

/-- The number n can be read at that place. -/
structure GA (w : World) (b o n : Nat) : Prop where
  word : ∀ i, i < 98 → w.cell? ⟨b, o + i, none⟩ = some (.int .u32 ((limbs n).getD i 0))
  size : w.cell? ⟨b, o + 98, none⟩ = some (.int .i64 ((limbs n).length : Int))
  len : (limbs n).length ≤ 98
theorem GA.lt {w : World} {b o n : Nat} (h : GA w b o n) : b < w.heap.size := block_lt_of_cell h.size
theorem GN.ga {w : World} {b n : Nat} (h : GN w b n) (hl : (limbs n).length ≤ 98) : GA w b 0 n :=
  ⟨fun i hi => by rw [Nat.zero_add, ← pad_getD]; exact GB.word h i hi, by exact GB.size h, hl⟩
theorem GA.below {w w' : World} {b o n B : Nat} (h : GA w b o n) (hb : Below B w w') (hB : b < B) : GA w' b o n :=
  ⟨fun i hi => (hb.cell (p := ⟨b, o + i, none⟩) hB).trans (h.word i hi), (hb.cell (p := ⟨b, o + 98, none⟩) hB).trans h.size, h.len⟩
theorem GA.tn {w w' : World} {b o n : Nat} {S : List Nat} (h : GA w b o n) (ht : Tn S w w') (hS : b ∉ S) : GA w' b o n :=
  have hk := ht.block b h.lt hS
  ⟨fun i hi => (World.cell?_of_block (w := w) (a := ⟨b, o + i, none⟩) hk).trans (h.word i hi), (World.cell?_of_block (w := w) (a := ⟨b, o + 98, none⟩) hk).trans h.size, h.len⟩
theorem GA.drew {w : World} {b o n : Nat} (h : GA w b o n) : GA w.drew b o n := ⟨h.word, h.size, h.len⟩
theorem GA.drewN {w : World} {b o n : Nat} (h : GA w b o n) (q : Nat) : GA (w.drewN q) b o n := ⟨h.word, h.size, h.len⟩
/-- A whole number is read, wherever it stands. -/
theorem GA.load {w : World} {b o n : Nat} (h : GA w b o n) : (loadVar 50 ⟨b, o, none⟩).run Tryd.prog w = .ok (.agg (gC n)) w := by
  have hl : (loadCells ⟨b, o, none⟩ (gC n).toList.length).run Tryd.prog w = .ok (gC n).toList.toArray w :=
    run_loadCells_list (P := Tryd.prog) w ⟨b, o, none⟩ (gC n).toList (fun j v hv => by
      have hadd : (⟨b, o, none⟩ : Addr).add j = ⟨b, o + j, none⟩ := by unfold Addr.add; split <;> simp_all
      rw [hadd]
      unfold gC gcell at hv
      rw [List.getElem?_append] at hv
      split at hv
      · rename_i hj
        rw [List.length_map, pad_len h.len] at hj
        rw [h.word j hj, ← pad_getD]
        rw [List.getElem?_map, List.getElem?_eq_getElem (by rw [pad_len h.len]; exact hj)] at hv
        rw [List.getD_eq_getElem?_getD, List.getElem?_eq_getElem (by rw [pad_len h.len]; exact hj)]
        exact hv
      · rename_i hj
        rw [List.length_map, pad_len h.len] at hj hv
        have hj2 : j = 98 := by
          apply Classical.byContradiction
          intro hne
          rw [List.getElem?_eq_none (by simp; omega)] at hv
          cases hv
        subst hj2
        rw [h.size]
        simpa using hv)
  have hsz : (gC n).toList.length = 99 := by rw [Array.length_toList]; exact gcell_size (pad_len h.len) _
  rw [hsz, Array.toArray_toList] at hl
  have hagg : (isAgg 50).run Tryd.prog w = .ok true w := by
    unfold isAgg
    rw [Sem.run_bind, run_underlying Tryd.underlying50 w]
    rfl
  have hi := great_size
  cases hq : Tryd.prog.info? 50 with
  | none => rw [hq] at hi; cases hi
  | some i =>
    rw [hq] at hi
    have hs : i.size = 99 := by simpa using hi
    simp [loadVar, Sem.run_bind, hagg, sizeOf, typeInfo, hq, hs, hl]
theorem wpA_load {ops : Array Oper} {rest : List Oper} {o : Oper} {a : Act} {w : World} {Q : Exit → Act → World → Prop} (hgd : o.guard = none) (x : Operand) (ho : o.op = .load 50 x)
    (b f n : Nat) (hx : a.eval x = .pointer (some ⟨b, f, none⟩)) (hg : GA w b f n)
    (h : wpList Tryd.prog ops Q rest (a.put o.dst (.agg (gC n))) w) : wpList Tryd.prog ops Q (o :: rest) a w :=
  wpList_plain hgd fun _ hK => by
    unfold Oper.wp execOp
    simp only [ho, hx, Instr.loadAt, Instr.sureAddr, Sem.run_bind, Sem.run_pure, Result.andThen_ok, hg.load]
    exact hK _ _ h
/-- A new variable that holds the number n. -/
theorem GN.made (w : World) (n : Nat) (hl : (limbs n).length ≤ 98) : GN (w.alloc (.cells (gC n) 50)) w.heap.size n := GB.made w _ _ (pad_len hl)
/-- A whole number is written. -/
theorem wpN_store {ops : Array Oper} {rest : List Oper} {o : Oper} {a : Act} {w : World} {Q : Exit → Act → World → Prop} (hgd : o.guard = none) (x y : Operand) (ho : o.op = .store 50 x y)
    (b : Nat) (ws : List Int) (k : Int) (n : Nat) (hx : a.eval x = .pointer (some ⟨b, 0, none⟩)) (hy : a.eval y = .agg (gC n)) (hg : GB w b ws k) (hl : (limbs n).length ≤ 98)
    (h : ∀ w', GN w' b n → Tn [b] w w' → w'.heap.size = w.heap.size → wpList Tryd.prog ops Q rest (a.put o.dst undef) w') : wpList Tryd.prog ops Q (o :: rest) a w :=
  wpG_store hgd x y ho b ws (pad (limbs n)) k _ hx hy hg (pad_len hl) h

end Go.Proofs.YtnojigofojjopaaDoor
