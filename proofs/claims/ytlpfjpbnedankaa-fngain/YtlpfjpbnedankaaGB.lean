/- Several small texts in one: G, GOf, GReg, GSettle, INatOk, GFrom, GPlus, GList, GCmp, GLower. -/
import Derived.Test.YtlpfjpbnedankaaBase
import Derived.Laws.Rows
import Derived.Laws.Tables
import Derived.Laws.ResultCell
import Derived.Deep.RegionHeld
import Derived.Laws.MakeOwn
import Derived.BigQuiet
/- The program's great numbers inside: ninety-eight words and a size in one block; how they are read, written, copied (no walk of the program). -/
namespace Go.Proofs.Ytlpfjpbnedankaa
open Go.RowKit
set_option linter.unusedSimpArgs false

/-- The cells of a great number: its words, its size. -/
def gcell (ws : List Int) (k : Int) : Array Value := (ws.map (Value.int .u32) ++ [Value.int .i64 k]).toArray
/-- A block that holds a great number. -/
structure GB (w : World) (b : Nat) (ws : List Int) (k : Int) : Prop where
  blk : w.heap[b]? = some (.cells (gcell ws k) 97 (0, 0))
  len : ws.length = 98

theorem gcell_size {ws : List Int} (h : ws.length = 98) (k : Int) : (gcell ws k).size = 99 := by simp [gcell, h]
theorem zero_gcell : Try.zeroCells97 = gcell (List.replicate 98 0) 0 := by
  kernel_rfl
theorem great_size : (Try.prog.info? 97).map (·.size) = some 99 := by kernel_rfl
theorem gcell_one (ws : List Int) (k : Int) : (gcell ws k).all (·.oneCell') = true := by
  unfold gcell
  simp [Value.oneCell', Function.comp_def]

theorem GB.lt {w : World} {b : Nat} {ws : List Int} {k : Int} (h : GB w b ws k) : b < w.heap.size := by
  by_cases hlt : b < w.heap.size
  · exact hlt
  · have hn : w.heap[b]? = none := by simp; omega
    rw [h.blk] at hn; cases hn
theorem GB.word {w : World} {b : Nat} {ws : List Int} {k : Int} (h : GB w b ws k) (i : Nat) (hi : i < 98) : w.cell? ⟨b, i, none⟩ = some (.int .u32 (ws.getD i 0)) := by
  have hl : i < ws.length := by rw [h.len]; exact hi
  simp [World.cell?, h.blk, gcell, List.getElem?_append_left, List.getElem?_map, List.getElem?_eq_getElem hl, hl]
theorem GB.size {w : World} {b : Nat} {ws : List Int} {k : Int} (h : GB w b ws k) : w.cell? ⟨b, 98, none⟩ = some (.int .i64 k) := by
  simp [World.cell?, h.blk, gcell, List.getElem?_append, h.len]
theorem GB.free {w : World} {b : Nat} {ws : List Int} {k : Int} (h : GB w b ws k) (j : Nat) : w.frozen? ⟨b, j, none⟩ = false := by
  simp [World.frozen?, h.blk]
theorem gcell_set (ws : List Int) (k : Int) (i : Nat) (v : Int) (h : i < ws.length) : (gcell ws k).setIfInBounds i (.int .u32 v) = gcell (ws.set i v) k := by
  unfold gcell
  apply Array.ext'
  simp [List.set_append, h, List.map_set]
theorem gcell_setK (ws : List Int) (k k' : Int) (h : ws.length = 98) : (gcell ws k).setIfInBounds 98 (.int .i64 k') = gcell ws k' := by
  unfold gcell
  apply Array.ext'
  simp [List.set_append, h]
theorem GB.setW {w : World} {b : Nat} {ws : List Int} {k : Int} (h : GB w b ws k) (i : Nat) (hi : i < 98) (v : Int) : GB (w.setCell ⟨b, i, none⟩ (.int .u32 v)) b (ws.set i v) k := by
  refine ⟨?_, by rw [List.length_set]; exact h.len⟩
  rw [heap_setCell_same w b i _ _ _ h.blk, gcell_set _ _ _ _ (by rw [h.len]; exact hi)]
theorem GB.setK {w : World} {b : Nat} {ws : List Int} {k : Int} (h : GB w b ws k) (k' : Int) : GB (w.setCell ⟨b, 98, none⟩ (.int .i64 k')) b ws k' := by
  refine ⟨?_, h.len⟩
  rw [heap_setCell_same w b 98 _ _ _ h.blk, gcell_setK _ _ _ h.len]
theorem GB.other {w : World} {b : Nat} {ws : List Int} {k : Int} (h : GB w b ws k) (p : Addr) (hp : b ≠ p.block) (v : Value) : GB (w.setCell p v) b ws k :=
  ⟨(heap_setCell_other w p b v hp).trans h.blk, h.len⟩
theorem GB.below {w w' : World} {b B : Nat} {ws : List Int} {k : Int} (h : GB w b ws k) (hb : Below B w w') (hB : b < B) : GB w' b ws k := ⟨(hb.block b hB).trans h.blk, h.len⟩
theorem GB.tn {w w' : World} {b : Nat} {ws : List Int} {k : Int} {S : List Nat} (h : GB w b ws k) (ht : Tn S w w') (hS : b ∉ S) : GB w' b ws k := ⟨(ht.block b h.lt hS).trans h.blk, h.len⟩
theorem GB.drew {w : World} {b : Nat} {ws : List Int} {k : Int} (h : GB w b ws k) : GB w.drew b ws k := ⟨h.blk, h.len⟩
theorem GB.alloc {w : World} {b : Nat} {ws : List Int} {k : Int} (h : GB w b ws k) (o : Obj) : GB (w.alloc o) b ws k := ⟨(Below.heap_alloc w o b h.lt).trans h.blk, h.len⟩
theorem GB.made (w : World) (ws : List Int) (k : Int) (hl : ws.length = 98) : GB (w.alloc (.cells (gcell ws k) 97)) w.heap.size ws k := ⟨heap_alloc_new w _, hl⟩
theorem GB.made0 (w : World) : GB (w.alloc (.cells Try.zeroCells97 97)) w.heap.size (List.replicate 98 0) 0 := by
  rw [zero_gcell]
  exact GB.made w _ _ (by simp)

/-- A store into one's own block. -/
theorem Tn.cell {S : List Nat} {w w' : World} (h : Tn S w w') (p : Addr) (hp : p.block ∈ S) (v : Value) : Tn S w (w'.setCell p v) :=
  h.trans ⟨rfl, rfl, rfl, by simp [World.setCell], fun k _ hn => Below.heap_setCell _ _ _ _ (fun e => hn (e ▸ hp))⟩
theorem Tn.refl (S : List Nat) (w : World) : Tn S w w := ⟨rfl, rfl, rfl, Nat.le_refl _, fun _ _ _ => rfl⟩

/-- For a guard: the goal is a list of operations. -/
theorem wpL_id {P : Program} {ops : Array Oper} {Q : Exit → Act → World → Prop} {l : List Oper} {a : Act} {w : World} (h : wpList P ops Q l a w) : wpList P ops Q l a w := h
/-- A whole great number is read. -/
theorem wpG_load {ops : Array Oper} {rest : List Oper} {o : Oper} {a : Act} {w : World} {Q : Exit → Act → World → Prop} (hgd : o.guard = none) (x : Operand) (ho : o.op = .load 97 x)
    (b : Nat) (ws : List Int) (k : Int) (hx : a.eval x = .pointer (some ⟨b, 0, none⟩)) (hg : GB w b ws k)
    (h : wpList Try.prog ops Q rest (a.put o.dst (.agg (gcell ws k))) w) : wpList Try.prog ops Q (o :: rest) a w :=
  wpList_load_row hgd 97 x ho b hx 97 (gcell ws k) (0, 0) _ hg.blk Try.underlying97 rfl (by rw [gcell_size hg.len]; exact great_size) h
/-- A whole great number is written. -/
theorem wpG_store {ops : Array Oper} {rest : List Oper} {o : Oper} {a : Act} {w : World} {Q : Exit → Act → World → Prop} (hgd : o.guard = none) (x y : Operand) (ho : o.op = .store 97 x y)
    (b : Nat) (ws vs : List Int) (k l : Int) (hx : a.eval x = .pointer (some ⟨b, 0, none⟩)) (hy : a.eval y = .agg (gcell vs l)) (hg : GB w b ws k) (hl : vs.length = 98)
    (h : ∀ w', GB w' b vs l → Tn [b] w w' → w'.heap.size = w.heap.size → wpList Try.prog ops Q rest (a.put o.dst undef) w') : wpList Try.prog ops Q (o :: rest) a w :=
  wpList_store_row hgd 97 x y ho b (gcell vs l) hx hy 97 (gcell ws k) hg.blk (by rw [gcell_size hl]; exact great_size) (by rw [gcell_size hg.len, gcell_size hl]) (gcell_one _ _)
    (h _ ⟨setRow_heap w b _ _ _ _ hg.blk, hl⟩ ⟨rfl, rfl, rfl, by simp, fun j _ hn => setRow_other w b j _ (by intro e; apply hn; simp [e])⟩ (by simp))

/-- The words of a number, and noughts behind. -/
def pad (xs : List Int) : List Int := xs ++ List.replicate (98 - xs.length) 0
theorem pad_len {xs : List Int} (h : xs.length ≤ 98) : (pad xs).length = 98 := by simp [pad]; omega
theorem pad_getD (xs : List Int) (i : Nat) : (pad xs).getD i 0 = xs.getD i 0 := by
  unfold pad
  rw [List.getD_eq_getElem?_getD, List.getD_eq_getElem?_getD, List.getElem?_append]
  split
  · rfl
  · rename_i h
    rw [List.getElem?_eq_none (l := xs) (by omega), List.getElem?_replicate]
    split <;> rfl
theorem pad_set (xs : List Int) (v : Int) (h : xs.length < 98) : (pad xs).set xs.length v = pad (xs ++ [v]) := by
  unfold pad
  rw [List.set_append, if_neg (by omega), Nat.sub_self]
  obtain ⟨m, hm⟩ : ∃ m, 98 - xs.length = m + 1 := ⟨98 - xs.length - 1, by omega⟩
  rw [hm, List.replicate_succ, List.set_cons_zero, List.append_assoc, List.length_append, List.length_singleton, show 98 - (xs.length + 1) = m by omega]
  rfl
/-- The cells of the number n. -/
def gC (n : Nat) : Array Value := gcell (pad (limbs n)) ((limbs n).length : Int)
/-- A block that holds the number n. -/
def GN (w : World) (b n : Nat) : Prop := GB w b (pad (limbs n)) ((limbs n).length : Int)
theorem pad_zero : pad (limbs 0) = List.replicate 98 0 := by rw [limbs_zero]; rfl
theorem gC_zero : gC 0 = gcell (List.replicate 98 0) 0 := by unfold gC; rw [pad_zero, limbs_zero]; rfl

/-- The number n can be read at that place. -/
structure GA (w : World) (b o n : Nat) : Prop where
  word : ∀ i, i < 98 → w.cell? ⟨b, o + i, none⟩ = some (.int .u32 ((limbs n).getD i 0))
  size : w.cell? ⟨b, o + 98, none⟩ = some (.int .i64 ((limbs n).length : Int))
  len : (limbs n).length ≤ 98
theorem GA.lt {w : World} {b o n : Nat} (h : GA w b o n) : b < w.heap.size := block_lt_of_cell h.size
theorem GN.ga {w : World} {b n : Nat} (h : GN w b n) (hl : (limbs n).length ≤ 98) : GA w b 0 n :=
  ⟨fun i hi => by rw [Nat.zero_add, ← pad_getD]; exact GB.word h i hi, by exact GB.size h, hl⟩
theorem GA.below {w w' : World} {b o n B : Nat} (h : GA w b o n) (hb : Below B w w') (hB : b < B) : GA w' b o n :=
  ⟨fun i hi => (hb.cell (p := ⟨b, o + i, none⟩) hB).trans (h.word i hi), (hb.cell (p := ⟨b, o + 98, none⟩) hB).trans h.size, h.len⟩
theorem GA.tn {w w' : World} {b o n : Nat} {S : List Nat} (h : GA w b o n) (ht : Tn S w w') (hS : b ∉ S) : GA w' b o n :=
  have hk := ht.block b h.lt hS
  ⟨fun i hi => (World.cell?_of_block (w := w) (a := ⟨b, o + i, none⟩) hk).trans (h.word i hi), (World.cell?_of_block (w := w) (a := ⟨b, o + 98, none⟩) hk).trans h.size, h.len⟩
theorem GA.drew {w : World} {b o n : Nat} (h : GA w b o n) : GA w.drew b o n := ⟨h.word, h.size, h.len⟩
theorem GA.drewN {w : World} {b o n : Nat} (h : GA w b o n) (q : Nat) : GA (w.drewN q) b o n := ⟨h.word, h.size, h.len⟩
/-- A whole number is read, wherever it stands. -/
theorem GA.load {w : World} {b o n : Nat} (h : GA w b o n) : (loadVar 97 ⟨b, o, none⟩).run Try.prog w = .ok (.agg (gC n)) w := by
  have hl : (loadCells ⟨b, o, none⟩ (gC n).toList.length).run Try.prog w = .ok (gC n).toList.toArray w :=
    run_loadCells_list (P := Try.prog) w ⟨b, o, none⟩ (gC n).toList (fun j v hv => by
      have hadd : (⟨b, o, none⟩ : Addr).add j = ⟨b, o + j, none⟩ := by unfold Addr.add; split <;> simp_all
      rw [hadd]
      unfold gC gcell at hv
      rw [List.getElem?_append] at hv
      split at hv
      · rename_i hj
        rw [List.length_map, pad_len h.len] at hj
        rw [h.word j hj, ← pad_getD]
        rw [List.getElem?_map, List.getElem?_eq_getElem (by rw [pad_len h.len]; exact hj)] at hv
        rw [List.getD_eq_getElem?_getD, List.getElem?_eq_getElem (by rw [pad_len h.len]; exact hj)]
        exact hv
      · rename_i hj
        rw [List.length_map, pad_len h.len] at hj hv
        have hj2 : j = 98 := by
          apply Classical.byContradiction
          intro hne
          rw [List.getElem?_eq_none (by simp; omega)] at hv
          cases hv
        subst hj2
        rw [h.size]
        simpa using hv)
  have hsz : (gC n).toList.length = 99 := by rw [Array.length_toList]; exact gcell_size (pad_len h.len) _
  rw [hsz, Array.toArray_toList] at hl
  have hagg : (isAgg 97).run Try.prog w = .ok true w := by
    unfold isAgg
    rw [Sem.run_bind, run_underlying Try.underlying97 w]
    rfl
  have hi := great_size
  cases hq : Try.prog.info? 97 with
  | none => rw [hq] at hi; cases hi
  | some i =>
    rw [hq] at hi
    have hs : i.size = 99 := by simpa using hi
    simp [loadVar, Sem.run_bind, hagg, sizeOf, typeInfo, hq, hs, hl]
theorem wpA_load {ops : Array Oper} {rest : List Oper} {o : Oper} {a : Act} {w : World} {Q : Exit → Act → World → Prop} (hgd : o.guard = none) (x : Operand) (ho : o.op = .load 97 x)
    (b f n : Nat) (hx : a.eval x = .pointer (some ⟨b, f, none⟩)) (hg : GA w b f n)
    (h : wpList Try.prog ops Q rest (a.put o.dst (.agg (gC n))) w) : wpList Try.prog ops Q (o :: rest) a w :=
  wpList_plain hgd fun _ hK => by
    unfold Oper.wp execOp
    simp only [ho, hx, Instr.loadAt, Instr.sureAddr, Sem.run_bind, Sem.run_pure, Result.andThen_ok, hg.load]
    exact hK _ _ h
/-- A new variable that holds the number n. -/
theorem GN.made (w : World) (n : Nat) (hl : (limbs n).length ≤ 98) : GN (w.alloc (.cells (gC n) 97)) w.heap.size n := GB.made w _ _ (pad_len hl)
/-- A whole number is written. -/
theorem wpN_store {ops : Array Oper} {rest : List Oper} {o : Oper} {a : Act} {w : World} {Q : Exit → Act → World → Prop} (hgd : o.guard = none) (x y : Operand) (ho : o.op = .store 97 x y)
    (b : Nat) (ws : List Int) (k : Int) (n : Nat) (hx : a.eval x = .pointer (some ⟨b, 0, none⟩)) (hy : a.eval y = .agg (gC n)) (hg : GB w b ws k) (hl : (limbs n).length ≤ 98)
    (h : ∀ w', GN w' b n → Tn [b] w w' → w'.heap.size = w.heap.size → wpList Try.prog ops Q rest (a.put o.dst undef) w') : wpList Try.prog ops Q (o :: rest) a w :=
  wpG_store hgd x y ho b ws (pad (limbs n)) k _ hx hy hg (pad_len hl) h

end Go.Proofs.Ytlpfjpbnedankaa

/- The program's greatOf, by its contract. -/
namespace Go.Proofs.Ytlpfjpbnedankaa
open Go.RowKit

theorem limbs_len3 {n : Nat} (h : n < 18446744073709551616) : (limbs n).length ≤ 3 := limbs_len_le n 3 (by omega)
theorem results_great {fn : Func} {p : Tmp} (h : fn.results = #[.cell p 97]) (tmps : Array Value) (w : World) (b : Nat) (ws : List Int) (k : Int)
    (hp : tmps.getD p undef = .pointer (some ⟨b, 0, none⟩)) (hg : GB w b ws k) : (results fn tmps).run Try.prog w = .ok (.agg (gcell ws k)) w :=
  results_cell_row h tmps w b 97 (gcell ws k) (0, 0) _ hp hg.blk Try.underlying97 rfl (by rw [gcell_size hg.len]; exact great_size)

set_option maxHeartbeats 1600000 in
/-- greatOf: the number. -/
theorem gOf (n : Nat) (w : World) (hn : n < 18446744073709551616) :
    Calls Try.prog 64 #[.int .u64 n] w fun e w' => e = .returned (.agg (gC n)) ∧ Below w.heap.size w w' := by
  have h3 := limbs_len3 hn
  go_enter Try.func64, Try.ntmps64
  go_wp2
  have R0 := (GB.made0 w).alloc (.cells Try.zeroCells97 97)
  have G0 := GB.made0 (w.alloc (.cells Try.zeroCells97 97))
  have hs0 : (w.alloc (.cells Try.zeroCells97 97)).heap.size = w.heap.size + 1 := by simp
  have B0 : Below w.heap.size w ((w.alloc (.cells Try.zeroCells97 97)).alloc (.cells Try.zeroCells97 97)) := ((Below.refl w.heap.size w).alloc (Nat.le_refl _) _).alloc (by simp) _
  rw [hs0] at G0
  clear hs0
  generalize (w.alloc (.cells Try.zeroCells97 97)).alloc (.cells Try.zeroCells97 97) = w0 at *
  go_loopw [0] (fun v wr => ∃ (m : Nat) (done : List Int), v = .int .u64 m ∧ m < 18446744073709551616 ∧ done.length ≤ 3 ∧ Hid (limbs n = done ++ limbs m) ∧ GB wr (w.heap.size + 1) (pad done) (done.length : Int) ∧ GB wr w.heap.size (List.replicate 98 0) 0 ∧ Below w.heap.size w wr) (fun v _ => (intOf v).toNat)
  case atStart => exact ⟨n, [], rfl, hn, by simp, by show _ = _; simp, G0, R0, B0⟩
  case round =>
    obtain ⟨m, done, rfl, hm, hd, HL, hG, hR, hB⟩ := hrel
    by_cases h0 : m = 0
    · subst h0
      have e1 : limbs n = done := by have := HL.out; rw [limbs_zero, List.append_nil] at this; exact this
      have HE : Hid (gC n = gcell (pad done) (done.length : Int)) := by show _ = _; unfold gC; rw [e1]
      have hpl : (pad done).length = 98 := pad_len (by omega)
      clear HL e1
      go_wp2_with (first | (refine wpG_load rfl (.tmp 3) rfl (w.heap.size + 1) _ _ rfl hG ?_) | (refine wpG_store rfl (.tmp 2) (.tmp 19) rfl w.heap.size _ _ _ _ rfl rfl hR hpl ?_; intro w1 g1 t1 s1))
      (try simp only [Exit.inBlock, Exit.then])
      refine bodyPost_ret (v := .agg (gC n)) ?_ rfl ⟨rfl, t1.below hB hB.size (by simp)⟩
      rw [HE.out]
      exact results_great rfl _ _ w.heap.size _ _ rfl g1
    · have hpos : 0 < m := by omega
      have hl1 : limbs m = ((m % 16777216 : Nat) : Int) :: limbs (m / 16777216) := limbs_pos m hpos
      have hdl : done.length < 3 := by
        have := congrArg List.length HL.out
        rw [hl1] at this
        simp at this
        omega
      have HL2 : Hid (limbs n = (done ++ [((m % 16777216 : Nat) : Int)]) ++ limbs (m / 16777216)) := by
        show _ = _
        rw [HL.out, hl1]; simp
      have HG : Hid (GB wr (w.heap.size + 1) (pad done) (done.length : Int)) := hG
      have c1 := hG.size
      have c2 := hG.word done.length (by omega)
      have f1 := hG.free 98
      have f2 := hG.free done.length
      have hpos' : (0 : Int) < (m : Int) := by omega
      clear HL hl1 hpos hG
      go_wp2
      go_roundw
      case rel =>
        refine ⟨m / 16777216, done ++ [((m % 16777216 : Nat) : Int)], by go_num, by omega, by simp; omega, HL2, ?_, ?_, ?_⟩
        · have := (HG.out.setW done.length (by omega) ((m % 16777216 : Nat) : Int)).setK ((done.length : Int) + 1)
          rw [pad_set _ _ (by omega)] at this
          simpa using this
        · exact (hR.other _ (by show w.heap.size ≠ w.heap.size + 1; omega) _).other _ (by show w.heap.size ≠ w.heap.size + 1; omega) _
        · exact (hB.setCell (by show w.heap.size ≤ w.heap.size + 1; omega) _).setCell (by show w.heap.size ≤ w.heap.size + 1; omega) _
      case measure => simp [intOf]; omega

end Go.Proofs.Ytlpfjpbnedankaa

/- Regions that draw their order and read or write whole great numbers: the steps (no walk of the program). -/
namespace Go.Proofs.Ytlpfjpbnedankaa
open Go.RowKit

theorem alloc_below (w : World) (o : Obj) : Below w.heap.size w (w.alloc o) := (Below.refl _ _).alloc (Nat.le_refl _) o
/-- Number i is taken first; its slot said. -/
theorem takeH {ops : Array Oper} {Q : Exit → Act → World → Prop} {md : Region.Mode} {S : World → Prop} {oi : Oper} {fuel : Nat} {listed : Array Bool} {a : Act} {w : World} (i : Nat) (d : Option Tmp) (v : Value) (hi : ops[i]? = some oi) (hd : oi.dst = d)
    (hs : Region.noSelect ops = true) (hf : Region.free md ops listed i = true) (hr : (Region.ready md ops listed).contains i = true)
    (hQ : ∀ c a w, Q (.panic c) (a.put oi.dst v) w → Q (.panic c) a w) (hy : YieldsIf Try.prog ops S oi v a) (hS : S w)
    (h : wpAnyH Try.prog md ops Q S fuel (listed.setIfInBounds i true) (a.put d v) w) : wpAnyH Try.prog md ops Q S (fuel + 1) listed a w := by
  subst hd
  exact wpAnyH_take hi hs hf hr hQ hy hS h
/-- The one that may come up is run; its slot said. -/
theorem oneH {ops : Array Oper} {Q : Exit → Act → World → Prop} {md : Region.Mode} {S : World → Prop} {o : Oper} {fuel : Nat} {listed : Array Bool} {a : Act} {w : World} (i : Nat) (ho : ops[i]? = some o) (hr : Region.ready md ops listed = [i])
    (h : ∀ K' : Act → World → Prop, (∀ a w, S w → wpAnyH Try.prog md ops Q S fuel (listed.setIfInBounds i true) a w → K' a w) → if Region.wanted o (yielded ops a.tmps) = true then Oper.wp Try.prog o a w K' Q else K' (a.put o.dst undef) w) : wpAnyH Try.prog md ops Q S (fuel + 1) listed a w :=
  wpAnyH_all hr (by simp) (fun j hj => by
    obtain rfl : j = i := by simpa using hj
    exact wpOp_step ho (fun K' hK => h K' (fun a w h1 h2 => hK a w ⟨h1, h2⟩)))
/-- A whole number that is read may be taken first. -/
theorem yg_load {ops : Array Oper} {S : World → Prop} {o : Oper} {a : Act} (hw : Region.wanted o (yielded ops a.tmps) = true) (x : Operand) (ho : o.op = .load 97 x)
    (b f n : Nat) (hx : a.eval x = .pointer (some ⟨b, f, none⟩)) (hS : ∀ W, S W → GA W b f n) : YieldsIf Try.prog ops S o (.agg (gC n)) a := by
  refine .inl ⟨hw, fun W hW => ?_⟩
  unfold execOp
  simp only [ho, hx, Instr.loadAt, Instr.sureAddr, Sem.run_bind, Sem.run_pure, Result.andThen_ok, (hS W hW).load]
/-- A copy may be taken first. -/
theorem yg_move {ops : Array Oper} {S : World → Prop} {o : Oper} {a : Act} (hw : Region.wanted o (yielded ops a.tmps) = true) (x : Operand) (ho : o.op = .move x) (v : Value) (hx : a.eval x = v) : YieldsIf Try.prog ops S o v a := by
  subst hx
  refine .inl ⟨hw, fun W _ => ?_⟩
  rw [BigFrame.run_move x ho]
theorem yg_assign {ops : Array Oper} {S : World → Prop} {o : Oper} {a : Act} (hw : Region.wanted o (yielded ops a.tmps) = true) (x : Operand) (ho : o.op = .assign x) (v : Value) (hx : a.eval x = v) : YieldsIf Try.prog ops S o v a := by
  subst hx
  refine .inl ⟨hw, fun W _ => ?_⟩
  rw [BigFrame.run_assign x ho]
theorem yg_pick {ops : Array Oper} {S : World → Prop} {o : Oper} {a : Act} (hw : Region.wanted o (yielded ops a.tmps) = true) (c x y : Operand) (ho : o.op = .pick c x y) (t : Bool) (hc : a.eval c = .bool t) (v : Value) (hv : (if t then a.eval x else a.eval y) = v) : YieldsIf Try.prog ops S o v a := by
  subst hv
  refine .inl ⟨hw, fun W _ => ?_⟩
  unfold execOp
  cases t <;> simp [ho, hc, asBool]
/-- What is not wanted yields nothing. -/
theorem yg_skip {ops : Array Oper} {S : World → Prop} {o : Oper} {a : Act} (hw : Region.wanted o (yielded ops a.tmps) = false) : YieldsIf Try.prog ops S o undef a := .inr ⟨hw, rfl⟩
/-- A whole number is written, as one step of such a region. -/
theorem sg_store {ops : Array Oper} {o : Oper} {a : Act} {w : World} {K : Act → World → Prop} {Q : Exit → Act → World → Prop} {E : Prop} (hgd : o.guard = none) (x y : Operand) (ho : o.op = .store 97 x y)
    (b : Nat) (ws : List Int) (k : Int) (n : Nat) (hx : a.eval x = .pointer (some ⟨b, 0, none⟩)) (hy : a.eval y = .agg (gC n)) (hg : GB w b ws k) (hl : (limbs n).length ≤ 98)
    (hd : o.dst = none) (h : ∀ w', GN w' b n → Tn [b] w w' → w'.heap.size = w.heap.size → K a w') :
    if Region.wanted o (yielded ops a.tmps) = true then Oper.wp Try.prog o a w K Q else E := by
  have hw : Region.wanted o (yielded ops a.tmps) = true := by simp [Region.wanted, hgd]
  rw [if_pos hw]
  have hpl := pad_len hl
  exact wp_store_row 97 x y ho b (gC n) hx hy 97 (gcell ws k) hg.blk (by show _ = some (gcell _ _).size; rw [gcell_size hpl]; exact great_size) (by show _ = (gcell _ _).size; rw [gcell_size hg.len, gcell_size hpl]) (gcell_one _ _)
    (by rw [hd]; exact h _ ⟨setRow_heap w b _ _ _ _ hg.blk, hpl⟩ ⟨rfl, rfl, rfl, by simp, fun j _ hn => setRow_other w b j _ (by intro e; apply hn; simp [e])⟩ (by simp))
theorem GN.tn {w w' : World} {b n : Nat} {S : List Nat} (h : GN w b n) (ht : Tn S w w') (hS : b ∉ S) : GN w' b n := GB.tn h ht hS
theorem GN.below {w w' : World} {b n B : Nat} (h : GN w b n) (hb : Below B w w') (hB : b < B) : GN w' b n := GB.below h hb hB
theorem GN.alloc {w : World} {b n : Nat} (h : GN w b n) (o : Obj) : GN (w.alloc o) b n := GB.alloc h o
theorem GN.lt {w : World} {b n : Nat} (h : GN w b n) : b < w.heap.size := GB.lt h
theorem GN.drew {w : World} {b n : Nat} (h : GN w b n) : GN w.drew b n := GB.drew h

end Go.Proofs.Ytlpfjpbnedankaa

/- The program's settle, by its contract. -/
namespace Go.Proofs.Ytlpfjpbnedankaa
open Go.RowKit

theorem getD_take {xs : List Int} {m j : Nat} (h : j < m) : (xs.take m).getD j 0 = xs.getD j 0 := by
  rw [List.getD_eq_getElem?_getD, List.getD_eq_getElem?_getD, List.getElem?_take, if_pos h]
theorem eq_pad {ws xs : List Int} (hl : ws.length = 98) (h : ws.take xs.length = xs) (hx : xs.length ≤ 98) (hz : ∀ j, xs.length ≤ j → ws.getD j 0 = 0) : ws = pad xs := by
  apply List.ext_getElem?
  intro i
  by_cases hi : i < 98
  · have e1 : ws[i]? = some (ws.getD i 0) := by rw [List.getD_eq_getElem?_getD, List.getElem?_eq_getElem (by omega)]; rfl
    have e2 : (pad xs)[i]? = some ((pad xs).getD i 0) := by rw [List.getD_eq_getElem?_getD, List.getElem?_eq_getElem (by rw [pad_len hx]; exact hi)]; rfl
    rw [e1, e2, pad_getD]
    by_cases h2 : i < xs.length
    · rw [← h, getD_take (by omega)]
    · rw [hz i (by omega), List.getD_eq_getElem?_getD, List.getElem?_eq_none (by omega)]; rfl
  · rw [List.getElem?_eq_none (by omega), List.getElem?_eq_none (by rw [pad_len hx]; omega)]
theorem settle_fin {ws : List Int} {m t : Nat} (hl : ws.length = 98) (hm : m ≤ 98) (hr : inR (ws.take m)) (ht : t ≤ m) (hz : ∀ j, t ≤ j → ws.getD j 0 = 0) (h0 : 0 < t → ws.getD (t - 1) 0 ≠ 0) :
    ws = pad (limbs (num (ws.take m))) ∧ t = (limbs (num (ws.take m))).length := by
  have hlm : (ws.take m).length = m := by rw [List.length_take]; omega
  have e := trim_limbs (ws.take m) t hr (by omega) (fun j h1 h2 => by rw [getD_take (by omega)]; exact hz j h1) (fun h => by rw [getD_take (by omega)]; exact h0 h)
  rw [List.take_take, Nat.min_eq_left ht] at e
  have el : t = (limbs (num (ws.take m))).length := by rw [← e, List.length_take]; omega
  refine ⟨eq_pad hl (by rw [← el]; exact e) (by omega) (fun j hj => hz j (by omega)), el⟩

set_option maxHeartbeats 1600000 in
/-- settle: the size of what is left. -/
theorem gSettle (b : Nat) (ws : List Int) (k : Int) (m : Nat) (w : World) (hg : GB w b ws k) (hm : m ≤ 98) (hr : inR (ws.take m)) (hz : ∀ j, m ≤ j → ws.getD j 0 = 0) :
    Calls Try.prog 95 #[.pointer (some ⟨b, 0, none⟩), .int .i64 m] w fun e w' => e = .returned (.tuple #[]) ∧ GN w' b (num (ws.take m)) ∧ Tn [b] w w' ∧ w'.heap.size = w.heap.size := by
  have f98 := hg.free 98
  have c98 := hg.size
  go_enter Try.func95, Try.ntmps95
  go_wp2
  go_loop [1] (fun i => ∃ t : Nat, t ≤ m ∧ i = .int .i64 t ∧ ∀ j, t ≤ j → ws.getD j 0 = 0) (fun i => (intOf i).toNat)
  case atStart => exact ⟨m, Nat.le_refl _, rfl, hz⟩
  case round =>
    obtain ⟨t, ht, rfl, hzz⟩ := hrel
    have HZ : Hid (∀ j, t ≤ j → ws.getD j 0 = 0) := hzz
    clear hzz
    by_cases h0 : t = 0
    · subst h0
      have hn' : ¬ (0 : Int) < ((0 : Nat) : Int) := by omega
      have HF : Hid (ws = pad (limbs (num (ws.take m))) ∧ (0 : Nat) = (limbs (num (ws.take m))).length) := settle_fin hg.len hm hr ht HZ.out (fun h => absurd h (by omega))
      have HG : Hid (GB w b ws k) := hg
      clear hg hr hz
      go_wp2
      go_end0
      refine ⟨rfl, ?_, (Tn.refl [b] w).cell _ (by simp) _, by simp [World.setCell]⟩
      have := HG.out.setK 0
      unfold GN
      rw [← HF.out.2]
      rw [HF.out.1] at this
      rw [← HF.out.1] at this ⊢
      exact this
    · obtain ⟨s, rfl⟩ : ∃ s, t = s + 1 := ⟨t - 1, by omega⟩
      have hnp : (0 : Int) < ((s + 1 : Nat) : Int) := by omega
      have hc := hg.word s (by omega)
      by_cases hd : ws.getD s 0 = 0
      · rw [hd] at hc
        have HN : Hid (∀ j, s ≤ j → ws.getD j 0 = 0) := fun j h1 => by
          by_cases e : j = s
          · subst e; exact hd
          · exact HZ.out j (by omega)
        clear hd
        go_wp2
        go_round
        case rel => exact ⟨s, by omega, by go_num, HN.out⟩
        case measure => simp [intOf]
      · have HF : Hid (ws = pad (limbs (num (ws.take m))) ∧ (s + 1 : Nat) = (limbs (num (ws.take m))).length) := settle_fin hg.len hm hr ht HZ.out (fun _ => hd)
        have HG : Hid (GB w b ws k) := hg
        obtain ⟨d, hdd⟩ : ∃ d, ws.getD s 0 = d := ⟨_, rfl⟩
        rw [hdd] at hc hd
        have ed : (d == 0) = false := by rw [beq_eq_false_iff_ne]; exact hd
        clear hdd hd hg hr hz
        go_wp2
        go_end0
        refine ⟨rfl, ?_, (Tn.refl [b] w).cell _ (by simp) _, by simp [World.setCell]⟩
        have := HG.out.setK ((s + 1 : Nat) : Int)
        unfold GN
        rw [← HF.out.2]
        rw [← HF.out.1]
        exact this

end Go.Proofs.Ytlpfjpbnedankaa

/- The program's NatOk, by its contract. -/
namespace Go.Proofs.Ytlpfjpbnedankaa
open Go.RowKit

set_option maxHeartbeats 1600000 in
/-- NatOk. -/
theorem iNatOk (v : Value) (xs : List Int) (w : World) (h : rowI w v xs) (hl : xs.length ≤ 1099511627776) :
    Calls Try.prog 94 #[v] w fun e w' => e = .returned (.bool (okB xs)) ∧ w' = w := by
  obtain ⟨a, cap, rfl, h2, h3, h4, h5, h6⟩ := h
  have H6 : Hid (∀ j, j < xs.length → ∃ g off, a = some ⟨g, off, none⟩ ∧ g < w.heap.size ∧ w.cell? ⟨g, off + j, none⟩ = some (.int .i64 (xs.getD j 0))) := h6
  clear h6 h4 h5
  by_cases hlen : xs.length ≤ 48
  · have hlen' : ¬ ((48 : Int) < (xs.length : Int)) := by omega
    go_enter Try.func94, Try.ntmps94
    go_wp2
    go_loop [10] (fun i => ∃ k : Nat, k ≤ xs.length ∧ i = .int .i64 k ∧ inR (xs.take k)) (fun i => xs.length - (intOf i).toNat)
    case atStart => exact ⟨0, Nat.zero_le _, rfl, by simpa using inR_nil⟩
    case round =>
      obtain ⟨k, hk, rfl, hin⟩ := hrel
      by_cases hlt : k < xs.length
      · obtain ⟨g, off, rfl, hg, hc⟩ := H6.out k hlt
        have hmem := getD_in hlt
        have hsn : xs.take (k + 1) = xs.take k ++ [xs.getD k 0] := by
          rw [List.take_succ_eq_append_getElem hlt, List.getD_eq_getElem?_getD, List.getElem?_eq_getElem hlt]; rfl
        obtain ⟨d, hd⟩ : ∃ d, xs.getD k 0 = d := ⟨_, rfl⟩
        rw [hd] at hc hmem hsn
        have HS : Hid (xs.take (k + 1) = xs.take k ++ [d]) := hsn
        clear hd hsn
        by_cases r1 : 0 ≤ d
        · have q1 : decide (d < 0) = false := by simp; omega
          by_cases r2 : d < 16777216
          · have q2 : decide (16777216 ≤ d) = false := by simp; omega
            go_wp2
            go_round
            case rel => exact ⟨k + 1, by omega, by go_num, by rw [HS.out]; exact inR_append.2 ⟨hin, inR_cons.2 ⟨⟨r1, r2⟩, inR_nil⟩⟩⟩
            case measure => simp [intOf]; omega
          · have HB : Hid (okB xs = false) := okB_no fun hok => r2 (hok.2.1 d hmem).2
            have q2 : decide (16777216 ≤ d) = true := by simp; omega
            clear r2
            go_wp2
            go_ret
            exact ⟨by rw [HB.out]; rfl, rfl⟩
        · have HB : Hid (okB xs = false) := okB_no fun hok => r1 (hok.2.1 d hmem).1
          have q1 : decide (d < 0) = true := by simp; omega
          clear r1
          go_wp2
          go_ret
          exact ⟨by rw [HB.out]; rfl, rfl⟩
      · have hin' : inR xs := by rwa [List.take_of_length_le (by omega)] at hin
        clear hin
        by_cases h0 : xs.length = 0
        · have hx : xs = [] := List.eq_nil_of_length_eq_zero h0
          have HB : Hid (okB xs = true) := okB_yes ⟨hlen, hin', noZ_of (.inl hx)⟩
          have e0 : ((xs.length : Int) == 0) = true := by rw [h0]; rfl
          clear hin' hx
          go_wp2
          go_ret
          exact ⟨by rw [HB.out]; rfl, rfl⟩
        · obtain ⟨g, off, rfl, hg, hc⟩ := H6.out (xs.length - 1) (by omega)
          have e0 : ((xs.length : Int) == 0) = false := by rw [beq_eq_false_iff_ne]; omega
          have hpos : 0 < xs.length := by omega
          have hres : okB xs = !(xs.getD (xs.length - 1) 0 == 0) := by
            by_cases hz : xs.getD (xs.length - 1) 0 = 0
            · rw [okB_no (fun hok => hok.2.2 (List.length_pos_iff.1 hpos) (by rw [last_getD]; exact hz)), hz]; rfl
            · rw [okB_yes ⟨hlen, hin', noZ_of (.inr hz)⟩, beq_eq_false_iff_ne.2 hz]; rfl
          obtain ⟨d, hd⟩ : ∃ d, xs.getD (xs.length - 1) 0 = d := ⟨_, rfl⟩
          rw [hd] at hc hres
          have HB : Hid (okB xs = !(d == 0)) := hres
          clear hd hin' hres
          go_wp2
          go_ret
          exact ⟨by rw [HB.out]; rfl, rfl⟩
  · have hlen' : (48 : Int) < (xs.length : Int) := by omega
    have HB : Hid (okB xs = false) := okB_no fun hok => hlen hok.1
    go_enter Try.func94, Try.ntmps94
    go_wp2
    go_ret
    exact ⟨by rw [HB.out]; rfl, rfl⟩

end Go.Proofs.Ytlpfjpbnedankaa

/- The program's greatFrom, by its contract. -/
namespace Go.Proofs.Ytlpfjpbnedankaa
open Go.RowKit

theorem results_great_tmp {fn : Func} {p u : Tmp} (h : fn.results = #[.cell p 97, .tmp u]) (tmps : Array Value) (w : World) (b : Nat) (ws : List Int) (k : Int) (v : Value)
    (hp : tmps.getD p undef = .pointer (some ⟨b, 0, none⟩)) (hu : tmps.getD u undef = v) (hg : GB w b ws k) : (results fn tmps).run Try.prog w = .ok (.tuple #[.agg (gcell ws k), v]) w := by
  have hl := run_loadVar_row (P := Try.prog) w b 97 97 (gcell ws k) (0, 0) _ hg.blk Try.underlying97 rfl (by rw [gcell_size hg.len]; exact great_size)
  have hp' : tmps[p]?.getD undef = .pointer (some ⟨b, 0, none⟩) := by simpa using hp
  have hu' : tmps[u]?.getD undef = v := by simpa using hu
  simp [results, h, hp', hu', asAddr, hl]
theorem limbs_num {xs : List Int} (h : okL xs) : limbs (num xs) = xs := (okL_eq h).symm
def fromN (xs : List Int) : Nat := if okB xs = true then num xs else 0
theorem fromN_len (xs : List Int) : (limbs (fromN xs)).length ≤ 48 := by
  unfold fromN
  split
  · rename_i h
    have h2 := (okB_iff xs).1 h
    rw [limbs_num h2]
    exact h2.1
  · rw [limbs_zero]; simp

set_option maxHeartbeats 3200000 in
/-- greatFrom: the number, and whether the list is right. -/
theorem gFrom (v : Value) (xs : List Int) (w : World) (h : rowI w v xs) (hlx : xs.length ≤ 1048576) :
    Calls Try.prog 67 #[v] w fun e w' => e = .returned (.tuple #[.agg (gC (fromN xs)), .bool (okB xs)]) ∧ Below w.heap.size w w' := by
  have R0 := (GB.made0 w).alloc (.cells Try.zeroCells97 97)
  have G0 := GB.made0 (w.alloc (.cells Try.zeroCells97 97))
  have hs0 : (w.alloc (.cells Try.zeroCells97 97)).heap.size = w.heap.size + 1 := by simp
  have B0 : Below w.heap.size w ((w.alloc (.cells Try.zeroCells97 97)).alloc (.cells Try.zeroCells97 97)) := ((Below.refl w.heap.size w).alloc (Nat.le_refl _) _).alloc (by simp) _
  rw [hs0] at G0
  clear hs0
  have ka := fun W (hW : Below w.heap.size w W) => iNatOk v xs W (h.below hW (Nat.le_refl _)) (by omega)
  obtain ⟨a, cap, rfl, -⟩ := id h
  by_cases hok : okB xs = true
  · rw [hok] at ka
    have hokl := (okB_iff xs).1 hok
    have HN : Hid (gC (fromN xs) = gcell (pad xs) (xs.length : Int)) := by
      show _ = _
      unfold gC fromN
      rw [if_pos hok, limbs_num hokl]
    have hl48 := hokl.1
    have hin := hokl.2.1
    have HR : Hid (okB xs = true) := hok
    clear hok hokl
    go_enter Try.func67, Try.ntmps67
    go_wp2_with fail
    refine (ka _ B0).mono ?_
    rintro e w1 ⟨rfl, rfl⟩
    generalize (w.alloc (.cells Try.zeroCells97 97)).alloc (.cells Try.zeroCells97 97) = w1 at *
    clear ka
    go_wp2
    go_loopw [13] (fun i wr => ∃ (k : Nat), k ≤ xs.length ∧ i = .int .i64 k ∧ GB wr (w.heap.size + 1) (pad (xs.take k)) 0 ∧ GB wr w.heap.size (List.replicate 98 0) 0 ∧ Below w.heap.size w wr) (fun i _ => xs.length - (intOf i).toNat)
    case atStart => exact ⟨0, Nat.zero_le _, rfl, G0, R0, B0⟩
    case round =>
      clear G0 R0 B0
      obtain ⟨k, hk, rfl, hG, hR, hB⟩ := hrel
      by_cases hlt : k < xs.length
      · have hlt' : (k : Int) < (xs.length : Int) := by omega
        obtain ⟨g, off, rfl, hc⟩ := (h.below hB (Nat.le_refl _)).at k hlt
        have gx := inR_getD hin k
        have HT : Hid (xs.take (k + 1) = xs.take k ++ [xs.getD k 0]) := by
          show _ = _
          rw [List.take_succ_eq_append_getElem hlt, List.getD_eq_getElem?_getD, List.getElem?_eq_getElem hlt]; rfl
        obtain ⟨x, hx⟩ : ∃ x, xs.getD k 0 = x := ⟨_, rfl⟩
        rw [hx] at gx hc HT
        obtain ⟨gx0, gx1⟩ := gx
        have hk98 : (k : Int) < 98 := by omega
        have cz := hG.word k (by omega)
        have fz := hG.free k
        have HG : Hid (GB wr (w.heap.size + 1) (pad (xs.take k)) 0) := hG
        have HB : Hid (GB wr w.heap.size (List.replicate 98 0) 0 ∧ Below w.heap.size w wr) := ⟨hR, hB⟩
        have HH := h
        clear hx hG hR hB h
        go_wp2
        go_roundw
        case rel =>
          refine ⟨k + 1, by omega, by go_num, ?_, ?_, ?_⟩
          · have := HG.out.setW k (by omega) x
            have hlk : (xs.take k).length = k := by rw [List.length_take]; omega
            have hp := pad_set (xs.take k) x (by omega)
            rw [hlk] at hp
            rw [hp, ← HT.out] at this
            exact this
          · exact HB.out.1.other _ (by show w.heap.size ≠ w.heap.size + 1; omega) _
          · exact HB.out.2.setCell (by show w.heap.size ≤ w.heap.size + 1; omega) _
        case measure => simp [intOf]; omega
      · have hke : k = xs.length := by omega
        subst hke
        have hlt' : ¬ ((xs.length : Int) < (xs.length : Int)) := by omega
        rw [List.take_length] at hG
        have G2 := hG.setK (xs.length : Int)
        have R2 := hR.other ⟨w.heap.size + 1, 98, none⟩ (by show w.heap.size ≠ w.heap.size + 1; omega) (.int .i64 (xs.length : Int))
        have B2 := hB.setCell (p := ⟨w.heap.size + 1, 98, none⟩) (by show w.heap.size ≤ w.heap.size + 1; omega) (.int .i64 (xs.length : Int))
        have cz := hG.size
        have fz := hG.free 98
        have hpl : (pad xs).length = 98 := pad_len (by omega)
        have hsz : w.heap.size ≤ (wr.setCell ⟨w.heap.size + 1, 98, none⟩ (.int .i64 (xs.length : Int))).heap.size := B2.size
        clear hG hR hB h
        go_wp2_with (first | (refine wpG_load rfl (.tmp 4) rfl (w.heap.size + 1) _ _ rfl G2 ?_) | (refine wpG_store rfl (.tmp 2) (.tmp 27) rfl w.heap.size _ _ _ _ rfl rfl R2 hpl ?_; intro w5 g5 t5 s5))
        (try simp only [Exit.inBlock, Exit.then])
        refine bodyPost_ret (v := .tuple #[.agg (gC (fromN xs)), .bool (okB xs)]) ?_ rfl ⟨rfl, t5.below B2 hsz (by simp)⟩
        rw [HN.out, HR.out]
        exact results_great_tmp rfl _ _ w.heap.size _ _ _ rfl rfl g5
  · have hof : okB xs = false := by simpa using hok
    rw [hof] at ka
    have HN : Hid (gC (fromN xs) = gcell (List.replicate 98 0) 0) := by
      show _ = _
      unfold fromN
      rw [if_neg hok]
      exact gC_zero
    have HR : Hid (okB xs = false) := hof
    clear hok hof
    go_enter Try.func67, Try.ntmps67
    go_wp2_with fail
    refine (ka _ B0).mono ?_
    rintro e w1 ⟨rfl, rfl⟩
    generalize (w.alloc (.cells Try.zeroCells97 97)).alloc (.cells Try.zeroCells97 97) = w1 at *
    clear ka h
    have hpl : (List.replicate 98 (0 : Int)).length = 98 := by simp
    go_wp2_with (first | (refine wpG_load rfl (.tmp 4) rfl (w.heap.size + 1) _ _ rfl G0 ?_) | (refine wpG_store rfl (.tmp 2) (.tmp 10) rfl w.heap.size _ _ _ _ rfl rfl R0 hpl ?_; intro w5 g5 t5 s5))
    (try simp only [Exit.inBlock, Exit.then])
    refine bodyPost_ret (v := .tuple #[.agg (gC (fromN xs)), .bool (okB xs)]) ?_ rfl ⟨rfl, t5.below B0 B0.size (by simp)⟩
    rw [HN.out, HR.out]
    exact results_great_tmp rfl _ _ w.heap.size _ _ _ rfl rfl g5

theorem fromN_ok {xs : List Int} (h : okB xs = true) : fromN xs = num xs := by unfold fromN; rw [if_pos h]
end Go.Proofs.Ytlpfjpbnedankaa

/- The program's plus, by its contract. -/
namespace Go.Proofs.Ytlpfjpbnedankaa
open Go.RowKit

theorem GB.drewN {w : World} {b : Nat} {ws : List Int} {k : Int} (h : GB w b ws k) (q : Nat) : GB (w.drewN q) b ws k := ⟨h.blk, h.len⟩
theorem Below.drewN {B : Nat} {a w : World} (h : Below B a w) (q : Nat) : Below B a (w.drewN q) := h.trans ⟨rfl, rfl, rfl, Nat.le_refl _, fun _ _ => rfl⟩
theorem take_set_succ {ws : List Int} {k : Nat} (h : k < ws.length) (v : Int) : (ws.set k v).take (k + 1) = ws.take k ++ [v] := by
  rw [List.take_succ_eq_append_getElem (by rw [List.length_set]; exact h), List.take_set_of_le (Nat.le_refl _), List.getElem_set_self]
theorem gset_ne {ws : List Int} {k j : Nat} (v : Int) (h : k ≠ j) : (ws.set k v).getD j 0 = ws.getD j 0 := by
  rw [List.getD_eq_getElem?_getD, List.getElem?_set_ne h, ← List.getD_eq_getElem?_getD]
theorem getD_far {xs : List Int} {j : Nat} (h : xs.length ≤ j) : xs.getD j 0 = 0 := by
  rw [List.getD_eq_getElem?_getD, List.getElem?_eq_none h]; rfl
/-- A great number's block among the new ones is not one of what was there. -/
theorem GA.ne {w : World} {b o n : Nat} (h : GA w b o n) : b ≠ w.heap.size := Nat.ne_of_lt h.lt
/-- behind the sum -/
theorem sum_fin {ws : List Int} {m n k : Nat} (hr : inR (ws.take k)) (h : lval (ws.take k) = lval ((limbs m).take k) + lval ((limbs n).take k)) (h1 : (limbs m).length ≤ k) (h2 : (limbs n).length ≤ k) : num (ws.take k) = m + n := by
  rw [List.take_of_length_le h1, List.take_of_length_le h2, limbs_val, limbs_val] at h
  have := num_val hr
  omega

set_option maxHeartbeats 3200000 in
/-- plus: the sum. -/
theorem gPlus (b ob m n : Nat) (w : World) (hl1 : (limbs m).length ≤ 97) (hl2 : (limbs n).length ≤ 97) (hb : GA w b ob n) :
    Calls Try.prog 75 #[.agg (gC m), .pointer (some ⟨b, ob, none⟩)] w fun e w' => e = .returned (.agg (gC (m + n))) ∧ Below w.heap.size w w' := by
  have hl3 : (limbs (m + n)).length ≤ 98 := by
    have a1 := limbs_lt m
    have a2 := limbs_lt n
    have p1 := Nat.pow_le_pow_right (by omega : 0 < 16777216) hl1
    have p2 := Nat.pow_le_pow_right (by omega : 0 < 16777216) hl2
    refine limbs_len_le (m + n) 98 ?_
    have e : (16777216 : Nat) ^ 98 = 16777216 ^ 97 * 16777216 := rfl
    omega
  have hgc : gC m = gcell (pad (limbs m)) ((limbs m).length : Int) := rfl
  rw [hgc]
  have G0 := (GB.made w (pad (limbs m)) ((limbs m).length : Int) (pad_len (by omega))).alloc (.cells Try.zeroCells97 97)
  have R0 := GB.made0 (w.alloc (.cells (gcell (pad (limbs m)) ((limbs m).length : Int)) 97))
  have hs0 : (w.alloc (.cells (gcell (pad (limbs m)) ((limbs m).length : Int)) 97)).heap.size = w.heap.size + 1 := by simp
  have B0 : Below w.heap.size w ((w.alloc (.cells (gcell (pad (limbs m)) ((limbs m).length : Int)) 97)).alloc (.cells Try.zeroCells97 97)) := ((Below.refl w.heap.size w).alloc (Nat.le_refl _) _).alloc (by simp) _
  rw [hs0] at R0
  have hA := hb.below B0 hb.lt
  have hne : b < w.heap.size := hb.lt
  clear hs0 hgc
  obtain ⟨M, hM⟩ : ∃ M, max (limbs m).length (limbs n).length = M := ⟨_, rfl⟩
  have hM1 : (limbs m).length ≤ M := by omega
  have hM2 : (limbs n).length ≤ M := by omega
  have hM3 : M ≤ 97 := by omega
  have HM : Hid ((if (limbs m).length < (limbs n).length then ((limbs n).length : Int) else ((limbs m).length : Int)) = (M : Int)) := by
    show _ = _
    split <;> omega
  clear hM
  go_enter Try.func75, Try.ntmps75
  go_wp2_with fail
  generalize (w.alloc (.cells (gcell (pad (limbs m)) ((limbs m).length : Int)) 97)).alloc (.cells Try.zeroCells97 97) = w0 at *
  have c1 := G0.size
  have c2 := hA.size
  go_quiet (fail)
  rw [HM.out]
  have hA : GA (w0.drewN nq) b ob n := hA.drewN nq
  have G0 := G0.drewN nq
  have R0 := R0.drewN nq
  have B0 := Below.drewN B0 nq
  generalize w0.drewN nq = w1 at *
  clear HM c1 c2
  go_wp2
  go_loopw [6, 7] (fun c i wr => ∃ (k : Nat) (cc : Int) (ws : List Int), k ≤ M + 1 ∧ i = .int .i64 k ∧ c = .int .u32 cc ∧ 0 ≤ cc ∧ cc ≤ 1 ∧ (M < k → cc = 0) ∧ inR (ws.take k) ∧ (∀ j, k ≤ j → ws.getD j 0 = (limbs m).getD j 0) ∧ Hid (lval (ws.take k) + 16777216 ^ k * cc = lval ((limbs m).take k) + lval ((limbs n).take k)) ∧ GB wr w.heap.size ws ((limbs m).length : Int) ∧ GB wr (w.heap.size + 1) (List.replicate 98 0) 0 ∧ GA wr b ob n ∧ Below w.heap.size w wr) (fun _ i _ => M + 1 - (intOf i).toNat)
  case atStart => exact ⟨0, 0, pad (limbs m), by omega, rfl, rfl, by omega, by omega, fun _ => rfl, by rw [List.take_zero]; exact inR_nil, fun j _ => pad_getD _ _, by show _ = _; simp [lval], G0, R0, hA, B0⟩
  case round =>
    clear G0 R0 hA B0
    obtain ⟨k, cc, ws, hk, rfl, rfl, cc0, cc1, cz, hoR, hw, HL, hG, hR, hA, hB⟩ := hrel
    have hlen := hG.len
    by_cases hlt : k ≤ M
    · have HT : Hid (lval ((limbs m).take (k + 1)) = lval ((limbs m).take k) + 16777216 ^ k * (limbs m).getD k 0 ∧ lval ((limbs n).take (k + 1)) = lval ((limbs n).take k) + 16777216 ^ k * (limbs n).getD k 0) := ⟨lval_take_succ _ k, lval_take_succ _ k⟩
      have gx := inR_getD (limbs_inR m) k
      have gy := inR_getD (limbs_inR n) k
      have hxz : (limbs m).length ≤ k → (limbs m).getD k 0 = 0 := getD_far
      have hyz : (limbs n).length ≤ k → (limbs n).getD k 0 = 0 := getD_far
      have cx := hG.word k (by omega)
      rw [hw k (Nat.le_refl _)] at cx
      have cy := hA.word k (by omega)
      have fx := hG.free k
      have HW : Hid (∀ j, k + 1 ≤ j → ∀ v, (ws.set k v).getD j 0 = (limbs m).getD j 0) := fun j hj v => by rw [gset_ne v (by omega)]; exact hw j (by omega)
      obtain ⟨xk, hxk⟩ : ∃ xk, (limbs m).getD k 0 = xk := ⟨_, rfl⟩
      obtain ⟨yk, hyk⟩ : ∃ yk, (limbs n).getD k 0 = yk := ⟨_, rfl⟩
      rw [hxk] at gx HT hxz cx
      rw [hyk] at gy HT hyz cy
      obtain ⟨gx0, gx1⟩ := gx
      obtain ⟨gy0, gy1⟩ := gy
      have HZ : Hid (((limbs m).length ≤ k → xk = 0) ∧ ((limbs n).length ≤ k → yk = 0)) := ⟨hxz, hyz⟩
      have HG : Hid (GB wr w.heap.size ws ((limbs m).length : Int) ∧ GB wr (w.heap.size + 1) (List.replicate 98 0) 0 ∧ GA wr b ob n ∧ Below w.heap.size w wr) := ⟨hG, hR, hA, hB⟩
      have hk98 : (k : Int) < 98 := by omega
      have hk98' : k < 98 := by omega
      have hlt' : (k : Int) < (M : Int) + 1 := by omega
      clear hxk hyk hxz hyz hG hR hA hB hw
      go_wp2_with fail
      go_quiet (fail)
      have HG2 : Hid (GB (wr.drewN nq) w.heap.size ws ((limbs m).length : Int) ∧ GB (wr.drewN nq) (w.heap.size + 1) (List.replicate 98 0) 0 ∧ GA (wr.drewN nq) b ob n ∧ Below w.heap.size w (wr.drewN nq)) := ⟨HG.out.1.drewN nq, HG.out.2.1.drewN nq, HG.out.2.2.1.drewN nq, Below.drewN HG.out.2.2.2 nq⟩
      clear HG
      go_wp2
      go_roundw
      case rel =>
        refine ⟨k + 1, (xk + yk + cc) / 16777216, ws.set k ((xk + yk + cc) % 16777216), by omega, by go_num, by go_num, by omega, by omega, fun h => ?_, ?_, fun j hj => HW.out j hj _, ?_, ?_, ?_, ?_, ?_⟩
        · have z1 := HZ.out.1 (by omega)
          have z2 := HZ.out.2 (by omega)
          omega
        · rw [take_set_succ (by omega)]
          exact inR_append.2 ⟨hoR, inR_cons.2 ⟨by omega, inR_nil⟩⟩
        · show _ = _
          rw [HT.out.1, HT.out.2, take_set_succ (by omega)]
          exact plus_step k cc _ _ _ (ws.take k) (by rw [List.length_take]; omega) HL.out xk yk rfl
        · exact HG2.out.1.setW k (by omega) _
        · exact HG2.out.2.1.other _ (by show w.heap.size + 1 ≠ w.heap.size; omega) _
        · exact HG2.out.2.2.1.tn ((Tn.refl [w.heap.size] _).cell _ (by simp) _) (by simp; omega)
        · exact HG2.out.2.2.2.setCell (by show w.heap.size ≤ w.heap.size; omega) _
      case measure => simp [intOf]; omega
    · have hke : k = M + 1 := by omega
      subst hke
      have hcz := cz (by omega)
      subst hcz
      have hval : lval (ws.take (M + 1)) = lval ((limbs m).take (M + 1)) + lval ((limbs n).take (M + 1)) := by
        have := HL.out
        rw [Int.mul_zero, Int.add_zero] at this
        exact this
      have hnum := sum_fin hoR hval (by omega) (by omega)
      have kS := gSettle w.heap.size ws ((limbs m).length : Int) (M + 1) wr hG (by omega) hoR (fun j hj => by rw [hw j hj]; exact getD_far (by omega))
      rw [hnum] at kS
      have hlt' : ¬ (((M + 1 : Nat) : Int) < (M : Int) + 1) := by omega
      have hcast : ((M + 1 : Nat) : Int) = (M : Int) + 1 := by omega
      rw [hcast] at kS hlt'
      rw [hcast]
      have HG : Hid (GB wr (w.heap.size + 1) (List.replicate 98 0) 0 ∧ Below w.heap.size w wr) := ⟨hR, hB⟩
      have hbs := hB.size
      clear hval hnum HL hG hR hA hB hw hcast hoR
      go_wp2_with fail
      refine kS.mono ?_
      rintro e w5 ⟨rfl, g5, t5, s5⟩
      have R5 := HG.out.1.tn t5 (by simp)
      have B5 := t5.below HG.out.2 hbs (by simp)
      have A5 := GN.ga g5 hl3
      go_wp2_with (first | (refine wpA_load rfl (.tmp 2) rfl w.heap.size 0 (m + n) rfl A5 ?_) | (refine wpN_store rfl (.tmp 4) (.tmp 44) rfl (w.heap.size + 1) _ _ (m + n) rfl rfl R5 hl3 ?_; intro w6 g6 t6 s6))
      (try simp only [Exit.inBlock, Exit.then])
      refine bodyPost_ret (v := .agg (gC (m + n))) ?_ rfl ⟨rfl, t6.below B5 B5.size (by simp)⟩
      exact results_great rfl _ _ (w.heap.size + 1) _ _ rfl g6

end Go.Proofs.Ytlpfjpbnedankaa

/- The program's list of a great number, by its contract. -/
namespace Go.Proofs.Ytlpfjpbnedankaa
open Go.RowKit

theorem listed {xs zs : List Int} {k : Nat} (hk : k < xs.length) (hl : zs.length = xs.length) (h : ∀ j, j < k → zs.getD j 0 = xs.getD j 0) : ∀ j, j < k + 1 → (zs.set k (xs.getD k 0)).getD j 0 = xs.getD j 0 := by
  intro j hj
  rw [List.getD_eq_getElem?_getD, List.getElem?_set]
  by_cases e : k = j
  · subst e
    rw [if_pos rfl, if_pos (by omega)]
    rfl
  · rw [if_neg e, ← List.getD_eq_getElem?_getD]
    exact h j (by omega)
theorem all_listed {xs zs : List Int} (hl : zs.length = xs.length) (h : ∀ j, j < xs.length → zs.getD j 0 = xs.getD j 0) : zs = xs := by
  apply List.ext_getElem?
  intro i
  by_cases hi : i < xs.length
  · have := h i hi
    rw [List.getD_eq_getElem?_getD, List.getD_eq_getElem?_getD, List.getElem?_eq_getElem hi, List.getElem?_eq_getElem (by omega)] at this
    rw [List.getElem?_eq_getElem hi, List.getElem?_eq_getElem (by omega)]
    simpa using this
  · rw [List.getElem?_eq_none (by omega), List.getElem?_eq_none (by omega)]

theorem nil_own (w : World) (base : Nat) : ownsI w base (.slice none 0 0) [] := by
  unfold ownsI
  exact ⟨rfl, .inl ⟨rfl, rfl⟩⟩

set_option maxRecDepth 20000 in
set_option maxHeartbeats 3200000 in
/-- limbs: all of them, in a list of its own. -/
theorem gLimbs (b o n : Nat) (w : World) (ha : GA w b o n) :
    Calls Try.prog 74 #[.pointer (some ⟨b, o, none⟩)] w (fun e w' => ∃ v, e = .returned v ∧ ownsI w' w.heap.size v (limbs n) ∧ Below w.heap.size w w') := by
  have hl := ha.len
  have hbl := ha.lt
  have c98 := ha.size
  have hxr := limbs_inR n
  have hWr : ∀ k, k < 98 → ∀ W, Below w.heap.size w W → W.cell? ⟨b, o + k, none⟩ = some (.int .u32 ((limbs n).getD k 0)) := fun k hk W g => (ha.below g hbl).word k hk
  have HW : Hid (∀ k, k < 98 → ∀ W, Below w.heap.size w W → W.cell? ⟨b, o + k, none⟩ = some (.int .u32 ((limbs n).getD k 0))) := hWr
  clear hWr ha
  generalize limbs n = xs at *
  obtain ⟨i0, hi, hz0, hz1, hz2⟩ := info_parts Try.info3
  obtain ⟨w1, hmk, hown1, hg1⟩ := run_make_full (P := Try.prog) w w.heap.size 25 3 i0 (.int .i64 0) 1 Try.underlying25 hi hz0 hz1 .i64 .i64 xs.length (by rw [hz2]; omega) (by unfold maxLen; omega) (by simp)
  have hb1 : Below w.heap.size w w1 := (Below.refl _ _).grown hg1 (by simp) (fun k hk => by cases hk)
  have hz : (madeCells (Value.int .i64 0).cells (xs.length * 1)).toList = (List.replicate xs.length (0 : Int)).map (Value.int .i64) := by
    rw [Nat.mul_one]
    have := toList_madeCells_one (Value.int .i64 0) xs.length
    rw [List.map_replicate]
    exact this
  rw [hz] at hown1
  clear hg1 hi hz0 hz1 hz2 hz
  go_enter Try.func74, Try.ntmps74
  go_wp2
  clear c98 hmk
  go_loopw [12] (fun i wr => ∃ (k : Nat) (zs : List Int), k ≤ xs.length ∧ i = .int .i64 k ∧ zs.length = xs.length ∧ Hid (∀ j, j < k → zs.getD j 0 = xs.getD j 0) ∧ wr.ownsRow w.heap.size 3 1 (.slice (some ⟨w.heap.size, 0, none⟩) xs.length xs.length) xs.length (zs.map (Value.int .i64)) ∧ Below w.heap.size w wr) (fun i _ => xs.length - (intOf i).toNat)
  case atStart => exact ⟨0, List.replicate xs.length 0, Nat.zero_le _, rfl, List.length_replicate, fun j hj => absurd hj (by omega), hown1, hb1⟩
  case round =>
    clear hown1 hb1
    obtain ⟨k, zs, hk, rfl, hzl, HZ, hown, hbw⟩ := hrel
    by_cases hlt : k < xs.length
    · have hlt' : (k : Int) < (xs.length : Int) := by omega
      have cw := HW.out k (by omega) wr hbw
      have hk98 : (k : Int) < 98 := by omega
      have gx := inR_getD hxr k
      have HN := listed hlt hzl HZ.out
      obtain ⟨x, hx⟩ : ∃ x, xs.getD k 0 = x := ⟨_, rfl⟩
      rw [hx] at cw gx HN
      have HN2 : Hid (∀ j, j < k + 1 → (zs.set k x).getD j 0 = xs.getD j 0) := HN
      obtain ⟨gx0, gx1⟩ := gx
      have cz := cellsI_of hown hzl k hlt
      have fz := hown.frozenAt k
      have hs := hown.stored k (.int .i64 x)
      have HS : Hid ((wr.setCell ⟨w.heap.size, k, none⟩ (.int .i64 x)).ownsRow w.heap.size 3 1 (.slice (some ⟨w.heap.size, 0, none⟩) xs.length xs.length) xs.length ((zs.map (Value.int .i64)).set k (.int .i64 x))) := hs.1
      have HG : Hid (Below w.heap.size w wr) := hbw
      clear hx HN hown hs hbw HZ
      go_wp2
      go_roundw
      case rel =>
        refine ⟨k + 1, zs.set k x, by omega, by go_num, by rw [List.length_set, hzl], HN2, by rw [List.map_set]; exact HS.out, ?_⟩
        exact HG.out.setCell (Nat.le_refl _) _
      case measure => simp [intOf]; omega
    · have hke : k = xs.length := by omega
      subst hke
      have HE : Hid (zs = xs) := all_listed hzl HZ.out
      have hlt' : ¬ ((xs.length : Int) < (xs.length : Int)) := by omega
      have HO : Hid (wr.ownsRow w.heap.size 3 1 (.slice (some ⟨w.heap.size, 0, none⟩) xs.length xs.length) xs.length (zs.map (Value.int .i64)) ∧ Below w.heap.size w wr) := ⟨hown, hbw⟩
      clear hown hbw HZ
      go_wp2
      go_ret
      refine ⟨_, rfl, ?_, HO.out.2⟩
      show ownsI wr w.heap.size _ xs
      unfold ownsI
      have := HO.out.1
      rw [HE.out] at this
      exact this

set_option maxHeartbeats 3200000 in
/-- list: the limbs, where there are not too many. -/
theorem gList (n : Nat) (w : World) (hl : (limbs n).length ≤ 98) :
    Calls Try.prog 65 #[.agg (gC n)] w (ansI w (fitR n)) := by
  have N0 := GN.made w n hl
  have A0 := GN.ga N0 hl
  have B0 : Below w.heap.size w (w.alloc (.cells (gC n) 97)) := (Below.refl _ _).alloc (Nat.le_refl _) _
  have c98 := GB.size N0
  by_cases h48 : (limbs n).length ≤ 48
  · have HR : Hid (fitR n = (limbs n, true)) := by show _ = _; unfold fitR; rw [if_pos h48]
    have hc : ¬ ((48 : Int) < ((limbs n).length : Int)) := by omega
    have hs1 : w.heap.size ≤ (w.alloc (.cells (gC n) 97)).heap.size := by simp
    have kL := gLimbs w.heap.size 0 n _ A0
    clear N0 A0
    go_enter Try.func65, Try.ntmps65
    go_wp2_with fail
    refine kL.mono ?_
    rintro e w1 ⟨v1, rfl, o1, b1⟩
    go_wp2
    go_ret2
    exact ⟨_, by rw [HR.out]; rfl, by rw [HR.out]; exact ownsI_mono o1 hs1, B0.trans (b1.mono hs1)⟩
  · have HR : Hid (fitR n = ([], false)) := by show _ = _; unfold fitR; rw [if_neg h48]
    have h48' : (48 : Int) < ((limbs n).length : Int) := by omega
    clear hl
    go_enter Try.func65, Try.ntmps65
    go_wp2
    go_ret2
    exact ⟨_, by rw [HR.out]; rfl, by rw [HR.out]; exact nil_own _ _, B0⟩

end Go.Proofs.Ytlpfjpbnedankaa

/- The program's order of great numbers, by its contract. -/
namespace Go.Proofs.Ytlpfjpbnedankaa
open Go.RowKit

def cmpG (x y : Int) : Int := if x < y then -1 else if y < x then 1 else 0

set_option maxHeartbeats 800000 in
theorem compI (x y : Int) (w : World) : Calls Try.prog 96 #[.int .i64 x, .int .i64 y] w fun e w' => e = .returned (.int .i64 (cmpG x y)) ∧ w' = w := by
  have e1 : (x != x) = false := by simp
  have e2 : (y != y) = false := by simp
  by_cases h1 : x < y
  · have HR : Hid (cmpG x y = -1) := by show _ = _; unfold cmpG; rw [if_pos h1]
    go_enter Try.func96, Try.ntmps96
    go_wp2
    go_ret
    exact ⟨by rw [HR.out]; rfl, rfl⟩
  · by_cases h2 : y < x
    · have HR : Hid (cmpG x y = 1) := by show _ = _; unfold cmpG; rw [if_neg h1, if_pos h2]
      go_enter Try.func96, Try.ntmps96
      go_wp2
      go_ret
      exact ⟨by rw [HR.out]; rfl, rfl⟩
    · have HR : Hid (cmpG x y = 0) := by show _ = _; unfold cmpG; rw [if_neg h1, if_neg h2]
      go_enter Try.func96, Try.ntmps96
      go_wp2
      go_ret
      exact ⟨by rw [HR.out]; rfl, rfl⟩
set_option maxHeartbeats 800000 in
theorem compW (x y : Int) (w : World) : Calls Try.prog 97 #[.int .u32 x, .int .u32 y] w fun e w' => e = .returned (.int .i64 (cmpG x y)) ∧ w' = w := by
  have e1 : (x != x) = false := by simp
  have e2 : (y != y) = false := by simp
  by_cases h1 : x < y
  · have HR : Hid (cmpG x y = -1) := by show _ = _; unfold cmpG; rw [if_pos h1]
    go_enter Try.func97, Try.ntmps97
    go_wp2
    go_ret
    exact ⟨by rw [HR.out]; rfl, rfl⟩
  · by_cases h2 : y < x
    · have HR : Hid (cmpG x y = 1) := by show _ = _; unfold cmpG; rw [if_neg h1, if_pos h2]
      go_enter Try.func97, Try.ntmps97
      go_wp2
      go_ret
      exact ⟨by rw [HR.out]; rfl, rfl⟩
    · have HR : Hid (cmpG x y = 0) := by show _ = _; unfold cmpG; rw [if_neg h1, if_neg h2]
      go_enter Try.func97, Try.ntmps97
      go_wp2
      go_ret
      exact ⟨by rw [HR.out]; rfl, rfl⟩

theorem limbs_len_lt {m n : Nat} (h : (limbs m).length < (limbs n).length) : m < n := by
  have h1 := limbs_lt m
  apply Classical.byContradiction
  intro hn
  have := limbs_len_le n (limbs m).length (by omega)
  omega
theorem cmp_len {m n : Nat} (h : (limbs m).length ≠ (limbs n).length) : cmpG ((limbs m).length : Int) ((limbs n).length : Int) = cmpI m n := by
  unfold cmpG cmpI
  rcases Nat.lt_or_gt_of_ne h with h | h
  · have := limbs_len_lt h
    rw [if_pos (by omega), if_pos this]
  · have := limbs_len_lt h
    rw [if_neg (by omega), if_pos (by omega), if_neg (by omega), if_pos this]
theorem drop_same {xs ys : List Int} {k : Nat} (h : ∀ j, k ≤ j → xs.getD j 0 = ys.getD j 0) (hl : xs.length = ys.length) : lval (xs.drop k) = lval (ys.drop k) := by
  have : xs.drop k = ys.drop k := by
    apply List.ext_getElem?
    intro i
    rw [List.getElem?_drop, List.getElem?_drop]
    by_cases hi : k + i < xs.length
    · have := h (k + i) (by omega)
      rw [List.getD_eq_getElem?_getD, List.getD_eq_getElem?_getD, List.getElem?_eq_getElem hi, List.getElem?_eq_getElem (by omega)] at this
      rw [List.getElem?_eq_getElem hi, List.getElem?_eq_getElem (by omega)]
      simpa using this
    · rw [List.getElem?_eq_none (by omega), List.getElem?_eq_none (by omega)]
  rw [this]
theorem cmp_word {m n s : Nat} (hl : (limbs m).length = (limbs n).length) (h : ∀ j, s + 1 ≤ j → (limbs m).getD j 0 = (limbs n).getD j 0) (hd : (limbs m).getD s 0 ≠ (limbs n).getD s 0) :
    cmpG ((limbs m).getD s 0) ((limbs n).getD s 0) = cmpI m n := by
  have e := drop_same h hl
  have d1 := lval_drop (limbs m) s
  have d2 := lval_drop (limbs n) s
  rcases Int.lt_or_gt_of_ne hd with hlt | hgt
  · have h1 := cmp_lt (limbs_inR m) (limbs_inR n) s (by omega)
    rw [num_limbs, num_limbs] at h1
    unfold cmpG cmpI
    rw [if_pos hlt, if_pos h1]
  · have h1 := cmp_lt (limbs_inR n) (limbs_inR m) s (by omega)
    rw [num_limbs, num_limbs] at h1
    unfold cmpG cmpI
    rw [if_neg (by omega), if_pos hgt, if_neg (by omega), if_pos h1]
theorem cmp_same {m n : Nat} (hl : (limbs m).length = (limbs n).length) (h : ∀ j, 0 ≤ j → (limbs m).getD j 0 = (limbs n).getD j 0) : cmpI m n = 0 := by
  have e := drop_same (k := 0) h hl
  simp only [List.drop_zero, limbs_val] at e
  have : m = n := by omega
  subst this
  unfold cmpI
  rw [if_neg (by omega), if_neg (by omega)]

set_option maxHeartbeats 1600000 in
/-- order: how two numbers stand to each other. -/
theorem gOrder (a oa b ob m n : Nat) (w : World) (ha : GA w a oa m) (hb : GA w b ob n) :
    Calls Try.prog 70 #[.pointer (some ⟨a, oa, none⟩), .pointer (some ⟨b, ob, none⟩)] w fun e w' => e = .returned (.int .i64 (cmpI m n)) ∧ Below w.heap.size w w' := by
  have ca := ha.size
  have cb := hb.size
  have hlm := ha.len
  have kc := fun W => compI ((limbs m).length : Int) ((limbs n).length : Int) W
  by_cases hl : (limbs m).length = (limbs n).length
  · have en : (((limbs m).length : Int) != ((limbs n).length : Int)) = false := by rw [hl]; simp
    have HL : Hid ((limbs m).length = (limbs n).length) := hl
    clear hl kc
    obtain ⟨L, hL⟩ : ∃ L, (limbs m).length = L := ⟨_, rfl⟩
    obtain ⟨L', hL'⟩ : ∃ L, (limbs n).length = L := ⟨_, rfl⟩
    have hLL : L' = L := by have := HL.out; omega
    rw [hL] at ca en hlm
    rw [hL', hLL] at cb
    rw [hL', hLL] at en
    have HWa : ∀ i, i < 98 → w.cell? ⟨a, oa + i, none⟩ = some (.int .u32 ((limbs m).getD i 0)) := ha.word
    have HWb : ∀ i, i < 98 → w.cell? ⟨b, ob + i, none⟩ = some (.int .u32 ((limbs n).getD i 0)) := hb.word
    have HZ0 : ∀ j, L ≤ j → (limbs m).getD j 0 = (limbs n).getD j 0 := fun j hj => by
      rw [List.getD_eq_getElem?_getD, List.getD_eq_getElem?_getD, List.getElem?_eq_none (by omega), List.getElem?_eq_none (by omega)]
    have HH : Hid ((∀ i, i < 98 → w.cell? ⟨a, oa + i, none⟩ = some (.int .u32 ((limbs m).getD i 0))) ∧ (∀ i, i < 98 → w.cell? ⟨b, ob + i, none⟩ = some (.int .u32 ((limbs n).getD i 0)))) := ⟨HWa, HWb⟩
    have HZ : Hid (∀ j, L ≤ j → (limbs m).getD j 0 = (limbs n).getD j 0) := HZ0
    clear HWa HWb ha hb hL hL' hLL HZ0
    go_enter Try.func70, Try.ntmps70
    go_wp2_with fail
    go_quiet (fail)
    go_wp2
    go_loopw [5] (fun i wr => ∃ (t : Nat), t ≤ L ∧ i = .int .i64 ((t : Int) - 1) ∧ (∀ j, t ≤ j → (limbs m).getD j 0 = (limbs n).getD j 0) ∧ ∃ nq, wr = w.drewN nq) (fun i _ => (intOf i + 1).toNat)
    case atStart => exact ⟨L, Nat.le_refl _, by go_num, HZ.out, nq, rfl⟩
    case round =>
      obtain ⟨t, ht, rfl, hsame, nq2, rfl⟩ := hrel
      have HS : Hid (∀ j, t ≤ j → (limbs m).getD j 0 = (limbs n).getD j 0) := hsame
      clear hsame
      by_cases h0 : t = 0
      · subst h0
        have HR : Hid (cmpI m n = 0) := cmp_same HL.out HS.out
        go_wp2
        go_ret
        exact ⟨by rw [HR.out]; rfl, ⟨rfl, rfl, rfl, Nat.le_refl _, fun _ _ => rfl⟩⟩
      · obtain ⟨s, rfl⟩ : ∃ s, t = s + 1 := ⟨t - 1, by omega⟩
        have c1 := HH.out.1 s (by omega)
        have c2 := HH.out.2 s (by omega)
        have hi : ((s + 1 : Nat) : Int) - 1 = (s : Int) := by omega
        rw [hi]
        have hpos : (0 : Int) ≤ (s : Int) := by omega
        have hs1 : (s : Int) < 98 := by omega
        have hs2 : s < 98 := by omega
        by_cases hd : (limbs m).getD s 0 = (limbs n).getD s 0
        · have HN : Hid (∀ j, s ≤ j → (limbs m).getD j 0 = (limbs n).getD j 0) := fun j h1 => by
            by_cases e : j = s
            · subst e; exact hd
            · exact HS.out j (by omega)
          rw [← hd] at c2
          obtain ⟨d, hdd⟩ : ∃ d, (limbs m).getD s 0 = d := ⟨_, rfl⟩
          rw [hdd] at c1 c2
          have ed : (d != d) = false := by simp
          clear hdd hd hi
          go_wp2_with fail
          go_quiet (fail)
          go_wp2
          go_roundw
          case rel => exact ⟨s, by omega, by go_num, HN.out, _, rfl⟩
          case measure => simp [intOf] <;> omega
        · have HR : Hid (cmpG ((limbs m).getD s 0) ((limbs n).getD s 0) = cmpI m n) := cmp_word HL.out HS.out hd
          obtain ⟨d, hdd⟩ : ∃ d, (limbs m).getD s 0 = d := ⟨_, rfl⟩
          obtain ⟨f, hff⟩ : ∃ d, (limbs n).getD s 0 = d := ⟨_, rfl⟩
          rw [hdd] at c1 HR hd
          rw [hff] at c2 HR hd
          have ed : (d != f) = true := by simpa using hd
          have kw := fun W => compW d f W
          rw [HR.out] at kw
          clear hdd hd hff hi
          go_wp2_with fail
          go_quiet (fail)
          go_wp2_with fail
          go_quiet ((go_at_call 97; exact (kw _).mono fun _ _ ⟨he, hm⟩ => ⟨he, _, hm⟩))
          go_wp2
          go_ret
          exact ⟨rfl, ⟨rfl, rfl, rfl, Nat.le_refl _, fun _ _ => rfl⟩⟩
  · have en : (((limbs m).length : Int) != ((limbs n).length : Int)) = true := by simp; omega
    have HR : Hid (cmpG ((limbs m).length : Int) ((limbs n).length : Int) = cmpI m n) := cmp_len hl
    simp only [cmp_len hl] at kc
    clear hl
    go_enter Try.func70, Try.ntmps70
    go_wp2_with fail
    go_quiet (fail)
    go_wp2_with fail
    go_quiet ((go_at_call 96; exact (kc _).mono fun _ _ ⟨he, hm⟩ => ⟨he, _, hm⟩))
    go_wp2
    go_ret
    exact ⟨rfl, ⟨rfl, rfl, rfl, Nat.le_refl _, fun _ _ => rfl⟩⟩

end Go.Proofs.Ytlpfjpbnedankaa

/- The program's lower and minus, each by its contract. -/
namespace Go.Proofs.Ytlpfjpbnedankaa
open Go.RowKit

theorem limbs_mono {m n : Nat} (h : n ≤ m) : (limbs n).length ≤ (limbs m).length := by
  apply Classical.byContradiction
  intro hn
  have := limbs_len_lt (m := m) (n := n) (by omega)
  omega
theorem less_fin {ws : List Int} {m n L : Nat} {bb : Int} (hr : inR (ws.take L)) (hlw : (ws.take L).length = L) (b0 : 0 ≤ bb) (b1 : bb ≤ 1) (hmn : n ≤ m) (hL : (limbs m).length = L)
    (h : lval (ws.take L) - 16777216 ^ L * bb = lval ((limbs m).take L) - lval ((limbs n).take L)) : num (ws.take L) = m - n := by
  have hn := limbs_mono hmn
  rw [List.take_of_length_le (Nat.le_of_eq hL), List.take_of_length_le (show (limbs n).length ≤ L by omega), limbs_val, limbs_val] at h
  have h1 := num_val hr
  have h2 := lval_lt hr
  rw [hlw] at h2
  have h3 := lval_nonneg hr
  have hb : bb = 0 := by
    apply Classical.byContradiction
    intro hne
    have e : bb = 1 := by omega
    rw [e, Int.mul_one] at h
    omega
  rw [hb, Int.mul_zero] at h
  omega

set_option maxHeartbeats 3200000 in
/-- lower: what is left, in place. -/
theorem gLower (a b ob m n : Nat) (w : World) (hl : (limbs m).length ≤ 98) (hmn : n ≤ m) (hab : a ≠ b) (hG : GN w a m) (hb : GA w b ob n) :
    Calls Try.prog 99 #[.pointer (some ⟨a, 0, none⟩), .pointer (some ⟨b, ob, none⟩)] w fun e w' => e = .returned (.tuple #[]) ∧ GN w' a (m - n) ∧ Tn [a] w w' ∧ w'.heap.size = w.heap.size := by
  obtain ⟨L, hL⟩ : ∃ L, (limbs m).length = L := ⟨_, rfl⟩
  have hG0 : GB w a (pad (limbs m)) (L : Int) := by rw [← hL]; exact hG
  have HL : Hid ((limbs m).length = L) := hL
  rw [hL] at hl
  clear hG hL
  go_enter Try.func99, Try.ntmps99
  go_wp2
  go_loopw [4, 5] (fun c i wr => ∃ (k : Nat) (bb : Int) (ws : List Int), k ≤ L ∧ i = .int .i64 k ∧ c = .int .u32 bb ∧ 0 ≤ bb ∧ bb ≤ 1 ∧ inR (ws.take k) ∧ (∀ j, k ≤ j → ws.getD j 0 = (limbs m).getD j 0) ∧ Hid (lval (ws.take k) - 16777216 ^ k * bb = lval ((limbs m).take k) - lval ((limbs n).take k)) ∧ GB wr a ws (L : Int) ∧ GA wr b ob n ∧ Tn [a] w wr ∧ wr.heap.size = w.heap.size) (fun _ i _ => L - (intOf i).toNat)
  case atStart => exact ⟨0, 0, pad (limbs m), by omega, rfl, rfl, by omega, by omega, by rw [List.take_zero]; exact inR_nil, fun j _ => pad_getD _ _, by show _ = _; simp [lval], hG0, hb, Tn.refl _ _, rfl⟩
  case round =>
    clear hG0 hb
    obtain ⟨k, bb, ws, hk, rfl, rfl, bb0, bb1, hoR, hw, HV, hG, hA, hT, hs⟩ := hrel
    have hlen := hG.len
    have c98 := hG.size
    by_cases hlt : k < L
    · have HT : Hid (lval ((limbs m).take (k + 1)) = lval ((limbs m).take k) + 16777216 ^ k * (limbs m).getD k 0 ∧ lval ((limbs n).take (k + 1)) = lval ((limbs n).take k) + 16777216 ^ k * (limbs n).getD k 0) := ⟨lval_take_succ _ k, lval_take_succ _ k⟩
      have gx := inR_getD (limbs_inR m) k
      have gy := inR_getD (limbs_inR n) k
      have cx := hG.word k (by omega)
      rw [hw k (Nat.le_refl _)] at cx
      have cy := hA.word k (by omega)
      have fx := hG.free k
      have HW : Hid (∀ j, k + 1 ≤ j → ∀ v, (ws.set k v).getD j 0 = (limbs m).getD j 0) := fun j hj v => by rw [gset_ne v (by omega)]; exact hw j (by omega)
      obtain ⟨xk, hxk⟩ : ∃ xk, (limbs m).getD k 0 = xk := ⟨_, rfl⟩
      obtain ⟨yk, hyk⟩ : ∃ yk, (limbs n).getD k 0 = yk := ⟨_, rfl⟩
      rw [hxk] at gx HT cx
      rw [hyk] at gy HT cy
      obtain ⟨gx0, gx1⟩ := gx
      obtain ⟨gy0, gy1⟩ := gy
      have HG : Hid (GB wr a ws (L : Int) ∧ GA wr b ob n ∧ Tn [a] w wr ∧ wr.heap.size = w.heap.size) := ⟨hG, hA, hT, hs⟩
      have hk98 : (k : Int) < 98 := by omega
      have hk98' : k < 98 := by omega
      have hlt' : (k : Int) < (L : Int) := by omega
      clear hxk hyk hG hA hT hs hw
      go_wp2_with fail
      go_quiet (fail)
      have HG2 : Hid (GB (wr.drewN nq) a ws (L : Int) ∧ GA (wr.drewN nq) b ob n ∧ Tn [a] w (wr.drewN nq) ∧ (wr.drewN nq).heap.size = w.heap.size) := ⟨HG.out.1.drewN nq, HG.out.2.1.drewN nq, HG.out.2.2.1.trans ⟨rfl, rfl, rfl, Nat.le_refl _, fun _ _ _ => rfl⟩, HG.out.2.2.2⟩
      clear HG
      go_wp2
      go_roundw
      case rel =>
        refine ⟨k + 1, 1 - (16777216 + xk - yk - bb) / 16777216, ws.set k ((16777216 + xk - yk - bb) % 16777216), by omega, by go_num, by go_num, by omega, by omega, ?_, fun j hj => HW.out j hj _, ?_, ?_, ?_, ?_, ?_⟩
        · rw [take_set_succ (by omega)]
          exact inR_append.2 ⟨hoR, inR_cons.2 ⟨by omega, inR_nil⟩⟩
        · show _ = _
          rw [HT.out.1, HT.out.2, take_set_succ (by omega)]
          exact less_step k bb _ _ _ (ws.take k) (by rw [List.length_take]; omega) HV.out xk yk _ _ rfl (by omega)
        · exact HG2.out.1.setW k (by omega) _
        · exact HG2.out.2.1.tn ((Tn.refl [a] _).cell _ (by simp) _) (by simp; omega)
        · exact HG2.out.2.2.1.cell _ (by simp) _
        · have := HG2.out.2.2.2
          simpa [World.setCell] using this
      case measure => simp [intOf]; omega
    · have hke : k = L := by omega
      subst hke
      have hnum := less_fin hoR (by rw [List.length_take]; omega) bb0 bb1 hmn HL.out HV.out
      have hz : ∀ j, k ≤ j → ws.getD j 0 = 0 := fun j hj => by rw [hw j hj]; exact getD_far (by have := HL.out; omega)
      have kS := gSettle a ws (k : Int) k wr hG (by omega) hoR hz
      rw [hnum] at kS
      have hlt' : ¬ ((k : Int) < (k : Int)) := by omega
      have HG : Hid (Tn [a] w wr ∧ wr.heap.size = w.heap.size) := ⟨hT, hs⟩
      clear hnum HV hG hA hT hs hw hoR hz
      go_wp2_with fail
      refine kS.mono ?_
      rintro e w5 ⟨rfl, g5, t5, s5⟩
      go_wp2
      go_end0
      exact ⟨rfl, g5, HG.out.1.trans t5, s5.trans HG.out.2⟩

set_option maxHeartbeats 3200000 in
/-- minus: the difference. -/
theorem gMinus (b ob m n : Nat) (w : World) (hl : (limbs m).length ≤ 98) (hmn : n ≤ m) (hb : GA w b ob n) :
    Calls Try.prog 76 #[.agg (gC m), .pointer (some ⟨b, ob, none⟩)] w fun e w' => e = .returned (.agg (gC (m - n))) ∧ Below w.heap.size w w' := by
  have hl3 : (limbs (m - n)).length ≤ 98 := by have := limbs_mono (m := m) (n := m - n) (by omega); omega
  have G0 := (GN.made w m hl).alloc (.cells Try.zeroCells97 97)
  have R0 := GB.made0 (w.alloc (.cells (gC m) 97))
  have hs0 : (w.alloc (.cells (gC m) 97)).heap.size = w.heap.size + 1 := by simp
  have B0 : Below w.heap.size w ((w.alloc (.cells (gC m) 97)).alloc (.cells Try.zeroCells97 97)) := ((Below.refl w.heap.size w).alloc (Nat.le_refl _) _).alloc (by simp) _
  rw [hs0] at R0
  have hA := hb.below B0 hb.lt
  have hne : b < w.heap.size := hb.lt
  clear hs0
  go_enter Try.func76, Try.ntmps76
  go_wp2_with fail
  generalize (w.alloc (.cells (gC m) 97)).alloc (.cells Try.zeroCells97 97) = w0 at *
  refine (gLower w.heap.size b ob m n w0 hl hmn (by omega) G0 hA).mono ?_
  rintro e w5 ⟨rfl, g5, t5, s5⟩
  have R5 := R0.tn t5 (by simp)
  have B5 := t5.below B0 B0.size (by simp)
  have A5 := GN.ga g5 hl3
  go_wp2_with (first | (refine wpA_load rfl (.tmp 2) rfl w.heap.size 0 (m - n) rfl A5 ?_) | (refine wpN_store rfl (.tmp 4) (.tmp 7) rfl (w.heap.size + 1) _ _ (m - n) rfl rfl R5 hl3 ?_; intro w6 g6 t6 s6))
  (try simp only [Exit.inBlock, Exit.then])
  refine bodyPost_ret (v := .agg (gC (m - n))) ?_ rfl ⟨rfl, t6.below B5 B5.size (by simp)⟩
  exact results_great rfl _ _ (w.heap.size + 1) _ _ rfl g6

end Go.Proofs.Ytlpfjpbnedankaa
