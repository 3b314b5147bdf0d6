/- Several small texts in one: G, GOf, GReg. -/
import Derived.Test.YtlpfjpbnedankaaBase
import Derived.Laws.Rows
import Derived.Laws.Tables
import Derived.Laws.ResultCell
import Derived.Deep.RegionHeld
/- The program's great numbers inside: ninety-eight words and a size in one block; how they are read, written, copied (no walk of the program). -/
namespace Go.Proofs.Ytlpfjpbnedankaa
open Go.RowKit
set_option linter.unusedSimpArgs false

/-- The cells of a great number: its words, its size. -/
def gcell (ws : List Int) (k : Int) : Array Value := (ws.map (Value.int .u32) ++ [Value.int .i64 k]).toArray
/-- A block that holds a great number. -/
structure GB (w : World) (b : Nat) (ws : List Int) (k : Int) : Prop where
  blk : w.heap[b]? = some (.cells (gcell ws k) 97 (0, 0))
  len : ws.length = 98

theorem gcell_size {ws : List Int} (h : ws.length = 98) (k : Int) : (gcell ws k).size = 99 := by simp [gcell, h]
theorem zero_gcell : Try.zeroCells97 = gcell (List.replicate 98 0) 0 := by
  kernel_rfl
theorem great_size : (Try.prog.info? 97).map (·.size) = some 99 := by kernel_rfl
theorem gcell_one (ws : List Int) (k : Int) : (gcell ws k).all (·.oneCell') = true := by
  unfold gcell
  simp [Value.oneCell', Function.comp_def]

theorem GB.lt {w : World} {b : Nat} {ws : List Int} {k : Int} (h : GB w b ws k) : b < w.heap.size := by
  by_cases hlt : b < w.heap.size
  · exact hlt
  · have hn : w.heap[b]? = none := by simp; omega
    rw [h.blk] at hn; cases hn
theorem GB.word {w : World} {b : Nat} {ws : List Int} {k : Int} (h : GB w b ws k) (i : Nat) (hi : i < 98) : w.cell? ⟨b, i, none⟩ = some (.int .u32 (ws.getD i 0)) := by
  have hl : i < ws.length := by rw [h.len]; exact hi
  simp [World.cell?, h.blk, gcell, List.getElem?_append_left, List.getElem?_map, List.getElem?_eq_getElem hl, hl]
theorem GB.size {w : World} {b : Nat} {ws : List Int} {k : Int} (h : GB w b ws k) : w.cell? ⟨b, 98, none⟩ = some (.int .i64 k) := by
  simp [World.cell?, h.blk, gcell, List.getElem?_append, h.len]
theorem GB.free {w : World} {b : Nat} {ws : List Int} {k : Int} (h : GB w b ws k) (j : Nat) : w.frozen? ⟨b, j, none⟩ = false := by
  simp [World.frozen?, h.blk]
theorem gcell_set (ws : List Int) (k : Int) (i : Nat) (v : Int) (h : i < ws.length) : (gcell ws k).setIfInBounds i (.int .u32 v) = gcell (ws.set i v) k := by
  unfold gcell
  apply Array.ext'
  simp [List.set_append, h, List.map_set]
theorem gcell_setK (ws : List Int) (k k' : Int) (h : ws.length = 98) : (gcell ws k).setIfInBounds 98 (.int .i64 k') = gcell ws k' := by
  unfold gcell
  apply Array.ext'
  simp [List.set_append, h]
theorem GB.setW {w : World} {b : Nat} {ws : List Int} {k : Int} (h : GB w b ws k) (i : Nat) (hi : i < 98) (v : Int) : GB (w.setCell ⟨b, i, none⟩ (.int .u32 v)) b (ws.set i v) k := by
  refine ⟨?_, by rw [List.length_set]; exact h.len⟩
  rw [heap_setCell_same w b i _ _ _ h.blk, gcell_set _ _ _ _ (by rw [h.len]; exact hi)]
theorem GB.setK {w : World} {b : Nat} {ws : List Int} {k : Int} (h : GB w b ws k) (k' : Int) : GB (w.setCell ⟨b, 98, none⟩ (.int .i64 k')) b ws k' := by
  refine ⟨?_, h.len⟩
  rw [heap_setCell_same w b 98 _ _ _ h.blk, gcell_setK _ _ _ h.len]
theorem GB.other {w : World} {b : Nat} {ws : List Int} {k : Int} (h : GB w b ws k) (p : Addr) (hp : b ≠ p.block) (v : Value) : GB (w.setCell p v) b ws k :=
  ⟨(heap_setCell_other w p b v hp).trans h.blk, h.len⟩
theorem GB.below {w w' : World} {b B : Nat} {ws : List Int} {k : Int} (h : GB w b ws k) (hb : Below B w w') (hB : b < B) : GB w' b ws k := ⟨(hb.block b hB).trans h.blk, h.len⟩
theorem GB.tn {w w' : World} {b : Nat} {ws : List Int} {k : Int} {S : List Nat} (h : GB w b ws k) (ht : Tn S w w') (hS : b ∉ S) : GB w' b ws k := ⟨(ht.block b h.lt hS).trans h.blk, h.len⟩
theorem GB.drew {w : World} {b : Nat} {ws : List Int} {k : Int} (h : GB w b ws k) : GB w.drew b ws k := ⟨h.blk, h.len⟩
theorem GB.alloc {w : World} {b : Nat} {ws : List Int} {k : Int} (h : GB w b ws k) (o : Obj) : GB (w.alloc o) b ws k := ⟨(Below.heap_alloc w o b h.lt).trans h.blk, h.len⟩
theorem GB.made (w : World) (ws : List Int) (k : Int) (hl : ws.length = 98) : GB (w.alloc (.cells (gcell ws k) 97)) w.heap.size ws k := ⟨heap_alloc_new w _, hl⟩
theorem GB.made0 (w : World) : GB (w.alloc (.cells Try.zeroCells97 97)) w.heap.size (List.replicate 98 0) 0 := by
  rw [zero_gcell]
  exact GB.made w _ _ (by simp)

/-- A store into one's own block. -/
theorem Tn.cell {S : List Nat} {w w' : World} (h : Tn S w w') (p : Addr) (hp : p.block ∈ S) (v : Value) : Tn S w (w'.setCell p v) :=
  h.trans ⟨rfl, rfl, rfl, by simp [World.setCell], fun k _ hn => Below.heap_setCell _ _ _ _ (fun e => hn (e ▸ hp))⟩
theorem Tn.refl (S : List Nat) (w : World) : Tn S w w := ⟨rfl, rfl, rfl, Nat.le_refl _, fun _ _ _ => rfl⟩

/-- For a guard: the goal is a list of operations. -/
theorem wpL_id {P : Program} {ops : Array Oper} {Q : Exit → Act → World → Prop} {l : List Oper} {a : Act} {w : World} (h : wpList P ops Q l a w) : wpList P ops Q l a w := h
/-- A whole great number is read. -/
theorem wpG_load {ops : Array Oper} {rest : List Oper} {o : Oper} {a : Act} {w : World} {Q : Exit → Act → World → Prop} (hgd : o.guard = none) (x : Operand) (ho : o.op = .load 97 x)
    (b : Nat) (ws : List Int) (k : Int) (hx : a.eval x = .pointer (some ⟨b, 0, none⟩)) (hg : GB w b ws k)
    (h : wpList Try.prog ops Q rest (a.put o.dst (.agg (gcell ws k))) w) : wpList Try.prog ops Q (o :: rest) a w :=
  wpList_load_row hgd 97 x ho b hx 97 (gcell ws k) (0, 0) _ hg.blk Try.underlying97 rfl (by rw [gcell_size hg.len]; exact great_size) h
/-- A whole great number is written. -/
theorem wpG_store {ops : Array Oper} {rest : List Oper} {o : Oper} {a : Act} {w : World} {Q : Exit → Act → World → Prop} (hgd : o.guard = none) (x y : Operand) (ho : o.op = .store 97 x y)
    (b : Nat) (ws vs : List Int) (k l : Int) (hx : a.eval x = .pointer (some ⟨b, 0, none⟩)) (hy : a.eval y = .agg (gcell vs l)) (hg : GB w b ws k) (hl : vs.length = 98)
    (h : ∀ w', GB w' b vs l → Tn [b] w w' → w'.heap.size = w.heap.size → wpList Try.prog ops Q rest (a.put o.dst undef) w') : wpList Try.prog ops Q (o :: rest) a w :=
  wpList_store_row hgd 97 x y ho b (gcell vs l) hx hy 97 (gcell ws k) hg.blk (by rw [gcell_size hl]; exact great_size) (by rw [gcell_size hg.len, gcell_size hl]) (gcell_one _ _)
    (h _ ⟨setRow_heap w b _ _ _ _ hg.blk, hl⟩ ⟨rfl, rfl, rfl, by simp, fun j _ hn => setRow_other w b j _ (by intro e; apply hn; simp [e])⟩ (by simp))

/-- The words of a number, and noughts behind. -/
def pad (xs : List Int) : List Int := xs ++ List.replicate (98 - xs.length) 0
theorem pad_len {xs : List Int} (h : xs.length ≤ 98) : (pad xs).length = 98 := by simp [pad]; omega
theorem pad_getD (xs : List Int) (i : Nat) : (pad xs).getD i 0 = xs.getD i 0 := by
  unfold pad
  rw [List.getD_eq_getElem?_getD, List.getD_eq_getElem?_getD, List.getElem?_append]
  split
  · rfl
  · rename_i h
    rw [List.getElem?_eq_none (l := xs) (by omega), List.getElem?_replicate]
    split <;> rfl
theorem pad_set (xs : List Int) (v : Int) (h : xs.length < 98) : (pad xs).set xs.length v = pad (xs ++ [v]) := by
  unfold pad
  rw [List.set_append, if_neg (by omega), Nat.sub_self]
  obtain ⟨m, hm⟩ : ∃ m, 98 - xs.length = m + 1 := ⟨98 - xs.length - 1, by omega⟩
  rw [hm, List.replicate_succ, List.set_cons_zero, List.append_assoc, List.length_append, List.length_singleton, show 98 - (xs.length + 1) = m by omega]
  rfl
/-- The cells of the number n. -/
def gC (n : Nat) : Array Value := gcell (pad (limbs n)) ((limbs n).length : Int)
/-- A block that holds the number n. -/
def GN (w : World) (b n : Nat) : Prop := GB w b (pad (limbs n)) ((limbs n).length : Int)
theorem pad_zero : pad (limbs 0) = List.replicate 98 0 := by rw [limbs_zero]; rfl
theorem gC_zero : gC 0 = gcell (List.replicate 98 0) 0 := by unfold gC; rw [pad_zero, limbs_zero]; rfl

/-- The number n can be read at that place. -/
structure GA (w : World) (b o n : Nat) : Prop where
  word : ∀ i, i < 98 → w.cell? ⟨b, o + i, none⟩ = some (.int .u32 ((limbs n).getD i 0))
  size : w.cell? ⟨b, o + 98, none⟩ = some (.int .i64 ((limbs n).length : Int))
  len : (limbs n).length ≤ 98
theorem GA.lt {w : World} {b o n : Nat} (h : GA w b o n) : b < w.heap.size := block_lt_of_cell h.size
theorem GN.ga {w : World} {b n : Nat} (h : GN w b n) (hl : (limbs n).length ≤ 98) : GA w b 0 n :=
  ⟨fun i hi => by rw [Nat.zero_add, ← pad_getD]; exact GB.word h i hi, by exact GB.size h, hl⟩
theorem GA.below {w w' : World} {b o n B : Nat} (h : GA w b o n) (hb : Below B w w') (hB : b < B) : GA w' b o n :=
  ⟨fun i hi => (hb.cell (p := ⟨b, o + i, none⟩) hB).trans (h.word i hi), (hb.cell (p := ⟨b, o + 98, none⟩) hB).trans h.size, h.len⟩
theorem GA.tn {w w' : World} {b o n : Nat} {S : List Nat} (h : GA w b o n) (ht : Tn S w w') (hS : b ∉ S) : GA w' b o n :=
  have hk := ht.block b h.lt hS
  ⟨fun i hi => (World.cell?_of_block (w := w) (a := ⟨b, o + i, none⟩) hk).trans (h.word i hi), (World.cell?_of_block (w := w) (a := ⟨b, o + 98, none⟩) hk).trans h.size, h.len⟩
theorem GA.drew {w : World} {b o n : Nat} (h : GA w b o n) : GA w.drew b o n := ⟨h.word, h.size, h.len⟩
theorem GA.drewN {w : World} {b o n : Nat} (h : GA w b o n) (q : Nat) : GA (w.drewN q) b o n := ⟨h.word, h.size, h.len⟩
/-- A whole number is read, wherever it stands. -/
theorem GA.load {w : World} {b o n : Nat} (h : GA w b o n) : (loadVar 97 ⟨b, o, none⟩).run Try.prog w = .ok (.agg (gC n)) w := by
  have hl : (loadCells ⟨b, o, none⟩ (gC n).toList.length).run Try.prog w = .ok (gC n).toList.toArray w :=
    run_loadCells_list (P := Try.prog) w ⟨b, o, none⟩ (gC n).toList (fun j v hv => by
      have hadd : (⟨b, o, none⟩ : Addr).add j = ⟨b, o + j, none⟩ := by unfold Addr.add; split <;> simp_all
      rw [hadd]
      unfold gC gcell at hv
      rw [List.getElem?_append] at hv
      split at hv
      · rename_i hj
        rw [List.length_map, pad_len h.len] at hj
        rw [h.word j hj, ← pad_getD]
        rw [List.getElem?_map, List.getElem?_eq_getElem (by rw [pad_len h.len]; exact hj)] at hv
        rw [List.getD_eq_getElem?_getD, List.getElem?_eq_getElem (by rw [pad_len h.len]; exact hj)]
        exact hv
      · rename_i hj
        rw [List.length_map, pad_len h.len] at hj hv
        have hj2 : j = 98 := by
          apply Classical.byContradiction
          intro hne
          rw [List.getElem?_eq_none (by simp; omega)] at hv
          cases hv
        subst hj2
        rw [h.size]
        simpa using hv)
  have hsz : (gC n).toList.length = 99 := by rw [Array.length_toList]; exact gcell_size (pad_len h.len) _
  rw [hsz, Array.toArray_toList] at hl
  have hagg : (isAgg 97).run Try.prog w = .ok true w := by
    unfold isAgg
    rw [Sem.run_bind, run_underlying Try.underlying97 w]
    rfl
  have hi := great_size
  cases hq : Try.prog.info? 97 with
  | none => rw [hq] at hi; cases hi
  | some i =>
    rw [hq] at hi
    have hs : i.size = 99 := by simpa using hi
    simp [loadVar, Sem.run_bind, hagg, sizeOf, typeInfo, hq, hs, hl]
theorem wpA_load {ops : Array Oper} {rest : List Oper} {o : Oper} {a : Act} {w : World} {Q : Exit → Act → World → Prop} (hgd : o.guard = none) (x : Operand) (ho : o.op = .load 97 x)
    (b f n : Nat) (hx : a.eval x = .pointer (some ⟨b, f, none⟩)) (hg : GA w b f n)
    (h : wpList Try.prog ops Q rest (a.put o.dst (.agg (gC n))) w) : wpList Try.prog ops Q (o :: rest) a w :=
  wpList_plain hgd fun _ hK => by
    unfold Oper.wp execOp
    simp only [ho, hx, Instr.loadAt, Instr.sureAddr, Sem.run_bind, Sem.run_pure, Result.andThen_ok, hg.load]
    exact hK _ _ h
/-- A new variable that holds the number n. -/
theorem GN.made (w : World) (n : Nat) (hl : (limbs n).length ≤ 98) : GN (w.alloc (.cells (gC n) 97)) w.heap.size n := GB.made w _ _ (pad_len hl)
/-- A whole number is written. -/
theorem wpN_store {ops : Array Oper} {rest : List Oper} {o : Oper} {a : Act} {w : World} {Q : Exit → Act → World → Prop} (hgd : o.guard = none) (x y : Operand) (ho : o.op = .store 97 x y)
    (b : Nat) (ws : List Int) (k : Int) (n : Nat) (hx : a.eval x = .pointer (some ⟨b, 0, none⟩)) (hy : a.eval y = .agg (gC n)) (hg : GB w b ws k) (hl : (limbs n).length ≤ 98)
    (h : ∀ w', GN w' b n → Tn [b] w w' → w'.heap.size = w.heap.size → wpList Try.prog ops Q rest (a.put o.dst undef) w') : wpList Try.prog ops Q (o :: rest) a w :=
  wpG_store hgd x y ho b ws (pad (limbs n)) k _ hx hy hg (pad_len hl) h

end Go.Proofs.Ytlpfjpbnedankaa

/- The program's greatOf, by its contract. -/
namespace Go.Proofs.Ytlpfjpbnedankaa
open Go.RowKit

theorem limbs_len3 {n : Nat} (h : n < 18446744073709551616) : (limbs n).length ≤ 3 := limbs_len_le n 3 (by omega)
theorem results_great {fn : Func} {p : Tmp} (h : fn.results = #[.cell p 97]) (tmps : Array Value) (w : World) (b : Nat) (ws : List Int) (k : Int)
    (hp : tmps.getD p undef = .pointer (some ⟨b, 0, none⟩)) (hg : GB w b ws k) : (results fn tmps).run Try.prog w = .ok (.agg (gcell ws k)) w :=
  results_cell_row h tmps w b 97 (gcell ws k) (0, 0) _ hp hg.blk Try.underlying97 rfl (by rw [gcell_size hg.len]; exact great_size)

set_option maxHeartbeats 1600000 in
/-- greatOf: the number. -/
theorem gOf (n : Nat) (w : World) (hn : n < 18446744073709551616) :
    Calls Try.prog 64 #[.int .u64 n] w fun e w' => e = .returned (.agg (gC n)) ∧ Below w.heap.size w w' := by
  have h3 := limbs_len3 hn
  go_enter Try.func64, Try.ntmps64
  go_wp2
  have R0 := (GB.made0 w).alloc (.cells Try.zeroCells97 97)
  have G0 := GB.made0 (w.alloc (.cells Try.zeroCells97 97))
  have hs0 : (w.alloc (.cells Try.zeroCells97 97)).heap.size = w.heap.size + 1 := by simp
  have B0 : Below w.heap.size w ((w.alloc (.cells Try.zeroCells97 97)).alloc (.cells Try.zeroCells97 97)) := ((Below.refl w.heap.size w).alloc (Nat.le_refl _) _).alloc (by simp) _
  rw [hs0] at G0
  clear hs0
  generalize (w.alloc (.cells Try.zeroCells97 97)).alloc (.cells Try.zeroCells97 97) = w0 at *
  go_loopw [0] (fun v wr => ∃ (m : Nat) (done : List Int), v = .int .u64 m ∧ m < 18446744073709551616 ∧ done.length ≤ 3 ∧ Hid (limbs n = done ++ limbs m) ∧ GB wr (w.heap.size + 1) (pad done) (done.length : Int) ∧ GB wr w.heap.size (List.replicate 98 0) 0 ∧ Below w.heap.size w wr) (fun v _ => (intOf v).toNat)
  case atStart => exact ⟨n, [], rfl, hn, by simp, by show _ = _; simp, G0, R0, B0⟩
  case round =>
    obtain ⟨m, done, rfl, hm, hd, HL, hG, hR, hB⟩ := hrel
    by_cases h0 : m = 0
    · subst h0
      have e1 : limbs n = done := by have := HL.out; rw [limbs_zero, List.append_nil] at this; exact this
      have HE : Hid (gC n = gcell (pad done) (done.length : Int)) := by show _ = _; unfold gC; rw [e1]
      have hpl : (pad done).length = 98 := pad_len (by omega)
      clear HL e1
      go_wp2_with (first | (refine wpG_load rfl (.tmp 3) rfl (w.heap.size + 1) _ _ rfl hG ?_) | (refine wpG_store rfl (.tmp 2) (.tmp 19) rfl w.heap.size _ _ _ _ rfl rfl hR hpl ?_; intro w1 g1 t1 s1))
      (try simp only [Exit.inBlock, Exit.then])
      refine bodyPost_ret (v := .agg (gC n)) ?_ rfl ⟨rfl, t1.below hB hB.size (by simp)⟩
      rw [HE.out]
      exact results_great rfl _ _ w.heap.size _ _ rfl g1
    · have hpos : 0 < m := by omega
      have hl1 : limbs m = ((m % 16777216 : Nat) : Int) :: limbs (m / 16777216) := limbs_pos m hpos
      have hdl : done.length < 3 := by
        have := congrArg List.length HL.out
        rw [hl1] at this
        simp at this
        omega
      have HL2 : Hid (limbs n = (done ++ [((m % 16777216 : Nat) : Int)]) ++ limbs (m / 16777216)) := by
        show _ = _
        rw [HL.out, hl1]; simp
      have HG : Hid (GB wr (w.heap.size + 1) (pad done) (done.length : Int)) := hG
      have c1 := hG.size
      have c2 := hG.word done.length (by omega)
      have f1 := hG.free 98
      have f2 := hG.free done.length
      have hpos' : (0 : Int) < (m : Int) := by omega
      clear HL hl1 hpos hG
      go_wp2
      go_roundw
      case rel =>
        refine ⟨m / 16777216, done ++ [((m % 16777216 : Nat) : Int)], by go_num, by omega, by simp; omega, HL2, ?_, ?_, ?_⟩
        · have := (HG.out.setW done.length (by omega) ((m % 16777216 : Nat) : Int)).setK ((done.length : Int) + 1)
          rw [pad_set _ _ (by omega)] at this
          simpa using this
        · exact (hR.other _ (by show w.heap.size ≠ w.heap.size + 1; omega) _).other _ (by show w.heap.size ≠ w.heap.size + 1; omega) _
        · exact (hB.setCell (by show w.heap.size ≤ w.heap.size + 1; omega) _).setCell (by show w.heap.size ≤ w.heap.size + 1; omega) _
      case measure => simp [intOf]; omega

end Go.Proofs.Ytlpfjpbnedankaa

/- Regions that draw their order and read or write whole great numbers: the steps (no walk of the program). -/
namespace Go.Proofs.Ytlpfjpbnedankaa
open Go.RowKit

theorem alloc_below (w : World) (o : Obj) : Below w.heap.size w (w.alloc o) := (Below.refl _ _).alloc (Nat.le_refl _) o
/-- Number i is taken first; its slot said. -/
theorem takeH {ops : Array Oper} {Q : Exit → Act → World → Prop} {md : Region.Mode} {S : World → Prop} {oi : Oper} {fuel : Nat} {listed : Array Bool} {a : Act} {w : World} (i : Nat) (d : Option Tmp) (v : Value) (hi : ops[i]? = some oi) (hd : oi.dst = d)
    (hs : Region.noSelect ops = true) (hf : Region.free md ops listed i = true) (hr : (Region.ready md ops listed).contains i = true)
    (hQ : ∀ c a w, Q (.panic c) (a.put oi.dst v) w → Q (.panic c) a w) (hy : YieldsIf Try.prog ops S oi v a) (hS : S w)
    (h : wpAnyH Try.prog md ops Q S fuel (listed.setIfInBounds i true) (a.put d v) w) : wpAnyH Try.prog md ops Q S (fuel + 1) listed a w := by
  subst hd
  exact wpAnyH_take hi hs hf hr hQ hy hS h
/-- The one that may come up is run; its slot said. -/
theorem oneH {ops : Array Oper} {Q : Exit → Act → World → Prop} {md : Region.Mode} {S : World → Prop} {o : Oper} {fuel : Nat} {listed : Array Bool} {a : Act} {w : World} (i : Nat) (ho : ops[i]? = some o) (hr : Region.ready md ops listed = [i])
    (h : ∀ K' : Act → World → Prop, (∀ a w, S w → wpAnyH Try.prog md ops Q S fuel (listed.setIfInBounds i true) a w → K' a w) → if Region.wanted o (yielded ops a.tmps) = true then Oper.wp Try.prog o a w K' Q else K' (a.put o.dst undef) w) : wpAnyH Try.prog md ops Q S (fuel + 1) listed a w :=
  wpAnyH_all hr (by simp) (fun j hj => by
    obtain rfl : j = i := by simpa using hj
    exact wpOp_step ho (fun K' hK => h K' (fun a w h1 h2 => hK a w ⟨h1, h2⟩)))
/-- A whole number that is read may be taken first. -/
theorem yg_load {ops : Array Oper} {S : World → Prop} {o : Oper} {a : Act} (hw : Region.wanted o (yielded ops a.tmps) = true) (x : Operand) (ho : o.op = .load 97 x)
    (b f n : Nat) (hx : a.eval x = .pointer (some ⟨b, f, none⟩)) (hS : ∀ W, S W → GA W b f n) : YieldsIf Try.prog ops S o (.agg (gC n)) a := by
  refine .inl ⟨hw, fun W hW => ?_⟩
  unfold execOp
  simp only [ho, hx, Instr.loadAt, Instr.sureAddr, Sem.run_bind, Sem.run_pure, Result.andThen_ok, (hS W hW).load]
/-- A copy may be taken first. -/
theorem yg_move {ops : Array Oper} {S : World → Prop} {o : Oper} {a : Act} (hw : Region.wanted o (yielded ops a.tmps) = true) (x : Operand) (ho : o.op = .move x) (v : Value) (hx : a.eval x = v) : YieldsIf Try.prog ops S o v a := by
  subst hx
  refine .inl ⟨hw, fun W _ => ?_⟩
  rw [BigFrame.run_move x ho]
theorem yg_assign {ops : Array Oper} {S : World → Prop} {o : Oper} {a : Act} (hw : Region.wanted o (yielded ops a.tmps) = true) (x : Operand) (ho : o.op = .assign x) (v : Value) (hx : a.eval x = v) : YieldsIf Try.prog ops S o v a := by
  subst hx
  refine .inl ⟨hw, fun W _ => ?_⟩
  rw [BigFrame.run_assign x ho]
theorem yg_pick {ops : Array Oper} {S : World → Prop} {o : Oper} {a : Act} (hw : Region.wanted o (yielded ops a.tmps) = true) (c x y : Operand) (ho : o.op = .pick c x y) (t : Bool) (hc : a.eval c = .bool t) (v : Value) (hv : (if t then a.eval x else a.eval y) = v) : YieldsIf Try.prog ops S o v a := by
  subst hv
  refine .inl ⟨hw, fun W _ => ?_⟩
  unfold execOp
  cases t <;> simp [ho, hc, asBool]
/-- What is not wanted yields nothing. -/
theorem yg_skip {ops : Array Oper} {S : World → Prop} {o : Oper} {a : Act} (hw : Region.wanted o (yielded ops a.tmps) = false) : YieldsIf Try.prog ops S o undef a := .inr ⟨hw, rfl⟩
/-- A whole number is written, as one step of such a region. -/
theorem sg_store {ops : Array Oper} {o : Oper} {a : Act} {w : World} {K : Act → World → Prop} {Q : Exit → Act → World → Prop} {E : Prop} (hgd : o.guard = none) (x y : Operand) (ho : o.op = .store 97 x y)
    (b : Nat) (ws : List Int) (k : Int) (n : Nat) (hx : a.eval x = .pointer (some ⟨b, 0, none⟩)) (hy : a.eval y = .agg (gC n)) (hg : GB w b ws k) (hl : (limbs n).length ≤ 98)
    (hd : o.dst = none) (h : ∀ w', GN w' b n → Tn [b] w w' → w'.heap.size = w.heap.size → K a w') :
    if Region.wanted o (yielded ops a.tmps) = true then Oper.wp Try.prog o a w K Q else E := by
  have hw : Region.wanted o (yielded ops a.tmps) = true := by simp [Region.wanted, hgd]
  rw [if_pos hw]
  have hpl := pad_len hl
  exact wp_store_row 97 x y ho b (gC n) hx hy 97 (gcell ws k) hg.blk (by show _ = some (gcell _ _).size; rw [gcell_size hpl]; exact great_size) (by show _ = (gcell _ _).size; rw [gcell_size hg.len, gcell_size hpl]) (gcell_one _ _)
    (by rw [hd]; exact h _ ⟨setRow_heap w b _ _ _ _ hg.blk, hpl⟩ ⟨rfl, rfl, rfl, by simp, fun j _ hn => setRow_other w b j _ (by intro e; apply hn; simp [e])⟩ (by simp))
theorem GN.tn {w w' : World} {b n : Nat} {S : List Nat} (h : GN w b n) (ht : Tn S w w') (hS : b ∉ S) : GN w' b n := GB.tn h ht hS
theorem GN.below {w w' : World} {b n B : Nat} (h : GN w b n) (hb : Below B w w') (hB : b < B) : GN w' b n := GB.below h hb hB
theorem GN.alloc {w : World} {b n : Nat} (h : GN w b n) (o : Obj) : GN (w.alloc o) b n := GB.alloc h o
theorem GN.lt {w : World} {b n : Nat} (h : GN w b n) : b < w.heap.size := GB.lt h
theorem GN.drew {w : World} {b n : Nat} (h : GN w b n) : GN w.drew b n := GB.drew h

end Go.Proofs.Ytlpfjpbnedankaa
