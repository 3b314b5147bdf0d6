/- Several small texts in one: G, GOf, GReg, GSettle, INatOk, GFrom, GList, GPlus, GCmp, GLower, GTimes, GUp, GDown, GNext, GByWord, GEnter, GBits. -/
import Derived.Test.YtjelmbkngjlefaaBase
import Derived.Laws.Rows
import Derived.Laws.Tables
import Derived.Laws.ResultCell
import Derived.Deep.RegionHeld
import Derived.Laws.MakeOwn
import Derived.BigQuiet
import Derived.Test.YtjelmbkngjlefaaSB
import Derived.Lib.BitFns
/- The program's great numbers inside: ninety-eight words and a size in one block; how they are read, written, copied (no walk of the program). -/
namespace Go.Proofs.Ytjelmbkngjlefaa
open Go.RowKit
set_option linter.unusedSimpArgs false

/-- The cells of a great number: its words, its size. -/
def gcell (ws : List Int) (k : Int) : Array Value := (ws.map (Value.int .u32) ++ [Value.int .i64 k]).toArray
/-- A block that holds a great number. -/
structure GB (w : World) (b : Nat) (ws : List Int) (k : Int) : Prop where
  blk : w.heap[b]? = some (.cells (gcell ws k) 72 (0, 0))
  len : ws.length = 98

theorem gcell_size {ws : List Int} (h : ws.length = 98) (k : Int) : (gcell ws k).size = 99 := by simp [gcell, h]
theorem zero_gcell : Try.zeroCells72 = gcell (List.replicate 98 0) 0 := by
  kernel_rfl
theorem great_size : (Try.prog.info? 72).map (·.size) = some 99 := by kernel_rfl
theorem gcell_one (ws : List Int) (k : Int) : (gcell ws k).all (·.oneCell') = true := by
  unfold gcell
  simp [Value.oneCell', Function.comp_def]

theorem GB.lt {w : World} {b : Nat} {ws : List Int} {k : Int} (h : GB w b ws k) : b < w.heap.size := by
  by_cases hlt : b < w.heap.size
  · exact hlt
  · have hn : w.heap[b]? = none := by simp; omega
    rw [h.blk] at hn; cases hn
theorem GB.word {w : World} {b : Nat} {ws : List Int} {k : Int} (h : GB w b ws k) (i : Nat) (hi : i < 98) : w.cell? ⟨b, i, none⟩ = some (.int .u32 (ws.getD i 0)) := by
  have hl : i < ws.length := by rw [h.len]; exact hi
  simp [World.cell?, h.blk, gcell, List.getElem?_append_left, List.getElem?_map, List.getElem?_eq_getElem hl, hl]
theorem GB.size {w : World} {b : Nat} {ws : List Int} {k : Int} (h : GB w b ws k) : w.cell? ⟨b, 98, none⟩ = some (.int .i64 k) := by
  simp [World.cell?, h.blk, gcell, List.getElem?_append, h.len]
theorem GB.free {w : World} {b : Nat} {ws : List Int} {k : Int} (h : GB w b ws k) (j : Nat) : w.frozen? ⟨b, j, none⟩ = false := by
  simp [World.frozen?, h.blk]
theorem gcell_set (ws : List Int) (k : Int) (i : Nat) (v : Int) (h : i < ws.length) : (gcell ws k).setIfInBounds i (.int .u32 v) = gcell (ws.set i v) k := by
  unfold gcell
  apply Array.ext'
  simp [List.set_append, h, List.map_set]
theorem gcell_setK (ws : List Int) (k k' : Int) (h : ws.length = 98) : (gcell ws k).setIfInBounds 98 (.int .i64 k') = gcell ws k' := by
  unfold gcell
  apply Array.ext'
  simp [List.set_append, h]
theorem GB.setW {w : World} {b : Nat} {ws : List Int} {k : Int} (h : GB w b ws k) (i : Nat) (hi : i < 98) (v : Int) : GB (w.setCell ⟨b, i, none⟩ (.int .u32 v)) b (ws.set i v) k := by
  refine ⟨?_, by rw [List.length_set]; exact h.len⟩
  rw [heap_setCell_same w b i _ _ _ h.blk, gcell_set _ _ _ _ (by rw [h.len]; exact hi)]
theorem GB.setK {w : World} {b : Nat} {ws : List Int} {k : Int} (h : GB w b ws k) (k' : Int) : GB (w.setCell ⟨b, 98, none⟩ (.int .i64 k')) b ws k' := by
  refine ⟨?_, h.len⟩
  rw [heap_setCell_same w b 98 _ _ _ h.blk, gcell_setK _ _ _ h.len]
theorem GB.other {w : World} {b : Nat} {ws : List Int} {k : Int} (h : GB w b ws k) (p : Addr) (hp : b ≠ p.block) (v : Value) : GB (w.setCell p v) b ws k :=
  ⟨(heap_setCell_other w p b v hp).trans h.blk, h.len⟩
theorem GB.below {w w' : World} {b B : Nat} {ws : List Int} {k : Int} (h : GB w b ws k) (hb : Below B w w') (hB : b < B) : GB w' b ws k := ⟨(hb.block b hB).trans h.blk, h.len⟩
theorem GB.tn {w w' : World} {b : Nat} {ws : List Int} {k : Int} {S : List Nat} (h : GB w b ws k) (ht : Tn S w w') (hS : b ∉ S) : GB w' b ws k := ⟨(ht.block b h.lt hS).trans h.blk, h.len⟩
theorem GB.drew {w : World} {b : Nat} {ws : List Int} {k : Int} (h : GB w b ws k) : GB w.drew b ws k := ⟨h.blk, h.len⟩
theorem GB.alloc {w : World} {b : Nat} {ws : List Int} {k : Int} (h : GB w b ws k) (o : Obj) : GB (w.alloc o) b ws k := ⟨(Below.heap_alloc w o b h.lt).trans h.blk, h.len⟩
theorem GB.made (w : World) (ws : List Int) (k : Int) (hl : ws.length = 98) : GB (w.alloc (.cells (gcell ws k) 72)) w.heap.size ws k := ⟨heap_alloc_new w _, hl⟩
theorem GB.made0 (w : World) : GB (w.alloc (.cells Try.zeroCells72 72)) w.heap.size (List.replicate 98 0) 0 := by
  rw [zero_gcell]
  exact GB.made w _ _ (by simp)

/-- A store into one's own block. -/
theorem Tn.cell {S : List Nat} {w w' : World} (h : Tn S w w') (p : Addr) (hp : p.block ∈ S) (v : Value) : Tn S w (w'.setCell p v) :=
  h.trans ⟨rfl, rfl, rfl, by simp [World.setCell], fun k _ hn => Below.heap_setCell _ _ _ _ (fun e => hn (e ▸ hp))⟩
theorem Tn.refl (S : List Nat) (w : World) : Tn S w w := ⟨rfl, rfl, rfl, Nat.le_refl _, fun _ _ _ => rfl⟩

/-- For a guard: the goal is a list of operations. -/
theorem wpL_id {P : Program} {ops : Array Oper} {Q : Exit → Act → World → Prop} {l : List Oper} {a : Act} {w : World} (h : wpList P ops Q l a w) : wpList P ops Q l a w := h
/-- A whole great number is read. -/
theorem wpG_load {ops : Array Oper} {rest : List Oper} {o : Oper} {a : Act} {w : World} {Q : Exit → Act → World → Prop} (hgd : o.guard = none) (x : Operand) (ho : o.op = .load 72 x)
    (b : Nat) (ws : List Int) (k : Int) (hx : a.eval x = .pointer (some ⟨b, 0, none⟩)) (hg : GB w b ws k)
    (h : wpList Try.prog ops Q rest (a.put o.dst (.agg (gcell ws k))) w) : wpList Try.prog ops Q (o :: rest) a w :=
  wpList_load_row hgd 72 x ho b hx 72 (gcell ws k) (0, 0) _ hg.blk Try.underlying72 rfl (by rw [gcell_size hg.len]; exact great_size) h
/-- A whole great number is written. -/
theorem wpG_store {ops : Array Oper} {rest : List Oper} {o : Oper} {a : Act} {w : World} {Q : Exit → Act → World → Prop} (hgd : o.guard = none) (x y : Operand) (ho : o.op = .store 72 x y)
    (b : Nat) (ws vs : List Int) (k l : Int) (hx : a.eval x = .pointer (some ⟨b, 0, none⟩)) (hy : a.eval y = .agg (gcell vs l)) (hg : GB w b ws k) (hl : vs.length = 98)
    (h : ∀ w', GB w' b vs l → Tn [b] w w' → w'.heap.size = w.heap.size → wpList Try.prog ops Q rest (a.put o.dst undef) w') : wpList Try.prog ops Q (o :: rest) a w :=
  wpList_store_row hgd 72 x y ho b (gcell vs l) hx hy 72 (gcell ws k) hg.blk (by rw [gcell_size hl]; exact great_size) (by rw [gcell_size hg.len, gcell_size hl]) (gcell_one _ _)
    (h _ ⟨setRow_heap w b _ _ _ _ hg.blk, hl⟩ ⟨rfl, rfl, rfl, by simp, fun j _ hn => setRow_other w b j _ (by intro e; apply hn; simp [e])⟩ (by simp))

/-- The words of a number, and noughts behind. -/
def pad (xs : List Int) : List Int := xs ++ List.replicate (98 - xs.length) 0
theorem pad_len {xs : List Int} (h : xs.length ≤ 98) : (pad xs).length = 98 := by simp [pad]; omega
theorem pad_getD (xs : List Int) (i : Nat) : (pad xs).getD i 0 = xs.getD i 0 := by
  unfold pad
  rw [List.getD_eq_getElem?_getD, List.getD_eq_getElem?_getD, List.getElem?_append]
  split
  · rfl
  · rename_i h
    rw [List.getElem?_eq_none (l := xs) (by omega), List.getElem?_replicate]
    split <;> rfl
theorem pad_set (xs : List Int) (v : Int) (h : xs.length < 98) : (pad xs).set xs.length v = pad (xs ++ [v]) := by
  unfold pad
  rw [List.set_append, if_neg (by omega), Nat.sub_self]
  obtain ⟨m, hm⟩ : ∃ m, 98 - xs.length = m + 1 := ⟨98 - xs.length - 1, by omega⟩
  rw [hm, List.replicate_succ, List.set_cons_zero, List.append_assoc, List.length_append, List.length_singleton, show 98 - (xs.length + 1) = m by omega]
  rfl
/-- The cells of the number n. -/
def gC (n : Nat) : Array Value := gcell (pad (limbs n)) ((limbs n).length : Int)
/-- A block that holds the number n. -/
def GN (w : World) (b n : Nat) : Prop := GB w b (pad (limbs n)) ((limbs n).length : Int)
theorem pad_zero : pad (limbs 0) = List.replicate 98 0 := by rw [limbs_zero]; rfl
theorem gC_zero : gC 0 = gcell (List.replicate 98 0) 0 := by unfold gC; rw [pad_zero, limbs_zero]; rfl

/-- The number n can be read at that place. -/
structure GA (w : World) (b o n : Nat) : Prop where
  word : ∀ i, i < 98 → w.cell? ⟨b, o + i, none⟩ = some (.int .u32 ((limbs n).getD i 0))
  size : w.cell? ⟨b, o + 98, none⟩ = some (.int .i64 ((limbs n).length : Int))
  len : (limbs n).length ≤ 98
theorem GA.lt {w : World} {b o n : Nat} (h : GA w b o n) : b < w.heap.size := block_lt_of_cell h.size
theorem GN.ga {w : World} {b n : Nat} (h : GN w b n) (hl : (limbs n).length ≤ 98) : GA w b 0 n :=
  ⟨fun i hi => by rw [Nat.zero_add, ← pad_getD]; exact GB.word h i hi, by exact GB.size h, hl⟩
theorem GA.below {w w' : World} {b o n B : Nat} (h : GA w b o n) (hb : Below B w w') (hB : b < B) : GA w' b o n :=
  ⟨fun i hi => (hb.cell (p := ⟨b, o + i, none⟩) hB).trans (h.word i hi), (hb.cell (p := ⟨b, o + 98, none⟩) hB).trans h.size, h.len⟩
theorem GA.tn {w w' : World} {b o n : Nat} {S : List Nat} (h : GA w b o n) (ht : Tn S w w') (hS : b ∉ S) : GA w' b o n :=
  have hk := ht.block b h.lt hS
  ⟨fun i hi => (World.cell?_of_block (w := w) (a := ⟨b, o + i, none⟩) hk).trans (h.word i hi), (World.cell?_of_block (w := w) (a := ⟨b, o + 98, none⟩) hk).trans h.size, h.len⟩
theorem GA.drew {w : World} {b o n : Nat} (h : GA w b o n) : GA w.drew b o n := ⟨h.word, h.size, h.len⟩
theorem GA.drewN {w : World} {b o n : Nat} (h : GA w b o n) (q : Nat) : GA (w.drewN q) b o n := ⟨h.word, h.size, h.len⟩
/-- A whole number is read, wherever it stands. -/
theorem GA.load {w : World} {b o n : Nat} (h : GA w b o n) : (loadVar 72 ⟨b, o, none⟩).run Try.prog w = .ok (.agg (gC n)) w := by
  have hl : (loadCells ⟨b, o, none⟩ (gC n).toList.length).run Try.prog w = .ok (gC n).toList.toArray w :=
    run_loadCells_list (P := Try.prog) w ⟨b, o, none⟩ (gC n).toList (fun j v hv => by
      have hadd : (⟨b, o, none⟩ : Addr).add j = ⟨b, o + j, none⟩ := by unfold Addr.add; split <;> simp_all
      rw [hadd]
      unfold gC gcell at hv
      rw [List.getElem?_append] at hv
      split at hv
      · rename_i hj
        rw [List.length_map, pad_len h.len] at hj
        rw [h.word j hj, ← pad_getD]
        rw [List.getElem?_map, List.getElem?_eq_getElem (by rw [pad_len h.len]; exact hj)] at hv
        rw [List.getD_eq_getElem?_getD, List.getElem?_eq_getElem (by rw [pad_len h.len]; exact hj)]
        exact hv
      · rename_i hj
        rw [List.length_map, pad_len h.len] at hj hv
        have hj2 : j = 98 := by
          apply Classical.byContradiction
          intro hne
          rw [List.getElem?_eq_none (by simp; omega)] at hv
          cases hv
        subst hj2
        rw [h.size]
        simpa using hv)
  have hsz : (gC n).toList.length = 99 := by rw [Array.length_toList]; exact gcell_size (pad_len h.len) _
  rw [hsz, Array.toArray_toList] at hl
  have hagg : (isAgg 72).run Try.prog w = .ok true w := by
    unfold isAgg
    rw [Sem.run_bind, run_underlying Try.underlying72 w]
    rfl
  have hi := great_size
  cases hq : Try.prog.info? 72 with
  | none => rw [hq] at hi; cases hi
  | some i =>
    rw [hq] at hi
    have hs : i.size = 99 := by simpa using hi
    simp [loadVar, Sem.run_bind, hagg, sizeOf, typeInfo, hq, hs, hl]
theorem wpA_load {ops : Array Oper} {rest : List Oper} {o : Oper} {a : Act} {w : World} {Q : Exit → Act → World → Prop} (hgd : o.guard = none) (x : Operand) (ho : o.op = .load 72 x)
    (b f n : Nat) (hx : a.eval x = .pointer (some ⟨b, f, none⟩)) (hg : GA w b f n)
    (h : wpList Try.prog ops Q rest (a.put o.dst (.agg (gC n))) w) : wpList Try.prog ops Q (o :: rest) a w :=
  wpList_plain hgd fun _ hK => by
    unfold Oper.wp execOp
    simp only [ho, hx, Instr.loadAt, Instr.sureAddr, Sem.run_bind, Sem.run_pure, Result.andThen_ok, hg.load]
    exact hK _ _ h
/-- A new variable that holds the number n. -/
theorem GN.made (w : World) (n : Nat) (hl : (limbs n).length ≤ 98) : GN (w.alloc (.cells (gC n) 72)) w.heap.size n := GB.made w _ _ (pad_len hl)
/-- A whole number is written. -/
theorem wpN_store {ops : Array Oper} {rest : List Oper} {o : Oper} {a : Act} {w : World} {Q : Exit → Act → World → Prop} (hgd : o.guard = none) (x y : Operand) (ho : o.op = .store 72 x y)
    (b : Nat) (ws : List Int) (k : Int) (n : Nat) (hx : a.eval x = .pointer (some ⟨b, 0, none⟩)) (hy : a.eval y = .agg (gC n)) (hg : GB w b ws k) (hl : (limbs n).length ≤ 98)
    (h : ∀ w', GN w' b n → Tn [b] w w' → w'.heap.size = w.heap.size → wpList Try.prog ops Q rest (a.put o.dst undef) w') : wpList Try.prog ops Q (o :: rest) a w :=
  wpG_store hgd x y ho b ws (pad (limbs n)) k _ hx hy hg (pad_len hl) h

end Go.Proofs.Ytjelmbkngjlefaa

/- The program's greatOf, by its contract. -/
namespace Go.Proofs.Ytjelmbkngjlefaa
open Go.RowKit

theorem limbs_len3 {n : Nat} (h : n < 18446744073709551616) : (limbs n).length ≤ 3 := limbs_len_le n 3 (by omega)
theorem results_great {fn : Func} {p : Tmp} (h : fn.results = #[.cell p 72]) (tmps : Array Value) (w : World) (b : Nat) (ws : List Int) (k : Int)
    (hp : tmps.getD p undef = .pointer (some ⟨b, 0, none⟩)) (hg : GB w b ws k) : (results fn tmps).run Try.prog w = .ok (.agg (gcell ws k)) w :=
  results_cell_row h tmps w b 72 (gcell ws k) (0, 0) _ hp hg.blk Try.underlying72 rfl (by rw [gcell_size hg.len]; exact great_size)

set_option maxHeartbeats 1600000 in
/-- greatOf: the number. -/
theorem gOf (n : Nat) (w : World) (hn : n < 18446744073709551616) :
    Calls Try.prog 88 #[.int .u64 n] w fun e w' => e = .returned (.agg (gC n)) ∧ Below w.heap.size w w' := by
  have h3 := limbs_len3 hn
  go_enter Try.func88, Try.ntmps88
  go_wp2
  have R0 := (GB.made0 w).alloc (.cells Try.zeroCells72 72)
  have G0 := GB.made0 (w.alloc (.cells Try.zeroCells72 72))
  have hs0 : (w.alloc (.cells Try.zeroCells72 72)).heap.size = w.heap.size + 1 := by simp
  have B0 : Below w.heap.size w ((w.alloc (.cells Try.zeroCells72 72)).alloc (.cells Try.zeroCells72 72)) := ((Below.refl w.heap.size w).alloc (Nat.le_refl _) _).alloc (by simp) _
  rw [hs0] at G0
  clear hs0
  generalize (w.alloc (.cells Try.zeroCells72 72)).alloc (.cells Try.zeroCells72 72) = w0 at *
  go_loopw [0] (fun v wr => ∃ (m : Nat) (done : List Int), v = .int .u64 m ∧ m < 18446744073709551616 ∧ done.length ≤ 3 ∧ Hid (limbs n = done ++ limbs m) ∧ GB wr (w.heap.size + 1) (pad done) (done.length : Int) ∧ GB wr w.heap.size (List.replicate 98 0) 0 ∧ Below w.heap.size w wr) (fun v _ => (intOf v).toNat)
  case atStart => exact ⟨n, [], rfl, hn, by simp, by show _ = _; simp, G0, R0, B0⟩
  case round =>
    obtain ⟨m, done, rfl, hm, hd, HL, hG, hR, hB⟩ := hrel
    by_cases h0 : m = 0
    · subst h0
      have e1 : limbs n = done := by have := HL.out; rw [limbs_zero, List.append_nil] at this; exact this
      have HE : Hid (gC n = gcell (pad done) (done.length : Int)) := by show _ = _; unfold gC; rw [e1]
      have hpl : (pad done).length = 98 := pad_len (by omega)
      clear HL e1
      go_wp2_with (first | (refine wpG_load rfl (.tmp 3) rfl (w.heap.size + 1) _ _ rfl hG ?_) | (refine wpG_store rfl (.tmp 2) (.tmp 19) rfl w.heap.size _ _ _ _ rfl rfl hR hpl ?_; intro w1 g1 t1 s1))
      (try simp only [Exit.inBlock, Exit.then])
      refine bodyPost_ret (v := .agg (gC n)) ?_ rfl ⟨rfl, t1.below hB hB.size (by simp)⟩
      rw [HE.out]
      exact results_great rfl _ _ w.heap.size _ _ rfl g1
    · have hpos : 0 < m := by omega
      have hl1 : limbs m = ((m % 16777216 : Nat) : Int) :: limbs (m / 16777216) := limbs_pos m hpos
      have hdl : done.length < 3 := by
        have := congrArg List.length HL.out
        rw [hl1] at this
        simp at this
        omega
      have HL2 : Hid (limbs n = (done ++ [((m % 16777216 : Nat) : Int)]) ++ limbs (m / 16777216)) := by
        show _ = _
        rw [HL.out, hl1]; simp
      have HG : Hid (GB wr (w.heap.size + 1) (pad done) (done.length : Int)) := hG
      have c1 := hG.size
      have c2 := hG.word done.length (by omega)
      have f1 := hG.free 98
      have f2 := hG.free done.length
      have hpos' : (0 : Int) < (m : Int) := by omega
      clear HL hl1 hpos hG
      go_wp2
      go_roundw
      case rel =>
        refine ⟨m / 16777216, done ++ [((m % 16777216 : Nat) : Int)], by go_num, by omega, by simp; omega, HL2, ?_, ?_, ?_⟩
        · have := (HG.out.setW done.length (by omega) ((m % 16777216 : Nat) : Int)).setK ((done.length : Int) + 1)
          rw [pad_set _ _ (by omega)] at this
          simpa using this
        · exact (hR.other _ (by show w.heap.size ≠ w.heap.size + 1; omega) _).other _ (by show w.heap.size ≠ w.heap.size + 1; omega) _
        · exact (hB.setCell (by show w.heap.size ≤ w.heap.size + 1; omega) _).setCell (by show w.heap.size ≤ w.heap.size + 1; omega) _
      case measure => simp [intOf]; omega

end Go.Proofs.Ytjelmbkngjlefaa

/- Regions that draw their order and read or write whole great numbers: the steps (no walk of the program). -/
namespace Go.Proofs.Ytjelmbkngjlefaa
open Go.RowKit

theorem alloc_below (w : World) (o : Obj) : Below w.heap.size w (w.alloc o) := (Below.refl _ _).alloc (Nat.le_refl _) o
/-- Number i is taken first; its slot said. -/
theorem takeH {ops : Array Oper} {Q : Exit → Act → World → Prop} {md : Region.Mode} {S : World → Prop} {oi : Oper} {fuel : Nat} {listed : Array Bool} {a : Act} {w : World} (i : Nat) (d : Option Tmp) (v : Value) (hi : ops[i]? = some oi) (hd : oi.dst = d)
    (hs : Region.noSelect ops = true) (hf : Region.free md ops listed i = true) (hr : (Region.ready md ops listed).contains i = true)
    (hQ : ∀ c a w, Q (.panic c) (a.put oi.dst v) w → Q (.panic c) a w) (hy : YieldsIf Try.prog ops S oi v a) (hS : S w)
    (h : wpAnyH Try.prog md ops Q S fuel (listed.setIfInBounds i true) (a.put d v) w) : wpAnyH Try.prog md ops Q S (fuel + 1) listed a w := by
  subst hd
  exact wpAnyH_take hi hs hf hr hQ hy hS h
/-- The one that may come up is run; its slot said. -/
theorem oneH {ops : Array Oper} {Q : Exit → Act → World → Prop} {md : Region.Mode} {S : World → Prop} {o : Oper} {fuel : Nat} {listed : Array Bool} {a : Act} {w : World} (i : Nat) (ho : ops[i]? = some o) (hr : Region.ready md ops listed = [i])
    (h : ∀ K' : Act → World → Prop, (∀ a w, S w → wpAnyH Try.prog md ops Q S fuel (listed.setIfInBounds i true) a w → K' a w) → if Region.wanted o (yielded ops a.tmps) = true then Oper.wp Try.prog o a w K' Q else K' (a.put o.dst undef) w) : wpAnyH Try.prog md ops Q S (fuel + 1) listed a w :=
  wpAnyH_all hr (by simp) (fun j hj => by
    obtain rfl : j = i := by simpa using hj
    exact wpOp_step ho (fun K' hK => h K' (fun a w h1 h2 => hK a w ⟨h1, h2⟩)))
/-- A whole number that is read may be taken first. -/
theorem yg_load {ops : Array Oper} {S : World → Prop} {o : Oper} {a : Act} (hw : Region.wanted o (yielded ops a.tmps) = true) (x : Operand) (ho : o.op = .load 72 x)
    (b f n : Nat) (hx : a.eval x = .pointer (some ⟨b, f, none⟩)) (hS : ∀ W, S W → GA W b f n) : YieldsIf Try.prog ops S o (.agg (gC n)) a := by
  refine .inl ⟨hw, fun W hW => ?_⟩
  unfold execOp
  simp only [ho, hx, Instr.loadAt, Instr.sureAddr, Sem.run_bind, Sem.run_pure, Result.andThen_ok, (hS W hW).load]
/-- A copy may be taken first. -/
theorem yg_move {ops : Array Oper} {S : World → Prop} {o : Oper} {a : Act} (hw : Region.wanted o (yielded ops a.tmps) = true) (x : Operand) (ho : o.op = .move x) (v : Value) (hx : a.eval x = v) : YieldsIf Try.prog ops S o v a := by
  subst hx
  refine .inl ⟨hw, fun W _ => ?_⟩
  rw [BigFrame.run_move x ho]
theorem yg_assign {ops : Array Oper} {S : World → Prop} {o : Oper} {a : Act} (hw : Region.wanted o (yielded ops a.tmps) = true) (x : Operand) (ho : o.op = .assign x) (v : Value) (hx : a.eval x = v) : YieldsIf Try.prog ops S o v a := by
  subst hx
  refine .inl ⟨hw, fun W _ => ?_⟩
  rw [BigFrame.run_assign x ho]
theorem yg_pick {ops : Array Oper} {S : World → Prop} {o : Oper} {a : Act} (hw : Region.wanted o (yielded ops a.tmps) = true) (c x y : Operand) (ho : o.op = .pick c x y) (t : Bool) (hc : a.eval c = .bool t) (v : Value) (hv : (if t then a.eval x else a.eval y) = v) : YieldsIf Try.prog ops S o v a := by
  subst hv
  refine .inl ⟨hw, fun W _ => ?_⟩
  unfold execOp
  cases t <;> simp [ho, hc, asBool]
/-- What is not wanted yields nothing. -/
theorem yg_skip {ops : Array Oper} {S : World → Prop} {o : Oper} {a : Act} (hw : Region.wanted o (yielded ops a.tmps) = false) : YieldsIf Try.prog ops S o undef a := .inr ⟨hw, rfl⟩
/-- A whole number is written, as one step of such a region. -/
theorem sg_store {ops : Array Oper} {o : Oper} {a : Act} {w : World} {K : Act → World → Prop} {Q : Exit → Act → World → Prop} {E : Prop} (hgd : o.guard = none) (x y : Operand) (ho : o.op = .store 72 x y)
    (b : Nat) (ws : List Int) (k : Int) (n : Nat) (hx : a.eval x = .pointer (some ⟨b, 0, none⟩)) (hy : a.eval y = .agg (gC n)) (hg : GB w b ws k) (hl : (limbs n).length ≤ 98)
    (hd : o.dst = none) (h : ∀ w', GN w' b n → Tn [b] w w' → w'.heap.size = w.heap.size → K a w') :
    if Region.wanted o (yielded ops a.tmps) = true then Oper.wp Try.prog o a w K Q else E := by
  have hw : Region.wanted o (yielded ops a.tmps) = true := by simp [Region.wanted, hgd]
  rw [if_pos hw]
  have hpl := pad_len hl
  exact wp_store_row 72 x y ho b (gC n) hx hy 72 (gcell ws k) hg.blk (by show _ = some (gcell _ _).size; rw [gcell_size hpl]; exact great_size) (by show _ = (gcell _ _).size; rw [gcell_size hg.len, gcell_size hpl]) (gcell_one _ _)
    (by rw [hd]; exact h _ ⟨setRow_heap w b _ _ _ _ hg.blk, hpl⟩ ⟨rfl, rfl, rfl, by simp, fun j _ hn => setRow_other w b j _ (by intro e; apply hn; simp [e])⟩ (by simp))
theorem GN.tn {w w' : World} {b n : Nat} {S : List Nat} (h : GN w b n) (ht : Tn S w w') (hS : b ∉ S) : GN w' b n := GB.tn h ht hS
theorem GN.below {w w' : World} {b n B : Nat} (h : GN w b n) (hb : Below B w w') (hB : b < B) : GN w' b n := GB.below h hb hB
theorem GN.alloc {w : World} {b n : Nat} (h : GN w b n) (o : Obj) : GN (w.alloc o) b n := GB.alloc h o
theorem GN.lt {w : World} {b n : Nat} (h : GN w b n) : b < w.heap.size := GB.lt h
theorem GN.drew {w : World} {b n : Nat} (h : GN w b n) : GN w.drew b n := GB.drew h

end Go.Proofs.Ytjelmbkngjlefaa

/- The program's settle, by its contract. -/
namespace Go.Proofs.Ytjelmbkngjlefaa
open Go.RowKit

theorem getD_take {xs : List Int} {m j : Nat} (h : j < m) : (xs.take m).getD j 0 = xs.getD j 0 := by
  rw [List.getD_eq_getElem?_getD, List.getD_eq_getElem?_getD, List.getElem?_take, if_pos h]
theorem eq_pad {ws xs : List Int} (hl : ws.length = 98) (h : ws.take xs.length = xs) (hx : xs.length ≤ 98) (hz : ∀ j, xs.length ≤ j → ws.getD j 0 = 0) : ws = pad xs := by
  apply List.ext_getElem?
  intro i
  by_cases hi : i < 98
  · have e1 : ws[i]? = some (ws.getD i 0) := by rw [List.getD_eq_getElem?_getD, List.getElem?_eq_getElem (by omega)]; rfl
    have e2 : (pad xs)[i]? = some ((pad xs).getD i 0) := by rw [List.getD_eq_getElem?_getD, List.getElem?_eq_getElem (by rw [pad_len hx]; exact hi)]; rfl
    rw [e1, e2, pad_getD]
    by_cases h2 : i < xs.length
    · rw [← h, getD_take (by omega)]
    · rw [hz i (by omega), List.getD_eq_getElem?_getD, List.getElem?_eq_none (by omega)]; rfl
  · rw [List.getElem?_eq_none (by omega), List.getElem?_eq_none (by rw [pad_len hx]; omega)]
theorem settle_fin {ws : List Int} {m t : Nat} (hl : ws.length = 98) (hm : m ≤ 98) (hr : inR (ws.take m)) (ht : t ≤ m) (hz : ∀ j, t ≤ j → ws.getD j 0 = 0) (h0 : 0 < t → ws.getD (t - 1) 0 ≠ 0) :
    ws = pad (limbs (num (ws.take m))) ∧ t = (limbs (num (ws.take m))).length := by
  have hlm : (ws.take m).length = m := by rw [List.length_take]; omega
  have e := trim_limbs (ws.take m) t hr (by omega) (fun j h1 h2 => by rw [getD_take (by omega)]; exact hz j h1) (fun h => by rw [getD_take (by omega)]; exact h0 h)
  rw [List.take_take, Nat.min_eq_left ht] at e
  have el : t = (limbs (num (ws.take m))).length := by rw [← e, List.length_take]; omega
  refine ⟨eq_pad hl (by rw [← el]; exact e) (by omega) (fun j hj => hz j (by omega)), el⟩

set_option maxHeartbeats 1600000 in
/-- settle: the size of what is left. -/
theorem gSettle (b : Nat) (ws : List Int) (k : Int) (m : Nat) (w : World) (hg : GB w b ws k) (hm : m ≤ 98) (hr : inR (ws.take m)) (hz : ∀ j, m ≤ j → ws.getD j 0 = 0) :
    Calls Try.prog 85 #[.pointer (some ⟨b, 0, none⟩), .int .i64 m] w fun e w' => e = .returned (.tuple #[]) ∧ GN w' b (num (ws.take m)) ∧ Tn [b] w w' ∧ w'.heap.size = w.heap.size := by
  have f98 := hg.free 98
  have c98 := hg.size
  go_enter Try.func85, Try.ntmps85
  go_wp2
  go_loop [1] (fun i => ∃ t : Nat, t ≤ m ∧ i = .int .i64 t ∧ ∀ j, t ≤ j → ws.getD j 0 = 0) (fun i => (intOf i).toNat)
  case atStart => exact ⟨m, Nat.le_refl _, rfl, hz⟩
  case round =>
    obtain ⟨t, ht, rfl, hzz⟩ := hrel
    have HZ : Hid (∀ j, t ≤ j → ws.getD j 0 = 0) := hzz
    clear hzz
    by_cases h0 : t = 0
    · subst h0
      have hn' : ¬ (0 : Int) < ((0 : Nat) : Int) := by omega
      have HF : Hid (ws = pad (limbs (num (ws.take m))) ∧ (0 : Nat) = (limbs (num (ws.take m))).length) := settle_fin hg.len hm hr ht HZ.out (fun h => absurd h (by omega))
      have HG : Hid (GB w b ws k) := hg
      clear hg hr hz
      go_wp2
      go_end0
      refine ⟨rfl, ?_, (Tn.refl [b] w).cell _ (by simp) _, by simp [World.setCell]⟩
      have := HG.out.setK 0
      unfold GN
      rw [← HF.out.2]
      rw [HF.out.1] at this
      rw [← HF.out.1] at this ⊢
      exact this
    · obtain ⟨s, rfl⟩ : ∃ s, t = s + 1 := ⟨t - 1, by omega⟩
      have hnp : (0 : Int) < ((s + 1 : Nat) : Int) := by omega
      have hc := hg.word s (by omega)
      by_cases hd : ws.getD s 0 = 0
      · rw [hd] at hc
        have HN : Hid (∀ j, s ≤ j → ws.getD j 0 = 0) := fun j h1 => by
          by_cases e : j = s
          · subst e; exact hd
          · exact HZ.out j (by omega)
        clear hd
        go_wp2
        go_round
        case rel => exact ⟨s, by omega, by go_num, HN.out⟩
        case measure => simp [intOf]
      · have HF : Hid (ws = pad (limbs (num (ws.take m))) ∧ (s + 1 : Nat) = (limbs (num (ws.take m))).length) := settle_fin hg.len hm hr ht HZ.out (fun _ => hd)
        have HG : Hid (GB w b ws k) := hg
        obtain ⟨d, hdd⟩ : ∃ d, ws.getD s 0 = d := ⟨_, rfl⟩
        rw [hdd] at hc hd
        have ed : (d == 0) = false := by rw [beq_eq_false_iff_ne]; exact hd
        clear hdd hd hg hr hz
        go_wp2
        go_end0
        refine ⟨rfl, ?_, (Tn.refl [b] w).cell _ (by simp) _, by simp [World.setCell]⟩
        have := HG.out.setK ((s + 1 : Nat) : Int)
        unfold GN
        rw [← HF.out.2]
        rw [← HF.out.1]
        exact this

end Go.Proofs.Ytjelmbkngjlefaa

/- The program's NatOk, by its contract. -/
namespace Go.Proofs.Ytjelmbkngjlefaa
open Go.RowKit

set_option maxHeartbeats 1600000 in
/-- NatOk. -/
theorem iNatOk (v : Value) (xs : List Int) (w : World) (h : rowI w v xs) (hl : xs.length ≤ 1099511627776) :
    Calls Try.prog 105 #[v] w fun e w' => e = .returned (.bool (okB xs)) ∧ w' = w := by
  obtain ⟨a, cap, rfl, h2, h3, h4, h5, h6⟩ := h
  have H6 : Hid (∀ j, j < xs.length → ∃ g off, a = some ⟨g, off, none⟩ ∧ g < w.heap.size ∧ w.cell? ⟨g, off + j, none⟩ = some (.int .i64 (xs.getD j 0))) := h6
  clear h6 h4 h5
  by_cases hlen : xs.length ≤ 48
  · have hlen' : ¬ ((48 : Int) < (xs.length : Int)) := by omega
    go_enter Try.func105, Try.ntmps105
    go_wp2
    go_loop [10] (fun i => ∃ k : Nat, k ≤ xs.length ∧ i = .int .i64 k ∧ inR (xs.take k)) (fun i => xs.length - (intOf i).toNat)
    case atStart => exact ⟨0, Nat.zero_le _, rfl, by simpa using inR_nil⟩
    case round =>
      obtain ⟨k, hk, rfl, hin⟩ := hrel
      by_cases hlt : k < xs.length
      · obtain ⟨g, off, rfl, hg, hc⟩ := H6.out k hlt
        have hmem := getD_in hlt
        have hsn : xs.take (k + 1) = xs.take k ++ [xs.getD k 0] := by
          rw [List.take_succ_eq_append_getElem hlt, List.getD_eq_getElem?_getD, List.getElem?_eq_getElem hlt]; rfl
        obtain ⟨d, hd⟩ : ∃ d, xs.getD k 0 = d := ⟨_, rfl⟩
        rw [hd] at hc hmem hsn
        have HS : Hid (xs.take (k + 1) = xs.take k ++ [d]) := hsn
        clear hd hsn
        by_cases r1 : 0 ≤ d
        · have q1 : decide (d < 0) = false := by simp; omega
          by_cases r2 : d < 16777216
          · have q2 : decide (16777216 ≤ d) = false := by simp; omega
            go_wp2
            go_round
            case rel => exact ⟨k + 1, by omega, by go_num, by rw [HS.out]; exact inR_append.2 ⟨hin, inR_cons.2 ⟨⟨r1, r2⟩, inR_nil⟩⟩⟩
            case measure => simp [intOf]; omega
          · have HB : Hid (okB xs = false) := okB_no fun hok => r2 (hok.2.1 d hmem).2
            have q2 : decide (16777216 ≤ d) = true := by simp; omega
            clear r2
            go_wp2
            go_ret
            exact ⟨by rw [HB.out]; rfl, rfl⟩
        · have HB : Hid (okB xs = false) := okB_no fun hok => r1 (hok.2.1 d hmem).1
          have q1 : decide (d < 0) = true := by simp; omega
          clear r1
          go_wp2
          go_ret
          exact ⟨by rw [HB.out]; rfl, rfl⟩
      · have hin' : inR xs := by rwa [List.take_of_length_le (by omega)] at hin
        clear hin
        by_cases h0 : xs.length = 0
        · have hx : xs = [] := List.eq_nil_of_length_eq_zero h0
          have HB : Hid (okB xs = true) := okB_yes ⟨hlen, hin', noZ_of (.inl hx)⟩
          have e0 : ((xs.length : Int) == 0) = true := by rw [h0]; rfl
          clear hin' hx
          go_wp2
          go_ret
          exact ⟨by rw [HB.out]; rfl, rfl⟩
        · obtain ⟨g, off, rfl, hg, hc⟩ := H6.out (xs.length - 1) (by omega)
          have e0 : ((xs.length : Int) == 0) = false := by rw [beq_eq_false_iff_ne]; omega
          have hpos : 0 < xs.length := by omega
          have hres : okB xs = !(xs.getD (xs.length - 1) 0 == 0) := by
            by_cases hz : xs.getD (xs.length - 1) 0 = 0
            · rw [okB_no (fun hok => hok.2.2 (List.length_pos_iff.1 hpos) (by rw [last_getD]; exact hz)), hz]; rfl
            · rw [okB_yes ⟨hlen, hin', noZ_of (.inr hz)⟩, beq_eq_false_iff_ne.2 hz]; rfl
          obtain ⟨d, hd⟩ : ∃ d, xs.getD (xs.length - 1) 0 = d := ⟨_, rfl⟩
          rw [hd] at hc hres
          have HB : Hid (okB xs = !(d == 0)) := hres
          clear hd hin' hres
          go_wp2
          go_ret
          exact ⟨by rw [HB.out]; rfl, rfl⟩
  · have hlen' : (48 : Int) < (xs.length : Int) := by omega
    have HB : Hid (okB xs = false) := okB_no fun hok => hlen hok.1
    go_enter Try.func105, Try.ntmps105
    go_wp2
    go_ret
    exact ⟨by rw [HB.out]; rfl, rfl⟩

end Go.Proofs.Ytjelmbkngjlefaa

/- The program's greatFrom, by its contract. -/
namespace Go.Proofs.Ytjelmbkngjlefaa
open Go.RowKit

theorem results_great_tmp {fn : Func} {p u : Tmp} (h : fn.results = #[.cell p 72, .tmp u]) (tmps : Array Value) (w : World) (b : Nat) (ws : List Int) (k : Int) (v : Value)
    (hp : tmps.getD p undef = .pointer (some ⟨b, 0, none⟩)) (hu : tmps.getD u undef = v) (hg : GB w b ws k) : (results fn tmps).run Try.prog w = .ok (.tuple #[.agg (gcell ws k), v]) w := by
  have hl := run_loadVar_row (P := Try.prog) w b 72 72 (gcell ws k) (0, 0) _ hg.blk Try.underlying72 rfl (by rw [gcell_size hg.len]; exact great_size)
  have hp' : tmps[p]?.getD undef = .pointer (some ⟨b, 0, none⟩) := by simpa using hp
  have hu' : tmps[u]?.getD undef = v := by simpa using hu
  simp [results, h, hp', hu', asAddr, hl]
theorem limbs_num {xs : List Int} (h : okL xs) : limbs (num xs) = xs := (okL_eq h).symm
def fromN (xs : List Int) : Nat := if okB xs = true then num xs else 0
theorem fromN_len (xs : List Int) : (limbs (fromN xs)).length ≤ 48 := by
  unfold fromN
  split
  · rename_i h
    have h2 := (okB_iff xs).1 h
    rw [limbs_num h2]
    exact h2.1
  · rw [limbs_zero]; simp

set_option maxHeartbeats 3200000 in
/-- greatFrom: the number, and whether the list is right. -/
theorem gFrom (v : Value) (xs : List Int) (w : World) (h : rowI w v xs) (hlx : xs.length ≤ 1048576) :
    Calls Try.prog 95 #[v] w fun e w' => e = .returned (.tuple #[.agg (gC (fromN xs)), .bool (okB xs)]) ∧ Below w.heap.size w w' := by
  have R0 := (GB.made0 w).alloc (.cells Try.zeroCells72 72)
  have G0 := GB.made0 (w.alloc (.cells Try.zeroCells72 72))
  have hs0 : (w.alloc (.cells Try.zeroCells72 72)).heap.size = w.heap.size + 1 := by simp
  have B0 : Below w.heap.size w ((w.alloc (.cells Try.zeroCells72 72)).alloc (.cells Try.zeroCells72 72)) := ((Below.refl w.heap.size w).alloc (Nat.le_refl _) _).alloc (by simp) _
  rw [hs0] at G0
  clear hs0
  have ka := fun W (hW : Below w.heap.size w W) => iNatOk v xs W (h.below hW (Nat.le_refl _)) (by omega)
  obtain ⟨a, cap, rfl, -⟩ := id h
  by_cases hok : okB xs = true
  · rw [hok] at ka
    have hokl := (okB_iff xs).1 hok
    have HN : Hid (gC (fromN xs) = gcell (pad xs) (xs.length : Int)) := by
      show _ = _
      unfold gC fromN
      rw [if_pos hok, limbs_num hokl]
    have hl48 := hokl.1
    have hin := hokl.2.1
    have HR : Hid (okB xs = true) := hok
    clear hok hokl
    go_enter Try.func95, Try.ntmps95
    go_wp2_with fail
    refine (ka _ B0).mono ?_
    rintro e w1 ⟨rfl, rfl⟩
    generalize (w.alloc (.cells Try.zeroCells72 72)).alloc (.cells Try.zeroCells72 72) = w1 at *
    clear ka
    go_wp2
    go_loopw [13] (fun i wr => ∃ (k : Nat), k ≤ xs.length ∧ i = .int .i64 k ∧ GB wr (w.heap.size + 1) (pad (xs.take k)) 0 ∧ GB wr w.heap.size (List.replicate 98 0) 0 ∧ Below w.heap.size w wr) (fun i _ => xs.length - (intOf i).toNat)
    case atStart => exact ⟨0, Nat.zero_le _, rfl, G0, R0, B0⟩
    case round =>
      clear G0 R0 B0
      obtain ⟨k, hk, rfl, hG, hR, hB⟩ := hrel
      by_cases hlt : k < xs.length
      · have hlt' : (k : Int) < (xs.length : Int) := by omega
        obtain ⟨g, off, rfl, hc⟩ := (h.below hB (Nat.le_refl _)).at k hlt
        have gx := inR_getD hin k
        have HT : Hid (xs.take (k + 1) = xs.take k ++ [xs.getD k 0]) := by
          show _ = _
          rw [List.take_succ_eq_append_getElem hlt, List.getD_eq_getElem?_getD, List.getElem?_eq_getElem hlt]; rfl
        obtain ⟨x, hx⟩ : ∃ x, xs.getD k 0 = x := ⟨_, rfl⟩
        rw [hx] at gx hc HT
        obtain ⟨gx0, gx1⟩ := gx
        have hk98 : (k : Int) < 98 := by omega
        have cz := hG.word k (by omega)
        have fz := hG.free k
        have HG : Hid (GB wr (w.heap.size + 1) (pad (xs.take k)) 0) := hG
        have HB : Hid (GB wr w.heap.size (List.replicate 98 0) 0 ∧ Below w.heap.size w wr) := ⟨hR, hB⟩
        have HH := h
        clear hx hG hR hB h
        go_wp2
        go_roundw
        case rel =>
          refine ⟨k + 1, by omega, by go_num, ?_, ?_, ?_⟩
          · have := HG.out.setW k (by omega) x
            have hlk : (xs.take k).length = k := by rw [List.length_take]; omega
            have hp := pad_set (xs.take k) x (by omega)
            rw [hlk] at hp
            rw [hp, ← HT.out] at this
            exact this
          · exact HB.out.1.other _ (by show w.heap.size ≠ w.heap.size + 1; omega) _
          · exact HB.out.2.setCell (by show w.heap.size ≤ w.heap.size + 1; omega) _
        case measure => simp [intOf]; omega
      · have hke : k = xs.length := by omega
        subst hke
        have hlt' : ¬ ((xs.length : Int) < (xs.length : Int)) := by omega
        rw [List.take_length] at hG
        have G2 := hG.setK (xs.length : Int)
        have R2 := hR.other ⟨w.heap.size + 1, 98, none⟩ (by show w.heap.size ≠ w.heap.size + 1; omega) (.int .i64 (xs.length : Int))
        have B2 := hB.setCell (p := ⟨w.heap.size + 1, 98, none⟩) (by show w.heap.size ≤ w.heap.size + 1; omega) (.int .i64 (xs.length : Int))
        have cz := hG.size
        have fz := hG.free 98
        have hpl : (pad xs).length = 98 := pad_len (by omega)
        have hsz : w.heap.size ≤ (wr.setCell ⟨w.heap.size + 1, 98, none⟩ (.int .i64 (xs.length : Int))).heap.size := B2.size
        clear hG hR hB h
        go_wp2_with (first | (refine wpG_load rfl (.tmp 4) rfl (w.heap.size + 1) _ _ rfl G2 ?_) | (refine wpG_store rfl (.tmp 2) (.tmp 27) rfl w.heap.size _ _ _ _ rfl rfl R2 hpl ?_; intro w5 g5 t5 s5))
        (try simp only [Exit.inBlock, Exit.then])
        refine bodyPost_ret (v := .tuple #[.agg (gC (fromN xs)), .bool (okB xs)]) ?_ rfl ⟨rfl, t5.below B2 hsz (by simp)⟩
        rw [HN.out, HR.out]
        exact results_great_tmp rfl _ _ w.heap.size _ _ _ rfl rfl g5
  · have hof : okB xs = false := by simpa using hok
    rw [hof] at ka
    have HN : Hid (gC (fromN xs) = gcell (List.replicate 98 0) 0) := by
      show _ = _
      unfold fromN
      rw [if_neg hok]
      exact gC_zero
    have HR : Hid (okB xs = false) := hof
    clear hok hof
    go_enter Try.func95, Try.ntmps95
    go_wp2_with fail
    refine (ka _ B0).mono ?_
    rintro e w1 ⟨rfl, rfl⟩
    generalize (w.alloc (.cells Try.zeroCells72 72)).alloc (.cells Try.zeroCells72 72) = w1 at *
    clear ka h
    have hpl : (List.replicate 98 (0 : Int)).length = 98 := by simp
    go_wp2_with (first | (refine wpG_load rfl (.tmp 4) rfl (w.heap.size + 1) _ _ rfl G0 ?_) | (refine wpG_store rfl (.tmp 2) (.tmp 10) rfl w.heap.size _ _ _ _ rfl rfl R0 hpl ?_; intro w5 g5 t5 s5))
    (try simp only [Exit.inBlock, Exit.then])
    refine bodyPost_ret (v := .tuple #[.agg (gC (fromN xs)), .bool (okB xs)]) ?_ rfl ⟨rfl, t5.below B0 B0.size (by simp)⟩
    rw [HN.out, HR.out]
    exact results_great_tmp rfl _ _ w.heap.size _ _ _ rfl rfl g5

theorem fromN_ok {xs : List Int} (h : okB xs = true) : fromN xs = num xs := by unfold fromN; rw [if_pos h]
end Go.Proofs.Ytjelmbkngjlefaa

/- The program's list of a great number, by its contract. -/
namespace Go.Proofs.Ytjelmbkngjlefaa
open Go.RowKit

theorem listed {xs zs : List Int} {k : Nat} (hk : k < xs.length) (hl : zs.length = xs.length) (h : ∀ j, j < k → zs.getD j 0 = xs.getD j 0) : ∀ j, j < k + 1 → (zs.set k (xs.getD k 0)).getD j 0 = xs.getD j 0 := by
  intro j hj
  rw [List.getD_eq_getElem?_getD, List.getElem?_set]
  by_cases e : k = j
  · subst e
    rw [if_pos rfl, if_pos (by omega)]
    rfl
  · rw [if_neg e, ← List.getD_eq_getElem?_getD]
    exact h j (by omega)
theorem all_listed {xs zs : List Int} (hl : zs.length = xs.length) (h : ∀ j, j < xs.length → zs.getD j 0 = xs.getD j 0) : zs = xs := by
  apply List.ext_getElem?
  intro i
  by_cases hi : i < xs.length
  · have := h i hi
    rw [List.getD_eq_getElem?_getD, List.getD_eq_getElem?_getD, List.getElem?_eq_getElem hi, List.getElem?_eq_getElem (by omega)] at this
    rw [List.getElem?_eq_getElem hi, List.getElem?_eq_getElem (by omega)]
    simpa using this
  · rw [List.getElem?_eq_none (by omega), List.getElem?_eq_none (by omega)]

theorem nil_own (w : World) (base : Nat) : ownsI w base (.slice none 0 0) [] := by
  unfold ownsI
  exact ⟨rfl, .inl ⟨rfl, rfl⟩⟩

set_option maxRecDepth 20000 in
set_option maxHeartbeats 3200000 in
/-- limbs: all of them, in a list of its own. -/
theorem gLimbs (b o n : Nat) (w : World) (ha : GA w b o n) :
    Calls Try.prog 80 #[.pointer (some ⟨b, o, none⟩)] w (fun e w' => ∃ v, e = .returned v ∧ ownsI w' w.heap.size v (limbs n) ∧ Below w.heap.size w w') := by
  have hl := ha.len
  have hbl := ha.lt
  have c98 := ha.size
  have hxr := limbs_inR n
  have hWr : ∀ k, k < 98 → ∀ W, Below w.heap.size w W → W.cell? ⟨b, o + k, none⟩ = some (.int .u32 ((limbs n).getD k 0)) := fun k hk W g => (ha.below g hbl).word k hk
  have HW : Hid (∀ k, k < 98 → ∀ W, Below w.heap.size w W → W.cell? ⟨b, o + k, none⟩ = some (.int .u32 ((limbs n).getD k 0))) := hWr
  clear hWr ha
  generalize limbs n = xs at *
  obtain ⟨i0, hi, hz0, hz1, hz2⟩ := info_parts Try.info3
  obtain ⟨w1, hmk, hown1, hg1⟩ := run_make_full (P := Try.prog) w w.heap.size 22 3 i0 (.int .i64 0) 1 Try.underlying22 hi hz0 hz1 .i64 .i64 xs.length (by rw [hz2]; omega) (by unfold maxLen; omega) (by simp)
  have hb1 : Below w.heap.size w w1 := (Below.refl _ _).grown hg1 (by simp) (fun k hk => by cases hk)
  have hz : (madeCells (Value.int .i64 0).cells (xs.length * 1)).toList = (List.replicate xs.length (0 : Int)).map (Value.int .i64) := by
    rw [Nat.mul_one]
    have := toList_madeCells_one (Value.int .i64 0) xs.length
    rw [List.map_replicate]
    exact this
  rw [hz] at hown1
  clear hg1 hi hz0 hz1 hz2 hz
  go_enter Try.func80, Try.ntmps80
  go_wp2
  clear c98 hmk
  go_loopw [12] (fun i wr => ∃ (k : Nat) (zs : List Int), k ≤ xs.length ∧ i = .int .i64 k ∧ zs.length = xs.length ∧ Hid (∀ j, j < k → zs.getD j 0 = xs.getD j 0) ∧ wr.ownsRow w.heap.size 3 1 (.slice (some ⟨w.heap.size, 0, none⟩) xs.length xs.length) xs.length (zs.map (Value.int .i64)) ∧ Below w.heap.size w wr) (fun i _ => xs.length - (intOf i).toNat)
  case atStart => exact ⟨0, List.replicate xs.length 0, Nat.zero_le _, rfl, List.length_replicate, fun j hj => absurd hj (by omega), hown1, hb1⟩
  case round =>
    clear hown1 hb1
    obtain ⟨k, zs, hk, rfl, hzl, HZ, hown, hbw⟩ := hrel
    by_cases hlt : k < xs.length
    · have hlt' : (k : Int) < (xs.length : Int) := by omega
      have cw := HW.out k (by omega) wr hbw
      have hk98 : (k : Int) < 98 := by omega
      have gx := inR_getD hxr k
      have HN := listed hlt hzl HZ.out
      obtain ⟨x, hx⟩ : ∃ x, xs.getD k 0 = x := ⟨_, rfl⟩
      rw [hx] at cw gx HN
      have HN2 : Hid (∀ j, j < k + 1 → (zs.set k x).getD j 0 = xs.getD j 0) := HN
      obtain ⟨gx0, gx1⟩ := gx
      have cz := cellsI_of hown hzl k hlt
      have fz := hown.frozenAt k
      have hs := hown.stored k (.int .i64 x)
      have HS : Hid ((wr.setCell ⟨w.heap.size, k, none⟩ (.int .i64 x)).ownsRow w.heap.size 3 1 (.slice (some ⟨w.heap.size, 0, none⟩) xs.length xs.length) xs.length ((zs.map (Value.int .i64)).set k (.int .i64 x))) := hs.1
      have HG : Hid (Below w.heap.size w wr) := hbw
      clear hx HN hown hs hbw HZ
      go_wp2
      go_roundw
      case rel =>
        refine ⟨k + 1, zs.set k x, by omega, by go_num, by rw [List.length_set, hzl], HN2, by rw [List.map_set]; exact HS.out, ?_⟩
        exact HG.out.setCell (Nat.le_refl _) _
      case measure => simp [intOf]; omega
    · have hke : k = xs.length := by omega
      subst hke
      have HE : Hid (zs = xs) := all_listed hzl HZ.out
      have hlt' : ¬ ((xs.length : Int) < (xs.length : Int)) := by omega
      have HO : Hid (wr.ownsRow w.heap.size 3 1 (.slice (some ⟨w.heap.size, 0, none⟩) xs.length xs.length) xs.length (zs.map (Value.int .i64)) ∧ Below w.heap.size w wr) := ⟨hown, hbw⟩
      clear hown hbw HZ
      go_wp2
      go_ret
      refine ⟨_, rfl, ?_, HO.out.2⟩
      show ownsI wr w.heap.size _ xs
      unfold ownsI
      have := HO.out.1
      rw [HE.out] at this
      exact this

set_option maxHeartbeats 3200000 in
/-- list: the limbs, where there are not too many. -/
theorem gList (n : Nat) (w : World) (hl : (limbs n).length ≤ 98) :
    Calls Try.prog 63 #[.agg (gC n)] w (ansI w (fitR n)) := by
  have N0 := GN.made w n hl
  have A0 := GN.ga N0 hl
  have B0 : Below w.heap.size w (w.alloc (.cells (gC n) 72)) := (Below.refl _ _).alloc (Nat.le_refl _) _
  have c98 := GB.size N0
  by_cases h48 : (limbs n).length ≤ 48
  · have HR : Hid (fitR n = (limbs n, true)) := by show _ = _; unfold fitR; rw [if_pos h48]
    have hc : ¬ ((48 : Int) < ((limbs n).length : Int)) := by omega
    have hs1 : w.heap.size ≤ (w.alloc (.cells (gC n) 72)).heap.size := by simp
    have kL := gLimbs w.heap.size 0 n _ A0
    clear N0 A0
    go_enter Try.func63, Try.ntmps63
    go_wp2_with fail
    refine kL.mono ?_
    rintro e w1 ⟨v1, rfl, o1, b1⟩
    go_wp2
    go_ret2
    exact ⟨_, by rw [HR.out]; rfl, by rw [HR.out]; exact ownsI_mono o1 hs1, B0.trans (b1.mono hs1)⟩
  · have HR : Hid (fitR n = ([], false)) := by show _ = _; unfold fitR; rw [if_neg h48]
    have h48' : (48 : Int) < ((limbs n).length : Int) := by omega
    clear hl
    go_enter Try.func63, Try.ntmps63
    go_wp2
    go_ret2
    exact ⟨_, by rw [HR.out]; rfl, by rw [HR.out]; exact nil_own _ _, B0⟩

end Go.Proofs.Ytjelmbkngjlefaa

/- The program's plus, by its contract. -/
namespace Go.Proofs.Ytjelmbkngjlefaa
open Go.RowKit

theorem GB.drewN {w : World} {b : Nat} {ws : List Int} {k : Int} (h : GB w b ws k) (q : Nat) : GB (w.drewN q) b ws k := ⟨h.blk, h.len⟩
theorem Below.drewN {B : Nat} {a w : World} (h : Below B a w) (q : Nat) : Below B a (w.drewN q) := h.trans ⟨rfl, rfl, rfl, Nat.le_refl _, fun _ _ => rfl⟩
theorem take_set_succ {ws : List Int} {k : Nat} (h : k < ws.length) (v : Int) : (ws.set k v).take (k + 1) = ws.take k ++ [v] := by
  rw [List.take_succ_eq_append_getElem (by rw [List.length_set]; exact h), List.take_set_of_le (Nat.le_refl _), List.getElem_set_self]
theorem gset_ne {ws : List Int} {k j : Nat} (v : Int) (h : k ≠ j) : (ws.set k v).getD j 0 = ws.getD j 0 := by
  rw [List.getD_eq_getElem?_getD, List.getElem?_set_ne h, ← List.getD_eq_getElem?_getD]
theorem getD_far {xs : List Int} {j : Nat} (h : xs.length ≤ j) : xs.getD j 0 = 0 := by
  rw [List.getD_eq_getElem?_getD, List.getElem?_eq_none h]; rfl
/-- A great number's block among the new ones is not one of what was there. -/
theorem GA.ne {w : World} {b o n : Nat} (h : GA w b o n) : b ≠ w.heap.size := Nat.ne_of_lt h.lt
/-- behind the sum -/
theorem sum_fin {ws : List Int} {m n k : Nat} (hr : inR (ws.take k)) (h : lval (ws.take k) = lval ((limbs m).take k) + lval ((limbs n).take k)) (h1 : (limbs m).length ≤ k) (h2 : (limbs n).length ≤ k) : num (ws.take k) = m + n := by
  rw [List.take_of_length_le h1, List.take_of_length_le h2, limbs_val, limbs_val] at h
  have := num_val hr
  omega

set_option maxHeartbeats 3200000 in
/-- plus: the sum. -/
theorem gPlus (b ob m n : Nat) (w : World) (hl1 : (limbs m).length ≤ 97) (hl2 : (limbs n).length ≤ 97) (hb : GA w b ob n) :
    Calls Try.prog 89 #[.agg (gC m), .pointer (some ⟨b, ob, none⟩)] w fun e w' => e = .returned (.agg (gC (m + n))) ∧ Below w.heap.size w w' := by
  have hl3 : (limbs (m + n)).length ≤ 98 := by
    have a1 := limbs_lt m
    have a2 := limbs_lt n
    have p1 := Nat.pow_le_pow_right (by omega : 0 < 16777216) hl1
    have p2 := Nat.pow_le_pow_right (by omega : 0 < 16777216) hl2
    refine limbs_len_le (m + n) 98 ?_
    have e : (16777216 : Nat) ^ 98 = 16777216 ^ 97 * 16777216 := rfl
    omega
  have hgc : gC m = gcell (pad (limbs m)) ((limbs m).length : Int) := rfl
  rw [hgc]
  have G0 := (GB.made w (pad (limbs m)) ((limbs m).length : Int) (pad_len (by omega))).alloc (.cells Try.zeroCells72 72)
  have R0 := GB.made0 (w.alloc (.cells (gcell (pad (limbs m)) ((limbs m).length : Int)) 72))
  have hs0 : (w.alloc (.cells (gcell (pad (limbs m)) ((limbs m).length : Int)) 72)).heap.size = w.heap.size + 1 := by simp
  have B0 : Below w.heap.size w ((w.alloc (.cells (gcell (pad (limbs m)) ((limbs m).length : Int)) 72)).alloc (.cells Try.zeroCells72 72)) := ((Below.refl w.heap.size w).alloc (Nat.le_refl _) _).alloc (by simp) _
  rw [hs0] at R0
  have hA := hb.below B0 hb.lt
  have hne : b < w.heap.size := hb.lt
  clear hs0 hgc
  obtain ⟨M, hM⟩ : ∃ M, max (limbs m).length (limbs n).length = M := ⟨_, rfl⟩
  have hM1 : (limbs m).length ≤ M := by omega
  have hM2 : (limbs n).length ≤ M := by omega
  have hM3 : M ≤ 97 := by omega
  have HM : Hid ((if (limbs m).length < (limbs n).length then ((limbs n).length : Int) else ((limbs m).length : Int)) = (M : Int)) := by
    show _ = _
    split <;> omega
  clear hM
  go_enter Try.func89, Try.ntmps89
  go_wp2_with fail
  generalize (w.alloc (.cells (gcell (pad (limbs m)) ((limbs m).length : Int)) 72)).alloc (.cells Try.zeroCells72 72) = w0 at *
  have c1 := G0.size
  have c2 := hA.size
  go_quiet (fail)
  rw [HM.out]
  have hA : GA (w0.drewN nq) b ob n := hA.drewN nq
  have G0 := G0.drewN nq
  have R0 := R0.drewN nq
  have B0 := Below.drewN B0 nq
  generalize w0.drewN nq = w1 at *
  clear HM c1 c2
  go_wp2
  go_loopw [6, 7] (fun c i wr => ∃ (k : Nat) (cc : Int) (ws : List Int), k ≤ M + 1 ∧ i = .int .i64 k ∧ c = .int .u32 cc ∧ 0 ≤ cc ∧ cc ≤ 1 ∧ (M < k → cc = 0) ∧ inR (ws.take k) ∧ (∀ j, k ≤ j → ws.getD j 0 = (limbs m).getD j 0) ∧ Hid (lval (ws.take k) + 16777216 ^ k * cc = lval ((limbs m).take k) + lval ((limbs n).take k)) ∧ GB wr w.heap.size ws ((limbs m).length : Int) ∧ GB wr (w.heap.size + 1) (List.replicate 98 0) 0 ∧ GA wr b ob n ∧ Below w.heap.size w wr) (fun _ i _ => M + 1 - (intOf i).toNat)
  case atStart => exact ⟨0, 0, pad (limbs m), by omega, rfl, rfl, by omega, by omega, fun _ => rfl, by rw [List.take_zero]; exact inR_nil, fun j _ => pad_getD _ _, by show _ = _; simp [lval], G0, R0, hA, B0⟩
  case round =>
    clear G0 R0 hA B0
    obtain ⟨k, cc, ws, hk, rfl, rfl, cc0, cc1, cz, hoR, hw, HL, hG, hR, hA, hB⟩ := hrel
    have hlen := hG.len
    by_cases hlt : k ≤ M
    · have HT : Hid (lval ((limbs m).take (k + 1)) = lval ((limbs m).take k) + 16777216 ^ k * (limbs m).getD k 0 ∧ lval ((limbs n).take (k + 1)) = lval ((limbs n).take k) + 16777216 ^ k * (limbs n).getD k 0) := ⟨lval_take_succ _ k, lval_take_succ _ k⟩
      have gx := inR_getD (limbs_inR m) k
      have gy := inR_getD (limbs_inR n) k
      have hxz : (limbs m).length ≤ k → (limbs m).getD k 0 = 0 := getD_far
      have hyz : (limbs n).length ≤ k → (limbs n).getD k 0 = 0 := getD_far
      have cx := hG.word k (by omega)
      rw [hw k (Nat.le_refl _)] at cx
      have cy := hA.word k (by omega)
      have fx := hG.free k
      have HW : Hid (∀ j, k + 1 ≤ j → ∀ v, (ws.set k v).getD j 0 = (limbs m).getD j 0) := fun j hj v => by rw [gset_ne v (by omega)]; exact hw j (by omega)
      obtain ⟨xk, hxk⟩ : ∃ xk, (limbs m).getD k 0 = xk := ⟨_, rfl⟩
      obtain ⟨yk, hyk⟩ : ∃ yk, (limbs n).getD k 0 = yk := ⟨_, rfl⟩
      rw [hxk] at gx HT hxz cx
      rw [hyk] at gy HT hyz cy
      obtain ⟨gx0, gx1⟩ := gx
      obtain ⟨gy0, gy1⟩ := gy
      have HZ : Hid (((limbs m).length ≤ k → xk = 0) ∧ ((limbs n).length ≤ k → yk = 0)) := ⟨hxz, hyz⟩
      have HG : Hid (GB wr w.heap.size ws ((limbs m).length : Int) ∧ GB wr (w.heap.size + 1) (List.replicate 98 0) 0 ∧ GA wr b ob n ∧ Below w.heap.size w wr) := ⟨hG, hR, hA, hB⟩
      have hk98 : (k : Int) < 98 := by omega
      have hk98' : k < 98 := by omega
      have hlt' : (k : Int) < (M : Int) + 1 := by omega
      clear hxk hyk hxz hyz hG hR hA hB hw
      go_wp2_with fail
      go_quiet (fail)
      have HG2 : Hid (GB (wr.drewN nq) w.heap.size ws ((limbs m).length : Int) ∧ GB (wr.drewN nq) (w.heap.size + 1) (List.replicate 98 0) 0 ∧ GA (wr.drewN nq) b ob n ∧ Below w.heap.size w (wr.drewN nq)) := ⟨HG.out.1.drewN nq, HG.out.2.1.drewN nq, HG.out.2.2.1.drewN nq, Below.drewN HG.out.2.2.2 nq⟩
      clear HG
      go_wp2
      go_roundw
      case rel =>
        refine ⟨k + 1, (xk + yk + cc) / 16777216, ws.set k ((xk + yk + cc) % 16777216), by omega, by go_num, by go_num, by omega, by omega, fun h => ?_, ?_, fun j hj => HW.out j hj _, ?_, ?_, ?_, ?_, ?_⟩
        · have z1 := HZ.out.1 (by omega)
          have z2 := HZ.out.2 (by omega)
          omega
        · rw [take_set_succ (by omega)]
          exact inR_append.2 ⟨hoR, inR_cons.2 ⟨by omega, inR_nil⟩⟩
        · show _ = _
          rw [HT.out.1, HT.out.2, take_set_succ (by omega)]
          exact plus_step k cc _ _ _ (ws.take k) (by rw [List.length_take]; omega) HL.out xk yk rfl
        · exact HG2.out.1.setW k (by omega) _
        · exact HG2.out.2.1.other _ (by show w.heap.size + 1 ≠ w.heap.size; omega) _
        · exact HG2.out.2.2.1.tn ((Tn.refl [w.heap.size] _).cell _ (by simp) _) (by simp; omega)
        · exact HG2.out.2.2.2.setCell (by show w.heap.size ≤ w.heap.size; omega) _
      case measure => simp [intOf]; omega
    · have hke : k = M + 1 := by omega
      subst hke
      have hcz := cz (by omega)
      subst hcz
      have hval : lval (ws.take (M + 1)) = lval ((limbs m).take (M + 1)) + lval ((limbs n).take (M + 1)) := by
        have := HL.out
        rw [Int.mul_zero, Int.add_zero] at this
        exact this
      have hnum := sum_fin hoR hval (by omega) (by omega)
      have kS := gSettle w.heap.size ws ((limbs m).length : Int) (M + 1) wr hG (by omega) hoR (fun j hj => by rw [hw j hj]; exact getD_far (by omega))
      rw [hnum] at kS
      have hlt' : ¬ (((M + 1 : Nat) : Int) < (M : Int) + 1) := by omega
      have hcast : ((M + 1 : Nat) : Int) = (M : Int) + 1 := by omega
      rw [hcast] at kS hlt'
      rw [hcast]
      have HG : Hid (GB wr (w.heap.size + 1) (List.replicate 98 0) 0 ∧ Below w.heap.size w wr) := ⟨hR, hB⟩
      have hbs := hB.size
      clear hval hnum HL hG hR hA hB hw hcast hoR
      go_wp2_with fail
      refine kS.mono ?_
      rintro e w5 ⟨rfl, g5, t5, s5⟩
      have R5 := HG.out.1.tn t5 (by simp)
      have B5 := t5.below HG.out.2 hbs (by simp)
      have A5 := GN.ga g5 hl3
      go_wp2_with (first | (refine wpA_load rfl (.tmp 2) rfl w.heap.size 0 (m + n) rfl A5 ?_) | (refine wpN_store rfl (.tmp 4) (.tmp 44) rfl (w.heap.size + 1) _ _ (m + n) rfl rfl R5 hl3 ?_; intro w6 g6 t6 s6))
      (try simp only [Exit.inBlock, Exit.then])
      refine bodyPost_ret (v := .agg (gC (m + n))) ?_ rfl ⟨rfl, t6.below B5 B5.size (by simp)⟩
      exact results_great rfl _ _ (w.heap.size + 1) _ _ rfl g6

end Go.Proofs.Ytjelmbkngjlefaa

/- The program's order of great numbers, by its contract. -/
namespace Go.Proofs.Ytjelmbkngjlefaa
open Go.RowKit

def cmpG (x y : Int) : Int := if x < y then -1 else if y < x then 1 else 0

set_option maxHeartbeats 800000 in
theorem compI (x y : Int) (w : World) : Calls Try.prog 86 #[.int .i64 x, .int .i64 y] w fun e w' => e = .returned (.int .i64 (cmpG x y)) ∧ w' = w := by
  have e1 : (x != x) = false := by simp
  have e2 : (y != y) = false := by simp
  by_cases h1 : x < y
  · have HR : Hid (cmpG x y = -1) := by show _ = _; unfold cmpG; rw [if_pos h1]
    go_enter Try.func86, Try.ntmps86
    go_wp2
    go_ret
    exact ⟨by rw [HR.out]; rfl, rfl⟩
  · by_cases h2 : y < x
    · have HR : Hid (cmpG x y = 1) := by show _ = _; unfold cmpG; rw [if_neg h1, if_pos h2]
      go_enter Try.func86, Try.ntmps86
      go_wp2
      go_ret
      exact ⟨by rw [HR.out]; rfl, rfl⟩
    · have HR : Hid (cmpG x y = 0) := by show _ = _; unfold cmpG; rw [if_neg h1, if_neg h2]
      go_enter Try.func86, Try.ntmps86
      go_wp2
      go_ret
      exact ⟨by rw [HR.out]; rfl, rfl⟩
set_option maxHeartbeats 800000 in
theorem compW (x y : Int) (w : World) : Calls Try.prog 87 #[.int .u32 x, .int .u32 y] w fun e w' => e = .returned (.int .i64 (cmpG x y)) ∧ w' = w := by
  have e1 : (x != x) = false := by simp
  have e2 : (y != y) = false := by simp
  by_cases h1 : x < y
  · have HR : Hid (cmpG x y = -1) := by show _ = _; unfold cmpG; rw [if_pos h1]
    go_enter Try.func87, Try.ntmps87
    go_wp2
    go_ret
    exact ⟨by rw [HR.out]; rfl, rfl⟩
  · by_cases h2 : y < x
    · have HR : Hid (cmpG x y = 1) := by show _ = _; unfold cmpG; rw [if_neg h1, if_pos h2]
      go_enter Try.func87, Try.ntmps87
      go_wp2
      go_ret
      exact ⟨by rw [HR.out]; rfl, rfl⟩
    · have HR : Hid (cmpG x y = 0) := by show _ = _; unfold cmpG; rw [if_neg h1, if_neg h2]
      go_enter Try.func87, Try.ntmps87
      go_wp2
      go_ret
      exact ⟨by rw [HR.out]; rfl, rfl⟩

theorem limbs_len_lt {m n : Nat} (h : (limbs m).length < (limbs n).length) : m < n := by
  have h1 := limbs_lt m
  apply Classical.byContradiction
  intro hn
  have := limbs_len_le n (limbs m).length (by omega)
  omega
theorem cmp_len {m n : Nat} (h : (limbs m).length ≠ (limbs n).length) : cmpG ((limbs m).length : Int) ((limbs n).length : Int) = cmpI m n := by
  unfold cmpG cmpI
  rcases Nat.lt_or_gt_of_ne h with h | h
  · have := limbs_len_lt h
    rw [if_pos (by omega), if_pos this]
  · have := limbs_len_lt h
    rw [if_neg (by omega), if_pos (by omega), if_neg (by omega), if_pos this]
theorem drop_same {xs ys : List Int} {k : Nat} (h : ∀ j, k ≤ j → xs.getD j 0 = ys.getD j 0) (hl : xs.length = ys.length) : lval (xs.drop k) = lval (ys.drop k) := by
  have : xs.drop k = ys.drop k := by
    apply List.ext_getElem?
    intro i
    rw [List.getElem?_drop, List.getElem?_drop]
    by_cases hi : k + i < xs.length
    · have := h (k + i) (by omega)
      rw [List.getD_eq_getElem?_getD, List.getD_eq_getElem?_getD, List.getElem?_eq_getElem hi, List.getElem?_eq_getElem (by omega)] at this
      rw [List.getElem?_eq_getElem hi, List.getElem?_eq_getElem (by omega)]
      simpa using this
    · rw [List.getElem?_eq_none (by omega), List.getElem?_eq_none (by omega)]
  rw [this]
theorem cmp_word {m n s : Nat} (hl : (limbs m).length = (limbs n).length) (h : ∀ j, s + 1 ≤ j → (limbs m).getD j 0 = (limbs n).getD j 0) (hd : (limbs m).getD s 0 ≠ (limbs n).getD s 0) :
    cmpG ((limbs m).getD s 0) ((limbs n).getD s 0) = cmpI m n := by
  have e := drop_same h hl
  have d1 := lval_drop (limbs m) s
  have d2 := lval_drop (limbs n) s
  rcases Int.lt_or_gt_of_ne hd with hlt | hgt
  · have h1 := cmp_lt (limbs_inR m) (limbs_inR n) s (by omega)
    rw [num_limbs, num_limbs] at h1
    unfold cmpG cmpI
    rw [if_pos hlt, if_pos h1]
  · have h1 := cmp_lt (limbs_inR n) (limbs_inR m) s (by omega)
    rw [num_limbs, num_limbs] at h1
    unfold cmpG cmpI
    rw [if_neg (by omega), if_pos hgt, if_neg (by omega), if_pos h1]
theorem cmp_same {m n : Nat} (hl : (limbs m).length = (limbs n).length) (h : ∀ j, 0 ≤ j → (limbs m).getD j 0 = (limbs n).getD j 0) : cmpI m n = 0 := by
  have e := drop_same (k := 0) h hl
  simp only [List.drop_zero, limbs_val] at e
  have : m = n := by omega
  subst this
  unfold cmpI
  rw [if_neg (by omega), if_neg (by omega)]

set_option maxHeartbeats 1600000 in
/-- order: how two numbers stand to each other. -/
theorem gOrder (a oa b ob m n : Nat) (w : World) (ha : GA w a oa m) (hb : GA w b ob n) :
    Calls Try.prog 71 #[.pointer (some ⟨a, oa, none⟩), .pointer (some ⟨b, ob, none⟩)] w fun e w' => e = .returned (.int .i64 (cmpI m n)) ∧ Below w.heap.size w w' := by
  have ca := ha.size
  have cb := hb.size
  have hlm := ha.len
  have kc := fun W => compI ((limbs m).length : Int) ((limbs n).length : Int) W
  by_cases hl : (limbs m).length = (limbs n).length
  · have en : (((limbs m).length : Int) != ((limbs n).length : Int)) = false := by rw [hl]; simp
    have HL : Hid ((limbs m).length = (limbs n).length) := hl
    clear hl kc
    obtain ⟨L, hL⟩ : ∃ L, (limbs m).length = L := ⟨_, rfl⟩
    obtain ⟨L', hL'⟩ : ∃ L, (limbs n).length = L := ⟨_, rfl⟩
    have hLL : L' = L := by have := HL.out; omega
    rw [hL] at ca en hlm
    rw [hL', hLL] at cb
    rw [hL', hLL] at en
    have HWa : ∀ i, i < 98 → w.cell? ⟨a, oa + i, none⟩ = some (.int .u32 ((limbs m).getD i 0)) := ha.word
    have HWb : ∀ i, i < 98 → w.cell? ⟨b, ob + i, none⟩ = some (.int .u32 ((limbs n).getD i 0)) := hb.word
    have HZ0 : ∀ j, L ≤ j → (limbs m).getD j 0 = (limbs n).getD j 0 := fun j hj => by
      rw [List.getD_eq_getElem?_getD, List.getD_eq_getElem?_getD, List.getElem?_eq_none (by omega), List.getElem?_eq_none (by omega)]
    have HH : Hid ((∀ i, i < 98 → w.cell? ⟨a, oa + i, none⟩ = some (.int .u32 ((limbs m).getD i 0))) ∧ (∀ i, i < 98 → w.cell? ⟨b, ob + i, none⟩ = some (.int .u32 ((limbs n).getD i 0)))) := ⟨HWa, HWb⟩
    have HZ : Hid (∀ j, L ≤ j → (limbs m).getD j 0 = (limbs n).getD j 0) := HZ0
    clear HWa HWb ha hb hL hL' hLL HZ0
    go_enter Try.func71, Try.ntmps71
    go_wp2_with fail
    go_quiet (fail)
    go_wp2
    go_loopw [5] (fun i wr => ∃ (t : Nat), t ≤ L ∧ i = .int .i64 ((t : Int) - 1) ∧ (∀ j, t ≤ j → (limbs m).getD j 0 = (limbs n).getD j 0) ∧ ∃ nq, wr = w.drewN nq) (fun i _ => (intOf i + 1).toNat)
    case atStart => exact ⟨L, Nat.le_refl _, by go_num, HZ.out, nq, rfl⟩
    case round =>
      obtain ⟨t, ht, rfl, hsame, nq2, rfl⟩ := hrel
      have HS : Hid (∀ j, t ≤ j → (limbs m).getD j 0 = (limbs n).getD j 0) := hsame
      clear hsame
      by_cases h0 : t = 0
      · subst h0
        have HR : Hid (cmpI m n = 0) := cmp_same HL.out HS.out
        go_wp2
        go_ret
        exact ⟨by rw [HR.out]; rfl, ⟨rfl, rfl, rfl, Nat.le_refl _, fun _ _ => rfl⟩⟩
      · obtain ⟨s, rfl⟩ : ∃ s, t = s + 1 := ⟨t - 1, by omega⟩
        have c1 := HH.out.1 s (by omega)
        have c2 := HH.out.2 s (by omega)
        have hi : ((s + 1 : Nat) : Int) - 1 = (s : Int) := by omega
        rw [hi]
        have hpos : (0 : Int) ≤ (s : Int) := by omega
        have hs1 : (s : Int) < 98 := by omega
        have hs2 : s < 98 := by omega
        by_cases hd : (limbs m).getD s 0 = (limbs n).getD s 0
        · have HN : Hid (∀ j, s ≤ j → (limbs m).getD j 0 = (limbs n).getD j 0) := fun j h1 => by
            by_cases e : j = s
            · subst e; exact hd
            · exact HS.out j (by omega)
          rw [← hd] at c2
          obtain ⟨d, hdd⟩ : ∃ d, (limbs m).getD s 0 = d := ⟨_, rfl⟩
          rw [hdd] at c1 c2
          have ed : (d != d) = false := by simp
          clear hdd hd hi
          go_wp2_with fail
          go_quiet (fail)
          go_wp2
          go_roundw
          case rel => exact ⟨s, by omega, by go_num, HN.out, _, rfl⟩
          case measure => simp [intOf] <;> omega
        · have HR : Hid (cmpG ((limbs m).getD s 0) ((limbs n).getD s 0) = cmpI m n) := cmp_word HL.out HS.out hd
          obtain ⟨d, hdd⟩ : ∃ d, (limbs m).getD s 0 = d := ⟨_, rfl⟩
          obtain ⟨f, hff⟩ : ∃ d, (limbs n).getD s 0 = d := ⟨_, rfl⟩
          rw [hdd] at c1 HR hd
          rw [hff] at c2 HR hd
          have ed : (d != f) = true := by simpa using hd
          have kw := fun W => compW d f W
          rw [HR.out] at kw
          clear hdd hd hff hi
          go_wp2_with fail
          go_quiet (fail)
          go_wp2_with fail
          go_quiet ((go_at_call 87; exact (kw _).mono fun _ _ ⟨he, hm⟩ => ⟨he, _, hm⟩))
          go_wp2
          go_ret
          exact ⟨rfl, ⟨rfl, rfl, rfl, Nat.le_refl _, fun _ _ => rfl⟩⟩
  · have en : (((limbs m).length : Int) != ((limbs n).length : Int)) = true := by simp; omega
    have HR : Hid (cmpG ((limbs m).length : Int) ((limbs n).length : Int) = cmpI m n) := cmp_len hl
    simp only [cmp_len hl] at kc
    clear hl
    go_enter Try.func71, Try.ntmps71
    go_wp2_with fail
    go_quiet (fail)
    go_wp2_with fail
    go_quiet ((go_at_call 86; exact (kc _).mono fun _ _ ⟨he, hm⟩ => ⟨he, _, hm⟩))
    go_wp2
    go_ret
    exact ⟨rfl, ⟨rfl, rfl, rfl, Nat.le_refl _, fun _ _ => rfl⟩⟩

end Go.Proofs.Ytjelmbkngjlefaa

/- The program's lower and minus, each by its contract. -/
namespace Go.Proofs.Ytjelmbkngjlefaa
open Go.RowKit

theorem limbs_mono {m n : Nat} (h : n ≤ m) : (limbs n).length ≤ (limbs m).length := by
  apply Classical.byContradiction
  intro hn
  have := limbs_len_lt (m := m) (n := n) (by omega)
  omega
theorem less_fin {ws : List Int} {m n L : Nat} {bb : Int} (hr : inR (ws.take L)) (hlw : (ws.take L).length = L) (b0 : 0 ≤ bb) (b1 : bb ≤ 1) (hmn : n ≤ m) (hL : (limbs m).length = L)
    (h : lval (ws.take L) - 16777216 ^ L * bb = lval ((limbs m).take L) - lval ((limbs n).take L)) : num (ws.take L) = m - n := by
  have hn := limbs_mono hmn
  rw [List.take_of_length_le (Nat.le_of_eq hL), List.take_of_length_le (show (limbs n).length ≤ L by omega), limbs_val, limbs_val] at h
  have h1 := num_val hr
  have h2 := lval_lt hr
  rw [hlw] at h2
  have h3 := lval_nonneg hr
  have hb : bb = 0 := by
    apply Classical.byContradiction
    intro hne
    have e : bb = 1 := by omega
    rw [e, Int.mul_one] at h
    omega
  rw [hb, Int.mul_zero] at h
  omega

set_option maxHeartbeats 3200000 in
/-- lower: what is left, in place. -/
theorem gLower (a b ob m n : Nat) (w : World) (hl : (limbs m).length ≤ 98) (hmn : n ≤ m) (hab : a ≠ b) (hG : GN w a m) (hb : GA w b ob n) :
    Calls Try.prog 103 #[.pointer (some ⟨a, 0, none⟩), .pointer (some ⟨b, ob, none⟩)] w fun e w' => e = .returned (.tuple #[]) ∧ GN w' a (m - n) ∧ Tn [a] w w' ∧ w'.heap.size = w.heap.size := by
  obtain ⟨L, hL⟩ : ∃ L, (limbs m).length = L := ⟨_, rfl⟩
  have hG0 : GB w a (pad (limbs m)) (L : Int) := by rw [← hL]; exact hG
  have HL : Hid ((limbs m).length = L) := hL
  rw [hL] at hl
  clear hG hL
  go_enter Try.func103, Try.ntmps103
  go_wp2
  go_loopw [4, 5] (fun c i wr => ∃ (k : Nat) (bb : Int) (ws : List Int), k ≤ L ∧ i = .int .i64 k ∧ c = .int .u32 bb ∧ 0 ≤ bb ∧ bb ≤ 1 ∧ inR (ws.take k) ∧ (∀ j, k ≤ j → ws.getD j 0 = (limbs m).getD j 0) ∧ Hid (lval (ws.take k) - 16777216 ^ k * bb = lval ((limbs m).take k) - lval ((limbs n).take k)) ∧ GB wr a ws (L : Int) ∧ GA wr b ob n ∧ Tn [a] w wr ∧ wr.heap.size = w.heap.size) (fun _ i _ => L - (intOf i).toNat)
  case atStart => exact ⟨0, 0, pad (limbs m), by omega, rfl, rfl, by omega, by omega, by rw [List.take_zero]; exact inR_nil, fun j _ => pad_getD _ _, by show _ = _; simp [lval], hG0, hb, Tn.refl _ _, rfl⟩
  case round =>
    clear hG0 hb
    obtain ⟨k, bb, ws, hk, rfl, rfl, bb0, bb1, hoR, hw, HV, hG, hA, hT, hs⟩ := hrel
    have hlen := hG.len
    have c98 := hG.size
    by_cases hlt : k < L
    · have HT : Hid (lval ((limbs m).take (k + 1)) = lval ((limbs m).take k) + 16777216 ^ k * (limbs m).getD k 0 ∧ lval ((limbs n).take (k + 1)) = lval ((limbs n).take k) + 16777216 ^ k * (limbs n).getD k 0) := ⟨lval_take_succ _ k, lval_take_succ _ k⟩
      have gx := inR_getD (limbs_inR m) k
      have gy := inR_getD (limbs_inR n) k
      have cx := hG.word k (by omega)
      rw [hw k (Nat.le_refl _)] at cx
      have cy := hA.word k (by omega)
      have fx := hG.free k
      have HW : Hid (∀ j, k + 1 ≤ j → ∀ v, (ws.set k v).getD j 0 = (limbs m).getD j 0) := fun j hj v => by rw [gset_ne v (by omega)]; exact hw j (by omega)
      obtain ⟨xk, hxk⟩ : ∃ xk, (limbs m).getD k 0 = xk := ⟨_, rfl⟩
      obtain ⟨yk, hyk⟩ : ∃ yk, (limbs n).getD k 0 = yk := ⟨_, rfl⟩
      rw [hxk] at gx HT cx
      rw [hyk] at gy HT cy
      obtain ⟨gx0, gx1⟩ := gx
      obtain ⟨gy0, gy1⟩ := gy
      have HG : Hid (GB wr a ws (L : Int) ∧ GA wr b ob n ∧ Tn [a] w wr ∧ wr.heap.size = w.heap.size) := ⟨hG, hA, hT, hs⟩
      have hk98 : (k : Int) < 98 := by omega
      have hk98' : k < 98 := by omega
      have hlt' : (k : Int) < (L : Int) := by omega
      clear hxk hyk hG hA hT hs hw
      go_wp2_with fail
      go_quiet (fail)
      have HG2 : Hid (GB (wr.drewN nq) a ws (L : Int) ∧ GA (wr.drewN nq) b ob n ∧ Tn [a] w (wr.drewN nq) ∧ (wr.drewN nq).heap.size = w.heap.size) := ⟨HG.out.1.drewN nq, HG.out.2.1.drewN nq, HG.out.2.2.1.trans ⟨rfl, rfl, rfl, Nat.le_refl _, fun _ _ _ => rfl⟩, HG.out.2.2.2⟩
      clear HG
      go_wp2
      go_roundw
      case rel =>
        refine ⟨k + 1, 1 - (16777216 + xk - yk - bb) / 16777216, ws.set k ((16777216 + xk - yk - bb) % 16777216), by omega, by go_num, by go_num, by omega, by omega, ?_, fun j hj => HW.out j hj _, ?_, ?_, ?_, ?_, ?_⟩
        · rw [take_set_succ (by omega)]
          exact inR_append.2 ⟨hoR, inR_cons.2 ⟨by omega, inR_nil⟩⟩
        · show _ = _
          rw [HT.out.1, HT.out.2, take_set_succ (by omega)]
          exact less_step k bb _ _ _ (ws.take k) (by rw [List.length_take]; omega) HV.out xk yk _ _ rfl (by omega)
        · exact HG2.out.1.setW k (by omega) _
        · exact HG2.out.2.1.tn ((Tn.refl [a] _).cell _ (by simp) _) (by simp; omega)
        · exact HG2.out.2.2.1.cell _ (by simp) _
        · have := HG2.out.2.2.2
          simpa [World.setCell] using this
      case measure => simp [intOf]; omega
    · have hke : k = L := by omega
      subst hke
      have hnum := less_fin hoR (by rw [List.length_take]; omega) bb0 bb1 hmn HL.out HV.out
      have hz : ∀ j, k ≤ j → ws.getD j 0 = 0 := fun j hj => by rw [hw j hj]; exact getD_far (by have := HL.out; omega)
      have kS := gSettle a ws (k : Int) k wr hG (by omega) hoR hz
      rw [hnum] at kS
      have hlt' : ¬ ((k : Int) < (k : Int)) := by omega
      have HG : Hid (Tn [a] w wr ∧ wr.heap.size = w.heap.size) := ⟨hT, hs⟩
      clear hnum HV hG hA hT hs hw hoR hz
      go_wp2_with fail
      refine kS.mono ?_
      rintro e w5 ⟨rfl, g5, t5, s5⟩
      go_wp2
      go_end0
      exact ⟨rfl, g5, HG.out.1.trans t5, s5.trans HG.out.2⟩

set_option maxHeartbeats 3200000 in
/-- minus: the difference. -/
theorem gMinus (b ob m n : Nat) (w : World) (hl : (limbs m).length ≤ 98) (hmn : n ≤ m) (hb : GA w b ob n) :
    Calls Try.prog 96 #[.agg (gC m), .pointer (some ⟨b, ob, none⟩)] w fun e w' => e = .returned (.agg (gC (m - n))) ∧ Below w.heap.size w w' := by
  have hl3 : (limbs (m - n)).length ≤ 98 := by have := limbs_mono (m := m) (n := m - n) (by omega); omega
  have G0 := (GN.made w m hl).alloc (.cells Try.zeroCells72 72)
  have R0 := GB.made0 (w.alloc (.cells (gC m) 72))
  have hs0 : (w.alloc (.cells (gC m) 72)).heap.size = w.heap.size + 1 := by simp
  have B0 : Below w.heap.size w ((w.alloc (.cells (gC m) 72)).alloc (.cells Try.zeroCells72 72)) := ((Below.refl w.heap.size w).alloc (Nat.le_refl _) _).alloc (by simp) _
  rw [hs0] at R0
  have hA := hb.below B0 hb.lt
  have hne : b < w.heap.size := hb.lt
  clear hs0
  go_enter Try.func96, Try.ntmps96
  go_wp2_with fail
  generalize (w.alloc (.cells (gC m) 72)).alloc (.cells Try.zeroCells72 72) = w0 at *
  refine (gLower w.heap.size b ob m n w0 hl hmn (by omega) G0 hA).mono ?_
  rintro e w5 ⟨rfl, g5, t5, s5⟩
  have R5 := R0.tn t5 (by simp)
  have B5 := t5.below B0 B0.size (by simp)
  have A5 := GN.ga g5 hl3
  go_wp2_with (first | (refine wpA_load rfl (.tmp 2) rfl w.heap.size 0 (m - n) rfl A5 ?_) | (refine wpN_store rfl (.tmp 4) (.tmp 7) rfl (w.heap.size + 1) _ _ (m - n) rfl rfl R5 hl3 ?_; intro w6 g6 t6 s6))
  (try simp only [Exit.inBlock, Exit.then])
  refine bodyPost_ret (v := .agg (gC (m - n))) ?_ rfl ⟨rfl, t6.below B5 B5.size (by simp)⟩
  exact results_great rfl _ _ (w.heap.size + 1) _ _ rfl g6

end Go.Proofs.Ytjelmbkngjlefaa

/- The program's times, by its contract. -/
namespace Go.Proofs.Ytjelmbkngjlefaa
open Go.RowKit

theorem lval_drop_zeros {zs : List Int} {k : Nat} (h : ∀ q, k ≤ q → zs.getD q 0 = 0) : lval (zs.drop k) = 0 := by
  have : zs.drop k = List.replicate (zs.length - k) 0 := by
    apply List.ext_getElem?
    intro i
    rw [List.getElem?_drop, List.getElem?_replicate]
    split
    · have := h (k + i) (by omega)
      rw [List.getD_eq_getElem?_getD, List.getElem?_eq_getElem (by omega)] at this
      rw [List.getElem?_eq_getElem (by omega)]
      simpa using this
    · rw [List.getElem?_eq_none (by omega)]
  rw [this, lval_zeros]
theorem num_take_zeros {zs : List Int} {k : Nat} (hr : inR zs) (h : ∀ q, k ≤ q → zs.getD q 0 = 0) : num (zs.take k) = num zs := by
  have h1 := lval_split zs k
  rw [lval_drop_zeros h] at h1
  have h2 := num_val hr
  have h3 := num_val (inR_take hr k)
  omega
theorem mul_limbs_len (m n : Nat) : (limbs (m * n)).length ≤ (limbs m).length + (limbs n).length := by
  refine limbs_len_le _ _ ?_
  have h1 := limbs_lt m
  have h2 := limbs_lt n
  rw [Nat.pow_add]
  exact Nat.mul_lt_mul'' h1 h2

set_option maxHeartbeats 3200000 in
/-- times: the product. -/
theorem gTimes (a oa b ob m n : Nat) (w : World) (hl : (limbs m).length + (limbs n).length ≤ 98) (ha : GA w a oa m) (hb : GA w b ob n) :
    Calls Try.prog 82 #[.pointer (some ⟨a, oa, none⟩), .pointer (some ⟨b, ob, none⟩)] w fun e w' => e = .returned (.agg (gC (m * n))) ∧ Below w.heap.size w w' := by
  have hl3 : (limbs (m * n)).length ≤ 98 := by have := mul_limbs_len m n; omega
  have R0 := (GB.made0 w).alloc (.cells Try.zeroCells72 72)
  have G0 := GB.made0 (w.alloc (.cells Try.zeroCells72 72))
  have hs0 : (w.alloc (.cells Try.zeroCells72 72)).heap.size = w.heap.size + 1 := by simp
  have B0 : Below w.heap.size w ((w.alloc (.cells Try.zeroCells72 72)).alloc (.cells Try.zeroCells72 72)) := ((Below.refl w.heap.size w).alloc (Nat.le_refl _) _).alloc (by simp) _
  rw [hs0] at G0
  have hna : a < w.heap.size := ha.lt
  have hnb : b < w.heap.size := hb.lt
  have hA := ha.below B0 hna
  have hC := hb.below B0 hnb
  clear hs0 ha hb
  have hxr := limbs_inR m
  have hyr := limbs_inR n
  have HP : Hid (lval (limbs m) = m ∧ lval (limbs n) = n) := ⟨limbs_val m, limbs_val n⟩
  obtain ⟨La, hLa⟩ : ∃ L, (limbs m).length = L := ⟨_, rfl⟩
  obtain ⟨Lb, hLb⟩ : ∃ L, (limbs n).length = L := ⟨_, rfl⟩
  have HLa : Hid ((limbs m).length = La) := hLa
  have HLb : Hid ((limbs n).length = Lb) := hLb
  have hsA : ∀ W, GA W a oa m → W.cell? ⟨a, oa + 98, none⟩ = some (.int .i64 (La : Int)) := fun W h => by rw [← hLa]; exact h.size
  have hsB : ∀ W, GA W b ob n → W.cell? ⟨b, ob + 98, none⟩ = some (.int .i64 (Lb : Int)) := fun W h => by rw [← hLb]; exact h.size
  have HSz : Hid ((∀ W, GA W a oa m → W.cell? ⟨a, oa + 98, none⟩ = some (.int .i64 (La : Int))) ∧ (∀ W, GA W b ob n → W.cell? ⟨b, ob + 98, none⟩ = some (.int .i64 (Lb : Int)))) := ⟨hsA, hsB⟩
  rw [hLa, hLb] at hl
  clear hLa hLb hsA hsB
  go_enter Try.func82, Try.ntmps82
  go_wp2
  generalize (w.alloc (.cells Try.zeroCells72 72)).alloc (.cells Try.zeroCells72 72) = w0 at *
  go_loopw [6] (fun i wr => ∃ (p : Nat) (zs : List Int), p ≤ La ∧ i = .int .i64 p ∧ inR zs ∧ (∀ q, p + Lb ≤ q → zs.getD q 0 = 0) ∧ Hid (lval zs = lval ((limbs m).take p) * lval (limbs n)) ∧ GB wr (w.heap.size + 1) zs 0 ∧ GB wr w.heap.size (List.replicate 98 0) 0 ∧ GA wr a oa m ∧ GA wr b ob n ∧ Below w.heap.size w wr) (fun i _ => La - (intOf i).toNat)
  case atStart => exact ⟨0, List.replicate 98 0, by omega, rfl, fun x hx => by rw [List.eq_of_mem_replicate hx]; omega, fun q _ => by rw [List.getD_eq_getElem?_getD, List.getElem?_replicate]; split <;> rfl, by show _ = _; rw [lval_zeros]; simp [lval], G0, R0, hA, hC, B0⟩
  case round =>
    clear G0 R0 hA hC B0
    obtain ⟨p, zs, hp, rfl, hzR, hzz, HL, hG, hR, hA, hC, hB⟩ := hrel
    have cA := HSz.out.1 wr hA
    by_cases hlt : p < La
    · have hlt' : (p : Int) < (La : Int) := by omega
      have gx := inR_getD hxr p
      have HT : Hid (lval ((limbs m).take (p + 1)) = lval ((limbs m).take p) + 16777216 ^ p * (limbs m).getD p 0) := lval_take_succ _ p
      have HX : Hid (∀ W, GA W a oa m → W.cell? ⟨a, oa + p, none⟩ = some (.int .u32 ((limbs m).getD p 0))) := fun W h => h.word p (by omega)
      obtain ⟨xi, hxi⟩ : ∃ xi, (limbs m).getD p 0 = xi := ⟨_, rfl⟩
      rw [hxi] at gx HT HX
      obtain ⟨gx0, gx1⟩ := gx
      clear hxi
      go_wp2
      clear cA
      go_loopw [7, 8] (fun c j wr => ∃ (q : Nat) (cc : Int) (zs : List Int), q ≤ Lb ∧ j = .int .i64 q ∧ c = .int .u64 cc ∧ 0 ≤ cc ∧ cc < 16777216 ∧ inR zs ∧ (∀ r, p + Lb ≤ r → zs.getD r 0 = 0) ∧ Hid (lval zs + 16777216 ^ (p + q) * cc = lval ((limbs m).take p) * lval (limbs n) + 16777216 ^ p * (xi * lval ((limbs n).take q))) ∧ GB wr (w.heap.size + 1) zs 0 ∧ GB wr w.heap.size (List.replicate 98 0) 0 ∧ GA wr a oa m ∧ GA wr b ob n ∧ Below w.heap.size w wr) (fun _ j _ => Lb - (intOf j).toNat)
      case atStart => exact ⟨0, 0, zs, by omega, rfl, rfl, by omega, by omega, hzR, hzz, by show _ = _; rw [HL.out]; simp [lval], hG, hR, hA, hC, hB⟩
      case round =>
        clear hG hR hA hC hB hzz hzR HL
        obtain ⟨q, cc, zs, hq, rfl, rfl, c0, c1, hzR, hzz, HL, hG, hR, hA, hC, hB⟩ := hrel
        have hlen := hG.len
        have cB := HSz.out.2 wr hC
        by_cases hlm : q < Lb
        · have hlm' : (q : Int) < (Lb : Int) := by omega
          have cx := HX.out wr hA
          have cy := hC.word q (by omega)
          have cz := hG.word (p + q) (by omega)
          have fz := hG.free (p + q)
          have gy := inR_getD hyr q
          have gz := inR_getD hzR (p + q)
          have HTy : Hid (lval ((limbs n).take (q + 1)) = lval ((limbs n).take q) + 16777216 ^ q * (limbs n).getD q 0) := lval_take_succ _ q
          obtain ⟨yj, hyj⟩ : ∃ yj, (limbs n).getD q 0 = yj := ⟨_, rfl⟩
          obtain ⟨z, hz⟩ : ∃ z, zs.getD (p + q) 0 = z := ⟨_, rfl⟩
          rw [hyj] at gy cy HTy
          rw [hz] at gz cz
          obtain ⟨gy0, gy1⟩ := gy
          obtain ⟨gz0, gz1⟩ := gz
          obtain ⟨p0, p1⟩ := mul_lim gx0 gx1 gy0 gy1
          have HZ : Hid (zs.getD (p + q) 0 = z) := hz
          have HZZ : Hid (∀ r, p + Lb ≤ r → zs.getD r 0 = 0) := hzz
          have HG : Hid (GB wr (w.heap.size + 1) zs 0 ∧ GB wr w.heap.size (List.replicate 98 0) 0 ∧ GA wr a oa m ∧ GA wr b ob n ∧ Below w.heap.size w wr) := ⟨hG, hR, hA, hC, hB⟩
          have hpq : (p : Int) + (q : Int) < 98 := by omega
          have hpq' : p + q < 98 := by omega
          have hp98 : (p : Int) < 98 := by omega
          have hq98 : (q : Int) < 98 := by omega
          clear hG hR hA hC hB hz hyj hzz
          go_wp2_with fail
          go_quiet (fail)
          have HG2 : Hid (GB (wr.drewN nq) (w.heap.size + 1) zs 0 ∧ GB (wr.drewN nq) w.heap.size (List.replicate 98 0) 0 ∧ GA (wr.drewN nq) a oa m ∧ GA (wr.drewN nq) b ob n ∧ Below w.heap.size w (wr.drewN nq)) := ⟨HG.out.1.drewN nq, HG.out.2.1.drewN nq, HG.out.2.2.1.drewN nq, HG.out.2.2.2.1.drewN nq, Below.drewN HG.out.2.2.2.2 nq⟩
          clear HG
          go_wp2
          go_roundw
          case rel =>
            refine ⟨q + 1, (z + xi * yj + cc) / 16777216, zs.set (p + q) ((z + xi * yj + cc) % 16777216), by omega, by go_num, by go_num, by omega, by omega, inR_set hzR _ (by omega) (by omega), fun r hr => by rw [gset_ne _ (by omega)]; exact HZZ.out r hr, ?_, ?_, ?_, ?_, ?_, ?_⟩
            · show _ = _
              rw [HTy.out]
              exact times_step p q cc _ z xi yj _ _ zs (by omega) HZ.out HL.out rfl
            · exact HG2.out.1.setW (p + q) (by omega) _
            · exact HG2.out.2.1.other _ (by show w.heap.size ≠ w.heap.size + 1; omega) _
            · exact HG2.out.2.2.1.tn ((Tn.refl [w.heap.size + 1] _).cell _ (by simp) _) (by simp; omega)
            · exact HG2.out.2.2.2.1.tn ((Tn.refl [w.heap.size + 1] _).cell _ (by simp) _) (by simp; omega)
            · exact HG2.out.2.2.2.2.setCell (by show w.heap.size ≤ w.heap.size + 1; omega) _
          case measure => simp [intOf]; omega
        · have hlm' : (Lb : Int) ≤ (q : Int) := by omega
          have hqe : q = Lb := by omega
          subst hqe
          have cz := hG.word (p + q) (by omega)
          have fz := hG.free (p + q)
          have HZ : Hid (zs.getD (p + q) 0 = 0) := hzz _ (Nat.le_refl _)
          rw [hzz _ (Nat.le_refl _)] at cz
          have HZZ : Hid (∀ r, p + q ≤ r → zs.getD r 0 = 0) := hzz
          have HG : Hid (GB wr (w.heap.size + 1) zs 0 ∧ GB wr w.heap.size (List.replicate 98 0) 0 ∧ GA wr a oa m ∧ GA wr b ob n ∧ Below w.heap.size w wr) := ⟨hG, hR, hA, hC, hB⟩
          have hpq : (p : Int) + (q : Int) < 98 := by omega
          have hpq' : p + q < 98 := by omega
          clear hG hR hA hC hB hzz
          go_wp2
          go_roundw
          case rel =>
            refine ⟨p + 1, zs.set (p + q) cc, by omega, by go_num, inR_set hzR _ c0 c1, fun r hr => by rw [gset_ne _ (by omega)]; exact HZZ.out r (by omega), ?_, ?_, ?_, ?_, ?_, ?_⟩
            · show _ = _
              rw [lval_set _ _ _ (by omega), HZ.out, HT.out, Int.add_mul]
              have h3 := HL.out
              rw [List.take_of_length_le (Nat.le_of_eq HLb.out)] at h3
              rw [Int.sub_zero, h3, Int.mul_assoc]
            · exact HG.out.1.setW (p + q) (by omega) _
            · exact HG.out.2.1.other _ (by show w.heap.size ≠ w.heap.size + 1; omega) _
            · exact HG.out.2.2.1.tn ((Tn.refl [w.heap.size + 1] _).cell _ (by simp) _) (by simp; omega)
            · exact HG.out.2.2.2.1.tn ((Tn.refl [w.heap.size + 1] _).cell _ (by simp) _) (by simp; omega)
            · exact HG.out.2.2.2.2.setCell (by show w.heap.size ≤ w.heap.size + 1; omega) _
          case measure => simp [intOf]; omega
    · have hlt' : (La : Int) ≤ (p : Int) := by omega
      have hpe : p = La := by omega
      subst hpe
      have hnum : num zs = m * n := by
        have h1 := num_val hzR
        have h4 := HL.out
        rw [List.take_of_length_le (Nat.le_of_eq HLa.out), HP.out.1, HP.out.2, ← h1] at h4
        exact_mod_cast h4
      have kS := gSettle (w.heap.size + 1) zs 0 (p + Lb) wr.drew hG.drew (by omega) (inR_take hzR _) hzz
      rw [num_take_zeros hzR hzz, hnum] at kS
      have hcast : ((p + Lb : Nat) : Int) = (p : Int) + (Lb : Int) := by omega
      rw [hcast] at kS
      have hwr : IntKind.i64.wrap ((p : Int) + (Lb : Int)) = (p : Int) + (Lb : Int) := by rw [IntKind.wrap_i64]; omega
      have cB := HSz.out.2 wr hC
      have HG : Hid (GB wr.drew w.heap.size (List.replicate 98 0) 0 ∧ GA wr.drew a oa m ∧ GA wr.drew b ob n ∧ Below w.heap.size w wr.drew) := ⟨hR.drew, hA.drew, hC.drew, hB.drew⟩
      have hbs := hB.size
      clear HL hnum hG hR hA hC hB hzz hzR hcast
      go_wp2_with fail
      go_region_held (fun w' => w'.cell? ⟨a, oa + 98, none⟩ = some (.int .i64 (p : Int)) ∧ w'.cell? ⟨b, ob + 98, none⟩ = some (.int .i64 (Lb : Int))) (go_keep)
        (first
          | (go_at_call 85
             (try rw [hwr])
             refine kS.mono ?_
             rintro e w5 ⟨rfl, g5, t5, s5⟩
             have d1 := HSz.out.1 w5 (HG.out.2.1.tn t5 (by simp; omega))
             have d2 := HSz.out.2 w5 (HG.out.2.2.1.tn t5 (by simp; omega))))
      have R5 := HG.out.1.tn t5 (by simp)
      have B5 := t5.below HG.out.2.2.2 hbs (by simp)
      have A5 := GN.ga g5 hl3
      go_wp2_with (first | (refine wpA_load rfl (.tmp 5) rfl (w.heap.size + 1) 0 (m * n) rfl A5 ?_) | (refine wpN_store rfl (.tmp 4) (.tmp 81) rfl w.heap.size _ _ (m * n) rfl rfl R5 hl3 ?_; intro w6 g6 t6 s6))
      (try simp only [Exit.inBlock, Exit.then])
      refine bodyPost_ret (v := .agg (gC (m * n))) ?_ rfl ⟨rfl, t6.below B5 B5.size (by simp)⟩
      exact results_great rfl _ _ w.heap.size _ _ rfl g6

end Go.Proofs.Ytjelmbkngjlefaa

/- The program's up, by its contract. -/
namespace Go.Proofs.Ytjelmbkngjlefaa
open Go.RowKit

theorem num_lt24 {zs : List Int} (h : inR zs) : num zs < 16777216 ^ zs.length := by
  have h1 := lval_lt h
  have h2 := num_val h
  have e : ((16777216 ^ zs.length : Nat) : Int) = (16777216 : Int) ^ zs.length := by simp
  omega
/-- The low part of a limb that is moved up, and the high one. -/
theorem low_part {x P Q : Int} (P0 : 0 < P) (Q0 : 0 < Q) (hPQ : P * Q = 16777216) : x * P % 4294967296 % 16777216 = P * (x % Q) := by
  have e := Int.mul_ediv_add_emod x Q
  have h1 := Int.emod_nonneg x (Int.ne_of_gt Q0)
  have h2 := Int.emod_lt_of_pos x Q0
  have h3 : 0 ≤ P * (x % Q) := Int.mul_nonneg (by omega) h1
  have h4 : P * (x % Q) ≤ P * (Q - 1) := Int.mul_le_mul_of_nonneg_left (by omega) (by omega)
  rw [Int.mul_sub, hPQ, Int.mul_one] at h4
  have h5 : x * P = P * (x % Q) + 16777216 * (x / Q) := by
    have : x * P = (Q * (x / Q) + x % Q) * P := by rw [e]
    rw [this, ← hPQ]
    grind
  obtain ⟨y, hy⟩ : ∃ y, x / Q = y := ⟨_, rfl⟩
  rw [hy] at h5
  omega
theorem part_bd {x P Q : Int} (x0 : 0 ≤ x) (x1 : x < 16777216) (P0 : 0 < P) (Q0 : 0 < Q) (hPQ : P * Q = 16777216) : 0 ≤ P * (x % Q) ∧ P * (x % Q) ≤ 16777216 - P ∧ 0 ≤ x / Q ∧ x / Q < P := by
  have h1 := Int.emod_nonneg x (Int.ne_of_gt Q0)
  have h2 := Int.emod_lt_of_pos x Q0
  have h3 : 0 ≤ P * (x % Q) := Int.mul_nonneg (by omega) h1
  have h4 : P * (x % Q) ≤ P * (Q - 1) := Int.mul_le_mul_of_nonneg_left (by omega) (by omega)
  rw [Int.mul_sub, hPQ, Int.mul_one] at h4
  exact ⟨h3, h4, Int.ediv_nonneg x0 (by omega), Int.ediv_lt_of_lt_mul Q0 (by omega)⟩
theorem up_word {zs : List Int} {q i : Nat} {top x P Q T : Int} (hl : q + i + 1 < zs.length) (ht : zs.getD (q + i) 0 = top) (hz : zs.getD (q + i + 1) 0 = 0) (hPQ : P * Q = 16777216) (h : lval zs = 16777216 ^ q * (T * P)) :
    lval ((zs.set (q + i) (top + P * (x % Q))).set (q + i + 1) (x / Q)) = 16777216 ^ q * ((T + 16777216 ^ i * x) * P) := by
  rw [lval_set _ _ _ (by rw [List.length_set]; omega), lval_set _ _ _ (by omega), gset_ne _ (by omega), hz, ht, h, Int.pow_succ, Int.pow_add]
  have e := Int.mul_ediv_add_emod x Q
  obtain ⟨A, hA⟩ : ∃ A, (16777216 : Int) ^ q = A := ⟨_, rfl⟩
  obtain ⟨B, hB⟩ : ∃ B, (16777216 : Int) ^ i = B := ⟨_, rfl⟩
  obtain ⟨y, hy⟩ : ∃ y, x / Q = y := ⟨_, rfl⟩
  obtain ⟨r, hr⟩ : ∃ r, x % Q = r := ⟨_, rfl⟩
  rw [hy, hr] at e
  rw [hA, hB, hy, hr, ← hPQ, ← e]
  grind
theorem up_fin {zs : List Int} {m k : Nat} (hr : inR zs) (h : lval zs = 16777216 ^ (k / 24) * ((m : Int) * 2 ^ (k % 24))) : num zs = m * 2 ^ k := by
  have h1 := num_val hr
  have h2 := pow24 k
  have h3 : lval zs = (m : Int) * 2 ^ k := by rw [h, ← h2]; grind
  have h4 : ((m * 2 ^ k : Nat) : Int) = (m : Int) * 2 ^ k := by simp
  omega

set_option maxHeartbeats 3200000 in
/-- up: the number times 2^k. -/
theorem gUp (a oa m k : Nat) (w : World) (hl : k / 24 + (limbs m).length + 1 ≤ 98) (hk : k ≤ 100000) (ha : GA w a oa m) :
    Calls Try.prog 69 #[.pointer (some ⟨a, oa, none⟩), .int .i64 k] w fun e w' => e = .returned (.agg (gC (m * 2 ^ k))) ∧ Below w.heap.size w w' := by
  have hU := fun zs h1 h2 => up_fin (zs := zs) (m := m) (k := k) h1 h2
  have R0 := (GB.made0 w).alloc (.cells Try.zeroCells72 72)
  have G0 := GB.made0 (w.alloc (.cells Try.zeroCells72 72))
  have hs0 : (w.alloc (.cells Try.zeroCells72 72)).heap.size = w.heap.size + 1 := by simp
  have B0 : Below w.heap.size w ((w.alloc (.cells Try.zeroCells72 72)).alloc (.cells Try.zeroCells72 72)) := ((Below.refl w.heap.size w).alloc (Nat.le_refl _) _).alloc (by simp) _
  rw [hs0] at G0
  have hna : a < w.heap.size := ha.lt
  have hA := ha.below B0 hna
  clear hs0 ha
  have hxr := limbs_inR m
  obtain ⟨La, hLa⟩ : ∃ L, (limbs m).length = L := ⟨_, rfl⟩
  have HLa : Hid ((limbs m).length = La) := hLa
  have HSz : Hid (∀ W, GA W a oa m → W.cell? ⟨a, oa + 98, none⟩ = some (.int .i64 (La : Int))) := fun W h => by rw [← hLa]; exact h.size
  rw [hLa] at hl
  have hm24 : ((k % 24 : Nat) : Int) = (k : Int) % 24 := by omega
  have hs24 : ((k / 24 : Nat) : Int) = (k : Int) / 24 := by omega
  have hs1 : k % 24 < 24 := by omega
  obtain ⟨N, hN⟩ : ∃ N, m * 2 ^ k = N := ⟨_, rfl⟩
  rw [hN]
  simp only [hN] at hU
  have HU : Hid (∀ zs, inR zs → lval zs = 16777216 ^ (k / 24) * ((m : Int) * 2 ^ (k % 24)) → num zs = N) := hU
  clear hLa hU hN
  go_enter Try.func69, Try.ntmps69
  go_wp2
  rw [← hs24, ← hm24]
  generalize (w.alloc (.cells Try.zeroCells72 72)).alloc (.cells Try.zeroCells72 72) = w0 at *
  clear hs24 hm24
  generalize k / 24 = q at *
  generalize k % 24 = s at *
  obtain ⟨t, ht⟩ : ∃ t, 24 - s = t := ⟨_, rfl⟩
  have hts : (24 - (s : Int)).toNat = t := by omega
  have P0 := two_pow_pos s
  have Q0 := two_pow_pos t
  have hPQ : (2 : Int) ^ s * 2 ^ t = 16777216 := by rw [← Int.pow_add, show s + t = 24 by omega]; rfl
  obtain ⟨P, hP⟩ : ∃ P, (2 : Int) ^ s = P := ⟨_, rfl⟩
  obtain ⟨Q, hQ⟩ : ∃ Q, (2 : Int) ^ t = Q := ⟨_, rfl⟩
  rw [hP] at P0 hPQ HU
  rw [hQ] at Q0 hPQ
  have P1 : P ≤ 8388608 := by rw [← hP]; exact two_pow_le (show s ≤ 23 by omega)
  have HPQ : Hid (P * Q = 16777216) := hPQ
  clear ht hPQ
  go_loopw [8] (fun i wr => ∃ (p : Nat) (zs : List Int), p ≤ La ∧ i = .int .i64 p ∧ inR zs ∧ (∀ j, q + p + 1 ≤ j → zs.getD j 0 = 0) ∧ zs.getD (q + p) 0 < P ∧ Hid (lval zs = 16777216 ^ q * (lval ((limbs m).take p) * P)) ∧ GB wr (w.heap.size + 1) zs 0 ∧ GB wr w.heap.size (List.replicate 98 0) 0 ∧ GA wr a oa m ∧ Below w.heap.size w wr) (fun i _ => La - (intOf i).toNat)
  case atStart => exact ⟨0, List.replicate 98 0, by omega, rfl, fun x hx => by rw [List.eq_of_mem_replicate hx]; omega, fun q _ => by rw [List.getD_eq_getElem?_getD, List.getElem?_replicate]; split <;> rfl, by rw [List.getD_eq_getElem?_getD, List.getElem?_replicate]; split <;> exact P0, by show _ = _; rw [lval_zeros]; simp [lval], G0, R0, hA, B0⟩
  case round =>
    clear G0 R0 hA B0
    obtain ⟨p, zs, hp, rfl, hzR, hzz, htop, HL, hG, hR, hA, hB⟩ := hrel
    have cA := HSz.out wr hA
    have hlen := hG.len
    by_cases hlt : p < La
    · have hlt' : (p : Int) < (La : Int) := by omega
      have gx := inR_getD hxr p
      have gz := inR_getD hzR (q + p)
      have HT : Hid (lval ((limbs m).take (p + 1)) = lval ((limbs m).take p) + 16777216 ^ p * (limbs m).getD p 0) := lval_take_succ _ p
      have cx := hA.word p (by omega)
      have cz := hG.word (q + p) (by omega)
      have cy := hG.word (q + p + 1) (by omega)
      have fz := hG.free (q + p)
      have fy := hG.free (q + p + 1)
      have hz0 := hzz (q + p + 1) (Nat.le_refl _)
      rw [hz0] at cy
      obtain ⟨x, hx⟩ : ∃ x, (limbs m).getD p 0 = x := ⟨_, rfl⟩
      have HXX : Hid ((limbs m).getD p 0 = x) := hx
      obtain ⟨top, htp⟩ : ∃ x, zs.getD (q + p) 0 = x := ⟨_, rfl⟩
      rw [hx] at gx HT cx
      rw [htp] at gz cz htop
      obtain ⟨gx0, gx1⟩ := gx
      obtain ⟨gz0, gz1⟩ := gz
      have hlow := low_part (x := x) P0 Q0 HPQ.out
      obtain ⟨b0, b1, b2, b3⟩ := part_bd gx0 gx1 P0 Q0 HPQ.out
      have HW := up_word (x := x) (T := lval ((limbs m).take p)) (by omega) htp hz0 HPQ.out HL.out
      obtain ⟨lo, hlo⟩ : ∃ lo, P * (x % Q) = lo := ⟨_, rfl⟩
      obtain ⟨hi, hhi⟩ : ∃ hi, x / Q = hi := ⟨_, rfl⟩
      rw [hlo] at hlow b0 b1 HW
      rw [hhi] at b2 b3 HW
      have HW2 : Hid (lval ((zs.set (q + p) (top + lo)).set (q + p + 1) hi) = 16777216 ^ q * ((lval ((limbs m).take p) + 16777216 ^ p * x) * P)) := HW
      have HG : Hid (GB wr (w.heap.size + 1) zs 0 ∧ GB wr w.heap.size (List.replicate 98 0) 0 ∧ GA wr a oa m ∧ Below w.heap.size w wr) := ⟨hG, hR, hA, hB⟩
      have HZZ : Hid (∀ j, q + p + 1 ≤ j → zs.getD j 0 = 0) := hzz
      have hqp : (q : Int) + (p : Int) < 98 := by omega
      have hqp1 : (q : Int) + (p : Int) + 1 < 98 := by omega
      have hp98 : (p : Int) < 98 := by omega
      have hwr : IntKind.i64.wrap ((q : Int) + (p : Int)) = (q : Int) + (p : Int) := by rw [IntKind.wrap_i64]; omega
      have hw2 : (IntKind.u32.wrap (x * P)).tmod 16777216 = lo := by
        rw [IntKind.wrap_u32, Int.tmod_eq_emod_of_nonneg (by omega), hlow]
      have hw3 : IntKind.u32.wrap (top + lo) = top + lo := by rw [IntKind.wrap_u32]; omega
      have hqn : (0 : Int) ≤ (q : Int) + (p : Int) := by omega
      have htn : ((q : Int) + (p : Int)).toNat = q + p := by omega
      clear hx htp HW hlo hG hR hA hB hzz hz0 HL
      go_wp2_with fail
      go_region
      have T1 : Tn [w.heap.size + 1] wr (wr.setCell ⟨w.heap.size + 1, q + p, none⟩ (.int .u32 (top + lo))).drew := ((Tn.refl [w.heap.size + 1] wr).cell _ (by simp) _).trans ⟨rfl, rfl, rfl, Nat.le_refl _, fun _ _ _ => rfl⟩
      have G1 := (HG.out.1.setW (q + p) (by omega) (top + lo)).drew
      have R1 := HG.out.2.1.tn T1 (by simp)
      have A1 := HG.out.2.2.1.tn T1 (by simp; omega)
      have B1 : Below w.heap.size w (wr.setCell ⟨w.heap.size + 1, q + p, none⟩ (.int .u32 (top + lo))).drew := (HG.out.2.2.2.setCell (by show w.heap.size ≤ w.heap.size + 1; omega) _).drew
      have cA1 := HSz.out _ A1
      have cx1 : (wr.setCell ⟨w.heap.size + 1, q + p, none⟩ (.int .u32 (top + lo))).drew.cell? ⟨a, oa + p, none⟩ = some (.int .u32 x) := by have := A1.word p (by omega); rw [HXX.out] at this; exact this
      have cy1 := G1.word (q + p + 1) (by omega)
      rw [gset_ne _ (by omega), HZZ.out _ (Nat.le_refl _)] at cy1
      have fy1 := G1.free (q + p + 1)
      generalize (wr.setCell ⟨w.heap.size + 1, q + p, none⟩ (.int .u32 (top + lo))).drew = w1 at *
      have HG1 : Hid (GB w1 (w.heap.size + 1) (zs.set (q + p) (top + lo)) 0 ∧ GB w1 w.heap.size (List.replicate 98 0) 0 ∧ GA w1 a oa m ∧ Below w.heap.size w w1) := ⟨G1, R1, A1, B1⟩
      clear HG G1 R1 A1 B1 T1 cx cz cy fz fy cA hw2 hw3
      go_wp2
      go_roundw
      case rel =>
        refine ⟨p + 1, (zs.set (q + p) (top + lo)).set (q + p + 1) hi, by omega, by go_num, inR_set (inR_set hzR _ (by omega) (by omega)) _ (by omega) (by omega), fun j hj => by rw [gset_ne _ (by omega), gset_ne _ (by omega)]; exact HZZ.out j (by omega), ?_, ?_, ?_, ?_, ?_, ?_⟩
        · have e : q + (p + 1) = q + p + 1 := by omega
          rw [e, List.getD_eq_getElem?_getD, List.getElem?_set_self (by rw [List.length_set]; omega)]
          exact b3
        · show _ = _
          rw [HT.out]
          exact HW2.out
        · exact HG1.out.1.setW (q + p + 1) (by omega) _
        · exact HG1.out.2.1.other _ (by show w.heap.size ≠ w.heap.size + 1; omega) _
        · exact HG1.out.2.2.1.tn ((Tn.refl [w.heap.size + 1] _).cell _ (by simp) _) (by simp; omega)
        · exact HG1.out.2.2.2.setCell (by show w.heap.size ≤ w.heap.size + 1; omega) _
      case measure => simp [intOf]; omega
    · have hlt' : ¬ (p : Int) < (La : Int) := by omega
      have hpe : p = La := by omega
      subst hpe
      have hnum : num zs = N := by
        refine HU.out zs hzR ?_
        have h4 := HL.out
        rw [List.take_of_length_le (Nat.le_of_eq HLa.out), limbs_val] at h4
        exact h4
      have hl3 : (limbs N).length ≤ 98 := by
        have h1 := limbs_len_le (num zs) zs.length (by have := num_lt24 hzR; exact this)
        rw [hnum, hlen] at h1
        exact h1
      have kS := gSettle (w.heap.size + 1) zs 0 (q + p + 1) wr hG (by omega) (inR_take hzR _) hzz
      rw [num_take_zeros hzR hzz, hnum] at kS
      have hcast : ((q + p + 1 : Nat) : Int) = (q : Int) + (p : Int) + 1 := by omega
      rw [hcast] at kS
      have HG : Hid (GB wr w.heap.size (List.replicate 98 0) 0 ∧ Below w.heap.size w wr) := ⟨hR, hB⟩
      have hbs := hB.size
      clear HL hnum hG hR hA hB hzz hzR hcast
      go_wp2_with fail
      refine kS.mono ?_
      rintro e w5 ⟨rfl, g5, t5, s5⟩
      have R5 := HG.out.1.tn t5 (by simp)
      have B5 := t5.below HG.out.2 hbs (by simp)
      have A5 := GN.ga g5 hl3
      go_wp2_with (first | (refine wpA_load rfl (.tmp 5) rfl (w.heap.size + 1) 0 N rfl A5 ?_) | (refine wpN_store rfl (.tmp 4) (.tmp 62) rfl w.heap.size _ _ N rfl rfl R5 hl3 ?_; intro w6 g6 t6 s6))
      (try simp only [Exit.inBlock, Exit.then])
      refine bodyPost_ret (v := .agg (gC N)) ?_ rfl ⟨rfl, t6.below B5 B5.size (by simp)⟩
      exact results_great rfl _ _ w.heap.size _ _ rfl g6

end Go.Proofs.Ytjelmbkngjlefaa

/- The program's down, by its contract. -/
namespace Go.Proofs.Ytjelmbkngjlefaa
open Go.RowKit

theorem downed {m k : Nat} {done : List Int} (hr : inR done) (h : 16777216 ^ (k / 24) * (2 ^ (k % 24) * lval done) + (lval ((limbs m).take (k / 24)) + 16777216 ^ (k / 24) * ((limbs m).getD (k / 24) 0 % 2 ^ (k % 24))) = (m : Int)) : num done = m / 2 ^ k := by
  have f0 := two_pow_pos (k % 24)
  have t0 := lval_nonneg (inR_take (limbs_inR m) (k / 24))
  have t1 := lval_take_lt (limbs_inR m) (k / 24)
  have e := down_fin h (pow_pos _) f0 t0 t1 (Int.emod_nonneg _ (Int.ne_of_gt f0)) (Int.emod_lt_of_pos _ f0)
  rw [pow24 k] at e
  have h1 := num_val hr
  have h2 : ((m / 2 ^ k : Nat) : Int) = (m : Int) / 2 ^ k := by simp
  omega

set_option maxHeartbeats 3200000 in
/-- down: the number by 2^k. -/
theorem gDown (a oa m k : Nat) (w : World) (hl : (limbs m).length ≤ 97) (hk : k ≤ 100000) (ha : GA w a oa m) :
    Calls Try.prog 70 #[.pointer (some ⟨a, oa, none⟩), .int .i64 k] w fun e w' => e = .returned (.agg (gC (m / 2 ^ k))) ∧ Below w.heap.size w w' := by
  have hU := fun done h1 h2 => downed (done := done) (m := m) (k := k) h1 h2
  have hl3 : (limbs (m / 2 ^ k)).length ≤ 98 := by have := limbs_mono (m := m) (n := m / 2 ^ k) (Nat.div_le_self _ _); omega
  have R0 := (GB.made0 w).alloc (.cells Try.zeroCells72 72)
  have G0 := GB.made0 (w.alloc (.cells Try.zeroCells72 72))
  have hs0 : (w.alloc (.cells Try.zeroCells72 72)).heap.size = w.heap.size + 1 := by simp
  have B0 : Below w.heap.size w ((w.alloc (.cells Try.zeroCells72 72)).alloc (.cells Try.zeroCells72 72)) := ((Below.refl w.heap.size w).alloc (Nat.le_refl _) _).alloc (by simp) _
  rw [hs0] at G0
  have hna : a < w.heap.size := ha.lt
  have hA := ha.below B0 hna
  clear hs0 ha
  have hxr := limbs_inR m
  obtain ⟨La, hLa⟩ : ∃ L, (limbs m).length = L := ⟨_, rfl⟩
  have HLa : Hid ((limbs m).length = La) := hLa
  have HSz : Hid (∀ W, GA W a oa m → W.cell? ⟨a, oa + 98, none⟩ = some (.int .i64 (La : Int))) := fun W h => by rw [← hLa]; exact h.size
  rw [hLa] at hl
  have hm24 : ((k % 24 : Nat) : Int) = (k : Int) % 24 := by omega
  have hs24 : ((k / 24 : Nat) : Int) = (k : Int) / 24 := by omega
  have hs1 : k % 24 < 24 := by omega
  have hq1 : k / 24 ≤ 100000 := by omega
  obtain ⟨N, hN⟩ : ∃ N, m / 2 ^ k = N := ⟨_, rfl⟩
  rw [hN] at hl3 ⊢
  simp only [hN] at hU
  have HU : Hid (∀ done, inR done → 16777216 ^ (k / 24) * (2 ^ (k % 24) * lval done) + (lval ((limbs m).take (k / 24)) + 16777216 ^ (k / 24) * ((limbs m).getD (k / 24) 0 % 2 ^ (k % 24))) = (m : Int) → num done = N) := hU
  clear hLa hU hN
  go_enter Try.func70, Try.ntmps70
  go_wp2
  rw [← hs24, ← hm24]
  generalize (w.alloc (.cells Try.zeroCells72 72)).alloc (.cells Try.zeroCells72 72) = w0 at *
  clear hs24 hm24
  generalize k / 24 = q at *
  generalize k % 24 = s at *
  obtain ⟨t, ht⟩ : ∃ t, 24 - s = t := ⟨_, rfl⟩
  have hts : (24 - (s : Int)).toNat = t := by omega
  have P0 := two_pow_pos s
  have Q0 := two_pow_pos t
  have hPQ : (2 : Int) ^ s * 2 ^ t = 16777216 := by rw [← Int.pow_add, show s + t = 24 by omega]; rfl
  obtain ⟨P, hP⟩ : ∃ P, (2 : Int) ^ s = P := ⟨_, rfl⟩
  obtain ⟨Q, hQ⟩ : ∃ Q, (2 : Int) ^ t = Q := ⟨_, rfl⟩
  rw [hP] at P0 hPQ HU
  rw [hQ] at Q0 hPQ
  have HPQ : Hid (P * Q = 16777216) := hPQ
  obtain ⟨TT, hTT⟩ : ∃ T, lval ((limbs m).take q) + 16777216 ^ q * ((limbs m).getD q 0 % P) = T := ⟨_, rfl⟩
  rw [hTT] at HU
  have HTT : Hid (lval ((limbs m).take q) + 16777216 ^ q * ((limbs m).getD q 0 % P) = TT) := hTT
  clear ht hPQ hTT
  go_loopw [8] (fun i wr => ∃ (p : Nat) (zs : List Int), q ≤ p ∧ (p ≤ q ∨ p ≤ La) ∧ i = .int .i64 p ∧ inR (zs.take (p - q)) ∧ (∀ j, p - q ≤ j → zs.getD j 0 = 0) ∧ Hid (16777216 ^ q * (P * lval (zs.take (p - q))) + TT = lval ((limbs m).take p) + 16777216 ^ p * ((limbs m).getD p 0 % P)) ∧ GB wr (w.heap.size + 1) zs 0 ∧ GB wr w.heap.size (List.replicate 98 0) 0 ∧ GA wr a oa m ∧ Below w.heap.size w wr) (fun i _ => La - (intOf i).toNat)
  case atStart => exact ⟨q, List.replicate 98 0, Nat.le_refl _, .inl (Nat.le_refl _), rfl, by rw [Nat.sub_self, List.take_zero]; exact inR_nil, fun q _ => by rw [List.getD_eq_getElem?_getD, List.getElem?_replicate]; split <;> rfl, by show _ = _; rw [Nat.sub_self, List.take_zero, HTT.out]; simp [lval], G0, R0, hA, B0⟩
  case round =>
    clear G0 R0 hA B0
    obtain ⟨p, zs, hp, hp2, rfl, hzR, hzz, HL, hG, hR, hA, hB⟩ := hrel
    have cA := HSz.out wr hA
    have hlen := hG.len
    by_cases hlt : p < La
    · have hlt' : (p : Int) < (La : Int) := by omega
      have gx := inR_getD hxr p
      have gy := inR_getD hxr (p + 1)
      have HT : Hid (lval ((limbs m).take (p + 1)) = lval ((limbs m).take p) + 16777216 ^ p * (limbs m).getD p 0) := lval_take_succ _ p
      have cx := hA.word p (by omega)
      have cy := hA.word (p + 1) (by omega)
      obtain ⟨j, hj⟩ : ∃ j, p - q = j := ⟨_, rfl⟩
      have hpj : p = q + j := by omega
      rw [hj] at hzR hzz HL
      have cz := hG.word j (by omega)
      rw [hzz j (Nat.le_refl _)] at cz
      have fz := hG.free j
      obtain ⟨x, hx⟩ : ∃ x, (limbs m).getD p 0 = x := ⟨_, rfl⟩
      obtain ⟨y, hy⟩ : ∃ x, (limbs m).getD (p + 1) 0 = x := ⟨_, rfl⟩
      rw [hx] at gx HT cx HL
      rw [hy] at gy cy
      obtain ⟨gx0, gx1⟩ := gx
      obtain ⟨gy0, gy1⟩ := gy
      have hlow := low_part (x := y) Q0 P0 (by rw [Int.mul_comm]; exact HPQ.out)
      obtain ⟨b0, b1, b2, b3⟩ := down_bd (e := y) gx0 gx1 P0 Q0 HPQ.out
      have hds := down_step q p hp P Q x y _ TT (zs.take j) (by rw [List.length_take]; omega) HPQ.out HL.out
      rw [Int.mul_comm Q] at hlow
      obtain ⟨hi, hhi⟩ : ∃ lo, y % P * Q = lo := ⟨_, rfl⟩
      obtain ⟨lo, hlo⟩ : ∃ hi, x / P = hi := ⟨_, rfl⟩
      rw [hhi] at hlow b2 b3 hds
      rw [hlo] at b0 b1 hds
      have HDS : Hid (16777216 ^ q * (P * lval (zs.take j ++ [lo + hi])) + TT = (lval ((limbs m).take p) + 16777216 ^ p * x) + 16777216 ^ (p + 1) * (y % P)) := hds
      have HY : Hid ((limbs m).getD (p + 1) 0 = y) := hy
      have HG : Hid (GB wr (w.heap.size + 1) zs 0 ∧ GB wr w.heap.size (List.replicate 98 0) 0 ∧ GA wr a oa m ∧ Below w.heap.size w wr) := ⟨hG, hR, hA, hB⟩
      have HZZ : Hid (∀ i, j ≤ i → zs.getD i 0 = 0) := hzz
      have HJ : Hid (p - q = j ∧ p = q + j) := ⟨hj, hpj⟩
      have hp98 : (p : Int) < 98 := by omega
      have hp1 : (p : Int) + 1 < 98 := by omega
      have hj98 : (j : Int) < 98 := by omega
      have hj98' : j < 98 := by omega
      have cy2 : wr.cell? ⟨a, oa + p + 1, none⟩ = some (.int .u32 y) := cy
      have hp0 : (0 : Int) ≤ (p : Int) + 1 := by omega
      have hwr : IntKind.i64.wrap ((p : Int) - (q : Int)) = (j : Int) := by rw [IntKind.wrap_i64]; omega
      have hwp : IntKind.i64.wrap ((p : Int) + 1) = (p : Int) + 1 := by rw [IntKind.wrap_i64]; omega
      have hw2 : (IntKind.u32.wrap (y * Q)).tmod 16777216 = hi := by
        rw [IntKind.wrap_u32, Int.tmod_eq_emod_of_nonneg (by omega), hlow]
      have hw3 : IntKind.u32.wrap (lo + hi) = lo + hi := by rw [IntKind.wrap_u32]; omega
      have hw5 : y * Q % 16777216 = hi := by omega
      have hw4 : IntKind.i64.wrap (24 - (s : Int)) = 24 - (s : Int) := by rw [IntKind.wrap_i64]; omega
      have hs24 : (s : Int) < 24 := by omega
      clear hx hy hj hpj hds hhi hG hR hA hB hzz HL hlow
      go_wp2_with fail
      go_region
      go_wp2
      go_roundw
      case rel =>
        obtain ⟨j1, j2⟩ := HJ.out
        refine ⟨p + 1, zs.set j (lo + hi), by omega, by omega, by go_num, ?_, ?_, ?_, ?_, ?_, ?_, ?_⟩
        · rw [show p + 1 - q = j + 1 by omega, take_set_succ (by omega)]
          exact inR_append.2 ⟨hzR, inR_cons.2 ⟨by omega, inR_nil⟩⟩
        · intro i hi2
          rw [gset_ne _ (by omega)]
          exact HZZ.out i (by omega)
        · show _ = _
          rw [show p + 1 - q = j + 1 by omega, take_set_succ (by omega), HT.out, HY.out]
          exact HDS.out
        · exact (HG.out.1.setW j (by omega) _).drew
        · exact (HG.out.2.1.other _ (by show w.heap.size ≠ w.heap.size + 1; omega) _).drew
        · exact (HG.out.2.2.1.tn ((Tn.refl [w.heap.size + 1] _).cell _ (by simp) _) (by simp; omega)).drew
        · exact (HG.out.2.2.2.setCell (by show w.heap.size ≤ w.heap.size + 1; omega) _).drew
      case measure => simp [intOf]; omega
    · have hlt' : ¬ (p : Int) < (La : Int) := by omega
      have hnum : num (zs.take (p - q)) = N := by
        refine HU.out _ hzR ?_
        have h4 := HL.out
        rw [getD_far (xs := limbs m) (j := p) (by have := HLa.out; omega), List.take_of_length_le (l := limbs m) (by have := HLa.out; omega), limbs_val] at h4
        simpa using h4
      obtain ⟨j, hj⟩ : ∃ j, p - q = j := ⟨_, rfl⟩
      rw [hj] at hnum hzR hzz
      have kS := gSettle (w.heap.size + 1) zs 0 j wr hG (by omega) hzR hzz
      rw [hnum] at kS
      have HG : Hid (GB wr w.heap.size (List.replicate 98 0) 0 ∧ Below w.heap.size w wr) := ⟨hR, hB⟩
      have hbs := hB.size
      by_cases hqL : q ≤ La
      · have hc : (La : Int) - (q : Int) = (j : Int) := by omega
        have hc0 : (0 : Int) ≤ (j : Int) := by omega
        clear HL hnum hG hR hA hB hzz hzR hj
        go_wp2_with fail
        refine kS.mono ?_
        rintro e w5 ⟨rfl, g5, t5, s5⟩
        have R5 := HG.out.1.tn t5 (by simp)
        have B5 := t5.below HG.out.2 hbs (by simp)
        have A5 := GN.ga g5 hl3
        go_wp2_with (first | (refine wpA_load rfl (.tmp 5) rfl (w.heap.size + 1) 0 N rfl A5 ?_) | (refine wpN_store rfl (.tmp 4) (.tmp 55) rfl w.heap.size _ _ N rfl rfl R5 hl3 ?_; intro w6 g6 t6 s6))
        (try simp only [Exit.inBlock, Exit.then])
        refine bodyPost_ret (v := .agg (gC N)) ?_ rfl ⟨rfl, t6.below B5 B5.size (by simp)⟩
        exact results_great rfl _ _ w.heap.size _ _ rfl g6
      · have hj0 : j = 0 := by omega
        subst hj0
        have hc0 : (La : Int) - (q : Int) < 0 := by omega
        clear HL hnum hG hR hA hB hzz hzR hj
        go_wp2_with fail
        refine kS.mono ?_
        rintro e w5 ⟨rfl, g5, t5, s5⟩
        have R5 := HG.out.1.tn t5 (by simp)
        have B5 := t5.below HG.out.2 hbs (by simp)
        have A5 := GN.ga g5 hl3
        go_wp2_with (first | (refine wpA_load rfl (.tmp 5) rfl (w.heap.size + 1) 0 N rfl A5 ?_) | (refine wpN_store rfl (.tmp 4) (.tmp 55) rfl w.heap.size _ _ N rfl rfl R5 hl3 ?_; intro w6 g6 t6 s6))
        (try simp only [Exit.inBlock, Exit.then])
        refine bodyPost_ret (v := .agg (gC N)) ?_ rfl ⟨rfl, t6.below B5 B5.size (by simp)⟩
        exact results_great rfl _ _ w.heap.size _ _ rfl g6

end Go.Proofs.Ytjelmbkngjlefaa

/- The program's next of a great number, by its contract. -/
namespace Go.Proofs.Ytjelmbkngjlefaa
open Go.RowKit

theorem succ_lenG (m : Nat) : (limbs (m + 1)).length ≤ (limbs m).length + 1 := by
  have h1 := limbs_lt m
  refine limbs_len_le _ _ ?_
  rw [Nat.pow_succ]
  have h2 : 0 < 16777216 ^ (limbs m).length := Nat.pow_pos (by omega)
  omega

set_option maxHeartbeats 1600000 in
/-- next: one more. -/
theorem gNext (m : Nat) (w : World) (hl : (limbs m).length ≤ 97) :
    Calls Try.prog 72 #[.agg (gC m)] w fun e w' => e = .returned (.agg (gC (m + 1))) ∧ Below w.heap.size w w' := by
  have M0 := (GN.made w m (by omega)).alloc (.cells Try.zeroCells72 72)
  have R0 := GB.made0 (w.alloc (.cells (gC m) 72))
  have s1 : (w.alloc (.cells (gC m) 72)).heap.size = w.heap.size + 1 := by simp
  rw [s1] at R0
  have B0 : Below w.heap.size w ((w.alloc (.cells (gC m) 72)).alloc (.cells Try.zeroCells72 72)) := ((Below.refl w.heap.size w).alloc (Nat.le_refl _) _).alloc (by simp) _
  have s2 : ((w.alloc (.cells (gC m) 72)).alloc (.cells Try.zeroCells72 72)).heap.size = w.heap.size + 1 + 1 := by simp
  obtain ⟨u, hu⟩ : ∃ u : Nat, u = 1 := ⟨1, rfl⟩
  have k2 : ∀ W, Calls Try.prog 88 #[.int .u64 1] W fun e w' => e = .returned (.agg (gC u)) ∧ Below W.heap.size W w' := fun W => by rw [hu]; exact gOf 1 W (by omega)
  have hl1 : (limbs u).length ≤ 1 := limbs_len_le u 1 (by omega)
  have hl3 : (limbs (m + u)).length ≤ 98 := by rw [hu]; have := succ_lenG m; omega
  have hgo : m + 1 = m + u := by rw [hu]
  rw [hgo]
  clear hu s1 hgo
  go_enter Try.func72, Try.ntmps72
  go_wp2_with fail
  refine (k2 _).mono ?_
  rintro e w1 ⟨rfl, b1⟩
  have B1 := B0.trans (b1.mono B0.size)
  have M1 := (GN.below M0 b1 (GN.lt M0)).alloc (.cells Try.zeroCells72 72)
  have R1 := (R0.below b1 R0.lt).alloc (.cells Try.zeroCells72 72)
  have P0 := GB.made0 w1
  have hs1 := b1.size
  have B2 := B1.alloc B1.size (.cells Try.zeroCells72 72)
  clear M0 R0 b1 k2
  go_wp2_with (first
    | (refine wpN_store rfl (.tmp 3) (.tmp 4) rfl w1.heap.size _ _ u rfl rfl P0 (by omega) ?_; intro w2 P2 t2 s3; have M2 := GN.tn M1 t2 (by simp; omega); have R2 := GB.tn R1 t2 (by simp; omega); have B3 := t2.below B2 B2.size (by simp; have := B1.size; omega); have A2 := GN.ga M2 (by omega); have C2 := GN.ga P2 (by omega))
    | (refine wpA_load rfl (.tmp 1) rfl w.heap.size 0 m rfl A2 ?_)
    | (go_at_call 89; refine (gPlus w1.heap.size 0 m u w2 (by omega) (by omega) C2).mono ?_; rintro e w4 ⟨rfl, b4⟩; have R4 := R2.below b4 R2.lt; have B5 := B3.trans (b4.mono B3.size))
    | (refine wpN_store rfl (.tmp 2) (.tmp 6) rfl (w.heap.size + 1) _ _ (m + u) rfl rfl R4 (by omega) ?_; intro w6 g6 t6 s6))
  (try simp only [Exit.inBlock, Exit.then])
  refine bodyPost_ret (v := .agg (gC (m + u))) ?_ rfl ⟨rfl, t6.below B5 B5.size (by simp)⟩
  exact results_great rfl _ _ (w.heap.size + 1) _ _ rfl g6

end Go.Proofs.Ytjelmbkngjlefaa

/- The program's byWord, by its contract. -/
namespace Go.Proofs.Ytjelmbkngjlefaa
open Go.RowKit

theorem bw_set (zs : List Int) (i : Nat) (y : Int) (h : i < zs.length) : lval ((zs.set i y).drop i) = y + 16777216 * lval (zs.drop (i + 1)) := by
  rw [lval_drop]
  have e1 : (zs.set i y).getD i 0 = y := by simp [List.getD_eq_getElem?_getD, h]
  have e2 : (zs.set i y).drop (i + 1) = zs.drop (i + 1) := List.drop_set_of_lt (by omega)
  rw [e1, e2]

theorem bw_step {a rest d x Z V : Int} (h : V = d * Z + rest) (hx : x = rest * 16777216 + a) : a + 16777216 * V = d * (x / d + 16777216 * Z) + x % d := by
  have := Int.mul_ediv_add_emod x d
  grind

theorem bw_bd {a rest d : Int} (a0 : 0 ≤ a) (a1 : a < 16777216) (r0 : 0 ≤ rest) (r1 : rest < d) : 0 ≤ (rest * 16777216 + a) / d ∧ (rest * 16777216 + a) / d < 16777216 ∧ 0 ≤ (rest * 16777216 + a) % d ∧ (rest * 16777216 + a) % d < d := by
  have hd : 0 < d := by omega
  refine ⟨Int.ediv_nonneg (by omega) (by omega), Int.ediv_lt_of_lt_mul hd ?_, Int.emod_nonneg _ (by omega), Int.emod_lt_of_pos _ hd⟩
  omega


set_option maxRecDepth 20000 in
set_option maxHeartbeats 3200000 in
/-- byWord: quotient and rest by one word. -/
theorem gByWord (n d : Nat) (w : World) (hl : (limbs n).length ≤ 98) (hd0 : 0 < d) (hd1 : d < 16777216) :
    Calls Try.prog 99 #[.agg (gC n), .int .u32 d] w fun e w' => e = .returned (.tuple #[.agg (gC (n / d)), .int .u32 ((n % d : Nat) : Int)]) ∧ Below w.heap.size w w' := by
  have hgc : gC n = gcell (pad (limbs n)) ((limbs n).length : Int) := rfl
  rw [hgc]
  clear hgc
  have G0 := (GB.made w (pad (limbs n)) ((limbs n).length : Int) (pad_len hl)).alloc (.cells Try.zeroCells72 72)
  have R0 := GB.made0 (w.alloc (.cells (gcell (pad (limbs n)) ((limbs n).length : Int)) 72))
  have B0 : Below w.heap.size w ((w.alloc (.cells (gcell (pad (limbs n)) ((limbs n).length : Int)) 72)).alloc (.cells Try.zeroCells72 72)) := ((Below.refl w.heap.size w).alloc (Nat.le_refl _) _).alloc (by simp) _
  have s1 : (w.alloc (.cells (gcell (pad (limbs n)) ((limbs n).length : Int)) 72)).heap.size = w.heap.size + 1 := by simp
  rw [s1] at R0
  have hxr := limbs_inR n
  have hpr : inR (pad (limbs n)) := by
    intro x hx
    unfold pad at hx
    rcases List.mem_append.1 hx with q | q
    · exact hxr x q
    · rw [List.eq_of_mem_replicate q]; omega
  have hpd : lval ((pad (limbs n)).drop (limbs n).length) = 0 := by
    unfold pad
    rw [List.drop_append_of_le_length (Nat.le_refl _), List.drop_length, List.nil_append, lval_zeros]
  obtain ⟨L, hL⟩ : ∃ L, (limbs n).length = L := ⟨_, rfl⟩
  have HLL : Hid ((limbs n).length = L) := hL
  rw [hL] at hl G0 R0 B0 hpd ⊢
  clear hL s1
  have c98 := G0.size
  have hd0' : (0 : Int) < d := by omega
  have hdn : (d : Int) ≠ 0 := by omega
  have hd1' : (d : Int) < 16777216 := by omega
  go_enter Try.func99, Try.ntmps99
  go_wp2
  go_loopw [6, 7] (fun v i wr => ∃ (t : Nat) (rest : Int) (zs : List Int), t ≤ L ∧ i = .int .i64 ((t : Int) - 1) ∧ v = .int .u64 rest ∧ 0 ≤ rest ∧ rest < d ∧ inR zs ∧ (∀ j, j < t → zs.getD j 0 = (limbs n).getD j 0) ∧ (∀ j, L ≤ j → zs.getD j 0 = 0) ∧ Hid (lval ((limbs n).drop t) = d * lval (zs.drop t) + rest) ∧ GB wr w.heap.size zs (L : Int) ∧ GB wr (w.heap.size + 1) (List.replicate 98 0) 0 ∧ Below w.heap.size w wr) (fun _ i _ => (intOf i + 1).toNat)
  case atStart =>
    refine ⟨L, 0, pad (limbs n), Nat.le_refl _, by go_num, rfl, by omega, by omega, hpr, fun j _ => pad_getD _ _, fun j hj => ?_, ?_, G0, R0, B0⟩
    · rw [pad_getD, List.getD_eq_getElem?_getD, List.getElem?_eq_none (by have := HLL.out; omega)]; rfl
    · show _ = _
      rw [hpd, List.drop_of_length_le (Nat.le_of_eq HLL.out)]
      simp [lval]
  case round =>
    clear c98 G0 R0 B0 hpr hpd
    obtain ⟨t, rest, zs, ht, rfl, rfl, r0, r1, hzR, hzs, hzz, HV, hG, hR, hB⟩ := hrel
    have c98 := hG.size
    have hlen := hG.len
    have hbs := hB.size
    cases t with
    | zero =>
      have hV := HV.out
      rw [List.drop_zero, List.drop_zero, limbs_val] at hV
      have h1 := num_val hzR
      have h2 := lval_trim zs L (fun j q _ => hzz j q)
      have h3 := num_val (inR_take hzR L)
      have e1 : num (zs.take L) = n / d := by
        have : ((n / d : Nat) : Int) = lval zs := by
          rw [Int.natCast_ediv, hV, Int.add_comm, Int.add_mul_ediv_left _ _ hdn, Int.ediv_eq_zero_of_lt r0 r1]; omega
        omega
      have e2 : ((n % d : Nat) : Int) = rest := by
        rw [Int.natCast_emod, hV, Int.add_comm, Int.add_mul_emod_self_left, Int.emod_eq_of_lt r0 r1]
      have kS := gSettle w.heap.size zs L L wr hG (by omega) (inR_take hzR L) hzz
      rw [e1] at kS
      have E2 : Hid (((n % d : Nat) : Int) = rest) := e2
      have hlq : (limbs (n / d)).length ≤ 98 := Nat.le_trans (limbs_mono (Nat.div_le_self n d)) (by have := HLL.out; omega)
      clear e1 e2 h1 h2 h3 hV HV hzs hzz hzR
      go_wp2_with fail
      refine kS.mono ?_
      rintro e w2 ⟨rfl, g2, t2, z2⟩
      have R2 := hR.tn t2 (by simp)
      have B2 := t2.below hB hbs (by simp)
      have A2 := GN.ga g2 hlq
      clear kS hG hR hB c98
      obtain ⟨q, hq⟩ : ∃ q, n / d = q := ⟨_, rfl⟩
      have HQ : Hid (n / d = q) := hq
      rw [hq] at g2 A2 hlq
      clear hq
      go_wp2_with (first
        | ((with_reducible (refine wpL_id ?_)); refine wpA_load rfl (.tmp 2) rfl w.heap.size 0 q rfl A2 ?_)
        | ((with_reducible (refine wpL_id ?_)); refine wpN_store rfl (.tmp 4) (.tmp 39) rfl (w.heap.size + 1) _ _ q rfl rfl R2 hlq ?_; intro w6 g6 t6 s6))
      (try simp only [Exit.inBlock, Exit.then])
      refine bodyPost_ret (v := .tuple #[.agg (gC q), .int .u32 rest]) ?_ rfl ⟨by rw [E2.out, HQ.out], t6.below B2 B2.size (by simp)⟩
      exact results_great_tmp rfl _ _ (w.heap.size + 1) _ _ _ rfl rfl g6
    | succ k =>
      have hk1 : ((k + 1 : Nat) : Int) - 1 = (k : Int) := by omega
      rw [hk1]
      clear hk1
      have cw := hG.word k (by omega)
      rw [hzs k (by omega)] at cw
      have fw := hG.free k
      have gx := inR_getD hxr k
      have HD : Hid (lval ((limbs n).drop k) = (limbs n).getD k 0 + 16777216 * lval ((limbs n).drop (k + 1))) := lval_drop _ k
      have HZ : Hid ((∀ j, j < k + 1 → zs.getD j 0 = (limbs n).getD j 0) ∧ ∀ j, L ≤ j → zs.getD j 0 = 0) := ⟨hzs, hzz⟩
      have HG : Hid (GB wr w.heap.size zs (L : Int) ∧ GB wr (w.heap.size + 1) (List.replicate 98 0) 0 ∧ Below w.heap.size w wr) := ⟨hG, hR, hB⟩
      obtain ⟨xi, hxi⟩ : ∃ xi, (limbs n).getD k 0 = xi := ⟨_, rfl⟩
      rw [hxi] at cw gx HD
      obtain ⟨p0, p1, p2, p3⟩ := bw_bd gx.1 gx.2 r0 r1
      obtain ⟨x, hxx⟩ : ∃ x, rest * 16777216 + xi = x := ⟨_, rfl⟩
      rw [hxx] at p0 p1 p2 p3
      have x0 : 0 ≤ x := by omega
      have x1 : x ≤ 9007199254740992 := by omega
      obtain ⟨gx0, gx1⟩ := gx
      have wm : x.tmod d = x % d := Int.tmod_eq_emod_of_nonneg x0
      have tq : x.tdiv d = x / d := Int.tdiv_eq_ediv_of_nonneg x0
      have HX : Hid (rest * 16777216 + xi = x) := hxx
      have hk98 : (k : Int) < 98 := by omega
      clear hG hR hB hzs hzz hxi
      go_wp2
      go_roundw
      case rel =>
        obtain ⟨q1, q2, q3⟩ := HG.out
        refine ⟨k, x % d, zs.set k (x / d), by omega, by go_num, rfl, p2, p3, inR_set hzR k p0 p1, fun j hj => ?_, fun j hj => ?_, ?_, q1.setW k (by omega) _, q2.other _ (by simp) _, Below.setCell (p := ⟨w.heap.size, k, none⟩) q3 (Nat.le_refl _) _⟩
        · rw [gset_ne _ (by omega)]; exact HZ.out.1 j (by omega)
        · rw [gset_ne _ (by omega)]; exact HZ.out.2 j hj
        · show _ = _
          rw [HD.out, bw_set _ _ _ (by omega)]
          exact bw_step HV.out HX.out.symm
      case measure => simp [intOf] <;> omega

end Go.Proofs.Ytjelmbkngjlefaa

/- The program's bit and enter, each by its contract. -/
namespace Go.Proofs.Ytjelmbkngjlefaa
open Go.RowKit

set_option maxRecDepth 20000 in
set_option maxHeartbeats 1600000 in
/-- bit: one bit of a number. -/
theorem gBit (a oa m k : Nat) (w : World) (hk : k / 24 < 98) (ha : GA w a oa m) :
    Calls Try.prog 102 #[.pointer (some ⟨a, oa, none⟩), .int .i64 k] w fun e w' => e = .returned (.int .u32 ((m / 2 ^ k % 2 : Nat) : Int)) ∧ w' = w := by
  have hb := bit_of (limbs_inR m) k
  rw [num_limbs] at hb
  have cw := ha.word (k / 24) hk
  have gx := inR_getD (limbs_inR m) (k / 24)
  have hq : (k : Int) / 24 = ((k / 24 : Nat) : Int) := by omega
  have hs : (k : Int) % 24 = ((k % 24 : Nat) : Int) := by omega
  have hs1 : k % 24 < 24 := by omega
  have hk2 : k ≤ 100000 := by omega
  obtain ⟨x, hx⟩ : ∃ x, (limbs m).getD (k / 24) 0 = x := ⟨_, rfl⟩
  rw [hx] at hb cw gx
  obtain ⟨z, hz⟩ : ∃ z, m / 2 ^ k % 2 = z := ⟨_, rfl⟩
  rw [hz] at hb ⊢
  clear hx hz ha
  generalize k / 24 = q at *
  generalize k % 24 = s at *
  have P0 := two_pow_pos s
  obtain ⟨P, hP⟩ : ∃ P, (2 : Int) ^ s = P := ⟨_, rfl⟩
  rw [hP] at hb P0
  have hq98 : (q : Int) < 98 := by omega
  have hy0 : 0 ≤ x / P := Int.ediv_nonneg gx.1 (by omega)
  have HB : Hid (x / P % 2 = (z : Int)) := hb
  clear hb
  go_enter Try.func102, Try.ntmps102
  go_wp2
  go_ret
  exact ⟨by rw [← HB.out]; rfl, rfl⟩

theorem enter_step (i : Nat) (c x f A xk lo : Int) (ys : List Int) (hi : ys.length = i) (h : lval ys + 16777216 ^ i * c = f * A + lo) (hx : x = xk * f + c) :
    lval (ys ++ [x % 16777216]) + 16777216 ^ (i + 1) * (x / 16777216) = f * (A + 16777216 ^ i * xk) + lo := by
  rw [lval_snoc, hi, Int.pow_succ]
  have e : x = 16777216 * (x / 16777216) + x % 16777216 := by omega
  have e3 : (16777216 : Int) ^ i * x = 16777216 ^ i * 16777216 * (x / 16777216) + 16777216 ^ i * (x % 16777216) := by
    conv => lhs; rw [e]
    rw [Int.mul_add, ← Int.mul_assoc]
  have e2 : (16777216 : Int) ^ i * x = 16777216 ^ i * (xk * f) + 16777216 ^ i * c := by rw [hx, Int.mul_add]
  have e4 : f * (A + 16777216 ^ i * xk) = f * A + 16777216 ^ i * (xk * f) := by
    rw [Int.mul_add, Int.mul_comm xk f, ← Int.mul_assoc, ← Int.mul_assoc, Int.mul_comm f (16777216 ^ i)]
  omega
theorem entered {ys : List Int} {c f : Int} {m lo L : Nat} (hr : inR ys) (hl : ys.length = L) (hL : (limbs m).length = L) (c0 : 0 ≤ c) (c1 : c < 16777216) (f1 : 1 ≤ f)
    (h : lval ys + 16777216 ^ L * c = f * lval ((limbs m).take L) + lo) (N : Nat) (hN : (N : Int) = m * f + lo) :
    (c = 0 → limbs N = ys) ∧ (0 < c → limbs N = ys ++ [c]) := by
  rw [List.take_of_length_le (Nat.le_of_eq hL), limbs_val] at h
  have hmf : f * (m : Int) = m * f := Int.mul_comm _ _
  rw [hmf, ← hN] at h
  constructor
  · intro hc
    subst hc
    rw [Int.mul_zero, Int.add_zero] at h
    have hnum : num ys = N := by have := num_val hr; omega
    have hz : noZ ys := by
      refine noZ_of ?_
      by_cases h0 : ys = []
      · exact .inl h0
      · refine .inr (fun hz => ?_)
        have hpos : 0 < ys.length := List.length_pos_iff.2 h0
        obtain ⟨t, ht⟩ : ∃ t, ys.length = t + 1 := ⟨ys.length - 1, by omega⟩
        have s1 := lval_split ys t
        have s2 := lval_drop ys t
        rw [show ys.length - 1 = t by omega] at hz
        rw [hz, List.drop_of_length_le (by omega : ys.length ≤ t + 1)] at s2
        simp only [lval, Int.mul_zero, Int.add_zero] at s2
        rw [s2, Int.mul_zero, Int.add_zero] at s1
        have s3 := lval_take_lt hr t
        have hm : (m : Int) ≤ N := by
          have : (m : Int) * 1 ≤ m * f := Int.mul_le_mul_of_nonneg_left f1 (by omega)
          omega
        have s4 : (limbs m).length ≤ t := limbs_len_le m t (by
          have e1 : ((16777216 ^ t : Nat) : Int) = (16777216 : Int) ^ t := by simp
          omega)
        omega
    have := eq_limbs ⟨hr, hz⟩
    rw [hnum] at this
    exact this.symm
  · intro hc
    have hr2 : inR (ys ++ [c]) := inR_append.2 ⟨hr, inR_cons.2 ⟨⟨c0, c1⟩, inR_nil⟩⟩
    have hz : noZ (ys ++ [c]) := fun hne => by simp; omega
    have hv : lval (ys ++ [c]) = N := by rw [lval_snoc, hl]; exact h
    have hnum : num (ys ++ [c]) = N := by have := num_val hr2; omega
    have := eq_limbs ⟨hr2, hz⟩
    rw [hnum] at this
    exact this.symm

set_option maxRecDepth 20000 in
set_option maxHeartbeats 3200000 in
/-- enter: up by one bit or two, with low in the place that is left, in place. -/
theorem gEnter (a m k lo N : Nat) (w : World) (hk : k = 1 ∨ k = 2) (hlo : lo < 4) (hN : N = m * 2 ^ k + lo) (hlm : (limbs m).length ≤ 97) (hG : GN w a m) :
    Calls Try.prog 101 #[.pointer (some ⟨a, 0, none⟩), .int .i64 k, .int .u32 lo] w fun e w' => e = .returned (.tuple #[]) ∧ GN w' a N ∧ Tn [a] w w' ∧ w'.heap.size = w.heap.size := by
  obtain ⟨L, hL⟩ : ∃ L, (limbs m).length = L := ⟨_, rfl⟩
  have hG0 : GB w a (pad (limbs m)) (L : Int) := by rw [← hL]; exact hG
  have HLL : Hid ((limbs m).length = L) := hL
  rw [hL] at hlm
  have hxr := limbs_inR m
  have f1 := two_pow_pos k
  have f2 : (2 : Int) ^ k ≤ 4 := two_pow_le (show k ≤ 2 by omega)
  have hNI : (N : Int) = m * (2 : Int) ^ k + lo := by rw [hN]; simp
  have hk0 : (0 : Int) ≤ (k : Int) := by omega
  have hk64 : (k : Int) ≤ 32 := by omega
  obtain ⟨f, hf⟩ : ∃ f, (2 : Int) ^ k = f := ⟨_, rfl⟩
  rw [hf] at f1 f2 hNI
  have HE : Hid (∀ (ys : List Int) (c : Int), inR ys → ys.length = L → 0 ≤ c → c < 16777216 → lval ys + 16777216 ^ L * c = f * lval ((limbs m).take L) + lo → (c = 0 → limbs N = ys) ∧ (0 < c → limbs N = ys ++ [c])) := fun ys c q1 q2 q3 q4 q5 => entered q1 q2 HLL.out q3 q4 (by omega) q5 N hNI
  clear hG hL hN hNI hk
  go_enter Try.func101, Try.ntmps101
  go_wp2
  go_loopw [6, 7] (fun c i wr => ∃ (p : Nat) (cc : Int) (ws : List Int), p ≤ L ∧ i = .int .i64 p ∧ c = .int .u32 cc ∧ 0 ≤ cc ∧ cc < 4 ∧ inR (ws.take p) ∧ (∀ j, p ≤ j → ws.getD j 0 = (limbs m).getD j 0) ∧ Hid (lval (ws.take p) + 16777216 ^ p * cc = f * lval ((limbs m).take p) + lo) ∧ GB wr a ws (L : Int) ∧ Tn [a] w wr ∧ wr.heap.size = w.heap.size) (fun _ i _ => L - (intOf i).toNat)
  case atStart => exact ⟨0, lo, pad (limbs m), by omega, rfl, rfl, by omega, by omega, by rw [List.take_zero]; exact inR_nil, fun j _ => pad_getD _ _, by show _ = _; simp [lval], hG0, Tn.refl _ _, rfl⟩
  case round =>
    clear hG0
    obtain ⟨p, cc, ws, hp, rfl, rfl, cc0, cc1, hoR, hw, HV, hG, hT, hs⟩ := hrel
    have hlen := hG.len
    have c98 := hG.size
    by_cases hlt : p < L
    · have HT : Hid (lval ((limbs m).take (p + 1)) = lval ((limbs m).take p) + 16777216 ^ p * (limbs m).getD p 0) := lval_take_succ _ p
      have gx := inR_getD hxr p
      have cx := hG.word p (by omega)
      rw [hw p (Nat.le_refl _)] at cx
      have fx := hG.free p
      have HW : Hid (∀ j, p + 1 ≤ j → ∀ v, (ws.set p v).getD j 0 = (limbs m).getD j 0) := fun j hj v => by rw [gset_ne v (by omega)]; exact hw j (by omega)
      obtain ⟨x, hx⟩ : ∃ x, (limbs m).getD p 0 = x := ⟨_, rfl⟩
      rw [hx] at gx HT cx
      obtain ⟨gx0, gx1⟩ := gx
      have m0 : 0 ≤ x * f := Int.mul_nonneg gx0 (by omega)
      have m1 : x * f ≤ 16777215 * 4 := Int.mul_le_mul (by omega) f2 (by omega) (by omega)
      have m2 : x * f + cc ≤ 67108863 := by omega
      have HG : Hid (GB wr a ws (L : Int) ∧ Tn [a] w wr ∧ wr.heap.size = w.heap.size) := ⟨hG, hT, hs⟩
      have hp98 : (p : Int) < 98 := by omega
      have hlt' : (p : Int) < (L : Int) := by omega
      have HX : Hid (lval (ws.take p ++ [(x * f + cc) % 16777216]) + 16777216 ^ (p + 1) * ((x * f + cc) / 16777216) = f * (lval ((limbs m).take p) + 16777216 ^ p * x) + lo) := enter_step p cc _ f _ x lo (ws.take p) (by rw [List.length_take]; omega) HV.out rfl
      obtain ⟨y, hy⟩ : ∃ y, x * f = y := ⟨_, rfl⟩
      rw [hy] at m0 m1 m2 HX
      clear hx hG hT hs hw HV
      go_wp2
      go_roundw
      case rel =>
        refine ⟨p + 1, (y + cc) / 16777216, ws.set p ((y + cc) % 16777216), by omega, by go_num, by go_num, by omega, by omega, ?_, fun j hj => HW.out j hj _, ?_, ?_, ?_, ?_⟩
        · rw [take_set_succ (by omega)]
          exact inR_append.2 ⟨hoR, inR_cons.2 ⟨by omega, inR_nil⟩⟩
        · show _ = _
          rw [HT.out, take_set_succ (by omega)]
          exact HX.out
        · exact HG.out.1.setW p (by omega) _
        · exact HG.out.2.1.cell _ (by simp) _
        · have := HG.out.2.2
          simpa [World.setCell] using this
      case measure => simp [intOf]; omega
    · have hpe : p = L := by omega
      subst hpe
      have hlt' : ¬ ((p : Int) < (p : Int)) := by omega
      have hlp : (ws.take p).length = p := by rw [List.length_take]; omega
      obtain ⟨E0, E1⟩ := HE.out (ws.take p) cc hoR hlp cc0 (by omega) HV.out
      have hzero : ∀ j, p ≤ j → ws.getD j 0 = 0 := fun j hj => by rw [hw j hj]; exact getD_far (by have := HLL.out; omega)
      have hws : ws = pad (ws.take p) := eq_pad hlen (by rw [hlp]) (by omega) (fun j hj => hzero j (by omega))
      by_cases hc0 : cc = 0
      · have HEN : Hid (limbs N = ws.take p) := E0 hc0
        have HG : Hid (GB wr a ws (p : Int) ∧ Tn [a] w wr ∧ wr.heap.size = w.heap.size ∧ ws = pad (ws.take p) ∧ (ws.take p).length = p) := ⟨hG, hT, hs, hws, hlp⟩
        subst hc0
        clear E0 E1 hG hT hs hw hws hlp HV hzero hoR
        go_wp2
        go_end0
        refine ⟨rfl, ?_, HG.out.2.1, HG.out.2.2.1⟩
        unfold GN
        rw [HEN.out, ← HG.out.2.2.2.1, HG.out.2.2.2.2]
        exact HG.out.1
      · have HEN : Hid (limbs N = ws.take p ++ [cc]) := E1 (by omega)
        have hcp : (0 : Int) < cc := by omega
        have hp98 : (p : Int) < 98 := by omega
        have cz := hG.word p (by omega)
        rw [hzero p (Nat.le_refl _)] at cz
        have fz := hG.free p
        have f98 := hG.free 98
        have HG : Hid (GB wr a ws (p : Int) ∧ Tn [a] w wr ∧ wr.heap.size = w.heap.size ∧ ws = pad (ws.take p) ∧ (ws.take p).length = p) := ⟨hG, hT, hs, hws, hlp⟩
        clear E0 E1 hG hT hs hw hws hlp HV hzero hoR hc0
        go_wp2_with fail
        go_region
        have G1 := (HG.out.1.setW p (by omega) cc).drew
        have T1 : Tn [a] w (wr.setCell ⟨a, p, none⟩ (.int .u32 cc)).drew := (HG.out.2.1.cell _ (by simp) _).trans ⟨rfl, rfl, rfl, Nat.le_refl _, fun _ _ _ => rfl⟩
        have s1 : (wr.setCell ⟨a, p, none⟩ (.int .u32 cc)).drew.heap.size = w.heap.size := by
          have := HG.out.2.2.1
          simpa [World.setCell] using this
        have d98 := G1.size
        have e98 := G1.free 98
        generalize (wr.setCell ⟨a, p, none⟩ (.int .u32 cc)).drew = w1 at *
        have HG1 : Hid (GB w1 a (ws.set p cc) (p : Int) ∧ Tn [a] w w1 ∧ w1.heap.size = w.heap.size) := ⟨G1, T1, s1⟩
        clear G1 T1 s1 cz fz c98 f98
        go_wp2
        go_end0
        refine ⟨rfl, ?_, HG1.out.2.1.cell _ (by simp) _, by have := HG1.out.2.2; simpa [World.setCell] using this⟩
        have g := HG1.out.1.setK ((p : Int) + 1)
        unfold GN
        rw [HEN.out]
        have e1 : ws.set p cc = pad (ws.take p ++ [cc]) := by
          have := pad_set (ws.take p) cc (by rw [HG.out.2.2.2.2]; omega)
          rw [HG.out.2.2.2.2, ← HG.out.2.2.2.1] at this
          exact this
        have e2 : (((ws.take p ++ [cc]).length : Nat) : Int) = (p : Int) + 1 := by rw [List.length_append, HG.out.2.2.2.2]; simp
        rw [← e1, e2]
        exact g

end Go.Proofs.Ytjelmbkngjlefaa

/- bits.Len32 and the program's bits of a great number, each by its contract. -/
namespace Go.Proofs.Ytjelmbkngjlefaa
open Go.RowKit

theorem nbits_eq : ∀ n, n < 18446744073709551616 → nbits n = Lib.bitLen n := by
  intro n
  induction n using Nat.strongRecOn with
  | ind n ih =>
    intro h
    by_cases h0 : n = 0
    · subst h0; rw [nbits_zero]; rfl
    · rw [nbits_pos n (by omega), Lib.bitLen_half n h0 h, ih (n / 2) (by omega) (by omega)]
      omega

set_option maxHeartbeats 4000000 in
set_option maxRecDepth 100000 in
theorem len32_c (x : Int) (w : World) (h0 : 0 ≤ x) (h1 : x < 16777216) :
    Calls Try.prog 106 #[.int .u32 x] w fun e w' => e = .returned (.int .i64 (nbits x.toNat : Int)) ∧ w' = w := by
  rw [nbits_eq x.toNat (by omega)]
  by_cases hA : 65536 ≤ x
  · have y0 : 0 ≤ x / 65536 := by omega
    have y1 : x / 65536 ≤ 255 := by omega
    have y2 : ¬ 256 ≤ x / 65536 := by omega
    have HV : Hid (16 + Lib.len8 (x / 65536) = (Lib.bitLen x.toNat : Int)) := by
      show _ = _
      rw [Lib.len8_of _ y0 y1]
      have e : (x / 65536).toNat = x.toNat / 65536 := by omega
      have l := Lib.bitLen_le8' (x / 65536) y0 y1
      have s := Lib.bitLen_shift16 x.toNat (by omega) (by omega)
      rw [e] at l ⊢
      omega
    have l8 := Lib.len8_of _ y0 y1
    have m8 := Lib.bitLen_le8' (x / 65536) y0 y1
    have z0 : 0 ≤ Lib.len8 (x / 65536) := by omega
    have z1 : Lib.len8 (x / 65536) ≤ 8 := by omega
    clear l8 m8
    go_enter Try.func106, Try.ntmps106
    go_wp2
    go_ret
    exact ⟨by rw [← HV.out]; rfl, rfl⟩
  · by_cases hB : 256 ≤ x
    · have y0 : 0 ≤ x / 256 := by omega
      have y1 : x / 256 ≤ 255 := by omega
      have HV : Hid (8 + Lib.len8 (x / 256) = (Lib.bitLen x.toNat : Int)) := by
        show _ = _
        rw [Lib.len8_of _ y0 y1]
        have e : (x / 256).toNat = x.toNat / 256 := by omega
        have l := Lib.bitLen_le8' (x / 256) y0 y1
        have s := Lib.bitLen_shift8 x.toNat (by omega) (by omega)
        rw [e] at l ⊢
        omega
      have l8 := Lib.len8_of _ y0 y1
      have m8 := Lib.bitLen_le8' (x / 256) y0 y1
      have z0 : 0 ≤ Lib.len8 (x / 256) := by omega
      have z1 : Lib.len8 (x / 256) ≤ 8 := by omega
      clear l8 m8
      go_enter Try.func106, Try.ntmps106
      go_wp2
      go_ret
      exact ⟨by rw [← HV.out]; rfl, rfl⟩
    · have y1 : x ≤ 255 := by omega
      have HV : Hid (Lib.len8 x = (Lib.bitLen x.toNat : Int)) := Lib.len8_of _ h0 y1
      have l8 := Lib.len8_of _ h0 y1
      have m8 := Lib.bitLen_le8' x h0 y1
      have z0 : 0 ≤ Lib.len8 x := by omega
      have z1 : Lib.len8 x ≤ 8 := by omega
      clear l8 m8
      go_enter Try.func106, Try.ntmps106
      go_wp2
      go_ret
      exact ⟨by rw [← HV.out]; (try simp), rfl⟩

theorem nbits_last {n s : Nat} (h : (limbs n).length = s + 1) : nbits n = 24 * s + nbits ((limbs n).getD s 0).toNat := by
  have hz : (limbs n).getD s 0 ≠ 0 := by
    have h1 := limbs_noZ n
    have hne : limbs n ≠ [] := by intro e; rw [e] at h; simp at h
    have h2 := h1 hne
    rw [last_getD hne, h] at h2
    exact h2
  have := nbits_limbs (limbs_inR n) s h hz
  rw [num_limbs] at this
  exact this
theorem limb_bits {x : Int} (h : x < 16777216) : nbits x.toNat ≤ 24 := nbits_le_pow 24 _ (by omega)

set_option maxHeartbeats 1600000 in
/-- bits: how many a number has. -/
theorem gBits (a oa n : Nat) (w : World) (ha : GA w a oa n) :
    Calls Try.prog 100 #[.pointer (some ⟨a, oa, none⟩)] w fun e w' => e = .returned (.int .i64 (nbits n : Int)) ∧ Below w.heap.size w w' := by
  have hl := ha.len
  have c98 := ha.size
  by_cases h0 : (limbs n).length = 0
  · have HB : Hid (nbits n = 0) := by
      show _ = _
      have e : limbs n = [] := List.eq_nil_of_length_eq_zero h0
      have := limbs_val n
      rw [e] at this
      have hn : n = 0 := by simp [lval] at this; omega
      rw [hn, nbits_zero]
    have e0 : (((limbs n).length : Int) == 0) = true := by rw [h0]; rfl
    go_enter Try.func100, Try.ntmps100
    go_wp2
    go_ret
    exact ⟨by rw [HB.out]; rfl, Below.refl _ _⟩
  · obtain ⟨s, hs⟩ : ∃ s, (limbs n).length = s + 1 := ⟨(limbs n).length - 1, by omega⟩
    have HB : Hid (nbits n = 24 * s + nbits ((limbs n).getD s 0).toNat) := nbits_last hs
    have cw := ha.word s (by omega)
    have gx := inR_getD (limbs_inR n) s
    have hcast : ((limbs n).length : Int) = (s : Int) + 1 := by omega
    have hs98 : (s : Int) < 98 := by omega
    rw [hcast] at c98
    obtain ⟨x, hx⟩ : ∃ x, (limbs n).getD s 0 = x := ⟨_, rfl⟩
    rw [hx] at cw gx HB
    have lb := limb_bits gx.2
    have kl := fun W => len32_c x W gx.1 gx.2
    obtain ⟨z, hz⟩ : ∃ z, nbits x.toNat = z := ⟨_, rfl⟩
    simp only [hz] at kl
    rw [hz] at HB lb
    clear hx hz hs hcast h0 hl ha gx
    have e0 : (((s : Int) + 1) == 0) = false := by rw [beq_eq_false_iff_ne]; omega
    go_enter Try.func100, Try.ntmps100
    go_wp2_with fail
    go_quiet ((go_at_call 106; exact (kl _).mono fun _ _ ⟨he, hm⟩ => ⟨he, _, hm⟩))
    go_wp2
    go_ret
    refine ⟨?_, ⟨rfl, rfl, rfl, Nat.le_refl _, fun _ _ => rfl⟩⟩
    rw [HB.out]
    simp
    omega

end Go.Proofs.Ytjelmbkngjlefaa
