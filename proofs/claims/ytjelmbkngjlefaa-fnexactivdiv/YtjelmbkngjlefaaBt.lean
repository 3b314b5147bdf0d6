/- The program's type between: a great number, whether nothing is above it, and how what is above stands to a half (no walk of the program). -/
import Derived.Test.YtjelmbkngjlefaaSG
import Derived.Test.YtjelmbkngjlefaaGB
import Derived.Laws.CopyRow
namespace Go.Proofs.Ytjelmbkngjlefaa
open Go.RowKit
set_option linter.unusedSimpArgs false

/-- The cells of a between. -/
def bC (n : Nat) (s : Bool) (h : Int) : Array Value := ((gC n).toList ++ [Value.bool s, Value.int .i64 h]).toArray
theorem between_info : (Try.prog.info? 102).map (fun i => (i.zero.map (·.cells.size), i.size)) = some (some 101, 101) := by kernel_rfl
theorem between_size : (Try.prog.info? 102).map (·.size) = some 101 := by kernel_rfl
theorem bC_facts (n : Nat) (s : Bool) (h : Int) (hl : (limbs n).length ≤ 98) : (bC n s h).size = 101 ∧ (∀ i : Nat, i < 99 → (bC n s h)[i]? = (gC n)[i]?) ∧ (bC n s h)[99]? = some (.bool s) ∧ (bC n s h)[100]? = some (.int .i64 h) := by
  have hg : (gC n).size = 99 := gcell_size (pad_len hl) _
  refine ⟨by simp [bC, hg], fun i hi => ?_, ?_, ?_⟩
  · simp [bC, List.getElem?_append_left, hg, hi]
  · simp [bC, List.getElem?_append_right, hg]
  · simp [bC, List.getElem?_append_right, hg]
theorem bC_one (n : Nat) (s : Bool) (h : Int) : (bC n s h).all (·.oneCell') = true := by
  have := gcell_one (pad (limbs n)) ((limbs n).length : Int)
  unfold bC gC
  rw [Array.all_eq_true_iff_forall_mem] at this ⊢
  intro x hx
  simp only [List.mem_toArray, List.mem_append] at hx
  rcases hx with hx | hx
  · exact this x (by simpa using hx)
  · simp at hx
    rcases hx with rfl | rfl <;> rfl

set_option maxHeartbeats 3200000 in
set_option maxRecDepth 20000 in
theorem built_between (n : Nat) (s : Bool) (h : Int) (hl : (limbs n).length ≤ 98) : Try.prog.built 102 [(0, .agg (gC n)), (1, .bool s), (2, .int .i64 h)] = some (bC n s h) := by
  have hi := between_info
  have hg : (gC n).size = 99 := gcell_size (pad_len hl) _
  obtain ⟨k1, k2, k3, k4⟩ := bC_facts n s h hl
  cases hq : Try.prog.info? 102 with
  | none => rw [hq] at hi; cases hi
  | some it =>
    rw [hq] at hi
    simp only [Option.map_some, Option.some.injEq, Prod.mk.injEq] at hi
    cases hz : it.zero with
    | none => rw [hz] at hi; simp at hi
    | some z =>
      rw [hz] at hi
      simp only [Option.map_some, Option.some.injEq] at hi
      obtain ⟨fs, hfs, hp⟩ : ∃ fs, Try.prog.underlying 102 = some (.struct fs) ∧ fs.toList.mapM (fun f => (Try.prog.info? f.type).map fun i => (f.offset, i.size)) = some [(0, 99), (99, 1), (100, 1)] := ⟨_, Try.underlying102, by kernel_rfl⟩
      obtain ⟨f1, g1⟩ := fold_arr (gC n) z.cells 0
      obtain ⟨f2, g2⟩ := fold_arr #[Value.bool s] ((gC n).zipIdx.foldl (fun cs p => cs.setIfInBounds (0 + p.2) p.1) z.cells) 99
      obtain ⟨f3, g3⟩ := fold_arr #[Value.int .i64 h] ((#[Value.bool s] : Array Value).zipIdx.foldl (fun cs p => cs.setIfInBounds (99 + p.2) p.1) ((gC n).zipIdx.foldl (fun cs p => cs.setIfInBounds (0 + p.2) p.1) z.cells)) 100
      have hb : Try.prog.built 102 [(0, .agg (gC n)), (1, .bool s), (2, .int .i64 h)] = some ((#[Value.int .i64 h] : Array Value).zipIdx.foldl (fun cs p => cs.setIfInBounds (100 + p.2) p.1) ((#[Value.bool s] : Array Value).zipIdx.foldl (fun cs p => cs.setIfInBounds (99 + p.2) p.1) ((gC n).zipIdx.foldl (fun cs p => cs.setIfInBounds (0 + p.2) p.1) z.cells))) := by
        have v1 : (Value.bool s).cells = #[Value.bool s] := rfl
        have v2 : (Value.agg (gC n)).cells = gC n := rfl
        have v3 : (Value.int .i64 h).cells = #[Value.int .i64 h] := rfl
        unfold Program.built
        simp only [hq, hfs, hz, hp]
        generalize z.cells = zc at *
        rw [Instr.fill]
        simp only [List.getElem?_toArray, List.getElem?_cons_zero]
        rw [v2, if_neg (by simp [hg, hi.1]), Instr.fill]
        simp only [List.getElem?_toArray, List.getElem?_cons_succ, List.getElem?_cons_zero]
        rw [v1, if_neg (by rw [f1]; simp [hi.1]), Instr.fill]
        simp only [List.getElem?_toArray, List.getElem?_cons_succ, List.getElem?_cons_zero]
        rw [v3, if_neg (by rw [f2, f1]; simp [hi.1]), Instr.fill]
      rw [hb]
      refine congrArg some ?_
      apply Array.ext_getElem?
      intro k
      rw [g3 k, g2 k, g1 k, f2, f1, hi.1, hg]
      by_cases h0 : k < 99
      · rw [if_neg (by omega), if_neg (by omega), if_pos (by omega), k2 k h0]
        rfl
      · by_cases h1 : k = 99
        · subst h1
          rw [if_neg (by omega), if_pos (by simp), k3]
          rfl
        · by_cases h2 : k = 100
          · subst h2
            rw [if_pos (by simp), k4]
            rfl
          · rw [if_neg (by simp; omega), if_neg (by simp; omega), if_neg (by omega), Array.getElem?_eq_none (by omega), Array.getElem?_eq_none (by omega)]

/-- A block that holds a between. -/
structure BN (w : World) (b n : Nat) (s : Bool) (h : Int) : Prop where
  blk : w.heap[b]? = some (.cells (bC n s h) 102 (0, 0))
  len : (limbs n).length ≤ 98
theorem BN.lt {w : World} {b n : Nat} {s : Bool} {h : Int} (q : BN w b n s h) : b < w.heap.size := by
  by_cases hlt : b < w.heap.size
  · exact hlt
  · have hn : w.heap[b]? = none := by simp; omega
    rw [q.blk] at hn; cases hn
theorem BN.below {w w' : World} {b B n : Nat} {s : Bool} {h : Int} (q : BN w b n s h) (hb : Below B w w') (hB : b < B) : BN w' b n s h := ⟨(hb.block b hB).trans q.blk, q.len⟩
theorem BN.tn {w w' : World} {b n : Nat} {s : Bool} {h : Int} {S : List Nat} (q : BN w b n s h) (ht : Tn S w w') (hS : b ∉ S) : BN w' b n s h := ⟨(ht.block b q.lt hS).trans q.blk, q.len⟩
theorem BN.drew {w : World} {b n : Nat} {s : Bool} {h : Int} (q : BN w b n s h) : BN w.drew b n s h := ⟨q.blk, q.len⟩
theorem BN.alloc {w : World} {b n : Nat} {s : Bool} {h : Int} (q : BN w b n s h) (o : Obj) : BN (w.alloc o) b n s h := ⟨(Below.heap_alloc w o b q.lt).trans q.blk, q.len⟩
theorem BN.made (w : World) (n : Nat) (s : Bool) (h : Int) (hl : (limbs n).length ≤ 98) : BN (w.alloc (.cells (bC n s h) 102)) w.heap.size n s h := ⟨heap_alloc_new w _, hl⟩
theorem BN.cell {w : World} {b n : Nat} {s : Bool} {h : Int} (q : BN w b n s h) (i : Nat) : w.cell? ⟨b, i, none⟩ = (bC n s h)[i]? := cell_of_row w b i _ _ _ q.blk
theorem BN.whole {w : World} {b n : Nat} {s : Bool} {h : Int} (q : BN w b n s h) : w.cell? ⟨b, 99, none⟩ = some (.bool s) := by rw [q.cell, (bC_facts n s h q.len).2.2.1]
theorem BN.half {w : World} {b n : Nat} {s : Bool} {h : Int} (q : BN w b n s h) : w.cell? ⟨b, 100, none⟩ = some (.int .i64 h) := by rw [q.cell, (bC_facts n s h q.len).2.2.2]
theorem BN.ga {w : World} {b n : Nat} {s : Bool} {h : Int} (q : BN w b n s h) : GA w b 0 n := by
  have hp := pad_len q.len
  have f := (bC_facts n s h q.len).2.1
  refine ⟨fun i hi => ?_, ?_, q.len⟩
  · rw [q.cell, f _ (by omega)]
    unfold gC gcell
    rw [← pad_getD]
    simp [List.getElem?_append_left, hp, hi, List.getD_eq_getElem?_getD]
  · rw [q.cell, f _ (by omega)]
    unfold gC gcell
    simp [List.getElem?_append, hp]
/-- A block that may be written whole. -/
structure ZB (w : World) (b : Nat) : Prop where
  blk : ∃ cs, w.heap[b]? = some (.cells cs 102 (0, 0)) ∧ cs.size = 101
theorem ZB.lt {w : World} {b : Nat} (q : ZB w b) : b < w.heap.size := by
  obtain ⟨cs, h, -⟩ := q.blk
  by_cases hlt : b < w.heap.size
  · exact hlt
  · have hn : w.heap[b]? = none := by simp; omega
    rw [h] at hn; cases hn
theorem ZB.below {w w' : World} {b B : Nat} (q : ZB w b) (hb : Below B w w') (hB : b < B) : ZB w' b := by
  obtain ⟨cs, h, hs⟩ := q.blk
  exact ⟨cs, (hb.block b hB).trans h, hs⟩
theorem ZB.tn {w w' : World} {b : Nat} {S : List Nat} (q : ZB w b) (ht : Tn S w w') (hS : b ∉ S) : ZB w' b := by
  have hlt := q.lt
  obtain ⟨cs, h, hs⟩ := q.blk
  exact ⟨cs, (ht.block b hlt hS).trans h, hs⟩
theorem ZB.alloc {w : World} {b : Nat} (q : ZB w b) (o : Obj) : ZB (w.alloc o) b := q.below (alloc_below w o) q.lt
theorem ZB.drew {w : World} {b : Nat} (q : ZB w b) : ZB w.drew b := ⟨q.blk⟩
theorem ZB.made0 (w : World) : ZB (w.alloc (.cells Try.zeroCells102 102)) w.heap.size := ⟨_, heap_alloc_new w _, by kernel_rfl⟩

/-- A between is put together. -/
theorem yb_build {ops : Array Oper} {S : World → Prop} {o : Oper} {a : Act} (hw : Region.wanted o (yielded ops a.tmps) = true) (x y z : Operand) (ho : o.op = .build 102 #[(0, x), (1, y), (2, z)])
    (n : Nat) (s : Bool) (h : Int) (hx : a.eval x = .agg (gC n)) (hy : a.eval y = .bool s) (hz : a.eval z = .int .i64 h) (hl : (limbs n).length ≤ 98) : YieldsIf Try.prog ops S o (.agg (bC n s h)) a := by
  refine .inl ⟨hw, fun W hW => ?_⟩
  have hb := built_between n s h hl
  have e : ((#[(0, x), (1, y), (2, z)] : Array (Nat × Operand)).map fun (i, x) => (i, a.eval x)).toList = [(0, Value.agg (gC n)), (1, Value.bool s), (2, Value.int .i64 h)] := by simp [hx, hy, hz]
  rw [← e] at hb
  unfold execOp
  simp only [ho, Sem.run_bind, run_build W 102 _ _ hb, Result.andThen_ok]
  rfl
set_option maxHeartbeats 3200000 in
set_option maxRecDepth 20000 in
theorem wpB_build {ops : Array Oper} {rest : List Oper} {o : Oper} {a : Act} {w : World} {Q : Exit → Act → World → Prop} (hgd : o.guard = none) (x : Operand) (ho : o.op = .build 102 #[(0, x)])
    (n : Nat) (hx : a.eval x = .agg (gC n)) (hl : (limbs n).length ≤ 98)
    (h : wpList Try.prog ops Q rest (a.put o.dst (.agg (bC n false 0))) w) : wpList Try.prog ops Q (o :: rest) a w := by
  have hb : Try.prog.built 102 [(0, .agg (gC n))] = some (bC n false 0) := by
    have hi := between_info
    have hg : (gC n).size = 99 := gcell_size (pad_len hl) _
    obtain ⟨k1, k2, k3, k4⟩ := bC_facts n false 0 hl
    have hz9 : ∃ z, (Try.prog.info? 102).map (fun i => i.zero) = some (some (Value.agg z)) ∧ z.size = 101 ∧ z[99]? = some (.bool false) ∧ z[100]? = some (.int .i64 0) := ⟨Try.zeroCells102, by kernel_rfl, by kernel_rfl, by kernel_rfl, by kernel_rfl⟩
    obtain ⟨zc, hz1, hz2, hz3, hz4⟩ := hz9
    cases hq : Try.prog.info? 102 with
    | none => rw [hq] at hi; cases hi
    | some it =>
      rw [hq] at hi hz1
      simp only [Option.map_some, Option.some.injEq, Prod.mk.injEq] at hi hz1
      obtain ⟨fs, hfs, hp⟩ : ∃ fs, Try.prog.underlying 102 = some (.struct fs) ∧ fs.toList.mapM (fun f => (Try.prog.info? f.type).map fun i => (f.offset, i.size)) = some [(0, 99), (99, 1), (100, 1)] := ⟨_, Try.underlying102, by kernel_rfl⟩
      obtain ⟨f1, g1⟩ := fold_arr (gC n) zc 0
      have hb : Try.prog.built 102 [(0, .agg (gC n))] = some ((gC n).zipIdx.foldl (fun cs p => cs.setIfInBounds (0 + p.2) p.1) zc) := by
        have v2 : (Value.agg (gC n)).cells = gC n := rfl
        have v4 : (Value.agg zc).cells = zc := rfl
        unfold Program.built
        simp only [hq, hfs, hz1, hp]
        rw [Instr.fill]
        simp only [List.getElem?_toArray, List.getElem?_cons_zero]
        rw [v2, v4, if_neg (by simp [hg, hz2]), Instr.fill]
      rw [hb]
      refine congrArg some ?_
      apply Array.ext_getElem?
      intro k
      rw [g1 k, hz2, hg]
      by_cases h0 : k < 99
      · rw [if_pos (by omega), k2 k h0]
        rfl
      · rw [if_neg (by omega)]
        by_cases h1 : k = 99
        · subst h1
          rw [k3, hz3]
        · by_cases h2 : k = 100
          · subst h2
            rw [k4, hz4]
          · rw [Array.getElem?_eq_none (by omega), Array.getElem?_eq_none (by omega)]
  have e : ((#[(0, x)] : Array (Nat × Operand)).map fun (i, x) => (i, a.eval x)).toList = [(0, Value.agg (gC n))] := by simp [hx]
  refine wpList_build hgd 102 _ ho ?_ ?_
  · rw [e, hb]; rfl
  · rw [e, hb]
    exact h
/-- A between is written whole, as one step of a region. -/
theorem sb_store {ops : Array Oper} {o : Oper} {a : Act} {w : World} {K : Act → World → Prop} {Q : Exit → Act → World → Prop} {E : Prop} (hgd : o.guard = none) (x y : Operand) (ho : o.op = .store 102 x y)
    (b n : Nat) (s : Bool) (t : Int) (hx : a.eval x = .pointer (some ⟨b, 0, none⟩)) (hy : a.eval y = .agg (bC n s t)) (hg : ZB w b) (hl : (limbs n).length ≤ 98)
    (hd : o.dst = none) (h : ∀ w', BN w' b n s t → Tn [b] w w' → w'.heap.size = w.heap.size → K a w') :
    if Region.wanted o (yielded ops a.tmps) = true then Oper.wp Try.prog o a w K Q else E := by
  have hw : Region.wanted o (yielded ops a.tmps) = true := by simp [Region.wanted, hgd]
  rw [if_pos hw]
  obtain ⟨cs, hblk, hcs⟩ := hg.blk
  have hsz := (bC_facts n s t hl).1
  exact wp_store_row 102 x y ho b (bC n s t) hx hy 102 cs hblk (by rw [hsz]; exact between_size) (by rw [hcs, hsz]) (bC_one _ _ _)
    (by rw [hd]; exact h _ ⟨setRow_heap w b _ _ _ _ hblk, hl⟩ ⟨rfl, rfl, rfl, by simp, fun j _ hn => setRow_other w b j _ (by intro e; apply hn; simp [e])⟩ (by simp))
theorem wpB_store {ops : Array Oper} {rest : List Oper} {o : Oper} {a : Act} {w : World} {Q : Exit → Act → World → Prop} (hgd : o.guard = none) (x y : Operand) (ho : o.op = .store 102 x y)
    (b n : Nat) (s : Bool) (t : Int) (hx : a.eval x = .pointer (some ⟨b, 0, none⟩)) (hy : a.eval y = .agg (bC n s t)) (hg : ZB w b) (hl : (limbs n).length ≤ 98)
    (h : ∀ w', BN w' b n s t → Tn [b] w w' → w'.heap.size = w.heap.size → wpList Try.prog ops Q rest (a.put o.dst undef) w') : wpList Try.prog ops Q (o :: rest) a w := by
  obtain ⟨cs, hblk, hcs⟩ := hg.blk
  have hsz := (bC_facts n s t hl).1
  exact wpList_store_row hgd 102 x y ho b (bC n s t) hx hy 102 cs hblk (by rw [hsz]; exact between_size) (by rw [hcs, hsz]) (bC_one _ _ _)
    (h _ ⟨setRow_heap w b _ _ _ _ hblk, hl⟩ ⟨rfl, rfl, rfl, by simp, fun j _ hn => setRow_other w b j _ (by intro e; apply hn; simp [e])⟩ (by simp))
theorem wpB_load {ops : Array Oper} {rest : List Oper} {o : Oper} {a : Act} {w : World} {Q : Exit → Act → World → Prop} (hgd : o.guard = none) (x : Operand) (ho : o.op = .load 102 x)
    (b n : Nat) (s : Bool) (t : Int) (hx : a.eval x = .pointer (some ⟨b, 0, none⟩)) (hg : BN w b n s t)
    (h : wpList Try.prog ops Q rest (a.put o.dst (.agg (bC n s t))) w) : wpList Try.prog ops Q (o :: rest) a w :=
  wpList_load_row hgd 102 x ho b hx 102 (bC n s t) (0, 0) _ hg.blk Try.underlying102 rfl (by rw [(bC_facts n s t hg.len).1]; exact between_size) h
theorem BN.load {w : World} {b n : Nat} {s : Bool} {t : Int} (hg : BN w b n s t) : (loadVar 102 ⟨b, 0, none⟩).run Try.prog w = .ok (.agg (bC n s t)) w :=
  run_loadVar_row (P := Try.prog) w b 102 102 (bC n s t) (0, 0) _ hg.blk Try.underlying102 rfl (by rw [(bC_facts n s t hg.len).1]; exact between_size)
theorem results_between {fn : Func} {p : Tmp} (h : fn.results = #[.cell p 102]) (tmps : Array Value) (w : World) (b n : Nat) (s : Bool) (t : Int)
    (hp : tmps.getD p undef = .pointer (some ⟨b, 0, none⟩)) (hg : BN w b n s t) : (results fn tmps).run Try.prog w = .ok (.agg (bC n s t)) w :=
  results_cell_row h tmps w b 102 (bC n s t) (0, 0) _ hp hg.blk Try.underlying102 rfl (by rw [(bC_facts n s t hg.len).1]; exact between_size)
/-- The great number in a between is written anew. -/
theorem wpB_put {ops : Array Oper} {rest : List Oper} {o : Oper} {a : Act} {w : World} {Q : Exit → Act → World → Prop} (hgd : o.guard = none) (x y : Operand) (ho : o.op = .store 72 x y)
    (b m n : Nat) (s : Bool) (t : Int) (hx : a.eval x = .pointer (some ⟨b, 0, none⟩)) (hy : a.eval y = .agg (gC n)) (hg : BN w b m s t) (hl : (limbs n).length ≤ 98)
    (h : ∀ w', BN w' b n s t → Tn [b] w w' → w'.heap.size = w.heap.size → wpList Try.prog ops Q rest (a.put o.dst undef) w') : wpList Try.prog ops Q (o :: rest) a w := by
  have hgs : (gC n).size = 99 := gcell_size (pad_len hl) _
  have hgm : (gC m).size = 99 := gcell_size (pad_len hg.len) _
  have hone := gcell_one (pad (limbs n)) ((limbs n).length : Int)
  have hrun := run_storeCells_at (P := Try.prog) b 0 102 (gC n).toList 0 (bC m s t) w hg.blk (by rw [Array.length_toList, hgs, (bC_facts m s t hg.len).1]; omega) (fun v hv => (Array.all_eq_true_iff_forall_mem.1 hone) v (show v ∈ gC n by simpa using hv))
  have hcells : ((bC m s t).toList.take (0 + 0) ++ (gC n).toList ++ (bC m s t).toList.drop (0 + 0 + (gC n).toList.length)).toArray = bC n s t := by
    have e : (bC m s t).toList.drop 99 = [Value.bool s, Value.int .i64 t] := by
      unfold bC
      rw [List.drop_append_of_le_length (by rw [Array.length_toList]; omega), List.drop_of_length_le (by rw [Array.length_toList]; omega)]
      rfl
    rw [Array.length_toList, hgs]
    simp only [Nat.zero_add, List.take_zero, List.nil_append, e]
    rfl
  rw [hcells] at hrun
  have hst : (storeVar 72 ⟨b, 0, none⟩ (.agg (gC n))).run Try.prog w = .ok () (w.setRow b (bC n s t)) := by
    have hi := great_size
    cases hq : Try.prog.info? 72 with
    | none => rw [hq] at hi; cases hi
    | some i =>
      rw [hq] at hi
      have hs : i.size = 99 := by simpa using hi
      simp [storeVar, sizeOf, typeInfo, hq, Value.cells, hs, hgs, hrun]
  refine wpList_plain hgd fun _ hK => ?_
  unfold Oper.wp execOp
  simp only [ho, hx, hy, Instr.storeAt, Instr.sureAddr, Sem.run_bind, Sem.run_pure, Result.andThen_ok, hst]
  exact hK _ _ (h _ ⟨setRow_heap w b _ _ _ _ hg.blk, hl⟩ ⟨rfl, rfl, rfl, by simp, fun j _ hn => setRow_other w b j _ (by intro e; apply hn; simp [e])⟩ (by simp))

end Go.Proofs.Ytjelmbkngjlefaa
