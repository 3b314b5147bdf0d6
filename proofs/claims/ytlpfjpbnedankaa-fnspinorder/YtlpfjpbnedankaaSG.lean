/- The program's numbers with a sign inside: a sign and a great number behind a pointer (no walk, but newSigned). -/
import Derived.Test.YtlpfjpbnedankaaGB
import Derived.Test.YtlpfjpbnedankaaBase
namespace Go.Proofs.Ytlpfjpbnedankaa
open Go.RowKit
set_option linter.unusedSimpArgs false

theorem fold_get : ∀ (l : List Value) (s off : Nat) (cs : Array Value), ((l.zipIdx s).foldl (fun cs p => cs.setIfInBounds (off + p.2) p.1) cs).size = cs.size ∧ ∀ k : Nat, ((l.zipIdx s).foldl (fun cs p => cs.setIfInBounds (off + p.2) p.1) cs)[k]? = if off + s ≤ k ∧ k < off + s + l.length ∧ k < cs.size then l[k - (off + s)]? else cs[k]? := by
  intro l
  induction l with
  | nil =>
    intro s off cs
    refine ⟨rfl, fun k => ?_⟩
    rw [if_neg (by simp; omega)]
    rfl
  | cons v r ih =>
    intro s off cs
    obtain ⟨h1, h2⟩ := ih (s + 1) off (cs.setIfInBounds (off + s) v)
    rw [List.zipIdx_cons, List.foldl_cons]
    refine ⟨by rw [h1]; simp, fun k => ?_⟩
    rw [h2 k]
    have hsz : (cs.setIfInBounds (off + s) v).size = cs.size := by simp
    rw [hsz, Array.getElem?_setIfInBounds, List.length_cons]
    by_cases e : k = off + s
    · subst e
      by_cases hk : off + s < cs.size
      · rw [if_neg (by omega), if_pos rfl, if_pos hk, if_pos (by omega)]
        simp
      · rw [if_neg (by omega), if_pos rfl, if_neg hk, if_neg (by omega), Array.getElem?_eq_none (by omega)]
    · by_cases hin : off + s ≤ k ∧ k < off + s + (r.length + 1) ∧ k < cs.size
      · rw [if_pos (by omega), if_pos hin]
        rw [show k - (off + s) = (k - (off + (s + 1))) + 1 by omega, List.getElem?_cons_succ]
      · rw [if_neg (by omega), if_neg hin, if_neg (fun q => e q.symm)]
theorem fold_arr (v cs : Array Value) (off : Nat) : (v.zipIdx.foldl (fun cs p => cs.setIfInBounds (off + p.2) p.1) cs).size = cs.size ∧ ∀ k : Nat, (v.zipIdx.foldl (fun cs p => cs.setIfInBounds (off + p.2) p.1) cs)[k]? = if off ≤ k ∧ k < off + v.size ∧ k < cs.size then v[k - off]? else cs[k]? := by
  have e : v.zipIdx.foldl (fun cs p => cs.setIfInBounds (off + p.2) p.1) cs = (v.toList.zipIdx 0).foldl (fun cs p => cs.setIfInBounds (off + p.2) p.1) cs := by
    rw [← Array.foldl_toList, Array.toList_zipIdx]
  rw [e]
  obtain ⟨h1, h2⟩ := fold_get v.toList 0 off cs
  refine ⟨h1, fun k => ?_⟩
  rw [h2 k]
  simp

/-- The cells of a sign and a number. -/
def sC (b : Bool) (n : Nat) : Array Value := (Value.bool b :: (gC n).toList).toArray
theorem signed_info : (Try.prog.info? 102).map (fun i => (i.zero.map (·.cells.size), i.size)) = some (some 100, 100) := by kernel_rfl
theorem sC_facts (b : Bool) (n : Nat) (hl : (limbs n).length ≤ 98) : (sC b n).size = 100 ∧ (sC b n)[0]? = some (.bool b) ∧ ∀ i : Nat, i < 99 → (sC b n)[1 + i]? = (gC n)[i]? := by
  have hg : (gC n).size = 99 := gcell_size (pad_len hl) _
  refine ⟨by simp [sC, hg], by simp [sC], fun i _ => ?_⟩
  rw [Nat.add_comm]
  simp [sC]
set_option maxRecDepth 20000 in
theorem built_signed (b : Bool) (n : Nat) (hl : (limbs n).length ≤ 98) : Try.prog.built 102 [(0, .bool b), (1, .agg (gC n))] = some (sC b n) := by
  have hi := signed_info
  have hg : (gC n).size = 99 := gcell_size (pad_len hl) _
  obtain ⟨k1, k2, k3⟩ := sC_facts b n hl
  cases hq : Try.prog.info? 102 with
  | none => rw [hq] at hi; cases hi
  | some it =>
    rw [hq] at hi
    simp only [Option.map_some, Option.some.injEq, Prod.mk.injEq] at hi
    cases hz : it.zero with
    | none => rw [hz] at hi; simp at hi
    | some z =>
      rw [hz] at hi
      simp only [Option.map_some, Option.some.injEq] at hi
      obtain ⟨fs, hfs, hp⟩ : ∃ fs, Try.prog.underlying 102 = some (.struct fs) ∧ fs.toList.mapM (fun f => (Try.prog.info? f.type).map fun i => (f.offset, i.size)) = some [(0, 1), (1, 99)] := ⟨_, Try.underlying102, by kernel_rfl⟩
      have hb : Try.prog.built 102 [(0, .bool b), (1, .agg (gC n))] = some ((gC n).zipIdx.foldl (fun cs p => cs.setIfInBounds (1 + p.2) p.1) ((#[Value.bool b] : Array Value).zipIdx.foldl (fun cs p => cs.setIfInBounds (0 + p.2) p.1) z.cells)) := by
        obtain ⟨g1, -⟩ := fold_arr #[Value.bool b] z.cells 0
        have v1 : (Value.bool b).cells = #[Value.bool b] := rfl
        have v2 : (Value.agg (gC n)).cells = gC n := rfl
        unfold Program.built
        simp only [hq, hfs, hz, hp]
        generalize z.cells = zc at *
        rw [Instr.fill]
        simp only [List.getElem?_toArray, List.getElem?_cons_zero]
        rw [v1, if_neg (by simp [hi.1]), Instr.fill]
        simp only [List.getElem?_toArray, List.getElem?_cons_succ, List.getElem?_cons_zero]
        rw [v2, if_neg (by rw [g1]; simp [hg, hi.1]), Instr.fill]
      obtain ⟨g1, g2⟩ := fold_arr #[Value.bool b] z.cells 0
      obtain ⟨f1, f2⟩ := fold_arr (gC n) ((#[Value.bool b] : Array Value).zipIdx.foldl (fun cs p => cs.setIfInBounds (0 + p.2) p.1) z.cells) 1
      rw [hb]
      congr 1
      apply Array.ext_getElem?
      intro k
      rw [f2 k, g1, hi.1]
      by_cases h0 : k = 0
      · subst h0
        rw [if_neg (by omega), g2 0, if_pos (by rw [hi.1]; simp), k2]
        rfl
      · obtain ⟨i, rfl⟩ : ∃ i, k = 1 + i := ⟨k - 1, by omega⟩
        by_cases h1 : i < 99
        · rw [if_pos (by rw [hg]; omega), k3 i h1]
          congr 1
          omega
        · rw [if_neg (by omega), g2, if_neg (by simp), Array.getElem?_eq_none (by omega), Array.getElem?_eq_none (by omega)]
/-- A number with a sign stands behind that pointer. -/
structure SG (w : World) (b : Nat) (z : Int) : Prop where
  sign : w.cell? ⟨b, 0, none⟩ = some (.bool (decide (z < 0)))
  mag : GA w b 1 z.natAbs
theorem SG.below {w w' : World} {b B : Nat} {z : Int} (h : SG w b z) (hb : Below B w w') (hB : b < B) : SG w' b z :=
  ⟨(hb.cell (p := ⟨b, 0, none⟩) hB).trans h.sign, h.mag.below hb hB⟩
theorem SG.lt {w : World} {b : Nat} {z : Int} (h : SG w b z) : b < w.heap.size := h.mag.lt
/-- A sign and a size are put together. -/
theorem wpS_build {ops : Array Oper} {rest : List Oper} {o : Oper} {a : Act} {w : World} {Q : Exit → Act → World → Prop} (hgd : o.guard = none) (x y : Operand) (ho : o.op = .build 102 #[(0, x), (1, y)])
    (s : Bool) (n : Nat) (hx : a.eval x = .bool s) (hy : a.eval y = .agg (gC n)) (hl : (limbs n).length ≤ 98)
    (h : wpList Try.prog ops Q rest (a.put o.dst (.agg (sC s n))) w) : wpList Try.prog ops Q (o :: rest) a w := by
  have hb := built_signed s n hl
  have e : ((#[(0, x), (1, y)] : Array (Nat × Operand)).map fun (i, x) => (i, a.eval x)).toList = [(0, Value.bool s), (1, Value.agg (gC n))] := by simp [hx, hy]
  refine wpList_build hgd 102 _ ho ?_ ?_
  · rw [e, hb]; rfl
  · rw [e, hb]
    exact h
set_option maxRecDepth 20000 in
theorem SG.made (w : World) (s : Bool) (n : Nat) (hl : (limbs n).length ≤ 98) : (w.alloc (.cells (sC s n) 102)).cell? ⟨w.heap.size, 0, none⟩ = some (.bool s) ∧ GA (w.alloc (.cells (sC s n) 102)) w.heap.size 1 n := by
  obtain ⟨h1, h2, h3⟩ := sC_facts s n hl
  have hb : (w.alloc (.cells (sC s n) 102)).heap[w.heap.size]? = some (.cells (sC s n) 102) := heap_alloc_new w _
  have hc : ∀ i, (w.alloc (.cells (sC s n) 102)).cell? ⟨w.heap.size, i, none⟩ = (sC s n)[i]? := fun i => by unfold World.cell?; rw [hb]; rfl
  refine ⟨by rw [hc, h2], fun i hi => ?_, ?_, hl⟩
  · rw [hc, h3 i (by omega)]
    have hp := pad_len hl
    unfold gC gcell
    rw [← pad_getD]
    simp [List.getElem?_append_left, hp, hi, List.getD_eq_getElem?_getD]
  · rw [hc, h3 98 (by omega)]
    have hp := pad_len hl
    unfold gC gcell
    simp [List.getElem?_append, hp]

set_option maxRecDepth 20000 in
set_option maxHeartbeats 1600000 in
/-- newSigned: a sign and a size; 0 has no sign. -/
theorem newSigned_c (s : Bool) (n : Nat) (w : World) (hl : (limbs n).length ≤ 98) :
    Calls Try.prog 63 #[.bool s, .agg (gC n)] w fun e w' => ∃ b, e = .returned (.pointer (some ⟨b, 0, none⟩)) ∧ w.heap.size ≤ b ∧ SG w' b (if s = true then -(n : Int) else (n : Int)) ∧ Below w.heap.size w w' := by
  have G0 := GN.made w n hl
  have hA := GN.ga G0 hl
  have c98 := GB.size G0
  have B0 := alloc_below w (.cells (gC n) 97)
  have hs0 : (w.alloc (.cells (gC n) 97)).heap.size = w.heap.size + 1 := by simp
  obtain ⟨z, hz⟩ : ∃ z, (if s = true then -(n : Int) else (n : Int)) = z := ⟨_, rfl⟩
  rw [hz]
  cases s
  · have hz' : z = (n : Int) := by rw [← hz]; simp
    have M := SG.made (w.alloc (.cells (gC n) 97)) false n hl
    rw [hs0] at M
    have HM : Hid (((w.alloc (.cells (gC n) 97)).alloc (.cells (sC false n) 102)).cell? ⟨w.heap.size + 1, 0, none⟩ = some (.bool false) ∧ GA ((w.alloc (.cells (gC n) 97)).alloc (.cells (sC false n) 102)) (w.heap.size + 1) 1 n) := M
    have B1 := B0.alloc (by simp) (.cells (sC false n) 102)
    have HC : Hid (decide (z < 0) = false ∧ z.natAbs = n) := ⟨decide_eq_false (by omega), by omega⟩
    clear M hz hz'
    go_enter Try.func63, Try.ntmps63
    go_wp2_with (first | (refine wpA_load rfl (.tmp 3) rfl w.heap.size 0 n rfl hA ?_) | (refine wpS_build rfl (.tmp 10) (.tmp 11) rfl false n rfl rfl hl ?_))
    go_ret
    exact ⟨w.heap.size + 1, rfl, by omega, ⟨by rw [HC.out.1]; exact HM.out.1, by rw [HC.out.2]; exact HM.out.2⟩, B1⟩
  · have hz' : z = -(n : Int) := by rw [← hz]; simp
    by_cases h0 : n = 0
    · have e0 : (limbs n).length = 0 := by rw [h0, limbs_zero]; rfl
      rw [e0] at c98
      have M := SG.made (w.alloc (.cells (gC n) 97)) false n hl
      rw [hs0] at M
      have HM : Hid (((w.alloc (.cells (gC n) 97)).alloc (.cells (sC false n) 102)).cell? ⟨w.heap.size + 1, 0, none⟩ = some (.bool false) ∧ GA ((w.alloc (.cells (gC n) 97)).alloc (.cells (sC false n) 102)) (w.heap.size + 1) 1 n) := M
      have B1 := B0.alloc (by simp) (.cells (sC false n) 102)
      have HC : Hid (decide (z < 0) = false ∧ z.natAbs = n) := ⟨decide_eq_false (by omega), by omega⟩
      clear M hz hz' h0 e0
      go_enter Try.func63, Try.ntmps63
      go_wp2_with (first | (refine wpA_load rfl (.tmp 3) rfl w.heap.size 0 n rfl hA ?_) | (refine wpS_build rfl (.tmp 10) (.tmp 11) rfl false n rfl rfl hl ?_))
      go_ret
      exact ⟨w.heap.size + 1, rfl, by omega, ⟨by rw [HC.out.1]; exact HM.out.1, by rw [HC.out.2]; exact HM.out.2⟩, B1⟩
    · have hp : 0 < (limbs n).length := by rw [limbs_pos n (by omega)]; simp
      have q : decide ((0 : Int) < ((limbs n).length : Int)) = true := decide_eq_true (by omega)
      have M := SG.made (w.alloc (.cells (gC n) 97)) true n hl
      rw [hs0] at M
      have HM : Hid (((w.alloc (.cells (gC n) 97)).alloc (.cells (sC true n) 102)).cell? ⟨w.heap.size + 1, 0, none⟩ = some (.bool true) ∧ GA ((w.alloc (.cells (gC n) 97)).alloc (.cells (sC true n) 102)) (w.heap.size + 1) 1 n) := M
      have B1 := B0.alloc (by simp) (.cells (sC true n) 102)
      have HC : Hid (decide (z < 0) = true ∧ z.natAbs = n) := ⟨decide_eq_true (by omega), by omega⟩
      clear M hz hz'
      go_enter Try.func63, Try.ntmps63
      go_wp2_with (first | (refine wpA_load rfl (.tmp 3) rfl w.heap.size 0 n rfl hA ?_) | (refine wpS_build rfl (.tmp 10) (.tmp 11) rfl true n rfl rfl hl ?_))
      go_ret
      exact ⟨w.heap.size + 1, rfl, by omega, ⟨by rw [HC.out.1]; exact HM.out.1, by rw [HC.out.2]; exact HM.out.2⟩, B1⟩

end Go.Proofs.Ytlpfjpbnedankaa
