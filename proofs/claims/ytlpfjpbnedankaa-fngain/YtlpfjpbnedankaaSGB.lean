/- Several small texts in one: SG, IWholeOk, SFrom, Bt. -/
import Derived.Test.YtlpfjpbnedankaaGB
import Derived.Test.YtlpfjpbnedankaaBase
import Derived.Laws.CopyRow
/- The program's numbers with a sign inside: a sign and a great number behind a pointer (no walk, but newSigned). -/
namespace Go.Proofs.Ytlpfjpbnedankaa
open Go.RowKit
set_option linter.unusedSimpArgs false

theorem fold_get : ∀ (l : List Value) (s off : Nat) (cs : Array Value), ((l.zipIdx s).foldl (fun cs p => cs.setIfInBounds (off + p.2) p.1) cs).size = cs.size ∧ ∀ k : Nat, ((l.zipIdx s).foldl (fun cs p => cs.setIfInBounds (off + p.2) p.1) cs)[k]? = if off + s ≤ k ∧ k < off + s + l.length ∧ k < cs.size then l[k - (off + s)]? else cs[k]? := by
  intro l
  induction l with
  | nil =>
    intro s off cs
    refine ⟨rfl, fun k => ?_⟩
    rw [if_neg (by simp; omega)]
    rfl
  | cons v r ih =>
    intro s off cs
    obtain ⟨h1, h2⟩ := ih (s + 1) off (cs.setIfInBounds (off + s) v)
    rw [List.zipIdx_cons, List.foldl_cons]
    refine ⟨by rw [h1]; simp, fun k => ?_⟩
    rw [h2 k]
    have hsz : (cs.setIfInBounds (off + s) v).size = cs.size := by simp
    rw [hsz, Array.getElem?_setIfInBounds, List.length_cons]
    by_cases e : k = off + s
    · subst e
      by_cases hk : off + s < cs.size
      · rw [if_neg (by omega), if_pos rfl, if_pos hk, if_pos (by omega)]
        simp
      · rw [if_neg (by omega), if_pos rfl, if_neg hk, if_neg (by omega), Array.getElem?_eq_none (by omega)]
    · by_cases hin : off + s ≤ k ∧ k < off + s + (r.length + 1) ∧ k < cs.size
      · rw [if_pos (by omega), if_pos hin]
        rw [show k - (off + s) = (k - (off + (s + 1))) + 1 by omega, List.getElem?_cons_succ]
      · rw [if_neg (by omega), if_neg hin, if_neg (fun q => e q.symm)]
theorem fold_arr (v cs : Array Value) (off : Nat) : (v.zipIdx.foldl (fun cs p => cs.setIfInBounds (off + p.2) p.1) cs).size = cs.size ∧ ∀ k : Nat, (v.zipIdx.foldl (fun cs p => cs.setIfInBounds (off + p.2) p.1) cs)[k]? = if off ≤ k ∧ k < off + v.size ∧ k < cs.size then v[k - off]? else cs[k]? := by
  have e : v.zipIdx.foldl (fun cs p => cs.setIfInBounds (off + p.2) p.1) cs = (v.toList.zipIdx 0).foldl (fun cs p => cs.setIfInBounds (off + p.2) p.1) cs := by
    rw [← Array.foldl_toList, Array.toList_zipIdx]
  rw [e]
  obtain ⟨h1, h2⟩ := fold_get v.toList 0 off cs
  refine ⟨h1, fun k => ?_⟩
  rw [h2 k]
  simp

/-- The cells of a sign and a number. -/
def sC (b : Bool) (n : Nat) : Array Value := (Value.bool b :: (gC n).toList).toArray
theorem signed_info : (Try.prog.info? 102).map (fun i => (i.zero.map (·.cells.size), i.size)) = some (some 100, 100) := by kernel_rfl
theorem sC_facts (b : Bool) (n : Nat) (hl : (limbs n).length ≤ 98) : (sC b n).size = 100 ∧ (sC b n)[0]? = some (.bool b) ∧ ∀ i : Nat, i < 99 → (sC b n)[1 + i]? = (gC n)[i]? := by
  have hg : (gC n).size = 99 := gcell_size (pad_len hl) _
  refine ⟨by simp [sC, hg], by simp [sC], fun i _ => ?_⟩
  rw [Nat.add_comm]
  simp [sC]
set_option maxRecDepth 20000 in
theorem built_signed (b : Bool) (n : Nat) (hl : (limbs n).length ≤ 98) : Try.prog.built 102 [(0, .bool b), (1, .agg (gC n))] = some (sC b n) := by
  have hi := signed_info
  have hg : (gC n).size = 99 := gcell_size (pad_len hl) _
  obtain ⟨k1, k2, k3⟩ := sC_facts b n hl
  cases hq : Try.prog.info? 102 with
  | none => rw [hq] at hi; cases hi
  | some it =>
    rw [hq] at hi
    simp only [Option.map_some, Option.some.injEq, Prod.mk.injEq] at hi
    cases hz : it.zero with
    | none => rw [hz] at hi; simp at hi
    | some z =>
      rw [hz] at hi
      simp only [Option.map_some, Option.some.injEq] at hi
      obtain ⟨fs, hfs, hp⟩ : ∃ fs, Try.prog.underlying 102 = some (.struct fs) ∧ fs.toList.mapM (fun f => (Try.prog.info? f.type).map fun i => (f.offset, i.size)) = some [(0, 1), (1, 99)] := ⟨_, Try.underlying102, by kernel_rfl⟩
      have hb : Try.prog.built 102 [(0, .bool b), (1, .agg (gC n))] = some ((gC n).zipIdx.foldl (fun cs p => cs.setIfInBounds (1 + p.2) p.1) ((#[Value.bool b] : Array Value).zipIdx.foldl (fun cs p => cs.setIfInBounds (0 + p.2) p.1) z.cells)) := by
        obtain ⟨g1, -⟩ := fold_arr #[Value.bool b] z.cells 0
        have v1 : (Value.bool b).cells = #[Value.bool b] := rfl
        have v2 : (Value.agg (gC n)).cells = gC n := rfl
        unfold Program.built
        simp only [hq, hfs, hz, hp]
        generalize z.cells = zc at *
        rw [Instr.fill]
        simp only [List.getElem?_toArray, List.getElem?_cons_zero]
        rw [v1, if_neg (by simp [hi.1]), Instr.fill]
        simp only [List.getElem?_toArray, List.getElem?_cons_succ, List.getElem?_cons_zero]
        rw [v2, if_neg (by rw [g1]; simp [hg, hi.1]), Instr.fill]
      obtain ⟨g1, g2⟩ := fold_arr #[Value.bool b] z.cells 0
      obtain ⟨f1, f2⟩ := fold_arr (gC n) ((#[Value.bool b] : Array Value).zipIdx.foldl (fun cs p => cs.setIfInBounds (0 + p.2) p.1) z.cells) 1
      rw [hb]
      congr 1
      apply Array.ext_getElem?
      intro k
      rw [f2 k, g1, hi.1]
      by_cases h0 : k = 0
      · subst h0
        rw [if_neg (by omega), g2 0, if_pos (by rw [hi.1]; simp), k2]
        rfl
      · obtain ⟨i, rfl⟩ : ∃ i, k = 1 + i := ⟨k - 1, by omega⟩
        by_cases h1 : i < 99
        · rw [if_pos (by rw [hg]; omega), k3 i h1]
          congr 1
          omega
        · rw [if_neg (by omega), g2, if_neg (by simp), Array.getElem?_eq_none (by omega), Array.getElem?_eq_none (by omega)]
/-- A number with a sign stands behind that pointer. -/
structure SG (w : World) (b : Nat) (z : Int) : Prop where
  sign : w.cell? ⟨b, 0, none⟩ = some (.bool (decide (z < 0)))
  mag : GA w b 1 z.natAbs
theorem SG.below {w w' : World} {b B : Nat} {z : Int} (h : SG w b z) (hb : Below B w w') (hB : b < B) : SG w' b z :=
  ⟨(hb.cell (p := ⟨b, 0, none⟩) hB).trans h.sign, h.mag.below hb hB⟩
theorem SG.lt {w : World} {b : Nat} {z : Int} (h : SG w b z) : b < w.heap.size := h.mag.lt
/-- A sign and a size are put together. -/
theorem wpS_build {ops : Array Oper} {rest : List Oper} {o : Oper} {a : Act} {w : World} {Q : Exit → Act → World → Prop} (hgd : o.guard = none) (x y : Operand) (ho : o.op = .build 102 #[(0, x), (1, y)])
    (s : Bool) (n : Nat) (hx : a.eval x = .bool s) (hy : a.eval y = .agg (gC n)) (hl : (limbs n).length ≤ 98)
    (h : wpList Try.prog ops Q rest (a.put o.dst (.agg (sC s n))) w) : wpList Try.prog ops Q (o :: rest) a w := by
  have hb := built_signed s n hl
  have e : ((#[(0, x), (1, y)] : Array (Nat × Operand)).map fun (i, x) => (i, a.eval x)).toList = [(0, Value.bool s), (1, Value.agg (gC n))] := by simp [hx, hy]
  refine wpList_build hgd 102 _ ho ?_ ?_
  · rw [e, hb]; rfl
  · rw [e, hb]
    exact h
set_option maxRecDepth 20000 in
theorem SG.made (w : World) (s : Bool) (n : Nat) (hl : (limbs n).length ≤ 98) : (w.alloc (.cells (sC s n) 102)).cell? ⟨w.heap.size, 0, none⟩ = some (.bool s) ∧ GA (w.alloc (.cells (sC s n) 102)) w.heap.size 1 n := by
  obtain ⟨h1, h2, h3⟩ := sC_facts s n hl
  have hb : (w.alloc (.cells (sC s n) 102)).heap[w.heap.size]? = some (.cells (sC s n) 102) := heap_alloc_new w _
  have hc : ∀ i, (w.alloc (.cells (sC s n) 102)).cell? ⟨w.heap.size, i, none⟩ = (sC s n)[i]? := fun i => by unfold World.cell?; rw [hb]; rfl
  refine ⟨by rw [hc, h2], fun i hi => ?_, ?_, hl⟩
  · rw [hc, h3 i (by omega)]
    have hp := pad_len hl
    unfold gC gcell
    rw [← pad_getD]
    simp [List.getElem?_append_left, hp, hi, List.getD_eq_getElem?_getD]
  · rw [hc, h3 98 (by omega)]
    have hp := pad_len hl
    unfold gC gcell
    simp [List.getElem?_append, hp]

set_option maxRecDepth 20000 in
set_option maxHeartbeats 1600000 in
/-- newSigned: a sign and a size; 0 has no sign. -/
theorem newSigned_c (s : Bool) (n : Nat) (w : World) (hl : (limbs n).length ≤ 98) :
    Calls Try.prog 63 #[.bool s, .agg (gC n)] w fun e w' => ∃ b, e = .returned (.pointer (some ⟨b, 0, none⟩)) ∧ w.heap.size ≤ b ∧ SG w' b (if s = true then -(n : Int) else (n : Int)) ∧ Below w.heap.size w w' := by
  have G0 := GN.made w n hl
  have hA := GN.ga G0 hl
  have c98 := GB.size G0
  have B0 := alloc_below w (.cells (gC n) 97)
  have hs0 : (w.alloc (.cells (gC n) 97)).heap.size = w.heap.size + 1 := by simp
  obtain ⟨z, hz⟩ : ∃ z, (if s = true then -(n : Int) else (n : Int)) = z := ⟨_, rfl⟩
  rw [hz]
  cases s
  · have hz' : z = (n : Int) := by rw [← hz]; simp
    have M := SG.made (w.alloc (.cells (gC n) 97)) false n hl
    rw [hs0] at M
    have HM : Hid (((w.alloc (.cells (gC n) 97)).alloc (.cells (sC false n) 102)).cell? ⟨w.heap.size + 1, 0, none⟩ = some (.bool false) ∧ GA ((w.alloc (.cells (gC n) 97)).alloc (.cells (sC false n) 102)) (w.heap.size + 1) 1 n) := M
    have B1 := B0.alloc (by simp) (.cells (sC false n) 102)
    have HC : Hid (decide (z < 0) = false ∧ z.natAbs = n) := ⟨decide_eq_false (by omega), by omega⟩
    clear M hz hz'
    go_enter Try.func63, Try.ntmps63
    go_wp2_with (first | (refine wpA_load rfl (.tmp 3) rfl w.heap.size 0 n rfl hA ?_) | (refine wpS_build rfl (.tmp 10) (.tmp 11) rfl false n rfl rfl hl ?_))
    go_ret
    exact ⟨w.heap.size + 1, rfl, by omega, ⟨by rw [HC.out.1]; exact HM.out.1, by rw [HC.out.2]; exact HM.out.2⟩, B1⟩
  · have hz' : z = -(n : Int) := by rw [← hz]; simp
    by_cases h0 : n = 0
    · have e0 : (limbs n).length = 0 := by rw [h0, limbs_zero]; rfl
      rw [e0] at c98
      have M := SG.made (w.alloc (.cells (gC n) 97)) false n hl
      rw [hs0] at M
      have HM : Hid (((w.alloc (.cells (gC n) 97)).alloc (.cells (sC false n) 102)).cell? ⟨w.heap.size + 1, 0, none⟩ = some (.bool false) ∧ GA ((w.alloc (.cells (gC n) 97)).alloc (.cells (sC false n) 102)) (w.heap.size + 1) 1 n) := M
      have B1 := B0.alloc (by simp) (.cells (sC false n) 102)
      have HC : Hid (decide (z < 0) = false ∧ z.natAbs = n) := ⟨decide_eq_false (by omega), by omega⟩
      clear M hz hz' h0 e0
      go_enter Try.func63, Try.ntmps63
      go_wp2_with (first | (refine wpA_load rfl (.tmp 3) rfl w.heap.size 0 n rfl hA ?_) | (refine wpS_build rfl (.tmp 10) (.tmp 11) rfl false n rfl rfl hl ?_))
      go_ret
      exact ⟨w.heap.size + 1, rfl, by omega, ⟨by rw [HC.out.1]; exact HM.out.1, by rw [HC.out.2]; exact HM.out.2⟩, B1⟩
    · have hp : 0 < (limbs n).length := by rw [limbs_pos n (by omega)]; simp
      have q : decide ((0 : Int) < ((limbs n).length : Int)) = true := decide_eq_true (by omega)
      have M := SG.made (w.alloc (.cells (gC n) 97)) true n hl
      rw [hs0] at M
      have HM : Hid (((w.alloc (.cells (gC n) 97)).alloc (.cells (sC true n) 102)).cell? ⟨w.heap.size + 1, 0, none⟩ = some (.bool true) ∧ GA ((w.alloc (.cells (gC n) 97)).alloc (.cells (sC true n) 102)) (w.heap.size + 1) 1 n) := M
      have B1 := B0.alloc (by simp) (.cells (sC true n) 102)
      have HC : Hid (decide (z < 0) = true ∧ z.natAbs = n) := ⟨decide_eq_true (by omega), by omega⟩
      clear M hz hz'
      go_enter Try.func63, Try.ntmps63
      go_wp2_with (first | (refine wpA_load rfl (.tmp 3) rfl w.heap.size 0 n rfl hA ?_) | (refine wpS_build rfl (.tmp 10) (.tmp 11) rfl true n rfl rfl hl ?_))
      go_ret
      exact ⟨w.heap.size + 1, rfl, by omega, ⟨by rw [HC.out.1]; exact HM.out.1, by rw [HC.out.2]; exact HM.out.2⟩, B1⟩

end Go.Proofs.Ytlpfjpbnedankaa

/- The program's WholeOk, by its contract. -/
namespace Go.Proofs.Ytlpfjpbnedankaa
open Go.RowKit

set_option maxHeartbeats 1600000 in
theorem iWholeOk (va : Value) (a : Wh) (w : World) (ha : rowW w va a) (hl : a.2.length ≤ 1048576) :
    Calls Try.prog 66 #[va] w fun e w' => e = .returned (.bool (okW a)) ∧ Below w.heap.size w w' := by
  obtain ⟨s, rfl, hs⟩ := ha
  obtain ⟨n, xs⟩ := a
  have ka := fun W (h : Below w.heap.size w W) => iNatOk s xs W (hs.below h (Nat.le_refl _)) (by show xs.length ≤ _; have : xs.length ≤ 1048576 := hl; omega)
  obtain ⟨ad, cap, rfl, -⟩ := id hs
  have hw : okW (n, xs) = (okB xs && (!n || decide (0 < xs.length))) := rfl
  have HW : Hid (okW (n, xs) = (okB xs && (!n || decide (0 < xs.length)))) := hw
  obtain ⟨b, hb⟩ : ∃ b, okB xs = b := ⟨_, rfl⟩
  rw [hb] at HW ka
  clear hw hb hs
  by_cases h0 : xs.length = 0
  · have e0 : ((xs.length : Int) == 0) = true := by rw [h0]; rfl
    have HP : Hid (decide (0 < xs.length) = false) := by show _ = _; rw [h0]; rfl
    clear h0
    cases b <;> cases n
    all_goals
      go_enter Try.func66, Try.ntmps66
      go_wp2_with fail
      refine (ka _ ((Below.refl w.heap.size w).alloc (Nat.le_refl _) _)).mono ?_
      rintro e w1 ⟨rfl, rfl⟩
      go_wp2
      go_ret
      exact ⟨by rw [HW.out, HP.out]; simp, (Below.refl w.heap.size w).alloc (Nat.le_refl _) _⟩
  · have e0 : ((xs.length : Int) == 0) = false := by rw [beq_eq_false_iff_ne]; omega
    have HP : Hid (decide (0 < xs.length) = true) := decide_eq_true (by omega)
    clear h0
    cases b <;> cases n
    all_goals
      go_enter Try.func66, Try.ntmps66
      go_wp2_with fail
      refine (ka _ ((Below.refl w.heap.size w).alloc (Nat.le_refl _) _)).mono ?_
      rintro e w1 ⟨rfl, rfl⟩
      go_wp2
      go_ret
      exact ⟨by rw [HW.out, HP.out]; simp, (Below.refl w.heap.size w).alloc (Nat.le_refl _) _⟩

end Go.Proofs.Ytlpfjpbnedankaa

/- The program's signedFrom, signed.small, signed.order, each by its contract. -/
namespace Go.Proofs.Ytlpfjpbnedankaa
open Go.RowKit

theorem okW_ok {a : Wh} (h : okW a = true) : okB a.2 = true := by
  unfold okW at h
  simp at h
  exact h.1

set_option maxRecDepth 20000 in
set_option maxHeartbeats 1600000 in
theorem sFromYes (va : Value) (a : Wh) (w : World) (ha : rowW w va a) (hl : a.2.length ≤ 1048576) (hok : okW a = true) :
    Calls Try.prog 33 #[va] w fun e w' => ∃ b, e = .returned (.tuple #[.pointer (some ⟨b, 0, none⟩), .bool true]) ∧ w.heap.size ≤ b ∧ SG w' b (valW a) ∧ Below w.heap.size w w' := by
  have kO := fun W (h : Below w.heap.size w W) => iWholeOk va a W (ha.below h (Nat.le_refl _)) hl
  rw [hok] at kO
  obtain ⟨s, rfl, hs⟩ := ha
  have hf : fromN a.2 = num a.2 := by unfold fromN; rw [if_pos (okW_ok hok)]
  have kF := fun W (h : Below w.heap.size w W) => gFrom s a.2 W (hs.below h (Nat.le_refl _)) hl
  have l1 := fromN_len a.2
  rw [hf, okW_ok hok] at kF
  rw [hf] at l1
  have hl1 : (limbs (num a.2)).length ≤ 98 := by omega
  have kN := fun W => newSigned_c a.1 (num a.2) W hl1
  have hv : (if a.1 = true then -(num a.2 : Int) else (num a.2 : Int)) = valW a := rfl
  simp only [hv] at kN
  obtain ⟨ad, cap, rfl, -⟩ := id hs
  generalize num a.2 = n at *
  generalize valW a = z at *
  generalize a.1 = g at *
  generalize a.2.length = len at *
  have B0 := below1 w (.cells #[.bool g, .slice ad len cap] 27)
  have X0 := BoxW.made w (.bool g) (.slice ad len cap) 27
  clear hs hv hf hok
  go_enter Try.func33, Try.ntmps33
  go_wp2_with fail
  refine (kO _ B0).mono ?_
  rintro e w1 ⟨rfl, b1⟩
  generalize w.alloc (.cells #[.bool g, .slice ad len cap] 27) = w0 at *
  have X1 := X0.below b1 (Nat.le_refl _)
  have B1 := B0.trans (b1.mono B0.size)
  have c0 := X1.c0
  have c1 := X1.c1
  clear X0 B0 b1 kO
  go_wp2_with fail
  refine (kF _ B1).mono ?_
  rintro e w2 ⟨rfl, b2⟩
  have X2 := X1.below b2 (Nat.le_refl _)
  have B2 := B1.trans (b2.mono B1.size)
  have P0 := GB.made0 w2
  have B3 := B2.alloc B2.size (.cells Try.zeroCells97 97)
  have X3 := X2.below (below1 w2 (.cells Try.zeroCells97 97)) (Nat.le_refl _)
  have hx2 := X2.hi
  have hb2 := B2.size
  clear X1 B1 b2 c0 c1 kF
  go_wp2_with (first
    | (go_at_call 63
       refine (kN _).mono ?_
       rintro e w5 ⟨b5, rfl, h5, s5, b5'⟩)
    | ((with_reducible (refine wpL_id ?_)); refine wpN_store rfl (.tmp 4) (.tmp 13) rfl w2.heap.size _ _ n rfl rfl P0 hl1 ?_; intro w4 P4 t4 s4; have B4 := t4.below B3 B3.size (by simp; omega); have X4 := X3.tn t4 (fun k hk => by simp at hk ⊢; omega); have c4 := X4.c0; have A4 := GN.ga P4 hl1)
    | ((with_reducible (refine wpL_id ?_)); refine wpA_load rfl (.tmp 4) rfl w2.heap.size 0 n rfl A4 ?_))
  go_ret2
  exact ⟨b5, rfl, Nat.le_trans B4.size h5, s5, B4.trans (b5'.mono B4.size)⟩

set_option maxRecDepth 20000 in
set_option maxHeartbeats 1600000 in
theorem sFromNo (va : Value) (a : Wh) (w : World) (ha : rowW w va a) (hl : a.2.length ≤ 1048576) (hok : okW a = false) :
    Calls Try.prog 33 #[va] w fun e w' => e = .returned (.tuple #[.pointer none, .bool false]) ∧ Below w.heap.size w w' := by
  have kO := fun W (h : Below w.heap.size w W) => iWholeOk va a W (ha.below h (Nat.le_refl _)) hl
  rw [hok] at kO
  obtain ⟨s, rfl, hs⟩ := ha
  obtain ⟨ad, cap, rfl, -⟩ := id hs
  generalize a.1 = g at *
  generalize a.2.length = len at *
  have B0 := below1 w (.cells #[.bool g, .slice ad len cap] 27)
  clear hs hok
  go_enter Try.func33, Try.ntmps33
  go_wp2_with fail
  refine (kO _ B0).mono ?_
  rintro e w1 ⟨rfl, b1⟩
  go_wp2
  go_ret2
  exact ⟨rfl, B0.trans (b1.mono B0.size)⟩

end Go.Proofs.Ytlpfjpbnedankaa

/- The program's type between: a great number, whether nothing is above it, and how what is above stands to a half (no walk of the program). -/
namespace Go.Proofs.Ytlpfjpbnedankaa
open Go.RowKit
set_option linter.unusedSimpArgs false

/-- The cells of a between. -/
def bC (n : Nat) (s : Bool) (h : Int) : Array Value := ((gC n).toList ++ [Value.bool s, Value.int .i64 h]).toArray
theorem between_info : (Try.prog.info? 143).map (fun i => (i.zero.map (·.cells.size), i.size)) = some (some 101, 101) := by kernel_rfl
theorem between_size : (Try.prog.info? 143).map (·.size) = some 101 := by kernel_rfl
theorem bC_facts (n : Nat) (s : Bool) (h : Int) (hl : (limbs n).length ≤ 98) : (bC n s h).size = 101 ∧ (∀ i : Nat, i < 99 → (bC n s h)[i]? = (gC n)[i]?) ∧ (bC n s h)[99]? = some (.bool s) ∧ (bC n s h)[100]? = some (.int .i64 h) := by
  have hg : (gC n).size = 99 := gcell_size (pad_len hl) _
  refine ⟨by simp [bC, hg], fun i hi => ?_, ?_, ?_⟩
  · simp [bC, List.getElem?_append_left, hg, hi]
  · simp [bC, List.getElem?_append_right, hg]
  · simp [bC, List.getElem?_append_right, hg]
theorem bC_one (n : Nat) (s : Bool) (h : Int) : (bC n s h).all (·.oneCell') = true := by
  have := gcell_one (pad (limbs n)) ((limbs n).length : Int)
  unfold bC gC
  rw [Array.all_eq_true_iff_forall_mem] at this ⊢
  intro x hx
  simp only [List.mem_toArray, List.mem_append] at hx
  rcases hx with hx | hx
  · exact this x (by simpa using hx)
  · simp at hx
    rcases hx with rfl | rfl <;> rfl

set_option maxHeartbeats 3200000 in
set_option maxRecDepth 20000 in
theorem built_between (n : Nat) (s : Bool) (h : Int) (hl : (limbs n).length ≤ 98) : Try.prog.built 143 [(0, .agg (gC n)), (1, .bool s), (2, .int .i64 h)] = some (bC n s h) := by
  have hi := between_info
  have hg : (gC n).size = 99 := gcell_size (pad_len hl) _
  obtain ⟨k1, k2, k3, k4⟩ := bC_facts n s h hl
  cases hq : Try.prog.info? 143 with
  | none => rw [hq] at hi; cases hi
  | some it =>
    rw [hq] at hi
    simp only [Option.map_some, Option.some.injEq, Prod.mk.injEq] at hi
    cases hz : it.zero with
    | none => rw [hz] at hi; simp at hi
    | some z =>
      rw [hz] at hi
      simp only [Option.map_some, Option.some.injEq] at hi
      obtain ⟨fs, hfs, hp⟩ : ∃ fs, Try.prog.underlying 143 = some (.struct fs) ∧ fs.toList.mapM (fun f => (Try.prog.info? f.type).map fun i => (f.offset, i.size)) = some [(0, 99), (99, 1), (100, 1)] := ⟨_, Try.underlying143, by kernel_rfl⟩
      obtain ⟨f1, g1⟩ := fold_arr (gC n) z.cells 0
      obtain ⟨f2, g2⟩ := fold_arr #[Value.bool s] ((gC n).zipIdx.foldl (fun cs p => cs.setIfInBounds (0 + p.2) p.1) z.cells) 99
      obtain ⟨f3, g3⟩ := fold_arr #[Value.int .i64 h] ((#[Value.bool s] : Array Value).zipIdx.foldl (fun cs p => cs.setIfInBounds (99 + p.2) p.1) ((gC n).zipIdx.foldl (fun cs p => cs.setIfInBounds (0 + p.2) p.1) z.cells)) 100
      have hb : Try.prog.built 143 [(0, .agg (gC n)), (1, .bool s), (2, .int .i64 h)] = some ((#[Value.int .i64 h] : Array Value).zipIdx.foldl (fun cs p => cs.setIfInBounds (100 + p.2) p.1) ((#[Value.bool s] : Array Value).zipIdx.foldl (fun cs p => cs.setIfInBounds (99 + p.2) p.1) ((gC n).zipIdx.foldl (fun cs p => cs.setIfInBounds (0 + p.2) p.1) z.cells))) := by
        have v1 : (Value.bool s).cells = #[Value.bool s] := rfl
        have v2 : (Value.agg (gC n)).cells = gC n := rfl
        have v3 : (Value.int .i64 h).cells = #[Value.int .i64 h] := rfl
        unfold Program.built
        simp only [hq, hfs, hz, hp]
        generalize z.cells = zc at *
        rw [Instr.fill]
        simp only [List.getElem?_toArray, List.getElem?_cons_zero]
        rw [v2, if_neg (by simp [hg, hi.1]), Instr.fill]
        simp only [List.getElem?_toArray, List.getElem?_cons_succ, List.getElem?_cons_zero]
        rw [v1, if_neg (by rw [f1]; simp [hi.1]), Instr.fill]
        simp only [List.getElem?_toArray, List.getElem?_cons_succ, List.getElem?_cons_zero]
        rw [v3, if_neg (by rw [f2, f1]; simp [hi.1]), Instr.fill]
      rw [hb]
      refine congrArg some ?_
      apply Array.ext_getElem?
      intro k
      rw [g3 k, g2 k, g1 k, f2, f1, hi.1, hg]
      by_cases h0 : k < 99
      · rw [if_neg (by omega), if_neg (by omega), if_pos (by omega), k2 k h0]
        rfl
      · by_cases h1 : k = 99
        · subst h1
          rw [if_neg (by omega), if_pos (by simp), k3]
          rfl
        · by_cases h2 : k = 100
          · subst h2
            rw [if_pos (by simp), k4]
            rfl
          · rw [if_neg (by simp; omega), if_neg (by simp; omega), if_neg (by omega), Array.getElem?_eq_none (by omega), Array.getElem?_eq_none (by omega)]

/-- A block that holds a between. -/
structure BN (w : World) (b n : Nat) (s : Bool) (h : Int) : Prop where
  blk : w.heap[b]? = some (.cells (bC n s h) 143 (0, 0))
  len : (limbs n).length ≤ 98
theorem BN.lt {w : World} {b n : Nat} {s : Bool} {h : Int} (q : BN w b n s h) : b < w.heap.size := by
  by_cases hlt : b < w.heap.size
  · exact hlt
  · have hn : w.heap[b]? = none := by simp; omega
    rw [q.blk] at hn; cases hn
theorem BN.below {w w' : World} {b B n : Nat} {s : Bool} {h : Int} (q : BN w b n s h) (hb : Below B w w') (hB : b < B) : BN w' b n s h := ⟨(hb.block b hB).trans q.blk, q.len⟩
theorem BN.tn {w w' : World} {b n : Nat} {s : Bool} {h : Int} {S : List Nat} (q : BN w b n s h) (ht : Tn S w w') (hS : b ∉ S) : BN w' b n s h := ⟨(ht.block b q.lt hS).trans q.blk, q.len⟩
theorem BN.drew {w : World} {b n : Nat} {s : Bool} {h : Int} (q : BN w b n s h) : BN w.drew b n s h := ⟨q.blk, q.len⟩
theorem BN.alloc {w : World} {b n : Nat} {s : Bool} {h : Int} (q : BN w b n s h) (o : Obj) : BN (w.alloc o) b n s h := ⟨(Below.heap_alloc w o b q.lt).trans q.blk, q.len⟩
theorem BN.made (w : World) (n : Nat) (s : Bool) (h : Int) (hl : (limbs n).length ≤ 98) : BN (w.alloc (.cells (bC n s h) 143)) w.heap.size n s h := ⟨heap_alloc_new w _, hl⟩
theorem BN.cell {w : World} {b n : Nat} {s : Bool} {h : Int} (q : BN w b n s h) (i : Nat) : w.cell? ⟨b, i, none⟩ = (bC n s h)[i]? := cell_of_row w b i _ _ _ q.blk
theorem BN.whole {w : World} {b n : Nat} {s : Bool} {h : Int} (q : BN w b n s h) : w.cell? ⟨b, 99, none⟩ = some (.bool s) := by rw [q.cell, (bC_facts n s h q.len).2.2.1]
theorem BN.half {w : World} {b n : Nat} {s : Bool} {h : Int} (q : BN w b n s h) : w.cell? ⟨b, 100, none⟩ = some (.int .i64 h) := by rw [q.cell, (bC_facts n s h q.len).2.2.2]
theorem BN.ga {w : World} {b n : Nat} {s : Bool} {h : Int} (q : BN w b n s h) : GA w b 0 n := by
  have hp := pad_len q.len
  have f := (bC_facts n s h q.len).2.1
  refine ⟨fun i hi => ?_, ?_, q.len⟩
  · rw [q.cell, f _ (by omega)]
    unfold gC gcell
    rw [← pad_getD]
    simp [List.getElem?_append_left, hp, hi, List.getD_eq_getElem?_getD]
  · rw [q.cell, f _ (by omega)]
    unfold gC gcell
    simp [List.getElem?_append, hp]
/-- A block that may be written whole. -/
structure ZB (w : World) (b : Nat) : Prop where
  blk : ∃ cs, w.heap[b]? = some (.cells cs 143 (0, 0)) ∧ cs.size = 101
theorem ZB.lt {w : World} {b : Nat} (q : ZB w b) : b < w.heap.size := by
  obtain ⟨cs, h, -⟩ := q.blk
  by_cases hlt : b < w.heap.size
  · exact hlt
  · have hn : w.heap[b]? = none := by simp; omega
    rw [h] at hn; cases hn
theorem ZB.below {w w' : World} {b B : Nat} (q : ZB w b) (hb : Below B w w') (hB : b < B) : ZB w' b := by
  obtain ⟨cs, h, hs⟩ := q.blk
  exact ⟨cs, (hb.block b hB).trans h, hs⟩
theorem ZB.tn {w w' : World} {b : Nat} {S : List Nat} (q : ZB w b) (ht : Tn S w w') (hS : b ∉ S) : ZB w' b := by
  have hlt := q.lt
  obtain ⟨cs, h, hs⟩ := q.blk
  exact ⟨cs, (ht.block b hlt hS).trans h, hs⟩
theorem ZB.alloc {w : World} {b : Nat} (q : ZB w b) (o : Obj) : ZB (w.alloc o) b := q.below (alloc_below w o) q.lt
theorem ZB.drew {w : World} {b : Nat} (q : ZB w b) : ZB w.drew b := ⟨q.blk⟩
theorem ZB.made0 (w : World) : ZB (w.alloc (.cells Try.zeroCells143 143)) w.heap.size := ⟨_, heap_alloc_new w _, by kernel_rfl⟩

/-- A between is put together. -/
theorem yb_build {ops : Array Oper} {S : World → Prop} {o : Oper} {a : Act} (hw : Region.wanted o (yielded ops a.tmps) = true) (x y z : Operand) (ho : o.op = .build 143 #[(0, x), (1, y), (2, z)])
    (n : Nat) (s : Bool) (h : Int) (hx : a.eval x = .agg (gC n)) (hy : a.eval y = .bool s) (hz : a.eval z = .int .i64 h) (hl : (limbs n).length ≤ 98) : YieldsIf Try.prog ops S o (.agg (bC n s h)) a := by
  refine .inl ⟨hw, fun W hW => ?_⟩
  have hb := built_between n s h hl
  have e : ((#[(0, x), (1, y), (2, z)] : Array (Nat × Operand)).map fun (i, x) => (i, a.eval x)).toList = [(0, Value.agg (gC n)), (1, Value.bool s), (2, Value.int .i64 h)] := by simp [hx, hy, hz]
  rw [← e] at hb
  unfold execOp
  simp only [ho, Sem.run_bind, run_build W 143 _ _ hb, Result.andThen_ok]
  rfl
set_option maxHeartbeats 3200000 in
set_option maxRecDepth 20000 in
theorem wpB_build {ops : Array Oper} {rest : List Oper} {o : Oper} {a : Act} {w : World} {Q : Exit → Act → World → Prop} (hgd : o.guard = none) (x : Operand) (ho : o.op = .build 143 #[(0, x)])
    (n : Nat) (hx : a.eval x = .agg (gC n)) (hl : (limbs n).length ≤ 98)
    (h : wpList Try.prog ops Q rest (a.put o.dst (.agg (bC n false 0))) w) : wpList Try.prog ops Q (o :: rest) a w := by
  have hb : Try.prog.built 143 [(0, .agg (gC n))] = some (bC n false 0) := by
    have hi := between_info
    have hg : (gC n).size = 99 := gcell_size (pad_len hl) _
    obtain ⟨k1, k2, k3, k4⟩ := bC_facts n false 0 hl
    have hz9 : ∃ z, (Try.prog.info? 143).map (fun i => i.zero) = some (some (Value.agg z)) ∧ z.size = 101 ∧ z[99]? = some (.bool false) ∧ z[100]? = some (.int .i64 0) := ⟨Try.zeroCells143, by kernel_rfl, by kernel_rfl, by kernel_rfl, by kernel_rfl⟩
    obtain ⟨zc, hz1, hz2, hz3, hz4⟩ := hz9
    cases hq : Try.prog.info? 143 with
    | none => rw [hq] at hi; cases hi
    | some it =>
      rw [hq] at hi hz1
      simp only [Option.map_some, Option.some.injEq, Prod.mk.injEq] at hi hz1
      obtain ⟨fs, hfs, hp⟩ : ∃ fs, Try.prog.underlying 143 = some (.struct fs) ∧ fs.toList.mapM (fun f => (Try.prog.info? f.type).map fun i => (f.offset, i.size)) = some [(0, 99), (99, 1), (100, 1)] := ⟨_, Try.underlying143, by kernel_rfl⟩
      obtain ⟨f1, g1⟩ := fold_arr (gC n) zc 0
      have hb : Try.prog.built 143 [(0, .agg (gC n))] = some ((gC n).zipIdx.foldl (fun cs p => cs.setIfInBounds (0 + p.2) p.1) zc) := by
        have v2 : (Value.agg (gC n)).cells = gC n := rfl
        have v4 : (Value.agg zc).cells = zc := rfl
        unfold Program.built
        simp only [hq, hfs, hz1, hp]
        rw [Instr.fill]
        simp only [List.getElem?_toArray, List.getElem?_cons_zero]
        rw [v2, v4, if_neg (by simp [hg, hz2]), Instr.fill]
      rw [hb]
      refine congrArg some ?_
      apply Array.ext_getElem?
      intro k
      rw [g1 k, hz2, hg]
      by_cases h0 : k < 99
      · rw [if_pos (by omega), k2 k h0]
        rfl
      · rw [if_neg (by omega)]
        by_cases h1 : k = 99
        · subst h1
          rw [k3, hz3]
        · by_cases h2 : k = 100
          · subst h2
            rw [k4, hz4]
          · rw [Array.getElem?_eq_none (by omega), Array.getElem?_eq_none (by omega)]
  have e : ((#[(0, x)] : Array (Nat × Operand)).map fun (i, x) => (i, a.eval x)).toList = [(0, Value.agg (gC n))] := by simp [hx]
  refine wpList_build hgd 143 _ ho ?_ ?_
  · rw [e, hb]; rfl
  · rw [e, hb]
    exact h
/-- A between is written whole, as one step of a region. -/
theorem sb_store {ops : Array Oper} {o : Oper} {a : Act} {w : World} {K : Act → World → Prop} {Q : Exit → Act → World → Prop} {E : Prop} (hgd : o.guard = none) (x y : Operand) (ho : o.op = .store 143 x y)
    (b n : Nat) (s : Bool) (t : Int) (hx : a.eval x = .pointer (some ⟨b, 0, none⟩)) (hy : a.eval y = .agg (bC n s t)) (hg : ZB w b) (hl : (limbs n).length ≤ 98)
    (hd : o.dst = none) (h : ∀ w', BN w' b n s t → Tn [b] w w' → w'.heap.size = w.heap.size → K a w') :
    if Region.wanted o (yielded ops a.tmps) = true then Oper.wp Try.prog o a w K Q else E := by
  have hw : Region.wanted o (yielded ops a.tmps) = true := by simp [Region.wanted, hgd]
  rw [if_pos hw]
  obtain ⟨cs, hblk, hcs⟩ := hg.blk
  have hsz := (bC_facts n s t hl).1
  exact wp_store_row 143 x y ho b (bC n s t) hx hy 143 cs hblk (by rw [hsz]; exact between_size) (by rw [hcs, hsz]) (bC_one _ _ _)
    (by rw [hd]; exact h _ ⟨setRow_heap w b _ _ _ _ hblk, hl⟩ ⟨rfl, rfl, rfl, by simp, fun j _ hn => setRow_other w b j _ (by intro e; apply hn; simp [e])⟩ (by simp))
theorem wpB_store {ops : Array Oper} {rest : List Oper} {o : Oper} {a : Act} {w : World} {Q : Exit → Act → World → Prop} (hgd : o.guard = none) (x y : Operand) (ho : o.op = .store 143 x y)
    (b n : Nat) (s : Bool) (t : Int) (hx : a.eval x = .pointer (some ⟨b, 0, none⟩)) (hy : a.eval y = .agg (bC n s t)) (hg : ZB w b) (hl : (limbs n).length ≤ 98)
    (h : ∀ w', BN w' b n s t → Tn [b] w w' → w'.heap.size = w.heap.size → wpList Try.prog ops Q rest (a.put o.dst undef) w') : wpList Try.prog ops Q (o :: rest) a w := by
  obtain ⟨cs, hblk, hcs⟩ := hg.blk
  have hsz := (bC_facts n s t hl).1
  exact wpList_store_row hgd 143 x y ho b (bC n s t) hx hy 143 cs hblk (by rw [hsz]; exact between_size) (by rw [hcs, hsz]) (bC_one _ _ _)
    (h _ ⟨setRow_heap w b _ _ _ _ hblk, hl⟩ ⟨rfl, rfl, rfl, by simp, fun j _ hn => setRow_other w b j _ (by intro e; apply hn; simp [e])⟩ (by simp))
theorem wpB_load {ops : Array Oper} {rest : List Oper} {o : Oper} {a : Act} {w : World} {Q : Exit → Act → World → Prop} (hgd : o.guard = none) (x : Operand) (ho : o.op = .load 143 x)
    (b n : Nat) (s : Bool) (t : Int) (hx : a.eval x = .pointer (some ⟨b, 0, none⟩)) (hg : BN w b n s t)
    (h : wpList Try.prog ops Q rest (a.put o.dst (.agg (bC n s t))) w) : wpList Try.prog ops Q (o :: rest) a w :=
  wpList_load_row hgd 143 x ho b hx 143 (bC n s t) (0, 0) _ hg.blk Try.underlying143 rfl (by rw [(bC_facts n s t hg.len).1]; exact between_size) h
theorem BN.load {w : World} {b n : Nat} {s : Bool} {t : Int} (hg : BN w b n s t) : (loadVar 143 ⟨b, 0, none⟩).run Try.prog w = .ok (.agg (bC n s t)) w :=
  run_loadVar_row (P := Try.prog) w b 143 143 (bC n s t) (0, 0) _ hg.blk Try.underlying143 rfl (by rw [(bC_facts n s t hg.len).1]; exact between_size)
theorem results_between {fn : Func} {p : Tmp} (h : fn.results = #[.cell p 143]) (tmps : Array Value) (w : World) (b n : Nat) (s : Bool) (t : Int)
    (hp : tmps.getD p undef = .pointer (some ⟨b, 0, none⟩)) (hg : BN w b n s t) : (results fn tmps).run Try.prog w = .ok (.agg (bC n s t)) w :=
  results_cell_row h tmps w b 143 (bC n s t) (0, 0) _ hp hg.blk Try.underlying143 rfl (by rw [(bC_facts n s t hg.len).1]; exact between_size)
/-- The great number in a between is written anew. -/
theorem wpB_put {ops : Array Oper} {rest : List Oper} {o : Oper} {a : Act} {w : World} {Q : Exit → Act → World → Prop} (hgd : o.guard = none) (x y : Operand) (ho : o.op = .store 97 x y)
    (b m n : Nat) (s : Bool) (t : Int) (hx : a.eval x = .pointer (some ⟨b, 0, none⟩)) (hy : a.eval y = .agg (gC n)) (hg : BN w b m s t) (hl : (limbs n).length ≤ 98)
    (h : ∀ w', BN w' b n s t → Tn [b] w w' → w'.heap.size = w.heap.size → wpList Try.prog ops Q rest (a.put o.dst undef) w') : wpList Try.prog ops Q (o :: rest) a w := by
  have hgs : (gC n).size = 99 := gcell_size (pad_len hl) _
  have hgm : (gC m).size = 99 := gcell_size (pad_len hg.len) _
  have hone := gcell_one (pad (limbs n)) ((limbs n).length : Int)
  have hrun := run_storeCells_at (P := Try.prog) b 0 143 (gC n).toList 0 (bC m s t) w hg.blk (by rw [Array.length_toList, hgs, (bC_facts m s t hg.len).1]; omega) (fun v hv => (Array.all_eq_true_iff_forall_mem.1 hone) v (show v ∈ gC n by simpa using hv))
  have hcells : ((bC m s t).toList.take (0 + 0) ++ (gC n).toList ++ (bC m s t).toList.drop (0 + 0 + (gC n).toList.length)).toArray = bC n s t := by
    have e : (bC m s t).toList.drop 99 = [Value.bool s, Value.int .i64 t] := by
      unfold bC
      rw [List.drop_append_of_le_length (by rw [Array.length_toList]; omega), List.drop_of_length_le (by rw [Array.length_toList]; omega)]
      rfl
    rw [Array.length_toList, hgs]
    simp only [Nat.zero_add, List.take_zero, List.nil_append, e]
    rfl
  rw [hcells] at hrun
  have hst : (storeVar 97 ⟨b, 0, none⟩ (.agg (gC n))).run Try.prog w = .ok () (w.setRow b (bC n s t)) := by
    have hi := great_size
    cases hq : Try.prog.info? 97 with
    | none => rw [hq] at hi; cases hi
    | some i =>
      rw [hq] at hi
      have hs : i.size = 99 := by simpa using hi
      simp [storeVar, sizeOf, typeInfo, hq, Value.cells, hs, hgs, hrun]
  refine wpList_plain hgd fun _ hK => ?_
  unfold Oper.wp execOp
  simp only [ho, hx, hy, Instr.storeAt, Instr.sureAddr, Sem.run_bind, Sem.run_pure, Result.andThen_ok, hst]
  exact hK _ _ (h _ ⟨setRow_heap w b _ _ _ _ hg.blk, hl⟩ ⟨rfl, rfl, rfl, by simp, fun j _ hn => setRow_other w b j _ (by intro e; apply hn; simp [e])⟩ (by simp))

end Go.Proofs.Ytlpfjpbnedankaa
