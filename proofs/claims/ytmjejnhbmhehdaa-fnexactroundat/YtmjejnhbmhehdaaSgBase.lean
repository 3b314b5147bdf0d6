/- Several small texts in one: SG, IWholeOk, SFrom, SWhole, STwo, STwo2. -/
import Derived.Test.YtmjejnhbmhehdaaGBase
import Derived.Test.YtmjejnhbmhehdaaBase
import Derived.Deep.RegionHeld
import Derived.OwnWalk
/- The program's numbers with a sign inside: a sign and a great number behind a pointer (no walk, but newSigned). -/
namespace Go.Proofs.Ytmjejnhbmhehdaa
open Go.RowKit
set_option linter.unusedSimpArgs false

theorem fold_get : ∀ (l : List Value) (s off : Nat) (cs : Array Value), ((l.zipIdx s).foldl (fun cs p => cs.setIfInBounds (off + p.2) p.1) cs).size = cs.size ∧ ∀ k : Nat, ((l.zipIdx s).foldl (fun cs p => cs.setIfInBounds (off + p.2) p.1) cs)[k]? = if off + s ≤ k ∧ k < off + s + l.length ∧ k < cs.size then l[k - (off + s)]? else cs[k]? := by
  intro l
  induction l with
  | nil =>
    intro s off cs
    refine ⟨rfl, fun k => ?_⟩
    rw [if_neg (by simp; omega)]
    rfl
  | cons v r ih =>
    intro s off cs
    obtain ⟨h1, h2⟩ := ih (s + 1) off (cs.setIfInBounds (off + s) v)
    rw [List.zipIdx_cons, List.foldl_cons]
    refine ⟨by rw [h1]; simp, fun k => ?_⟩
    rw [h2 k]
    have hsz : (cs.setIfInBounds (off + s) v).size = cs.size := by simp
    rw [hsz, Array.getElem?_setIfInBounds, List.length_cons]
    by_cases e : k = off + s
    · subst e
      by_cases hk : off + s < cs.size
      · rw [if_neg (by omega), if_pos rfl, if_pos hk, if_pos (by omega)]
        simp
      · rw [if_neg (by omega), if_pos rfl, if_neg hk, if_neg (by omega), Array.getElem?_eq_none (by omega)]
    · by_cases hin : off + s ≤ k ∧ k < off + s + (r.length + 1) ∧ k < cs.size
      · rw [if_pos (by omega), if_pos hin]
        rw [show k - (off + s) = (k - (off + (s + 1))) + 1 by omega, List.getElem?_cons_succ]
      · rw [if_neg (by omega), if_neg hin, if_neg (fun q => e q.symm)]
theorem fold_arr (v cs : Array Value) (off : Nat) : (v.zipIdx.foldl (fun cs p => cs.setIfInBounds (off + p.2) p.1) cs).size = cs.size ∧ ∀ k : Nat, (v.zipIdx.foldl (fun cs p => cs.setIfInBounds (off + p.2) p.1) cs)[k]? = if off ≤ k ∧ k < off + v.size ∧ k < cs.size then v[k - off]? else cs[k]? := by
  have e : v.zipIdx.foldl (fun cs p => cs.setIfInBounds (off + p.2) p.1) cs = (v.toList.zipIdx 0).foldl (fun cs p => cs.setIfInBounds (off + p.2) p.1) cs := by
    rw [← Array.foldl_toList, Array.toList_zipIdx]
  rw [e]
  obtain ⟨h1, h2⟩ := fold_get v.toList 0 off cs
  refine ⟨h1, fun k => ?_⟩
  rw [h2 k]
  simp

/-- The cells of a sign and a number. -/
def sC (b : Bool) (n : Nat) : Array Value := (Value.bool b :: (gC n).toList).toArray
theorem signed_info : (Try.prog.info? 67).map (fun i => (i.zero.map (·.cells.size), i.size)) = some (some 100, 100) := by kernel_rfl
theorem sC_facts (b : Bool) (n : Nat) (hl : (limbs n).length ≤ 98) : (sC b n).size = 100 ∧ (sC b n)[0]? = some (.bool b) ∧ ∀ i : Nat, i < 99 → (sC b n)[1 + i]? = (gC n)[i]? := by
  have hg : (gC n).size = 99 := gcell_size (pad_len hl) _
  refine ⟨by simp [sC, hg], by simp [sC], fun i _ => ?_⟩
  rw [Nat.add_comm]
  simp [sC]
set_option maxRecDepth 20000 in
theorem built_signed (b : Bool) (n : Nat) (hl : (limbs n).length ≤ 98) : Try.prog.built 67 [(0, .bool b), (1, .agg (gC n))] = some (sC b n) := by
  have hi := signed_info
  have hg : (gC n).size = 99 := gcell_size (pad_len hl) _
  obtain ⟨k1, k2, k3⟩ := sC_facts b n hl
  cases hq : Try.prog.info? 67 with
  | none => rw [hq] at hi; cases hi
  | some it =>
    rw [hq] at hi
    simp only [Option.map_some, Option.some.injEq, Prod.mk.injEq] at hi
    cases hz : it.zero with
    | none => rw [hz] at hi; simp at hi
    | some z =>
      rw [hz] at hi
      simp only [Option.map_some, Option.some.injEq] at hi
      obtain ⟨fs, hfs, hp⟩ : ∃ fs, Try.prog.underlying 67 = some (.struct fs) ∧ fs.toList.mapM (fun f => (Try.prog.info? f.type).map fun i => (f.offset, i.size)) = some [(0, 1), (1, 99)] := ⟨_, Try.underlying67, by kernel_rfl⟩
      have hb : Try.prog.built 67 [(0, .bool b), (1, .agg (gC n))] = some ((gC n).zipIdx.foldl (fun cs p => cs.setIfInBounds (1 + p.2) p.1) ((#[Value.bool b] : Array Value).zipIdx.foldl (fun cs p => cs.setIfInBounds (0 + p.2) p.1) z.cells)) := by
        obtain ⟨g1, -⟩ := fold_arr #[Value.bool b] z.cells 0
        have v1 : (Value.bool b).cells = #[Value.bool b] := rfl
        have v2 : (Value.agg (gC n)).cells = gC n := rfl
        unfold Program.built
        simp only [hq, hfs, hz, hp]
        generalize z.cells = zc at *
        rw [Instr.fill]
        simp only [List.getElem?_toArray, List.getElem?_cons_zero]
        rw [v1, if_neg (by simp [hi.1]), Instr.fill]
        simp only [List.getElem?_toArray, List.getElem?_cons_succ, List.getElem?_cons_zero]
        rw [v2, if_neg (by rw [g1]; simp [hg, hi.1]), Instr.fill]
      obtain ⟨g1, g2⟩ := fold_arr #[Value.bool b] z.cells 0
      obtain ⟨f1, f2⟩ := fold_arr (gC n) ((#[Value.bool b] : Array Value).zipIdx.foldl (fun cs p => cs.setIfInBounds (0 + p.2) p.1) z.cells) 1
      rw [hb]
      congr 1
      apply Array.ext_getElem?
      intro k
      rw [f2 k, g1, hi.1]
      by_cases h0 : k = 0
      · subst h0
        rw [if_neg (by omega), g2 0, if_pos (by rw [hi.1]; simp), k2]
        rfl
      · obtain ⟨i, rfl⟩ : ∃ i, k = 1 + i := ⟨k - 1, by omega⟩
        by_cases h1 : i < 99
        · rw [if_pos (by rw [hg]; omega), k3 i h1]
          congr 1
          omega
        · rw [if_neg (by omega), g2, if_neg (by simp), Array.getElem?_eq_none (by omega), Array.getElem?_eq_none (by omega)]
/-- A number with a sign stands behind that pointer. -/
structure SG (w : World) (b : Nat) (z : Int) : Prop where
  sign : w.cell? ⟨b, 0, none⟩ = some (.bool (decide (z < 0)))
  mag : GA w b 1 z.natAbs
theorem SG.below {w w' : World} {b B : Nat} {z : Int} (h : SG w b z) (hb : Below B w w') (hB : b < B) : SG w' b z :=
  ⟨(hb.cell (p := ⟨b, 0, none⟩) hB).trans h.sign, h.mag.below hb hB⟩
theorem SG.lt {w : World} {b : Nat} {z : Int} (h : SG w b z) : b < w.heap.size := h.mag.lt
/-- A sign and a size are put together. -/
theorem wpS_build {ops : Array Oper} {rest : List Oper} {o : Oper} {a : Act} {w : World} {Q : Exit → Act → World → Prop} (hgd : o.guard = none) (x y : Operand) (ho : o.op = .build 67 #[(0, x), (1, y)])
    (s : Bool) (n : Nat) (hx : a.eval x = .bool s) (hy : a.eval y = .agg (gC n)) (hl : (limbs n).length ≤ 98)
    (h : wpList Try.prog ops Q rest (a.put o.dst (.agg (sC s n))) w) : wpList Try.prog ops Q (o :: rest) a w := by
  have hb := built_signed s n hl
  have e : ((#[(0, x), (1, y)] : Array (Nat × Operand)).map fun (i, x) => (i, a.eval x)).toList = [(0, Value.bool s), (1, Value.agg (gC n))] := by simp [hx, hy]
  refine wpList_build hgd 67 _ ho ?_ ?_
  · rw [e, hb]; rfl
  · rw [e, hb]
    exact h
set_option maxRecDepth 20000 in
theorem SG.made (w : World) (s : Bool) (n : Nat) (hl : (limbs n).length ≤ 98) : (w.alloc (.cells (sC s n) 67)).cell? ⟨w.heap.size, 0, none⟩ = some (.bool s) ∧ GA (w.alloc (.cells (sC s n) 67)) w.heap.size 1 n := by
  obtain ⟨h1, h2, h3⟩ := sC_facts s n hl
  have hb : (w.alloc (.cells (sC s n) 67)).heap[w.heap.size]? = some (.cells (sC s n) 67) := heap_alloc_new w _
  have hc : ∀ i, (w.alloc (.cells (sC s n) 67)).cell? ⟨w.heap.size, i, none⟩ = (sC s n)[i]? := fun i => by unfold World.cell?; rw [hb]; rfl
  refine ⟨by rw [hc, h2], fun i hi => ?_, ?_, hl⟩
  · rw [hc, h3 i (by omega)]
    have hp := pad_len hl
    unfold gC gcell
    rw [← pad_getD]
    simp [List.getElem?_append_left, hp, hi, List.getD_eq_getElem?_getD]
  · rw [hc, h3 98 (by omega)]
    have hp := pad_len hl
    unfold gC gcell
    simp [List.getElem?_append, hp]

set_option maxRecDepth 20000 in
set_option maxHeartbeats 1600000 in
/-- newSigned: a sign and a size; 0 has no sign. -/
theorem newSigned_c (s : Bool) (n : Nat) (w : World) (hl : (limbs n).length ≤ 98) :
    Calls Try.prog 67 #[.bool s, .agg (gC n)] w fun e w' => ∃ b, e = .returned (.pointer (some ⟨b, 0, none⟩)) ∧ w.heap.size ≤ b ∧ SG w' b (if s = true then -(n : Int) else (n : Int)) ∧ Below w.heap.size w w' := by
  have G0 := GN.made w n hl
  have hA := GN.ga G0 hl
  have c98 := GB.size G0
  have B0 := alloc_below w (.cells (gC n) 65)
  have hs0 : (w.alloc (.cells (gC n) 65)).heap.size = w.heap.size + 1 := by simp
  obtain ⟨z, hz⟩ : ∃ z, (if s = true then -(n : Int) else (n : Int)) = z := ⟨_, rfl⟩
  rw [hz]
  cases s
  · have hz' : z = (n : Int) := by rw [← hz]; simp
    have M := SG.made (w.alloc (.cells (gC n) 65)) false n hl
    rw [hs0] at M
    have HM : Hid (((w.alloc (.cells (gC n) 65)).alloc (.cells (sC false n) 67)).cell? ⟨w.heap.size + 1, 0, none⟩ = some (.bool false) ∧ GA ((w.alloc (.cells (gC n) 65)).alloc (.cells (sC false n) 67)) (w.heap.size + 1) 1 n) := M
    have B1 := B0.alloc (by simp) (.cells (sC false n) 67)
    have HC : Hid (decide (z < 0) = false ∧ z.natAbs = n) := ⟨decide_eq_false (by omega), by omega⟩
    clear M hz hz'
    go_enter Try.func67, Try.ntmps67
    go_wp2_with (first | (refine wpA_load rfl (.tmp 3) rfl w.heap.size 0 n rfl hA ?_) | (refine wpS_build rfl (.tmp 10) (.tmp 11) rfl false n rfl rfl hl ?_))
    go_ret
    exact ⟨w.heap.size + 1, rfl, by omega, ⟨by rw [HC.out.1]; exact HM.out.1, by rw [HC.out.2]; exact HM.out.2⟩, B1⟩
  · have hz' : z = -(n : Int) := by rw [← hz]; simp
    by_cases h0 : n = 0
    · have e0 : (limbs n).length = 0 := by rw [h0, limbs_zero]; rfl
      rw [e0] at c98
      have M := SG.made (w.alloc (.cells (gC n) 65)) false n hl
      rw [hs0] at M
      have HM : Hid (((w.alloc (.cells (gC n) 65)).alloc (.cells (sC false n) 67)).cell? ⟨w.heap.size + 1, 0, none⟩ = some (.bool false) ∧ GA ((w.alloc (.cells (gC n) 65)).alloc (.cells (sC false n) 67)) (w.heap.size + 1) 1 n) := M
      have B1 := B0.alloc (by simp) (.cells (sC false n) 67)
      have HC : Hid (decide (z < 0) = false ∧ z.natAbs = n) := ⟨decide_eq_false (by omega), by omega⟩
      clear M hz hz' h0 e0
      go_enter Try.func67, Try.ntmps67
      go_wp2_with (first | (refine wpA_load rfl (.tmp 3) rfl w.heap.size 0 n rfl hA ?_) | (refine wpS_build rfl (.tmp 10) (.tmp 11) rfl false n rfl rfl hl ?_))
      go_ret
      exact ⟨w.heap.size + 1, rfl, by omega, ⟨by rw [HC.out.1]; exact HM.out.1, by rw [HC.out.2]; exact HM.out.2⟩, B1⟩
    · have hp : 0 < (limbs n).length := by rw [limbs_pos n (by omega)]; simp
      have q : decide ((0 : Int) < ((limbs n).length : Int)) = true := decide_eq_true (by omega)
      have M := SG.made (w.alloc (.cells (gC n) 65)) true n hl
      rw [hs0] at M
      have HM : Hid (((w.alloc (.cells (gC n) 65)).alloc (.cells (sC true n) 67)).cell? ⟨w.heap.size + 1, 0, none⟩ = some (.bool true) ∧ GA ((w.alloc (.cells (gC n) 65)).alloc (.cells (sC true n) 67)) (w.heap.size + 1) 1 n) := M
      have B1 := B0.alloc (by simp) (.cells (sC true n) 67)
      have HC : Hid (decide (z < 0) = true ∧ z.natAbs = n) := ⟨decide_eq_true (by omega), by omega⟩
      clear M hz hz'
      go_enter Try.func67, Try.ntmps67
      go_wp2_with (first | (refine wpA_load rfl (.tmp 3) rfl w.heap.size 0 n rfl hA ?_) | (refine wpS_build rfl (.tmp 10) (.tmp 11) rfl true n rfl rfl hl ?_))
      go_ret
      exact ⟨w.heap.size + 1, rfl, by omega, ⟨by rw [HC.out.1]; exact HM.out.1, by rw [HC.out.2]; exact HM.out.2⟩, B1⟩

end Go.Proofs.Ytmjejnhbmhehdaa

/- The program's WholeOk, by its contract. -/
namespace Go.Proofs.Ytmjejnhbmhehdaa
open Go.RowKit

set_option maxHeartbeats 1600000 in
theorem iWholeOk (va : Value) (a : Wh) (w : World) (ha : rowW w va a) (hl : a.2.length ≤ 1048576) :
    Calls Try.prog 71 #[va] w fun e w' => e = .returned (.bool (okW a)) ∧ Below w.heap.size w w' := by
  obtain ⟨s, rfl, hs⟩ := ha
  obtain ⟨n, xs⟩ := a
  have ka := fun W (h : Below w.heap.size w W) => iNatOk s xs W (hs.below h (Nat.le_refl _)) (by show xs.length ≤ _; have : xs.length ≤ 1048576 := hl; omega)
  obtain ⟨ad, cap, rfl, -⟩ := id hs
  have hw : okW (n, xs) = (okB xs && (!n || decide (0 < xs.length))) := rfl
  have HW : Hid (okW (n, xs) = (okB xs && (!n || decide (0 < xs.length)))) := hw
  obtain ⟨b, hb⟩ : ∃ b, okB xs = b := ⟨_, rfl⟩
  rw [hb] at HW ka
  clear hw hb hs
  by_cases h0 : xs.length = 0
  · have e0 : ((xs.length : Int) == 0) = true := by rw [h0]; rfl
    have HP : Hid (decide (0 < xs.length) = false) := by show _ = _; rw [h0]; rfl
    clear h0
    cases b <;> cases n
    all_goals
      go_enter Try.func71, Try.ntmps71
      go_wp2_with fail
      refine (ka _ ((Below.refl w.heap.size w).alloc (Nat.le_refl _) _)).mono ?_
      rintro e w1 ⟨rfl, rfl⟩
      go_wp2
      go_ret
      exact ⟨by rw [HW.out, HP.out]; simp, (Below.refl w.heap.size w).alloc (Nat.le_refl _) _⟩
  · have e0 : ((xs.length : Int) == 0) = false := by rw [beq_eq_false_iff_ne]; omega
    have HP : Hid (decide (0 < xs.length) = true) := decide_eq_true (by omega)
    clear h0
    cases b <;> cases n
    all_goals
      go_enter Try.func71, Try.ntmps71
      go_wp2_with fail
      refine (ka _ ((Below.refl w.heap.size w).alloc (Nat.le_refl _) _)).mono ?_
      rintro e w1 ⟨rfl, rfl⟩
      go_wp2
      go_ret
      exact ⟨by rw [HW.out, HP.out]; simp, (Below.refl w.heap.size w).alloc (Nat.le_refl _) _⟩

end Go.Proofs.Ytmjejnhbmhehdaa

/- The program's signedFrom, signed.small, signed.order, each by its contract. -/
namespace Go.Proofs.Ytmjejnhbmhehdaa
open Go.RowKit

theorem okW_ok {a : Wh} (h : okW a = true) : okB a.2 = true := by
  unfold okW at h
  simp at h
  exact h.1

set_option maxRecDepth 20000 in
set_option maxHeartbeats 1600000 in
theorem sFromYes (va : Value) (a : Wh) (w : World) (ha : rowW w va a) (hl : a.2.length ≤ 1048576) (hok : okW a = true) :
    Calls Try.prog 45 #[va] w fun e w' => ∃ b, e = .returned (.tuple #[.pointer (some ⟨b, 0, none⟩), .bool true]) ∧ w.heap.size ≤ b ∧ SG w' b (valW a) ∧ Below w.heap.size w w' := by
  have kO := fun W (h : Below w.heap.size w W) => iWholeOk va a W (ha.below h (Nat.le_refl _)) hl
  rw [hok] at kO
  obtain ⟨s, rfl, hs⟩ := ha
  have hf : fromN a.2 = num a.2 := by unfold fromN; rw [if_pos (okW_ok hok)]
  have kF := fun W (h : Below w.heap.size w W) => gFrom s a.2 W (hs.below h (Nat.le_refl _)) hl
  have l1 := fromN_len a.2
  rw [hf, okW_ok hok] at kF
  rw [hf] at l1
  have hl1 : (limbs (num a.2)).length ≤ 98 := by omega
  have kN := fun W => newSigned_c a.1 (num a.2) W hl1
  have hv : (if a.1 = true then -(num a.2 : Int) else (num a.2 : Int)) = valW a := rfl
  simp only [hv] at kN
  obtain ⟨ad, cap, rfl, -⟩ := id hs
  generalize num a.2 = n at *
  generalize valW a = z at *
  generalize a.1 = g at *
  generalize a.2.length = len at *
  have B0 := below1 w (.cells #[.bool g, .slice ad len cap] 24)
  have X0 := BoxW.made w (.bool g) (.slice ad len cap) 24
  clear hs hv hf hok
  go_enter Try.func45, Try.ntmps45
  go_wp2_with fail
  refine (kO _ B0).mono ?_
  rintro e w1 ⟨rfl, b1⟩
  generalize w.alloc (.cells #[.bool g, .slice ad len cap] 24) = w0 at *
  have X1 := X0.below b1 (Nat.le_refl _)
  have B1 := B0.trans (b1.mono B0.size)
  have c0 := X1.c0
  have c1 := X1.c1
  clear X0 B0 b1 kO
  go_wp2_with fail
  refine (kF _ B1).mono ?_
  rintro e w2 ⟨rfl, b2⟩
  have X2 := X1.below b2 (Nat.le_refl _)
  have B2 := B1.trans (b2.mono B1.size)
  have P0 := GB.made0 w2
  have B3 := B2.alloc B2.size (.cells Try.zeroCells65 65)
  have X3 := X2.below (below1 w2 (.cells Try.zeroCells65 65)) (Nat.le_refl _)
  have hx2 := X2.hi
  have hb2 := B2.size
  clear X1 B1 b2 c0 c1 kF
  go_wp2_with (first
    | (go_at_call 67
       refine (kN _).mono ?_
       rintro e w5 ⟨b5, rfl, h5, s5, b5'⟩)
    | ((with_reducible (refine wpL_id ?_)); refine wpN_store rfl (.tmp 4) (.tmp 13) rfl w2.heap.size _ _ n rfl rfl P0 hl1 ?_; intro w4 P4 t4 s4; have B4 := t4.below B3 B3.size (by simp; omega); have X4 := X3.tn t4 (fun k hk => by simp at hk ⊢; omega); have c4 := X4.c0; have A4 := GN.ga P4 hl1)
    | ((with_reducible (refine wpL_id ?_)); refine wpA_load rfl (.tmp 4) rfl w2.heap.size 0 n rfl A4 ?_))
  go_ret2
  exact ⟨b5, rfl, Nat.le_trans B4.size h5, s5, B4.trans (b5'.mono B4.size)⟩

set_option maxRecDepth 20000 in
set_option maxHeartbeats 1600000 in
theorem sFromNo (va : Value) (a : Wh) (w : World) (ha : rowW w va a) (hl : a.2.length ≤ 1048576) (hok : okW a = false) :
    Calls Try.prog 45 #[va] w fun e w' => e = .returned (.tuple #[.pointer none, .bool false]) ∧ Below w.heap.size w w' := by
  have kO := fun W (h : Below w.heap.size w W) => iWholeOk va a W (ha.below h (Nat.le_refl _)) hl
  rw [hok] at kO
  obtain ⟨s, rfl, hs⟩ := ha
  obtain ⟨ad, cap, rfl, -⟩ := id hs
  generalize a.1 = g at *
  generalize a.2.length = len at *
  have B0 := below1 w (.cells #[.bool g, .slice ad len cap] 24)
  clear hs hok
  go_enter Try.func45, Try.ntmps45
  go_wp2_with fail
  refine (kO _ B0).mono ?_
  rintro e w1 ⟨rfl, b1⟩
  go_wp2
  go_ret2
  exact ⟨rfl, B0.trans (b1.mono B0.size)⟩

end Go.Proofs.Ytmjejnhbmhehdaa

/- The program's whole and negated, each by its contract. -/
namespace Go.Proofs.Ytmjejnhbmhehdaa
open Go.RowKit
set_option linter.unusedSimpArgs false

theorem nilW (w : World) (base : Nat) : ownsW w base (.agg #[.bool false, .slice none 0 0]) (false, []) := ⟨_, rfl, nil_own w base⟩

set_option maxRecDepth 20000 in
set_option maxHeartbeats 1600000 in
/-- whole: sign and limbs, where there are not too many. -/
theorem sWhole (b : Nat) (z : Int) (w : World) (h : SG w b z) :
    Calls Try.prog 37 #[.pointer (some ⟨b, 0, none⟩)] w fun e w' => ∃ v, e = .returned (.tuple #[v, .bool (fitW z).2]) ∧ ownsW w' w.heap.size v (fitW z).1 ∧ Below w.heap.size w w' := by
  have hl := h.mag.len
  have hlt := h.lt
  have B0 := below1 w (.cells #[.bool false, .slice none 0 0] 24)
  have X0 := BoxW.made w (.bool false) (.slice none 0 0) 24
  have S0 := h.below B0 hlt
  have hs0 : (w.alloc (.cells #[.bool false, .slice none 0 0] 24)).heap.size = w.heap.size + 1 := by simp
  have kL := fun W => gList z.natAbs W hl
  clear h
  by_cases h48 : (limbs z.natAbs).length ≤ 48
  · have HF : Hid (fitW z = (mkW z, true)) := by show _ = _; rw [fitW, if_pos h48]
    have hfr : fitR z.natAbs = (limbs z.natAbs, true) := by unfold fitR; rw [if_pos h48]
    simp only [hfr] at kL
    have HM : Hid (mkW z = (decide (z < 0), limbs z.natAbs)) := rfl
    clear h48 hfr
    go_enter Try.func37, Try.ntmps37
    go_wp2_with (first | (go_at_call 69; fail) | ((with_reducible (refine wpL_id ?_)); refine wpA_load rfl (.tmp 9) rfl b 1 z.natAbs rfl S0.mag ?_))
    generalize w.alloc (.cells #[.bool false, .slice none 0 0] 24) = w0 at *
    refine (kL _).mono ?_
    rintro e w1 ⟨v1, rfl, o1, b1⟩
    have S1 := S0.below b1 S0.lt
    have X1 := X0.below b1 (Nat.le_refl _)
    have B1 := B0.trans (b1.mono B0.size)
    obtain ⟨ad, cap, rfl, -⟩ := o1.row
    have c0 := S1.sign
    have d0 := X1.c0
    have d1 := X1.c1
    have f0 := X1.f0
    have f1 := X1.f1
    obtain ⟨g, hg⟩ : ∃ g, decide (z < 0) = g := ⟨_, rfl⟩
    rw [hg] at c0 HM
    obtain ⟨xs, hxs⟩ : ∃ xs, limbs z.natAbs = xs := ⟨_, rfl⟩
    have o1' : ownsI w1 w0.heap.size (.slice ad xs.length cap) xs := by rw [← hxs]; exact o1
    rw [hxs] at HM
    have HO : Hid (ownsI w1 w0.heap.size (.slice ad xs.length cap) xs) := o1'
    have hne : ¬ (b = w.heap.size) := by omega
    have HZ : Hid (limbs z.natAbs = xs) := hxs
    rw [hxs]
    clear o1 o1' S1 X1 S0 X0 b1 kL hxs hg
    go_wp2
    (try simp only [Exit.inBlock, Exit.then])
    refine bodyPost_ret (v := .tuple #[.agg #[.bool g, .slice ad xs.length cap], .bool true]) ?_ rfl ⟨_, by rw [HF.out], ?_, ?_⟩
    · rw [results_cell_tmp rfl]
      go_simp
    · rw [HF.out]
      show ownsW _ _ _ (mkW z)
      rw [HM.out]
      refine ⟨_, rfl, ?_⟩
      have o2 := ownsRow_setCell_below (a := ⟨w.heap.size, 0, none⟩) HO.out (by show w.heap.size < w0.heap.size; omega) (.bool g)
      have o3 := ownsRow_setCell_below (a := ⟨w.heap.size, 1, none⟩) o2 (by show w.heap.size < w0.heap.size; omega) (.slice ad xs.length cap)
      exact ownsRow_mono o3 (by omega)
    · exact (B1.setCell (p := ⟨w.heap.size, 0, none⟩) (Nat.le_refl _) _).setCell (p := ⟨w.heap.size, 1, none⟩) (Nat.le_refl _) _
  · have HF : Hid (fitW z = ((false, []), false)) := by show _ = _; rw [fitW, if_neg h48]
    have hfr : fitR z.natAbs = ([], false) := by unfold fitR; rw [if_neg h48]
    simp only [hfr] at kL
    clear h48 hfr
    go_enter Try.func37, Try.ntmps37
    go_wp2_with (first | (go_at_call 69; fail) | ((with_reducible (refine wpL_id ?_)); refine wpA_load rfl (.tmp 9) rfl b 1 z.natAbs rfl S0.mag ?_))
    generalize w.alloc (.cells #[.bool false, .slice none 0 0] 24) = w0 at *
    refine (kL _).mono ?_
    rintro e w1 ⟨v1, rfl, o1, b1⟩
    have X1 := X0.below b1 (Nat.le_refl _)
    have B1 := B0.trans (b1.mono B0.size)
    have d0 := X1.c0
    have d1 := X1.c1
    have f0 := X1.f0
    have f1 := X1.f1
    clear o1 X1 S0 X0 b1 kL
    go_wp2
    (try simp only [Exit.inBlock, Exit.then])
    refine bodyPost_ret (v := .tuple #[.agg #[.bool false, .slice none 0 0], .bool false]) ?_ rfl ⟨_, by rw [HF.out], ?_, ?_⟩
    · rw [results_cell_tmp rfl]
      go_simp
    · rw [HF.out]
      exact nilW _ _
    · exact (B1.setCell (p := ⟨w.heap.size, 0, none⟩) (Nat.le_refl _) _).setCell (p := ⟨w.heap.size, 1, none⟩) (Nat.le_refl _) _

set_option maxRecDepth 20000 in
set_option maxHeartbeats 1600000 in
/-- negated. -/
theorem sNegated (b : Nat) (z : Int) (w : World) (h : SG w b z) :
    Calls Try.prog 46 #[.pointer (some ⟨b, 0, none⟩)] w fun e w' => ∃ c, e = .returned (.pointer (some ⟨c, 0, none⟩)) ∧ w.heap.size ≤ c ∧ SG w' c (-z) ∧ Below w.heap.size w w' := by
  have hl := h.mag.len
  have kN := fun W => newSigned_c (!(decide (z < 0))) z.natAbs W hl
  have hz : (if (!(decide (z < 0))) = true then -(z.natAbs : Int) else (z.natAbs : Int)) = -z := by by_cases hn : z < 0 <;> simp [hn] <;> omega
  simp only [hz] at kN
  have c0 := h.sign
  have HS := h.mag
  obtain ⟨g, hg⟩ : ∃ g, decide (z < 0) = g := ⟨_, rfl⟩
  rw [hg] at c0
  simp only [hg] at kN
  have hn0 : (⟨b, 0, none⟩ : Addr) = ⟨b, 0, none⟩ := rfl
  clear hz hg hn0 h
  generalize z.natAbs = n at *
  generalize -z = y at *
  go_enter Try.func46, Try.ntmps46
  go_wp2_with fail
  refine wp_region_held_drew (S := fun W => W.cell? ⟨b, 0, none⟩ = some (.bool g) ∧ GA W b 1 n) (by kernel_rfl) ⟨c0, HS.drew⟩ ?_
  intro hHeld
  refine takeH 0 (some 3) (.pointer (some ⟨b, 0, none⟩)) rfl rfl (by kernel_rfl) (by kernel_rfl) (by kernel_rfl) (fun _ _ _ h => h) (yg_move rfl (.tmp 0) rfl _ rfl) (by assumption) ?_
  simp only [Act.put, List.setIfInBounds_toArray, List.set_cons_zero, List.set_cons_succ]
  refine takeH 1 (some 4) (.pointer (some ⟨b, 0, none⟩)) rfl rfl (by kernel_rfl) (by kernel_rfl) (by kernel_rfl) (fun _ _ _ h => h) (Or.inl ⟨rfl, fun W hW => by obtain ⟨c0, -⟩ := hW; go_simp⟩) (by assumption) ?_
  simp only [Act.put, List.setIfInBounds_toArray, List.set_cons_zero, List.set_cons_succ]
  refine takeH 2 (some 5) (.pointer (some ⟨b, 0, none⟩)) rfl rfl (by kernel_rfl) (by kernel_rfl) (by kernel_rfl) (fun _ _ _ h => h) (Or.inl ⟨rfl, fun W hW => by obtain ⟨c0, -⟩ := hW; go_simp⟩) (by assumption) ?_
  simp only [Act.put, List.setIfInBounds_toArray, List.set_cons_zero, List.set_cons_succ]
  refine takeH 3 (some 6) (.bool g) rfl rfl (by kernel_rfl) (by kernel_rfl) (by kernel_rfl) (fun _ _ _ h => h) (Or.inl ⟨rfl, fun W hW => by obtain ⟨c0, -⟩ := hW; go_simp⟩) (by assumption) ?_
  simp only [Act.put, List.setIfInBounds_toArray, List.set_cons_zero, List.set_cons_succ]
  refine takeH 4 (some 7) (.bool (!g)) rfl rfl (by kernel_rfl) (by kernel_rfl) (by kernel_rfl) (fun _ _ _ h => h) (Or.inl ⟨rfl, fun W hW => by obtain ⟨c0, -⟩ := hW; go_simp⟩) (by assumption) ?_
  simp only [Act.put, List.setIfInBounds_toArray, List.set_cons_zero, List.set_cons_succ]
  refine takeH 5 (some 8) (.pointer (some ⟨b, 0, none⟩)) rfl rfl (by kernel_rfl) (by kernel_rfl) (by kernel_rfl) (fun _ _ _ h => h) (yg_move rfl (.tmp 0) rfl _ rfl) (by assumption) ?_
  simp only [Act.put, List.setIfInBounds_toArray, List.set_cons_zero, List.set_cons_succ]
  refine takeH 6 (some 9) (.pointer (some ⟨b, 0, none⟩)) rfl rfl (by kernel_rfl) (by kernel_rfl) (by kernel_rfl) (fun _ _ _ h => h) (Or.inl ⟨rfl, fun W hW => by obtain ⟨c0, -⟩ := hW; go_simp⟩) (by assumption) ?_
  simp only [Act.put, List.setIfInBounds_toArray, List.set_cons_zero, List.set_cons_succ]
  refine takeH 7 (some 10) (.pointer (some ⟨b, 1, none⟩)) rfl rfl (by kernel_rfl) (by kernel_rfl) (by kernel_rfl) (fun _ _ _ h => h) (Or.inl ⟨rfl, fun W hW => by obtain ⟨c0, -⟩ := hW; go_simp⟩) (by assumption) ?_
  simp only [Act.put, List.setIfInBounds_toArray, List.set_cons_zero, List.set_cons_succ]
  refine takeH 8 (some 11) (.agg (gC n)) rfl rfl (by kernel_rfl) (by kernel_rfl) (by kernel_rfl) (fun _ _ _ h => h) (yg_load rfl (.tmp 10) rfl b 1 n rfl (fun W h => h.2)) (by assumption) ?_
  simp only [Act.put, List.setIfInBounds_toArray, List.set_cons_zero, List.set_cons_succ]
  refine oneH 9 rfl (by kernel_rfl) (fun K' hK => ?_)
  go_simp
  refine (kN _).mono ?_
  rintro e w5 ⟨c, rfl, hc, s5, b5⟩
  have S5 : w5.cell? ⟨b, 0, none⟩ = some (.bool g) ∧ GA w5 b 1 n := ⟨(b5.cell (p := ⟨b, 0, none⟩) HS.drew.lt).trans hHeld.1, hHeld.2.below b5 HS.drew.lt⟩
  refine hK _ _ S5 ?_
  clear hK hHeld
  refine takeH 10 (some 2) (.pointer (some ⟨c, 0, none⟩)) rfl rfl (by kernel_rfl) (by kernel_rfl) (by kernel_rfl) (fun _ _ _ h => h) (yg_assign rfl (.tmp 12) rfl _ rfl) (by assumption) ?_
  simp only [Act.put, List.setIfInBounds_toArray, List.set_cons_zero, List.set_cons_succ]
  refine wpAnyH_done (by kernel_rfl) ?_ _
  clear S5 c0
  go_wp2
  go_ret
  exact ⟨c, rfl, hc, s5, (show Below w.heap.size w w.drew from ⟨rfl, rfl, rfl, Nat.le_refl _, fun _ _ => rfl⟩).trans b5⟩

end Go.Proofs.Ytmjejnhbmhehdaa

/- The program's twoSigned, by its contract. -/
namespace Go.Proofs.Ytmjejnhbmhehdaa
open Go.RowKit

set_option maxRecDepth 20000 in
set_option maxHeartbeats 3200000 in
theorem twoYes (va vb : Value) (a b : Wh) (w : World) (ha : rowW w va a) (hb : rowW w vb b) (hla : a.2.length ≤ 1048576) (hlb : b.2.length ≤ 1048576) (h1 : okW a = true) (h2 : okW b = true) :
    Calls Try.prog 49 #[va, vb] w fun e w' => ∃ p q, e = .returned (.tuple #[.pointer (some ⟨p, 0, none⟩), .pointer (some ⟨q, 0, none⟩), .bool true]) ∧ SG w' p (valW a) ∧ SG w' q (valW b) ∧ Below w.heap.size w w' := by
  have kA := fun W (h : Below w.heap.size w W) => sFromYes va a W (ha.below h (Nat.le_refl _)) hla h1
  have kB := fun W (h : Below w.heap.size w W) => sFromYes vb b W (hb.below h (Nat.le_refl _)) hlb h2
  clear h1 h2
  generalize valW a = x at *
  generalize valW b = y at *
  obtain ⟨s, rfl, hs⟩ := ha
  obtain ⟨ad, cap, rfl, -⟩ := id hs
  obtain ⟨t, rfl, ht⟩ := hb
  obtain ⟨ae, cbp, rfl, -⟩ := id ht
  generalize a.1 = g at *
  generalize a.2.length = len at *
  generalize b.1 = g2 at *
  generalize b.2.length = len2 at *
  have B0 := below2 w (.cells #[.bool g, .slice ad len cap] 24) (.cells #[.bool g2, .slice ae len2 cbp] 24)
  have s1 : (w.alloc (.cells #[.bool g, .slice ad len cap] 24)).heap.size = w.heap.size + 1 := by simp
  have X0 := (BoxW.made w (.bool g) (.slice ad len cap) 24).below (below1 _ (.cells #[.bool g2, .slice ae len2 cbp] 24)) (Nat.le_refl _)
  have Y0 := BoxW.made (w.alloc (.cells #[.bool g, .slice ad len cap] 24)) (.bool g2) (.slice ae len2 cbp) 24
  rw [s1] at Y0
  clear s1
  clear hs ht
  go_enter Try.func49, Try.ntmps49
  have c0 := X0.c0
  have c1 := X0.c1
  go_wp2_with fail
  refine (kA _ B0).mono ?_
  clear c0 c1
  generalize (w.alloc (.cells #[.bool g, .slice ad len cap] 24)).alloc (.cells #[.bool g2, .slice ae len2 cbp] 24) = w0 at *
  rintro e w1 ⟨p, rfl, hp, sp, b1⟩
  have Y1 := Y0.below b1 (Nat.le_refl _)
  have B1 := B0.trans (b1.mono B0.size)
  have c0 := Y1.c0
  have c1 := Y1.c1
  go_wp2_with fail
  refine (kB _ B1).mono ?_
  rintro e w2 ⟨q, rfl, hq, sq, b2⟩
  have sp2 := sp.below b2 sp.lt
  have B2 := B1.trans (b2.mono B1.size)
  clear c0 c1 kA kB
  go_wp2
  go_ret3
  exact ⟨p, q, rfl, sp2, sq, B2⟩

set_option maxRecDepth 20000 in
set_option maxHeartbeats 3200000 in
theorem twoNo (va vb : Value) (a b : Wh) (w : World) (ha : rowW w va a) (hb : rowW w vb b) (hla : a.2.length ≤ 1048576) (hlb : b.2.length ≤ 1048576) (hn : okW a = false ∨ okW b = false) :
    Calls Try.prog 49 #[va, vb] w fun e w' => ∃ p q, e = .returned (.tuple #[p, q, .bool false]) ∧ Below w.heap.size w w' := by
  obtain ⟨oa, hoa⟩ : ∃ o, okW a = o := ⟨_, rfl⟩
  obtain ⟨ob, hob⟩ : ∃ o, okW b = o := ⟨_, rfl⟩
  have hn' : (oa && ob) = false := by rw [← hoa, ← hob]; rcases hn with h | h <;> simp [h]
  have kA : ∀ W, Below w.heap.size w W → Calls Try.prog 45 #[va] W fun e w' => ∃ p, e = .returned (.tuple #[p, .bool oa]) ∧ Below W.heap.size W w' := fun W h => by
    cases oa
    · exact (sFromNo va a W (ha.below h (Nat.le_refl _)) hla hoa).mono fun e w' ⟨h1, h2⟩ => ⟨_, h1, h2⟩
    · exact (sFromYes va a W (ha.below h (Nat.le_refl _)) hla hoa).mono fun e w' ⟨b, h1, _, _, h2⟩ => ⟨_, h1, h2⟩
  have kB : ∀ W, Below w.heap.size w W → Calls Try.prog 45 #[vb] W fun e w' => ∃ p, e = .returned (.tuple #[p, .bool ob]) ∧ Below W.heap.size W w' := fun W h => by
    cases ob
    · exact (sFromNo vb b W (hb.below h (Nat.le_refl _)) hlb hob).mono fun e w' ⟨h1, h2⟩ => ⟨_, h1, h2⟩
    · exact (sFromYes vb b W (hb.below h (Nat.le_refl _)) hlb hob).mono fun e w' ⟨b, h1, _, _, h2⟩ => ⟨_, h1, h2⟩
  clear hoa hob hn
  obtain ⟨s, rfl, hs⟩ := ha
  obtain ⟨ad, cap, rfl, -⟩ := id hs
  obtain ⟨t, rfl, ht⟩ := hb
  obtain ⟨ae, cbp, rfl, -⟩ := id ht
  generalize a.1 = g at *
  generalize a.2.length = len at *
  generalize b.1 = g2 at *
  generalize b.2.length = len2 at *
  have B0 := below2 w (.cells #[.bool g, .slice ad len cap] 24) (.cells #[.bool g2, .slice ae len2 cbp] 24)
  have s1 : (w.alloc (.cells #[.bool g, .slice ad len cap] 24)).heap.size = w.heap.size + 1 := by simp
  have X0 := (BoxW.made w (.bool g) (.slice ad len cap) 24).below (below1 _ (.cells #[.bool g2, .slice ae len2 cbp] 24)) (Nat.le_refl _)
  have Y0 := BoxW.made (w.alloc (.cells #[.bool g, .slice ad len cap] 24)) (.bool g2) (.slice ae len2 cbp) 24
  rw [s1] at Y0
  clear s1
  clear hs ht
  cases oa <;> cases ob
  all_goals (try (simp at hn'; done))
  all_goals
    clear hn'
    go_enter Try.func49, Try.ntmps49
    have c0 := X0.c0
    have c1 := X0.c1
    go_wp2_with fail
    refine (kA _ B0).mono ?_
    clear c0 c1
    generalize (w.alloc (.cells #[.bool g, .slice ad len cap] 24)).alloc (.cells #[.bool g2, .slice ae len2 cbp] 24) = w0 at *
    rintro e w1 ⟨p, rfl, b1⟩
    have Y1 := Y0.below b1 (Nat.le_refl _)
    have B1 := B0.trans (b1.mono B0.size)
    have c0 := Y1.c0
    have c1 := Y1.c1
    go_wp2_with fail
    refine (kB _ B1).mono ?_
    rintro e w2 ⟨q, rfl, b2⟩
    have B2 := B1.trans (b2.mono B1.size)
    clear c0 c1 kA kB
    go_wp2
    go_ret3
    exact ⟨p, q, rfl, B2⟩

end Go.Proofs.Ytmjejnhbmhehdaa

/- The program's twoSigned: where the numbers stand, too. -/
namespace Go.Proofs.Ytmjejnhbmhehdaa
open Go.RowKit

set_option maxRecDepth 20000 in
set_option maxHeartbeats 3200000 in
theorem twoYes2 (va vb : Value) (a b : Wh) (w : World) (ha : rowW w va a) (hb : rowW w vb b) (hla : a.2.length ≤ 1048576) (hlb : b.2.length ≤ 1048576) (h1 : okW a = true) (h2 : okW b = true) :
    Calls Try.prog 49 #[va, vb] w fun e w' => ∃ p q, e = .returned (.tuple #[.pointer (some ⟨p, 0, none⟩), .pointer (some ⟨q, 0, none⟩), .bool true]) ∧ SG w' p (valW a) ∧ SG w' q (valW b) ∧ Below w.heap.size w w' ∧ w.heap.size ≤ p ∧ w.heap.size ≤ q := by
  have kA := fun W (h : Below w.heap.size w W) => sFromYes va a W (ha.below h (Nat.le_refl _)) hla h1
  have kB := fun W (h : Below w.heap.size w W) => sFromYes vb b W (hb.below h (Nat.le_refl _)) hlb h2
  clear h1 h2
  generalize valW a = x at *
  generalize valW b = y at *
  obtain ⟨s, rfl, hs⟩ := ha
  obtain ⟨ad, cap, rfl, -⟩ := id hs
  obtain ⟨t, rfl, ht⟩ := hb
  obtain ⟨ae, cbp, rfl, -⟩ := id ht
  generalize a.1 = g at *
  generalize a.2.length = len at *
  generalize b.1 = g2 at *
  generalize b.2.length = len2 at *
  have B0 := below2 w (.cells #[.bool g, .slice ad len cap] 24) (.cells #[.bool g2, .slice ae len2 cbp] 24)
  have s1 : (w.alloc (.cells #[.bool g, .slice ad len cap] 24)).heap.size = w.heap.size + 1 := by simp
  have X0 := (BoxW.made w (.bool g) (.slice ad len cap) 24).below (below1 _ (.cells #[.bool g2, .slice ae len2 cbp] 24)) (Nat.le_refl _)
  have Y0 := BoxW.made (w.alloc (.cells #[.bool g, .slice ad len cap] 24)) (.bool g2) (.slice ae len2 cbp) 24
  rw [s1] at Y0
  clear s1
  clear hs ht
  go_enter Try.func49, Try.ntmps49
  have c0 := X0.c0
  have c1 := X0.c1
  go_wp2_with fail
  refine (kA _ B0).mono ?_
  clear c0 c1
  generalize (w.alloc (.cells #[.bool g, .slice ad len cap] 24)).alloc (.cells #[.bool g2, .slice ae len2 cbp] 24) = w0 at *
  rintro e w1 ⟨p, rfl, hp, sp, b1⟩
  have Y1 := Y0.below b1 (Nat.le_refl _)
  have B1 := B0.trans (b1.mono B0.size)
  have c0 := Y1.c0
  have c1 := Y1.c1
  go_wp2_with fail
  refine (kB _ B1).mono ?_
  rintro e w2 ⟨q, rfl, hq, sq, b2⟩
  have sp2 := sp.below b2 sp.lt
  have B2 := B1.trans (b2.mono B1.size)
  clear c0 c1 kA kB
  go_wp2
  go_ret3
  exact ⟨p, q, rfl, sp2, sq, B2, Nat.le_trans B0.size hp, Nat.le_trans B1.size hq⟩


end Go.Proofs.Ytmjejnhbmhehdaa
