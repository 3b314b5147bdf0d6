/-
  At every argument SpinStep of the program answers as SpinStep of the specification, writes into no argument, and its answer owns its memory: no conditions.
-/
import Derived.Test.YtkbnfillbdjboaaSpL
import Derived.WalkKit
import Derived.ProofKit
import Derived.OpenShut
import Derived.ShutString
import Derived.ChangeOld
import Derived.ChangeSame
import Derived.Below
import Derived.Deep.Strs
namespace Go.Proofs.Ytkbnfillbdjboaa.fnExactSpinStep
open Go.ChangeShapes Go.WideShapes Go.ChangeAt Go.RowKit
open Go.ChangeMaps (open_string shut_string)
set_option linter.unusedVariables false
set_option linter.unusedSimpArgs false

theorem own : ownKnob Try.prog.godebug = none := by kernel_rfl
theorem laidOut : laidOutB Try.prog = true := by kernel_rfl


set_option maxRecDepth 100000 in
theorem openP {H : Type} {enc : TypeId × Value → H} {w : World} {base : Nat} {held : Bool} {r : Reach} {b0 : Nat} {v : Value} {d : DataW H} {ps : List MemPlace}
    (hval : Value.okWide Try.prog w r b0 26 v) (hd : DataW.Trod enc Try.prog w base (fun _ => true) held 26 v d ps) : ∃ g a l c zs g' a' l' c' zs' k, v = .agg #[.bool g, .slice a l c, .bool g', .slice a' l' c', .int .i64 k] ∧ IsRow .i64 w a l c zs ∧ IsRow .i64 w a' l' c' zs' ∧ (Lit.int .i64 k).wf = true := by
  obtain ⟨cs, rfl, hsz⟩ := okWide_struct Try.underlying26 hval
  have hc0 : Try.prog.cellsOf 26 = 5 := by kernel_rfl
  have hc1 : Try.prog.cellsOf 24 = 2 := by kernel_rfl
  have hc2 : Try.prog.cellsOf 4 = 1 := by kernel_rfl
  have hc3 : Try.prog.cellsOf 22 = 1 := by kernel_rfl
  have hc4 : Try.prog.cellsOf 3 = 1 := by kernel_rfl
  rw [hc0] at hsz
  obtain ⟨l⟩ := cs
  match l, hsz with
  | [c0, c1, c2, c3, c4], _ =>
  obtain ⟨fuel, hf⟩ := hd
  obtain ⟨y0, y1, y2, m, hx, _, hy0, hy1, hy2⟩ := Go.Deep.trod_struct3 Try.underlying26 hf
  obtain ⟨u0, u1, m0, hx0, _, hu0, hu1⟩ := trod_struct2 Try.underlying24 hy0
  obtain ⟨u2, u3, m1, hx1, _, hu2, hu3⟩ := trod_struct2 Try.underlying24 hy1
  obtain ⟨b, e0, _⟩ := DataW.trod_bool Try.underlying4 hu0
  obtain ⟨b', e2, _⟩ := DataW.trod_bool Try.underlying4 hu2
  obtain ⟨k, e4, _, wk⟩ := DataW.trod_int Try.underlying3 hy2
  simp [Value.cells, hc1, hc2, hc4] at e0 e2 e4
  subst e0 e2 e4
  have hA : ∃ a l c zs, c1 = .slice a l c ∧ IsRow .i64 w a l c zs := by
    rcases open_ints Try.underlying22 Try.underlying3 (by kernel_rfl) hu1 with ⟨hcs, _⟩ | ⟨x, l, c, zs, hcs, _, hl, hm, hz, _, hcell, hwz⟩
    · simp [Value.cells, hc1, hc3] at hcs
      exact ⟨none, 0, 0, [], hcs, .inl ⟨rfl, rfl, rfl, rfl⟩⟩
    · simp [Value.cells, hc1, hc3] at hcs
      exact ⟨some x, l, c, zs, hcs, .inr ⟨_, rfl, hl, hm, by simpa using hz, hcell, hwz⟩⟩
  have hB : ∃ a l c zs, c3 = .slice a l c ∧ IsRow .i64 w a l c zs := by
    rcases open_ints Try.underlying22 Try.underlying3 (by kernel_rfl) hu3 with ⟨hcs, _⟩ | ⟨x, l, c, zs, hcs, _, hl, hm, hz, _, hcell, hwz⟩
    · simp [Value.cells, hc1, hc3] at hcs
      exact ⟨none, 0, 0, [], hcs, .inl ⟨rfl, rfl, rfl, rfl⟩⟩
    · simp [Value.cells, hc1, hc3] at hcs
      exact ⟨some x, l, c, zs, hcs, .inr ⟨_, rfl, hl, hm, by simpa using hz, hcell, hwz⟩⟩
  obtain ⟨a, l, c, zs, rfl, h1⟩ := hA
  obtain ⟨a', l', c', zs', rfl, h2⟩ := hB
  exact ⟨b, a, l, c, zs, b', a', l', c', zs', k, rfl, h1, h2, wk⟩

theorem walk (w : World) (g0 : Bool) (a0 : Option Addr) (len0 cap0 : Nat) (z0 : List Int) (w0 : IsRow .i64 w a0 len0 cap0 z0) (gg0 : Bool) (aa0 : Option Addr) (lenb0 capb0 : Nat) (zz0 : List Int) (ww0 : IsRow .i64 w aa0 lenb0 capb0 zz0) (k0 : Int) (wk0 : (Lit.int .i64 k0).wf = true) (a1 : Int) (w1 : (Lit.int .i64 a1).wf = true) (a2 : Int) (w2 : (Lit.int .i64 a2).wf = true) :
    Calls Try.prog 3 #[.agg #[.bool g0, .slice a0 len0 cap0, .bool gg0, .slice aa0 lenb0 capb0, .int .i64 k0], .int .i64 a1, .int .i64 a2] w fun e w' => e = .returned (.bool true) ∧ Below w.heap.size w w' := walkSpinStep g0 a0 len0 cap0 z0 gg0 aa0 lenb0 capb0 zz0 k0 a1 a2 w w0 ww0 (Go.bounds_i64 w1) (Go.bounds_i64 w2) (fun h => stepR_len _ _ _ (take_le _ _ (by omega)) (take_le _ _ (by omega))) (fun va xs k d W h l1 l2 _ _ _ _ => sSpinStep va xs k d W h l1 l2) (fun va xs k d W h l1 l2 _ _ _ _ => iSpinStep va xs k d W h l1 l2)

set_option maxHeartbeats 1600000 in
set_option maxRecDepth 100000 in
theorem lifted (os : Os) (started : os.Started) (H : Type) (enc : TypeId × Value → H) :
    ReturnsInHanded {} Try.checked os 3 .any (Rows.fnExactSpinStepSpec.pre6 enc Try.prog Try.f3 Rows.fnExactSpinStepRow.domain false) (Rows.fnExactSpinStepSpec.post enc Try.prog Try.f3 false true false false) := by
  refine returnsInHanded_of_change (C := Try.checked) own started (by kernel_rfl) Try.func3
    (ChangeSpec.witness6 (enc := enc) (C := Try.checked) false ⟨#[], #[.agg #[.bool false, .slice none 0 0, .bool false, .slice none 0 0, .int .i64 0], .int .i64 0, .int .i64 0], []⟩ 8 (by kernel_rfl) (by kernel_rfl) (by kernel_rfl) (by kernel_rfl)) ?_
  intro W base args ds gs before hval0 hW hcnd _
  have hval : ∀ (j : Nat) t v, Try.f3.params[j]? = some t → args[j]? = some v → Value.okWide Try.prog W .any base t v := hval0
  have hW' := hW
  obtain ⟨p, q, hA0, hV, rfl, hfz, hnd⟩ := hW
  have hA : DataW.TrodAll enc Try.prog W 0 (fun _ => true) true Try.f3.params.toList args.toList ds p := hA0
  rw [Try.params3] at hA hval
  obtain ⟨v0, vs0, d0, ds0, p0, q0, hargs, rfl, rfl, h0, r0⟩ := trodAll_cons hA
  obtain ⟨v1, vs1, d1, ds1, p1, q1, hargs1, rfl, rfl, h1, r1⟩ := trodAll_cons r0
  obtain ⟨v2, vs2, d2, ds2, p2, q2, hargs2, rfl, rfl, h2, r2⟩ := trodAll_cons r1
  obtain ⟨rfl, rfl, rfl⟩ := trodAll_nil r2
  obtain rfl : args = #[v0, v1, v2] := by cases args; simp_all
  obtain ⟨rfl, rfl⟩ := trodVars_none hV
  have kk0 := h0
  have lt0 : ∀ x ∈ p0, x.block < W.heap.size := by obtain ⟨m, hm⟩ := kk0; exact DataW.trod_lt m _ _ _ hm
  obtain ⟨g0, a0, len0, cap0, z0, gg0, aa0, lenb0, capb0, zz0, k0, rfl, w0, ww0, wk0⟩ := openP (hval 0 26 v0 rfl rfl) h0
  obtain ⟨a1, rfl, rfl, rfl, w1⟩ := open_int Try.underlying3 (hval 1 3 v1 rfl rfl) h1
  obtain ⟨a2, rfl, rfl, rfl, w2⟩ := open_int Try.underlying3 (hval 2 3 v2 rfl rfl) h2
  clear hA0 hval0
  refine (walk W g0 a0 len0 cap0 z0 w0 gg0 aa0 lenb0 capb0 zz0 ww0 k0 wk0 a1 w1 a2 w2).mono fun e W' ⟨he, bel⟩ => ?_
  subst he
  exact ⟨_, rfl, _, _, _, [], _, [], hW', trodAll_mk1 (shut_bool Try.underlying4 _), (trodAll_cons_mk (Below.trod laidOut (by kernel_rfl) (of_decide_eq_true (by kernel_rfl)) kk0 bel lt0) (trodAll_cons_mk (shut_int Try.underlying3 w1) (trodAll_cons_mk (shut_int Try.underlying3 w2) trodAll_mk0))), rfl, bel.frame _, fun h => by cases h⟩

theorem over : Rows.fnExactSpinStepRow.holds Try.pinned (OpenSpec.ofChange Rows.fnExactSpinStepSpec) :=
  OpenClaim.holds_of_wide 3 Try.f3 rfl rfl rfl rfl rfl rfl rfl ⟨rfl, rfl, rfl, rfl, rfl⟩ rfl rfl rfl rfl rfl (by kernel_rfl) Try.func3 (by kernel_rfl)
    (of_decide_eq_true (by kernel_rfl)) (by unfold Func.isWrapper; first | (rw [if_pos (by decide +kernel)]; kernel_rfl) | (rw [if_neg (by decide +kernel)]; exact ⟨rfl, rfl⟩))
    (fun os started H enc _ => lifted os started H enc)

theorem proved : Rows.FnExactSpinStepSaid := over
#print axioms proved
end Go.Proofs.Ytkbnfillbdjboaa.fnExactSpinStep
namespace Go.Proofs.Ytkbnfillbdjboaa
theorem fnExactSpinStep_holds : Rows.FnExactSpinStepSaid := fnExactSpinStep.proved
end Go.Proofs.Ytkbnfillbdjboaa
