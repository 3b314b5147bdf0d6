/-
  At every argument SpinRun of the program answers as SpinRun of the specification, writes into no argument, and its answer owns its memory: no conditions.
-/
import Derived.Test.YtkbnfillbdjboaaSrL
import Derived.WalkKit
import Derived.ProofKit
import Derived.OpenShut
import Derived.ShutString
import Derived.ChangeOld
import Derived.ChangeSame
import Derived.Below
import Derived.Deep.Strs
namespace Go.Proofs.Ytkbnfillbdjboaa.fnExactSpinRun
open Go.ChangeShapes Go.WideShapes Go.ChangeAt Go.RowKit
open Go.ChangeMaps (open_string shut_string)
set_option linter.unusedVariables false
set_option linter.unusedSimpArgs false

theorem own : ownKnob Try.prog.godebug = none := by kernel_rfl
theorem laidOut : laidOutB Try.prog = true := by kernel_rfl


set_option maxRecDepth 100000 in
theorem openP {H : Type} {enc : TypeId × Value → H} {w : World} {base : Nat} {held : Bool} {r : Reach} {b0 : Nat} {v : Value} {d : DataW H} {ps : List MemPlace}
    (hval : Value.okWide Try.prog w r b0 26 v) (hd : DataW.Trod enc Try.prog w base (fun _ => true) held 26 v d ps) : ∃ g a l c zs g' a' l' c' zs' k, v = .agg #[.bool g, .slice a l c, .bool g', .slice a' l' c', .int .i64 k] ∧ IsRow .i64 w a l c zs ∧ IsRow .i64 w a' l' c' zs' ∧ (Lit.int .i64 k).wf = true := by
  obtain ⟨cs, rfl, hsz⟩ := okWide_struct Try.underlying26 hval
  have hc0 : Try.prog.cellsOf 26 = 5 := by kernel_rfl
  have hc1 : Try.prog.cellsOf 24 = 2 := by kernel_rfl
  have hc2 : Try.prog.cellsOf 4 = 1 := by kernel_rfl
  have hc3 : Try.prog.cellsOf 22 = 1 := by kernel_rfl
  have hc4 : Try.prog.cellsOf 3 = 1 := by kernel_rfl
  rw [hc0] at hsz
  obtain ⟨l⟩ := cs
  match l, hsz with
  | [c0, c1, c2, c3, c4], _ =>
  obtain ⟨fuel, hf⟩ := hd
  obtain ⟨y0, y1, y2, m, hx, _, hy0, hy1, hy2⟩ := Go.Deep.trod_struct3 Try.underlying26 hf
  obtain ⟨u0, u1, m0, hx0, _, hu0, hu1⟩ := trod_struct2 Try.underlying24 hy0
  obtain ⟨u2, u3, m1, hx1, _, hu2, hu3⟩ := trod_struct2 Try.underlying24 hy1
  obtain ⟨b, e0, _⟩ := DataW.trod_bool Try.underlying4 hu0
  obtain ⟨b', e2, _⟩ := DataW.trod_bool Try.underlying4 hu2
  obtain ⟨k, e4, _, wk⟩ := DataW.trod_int Try.underlying3 hy2
  simp [Value.cells, hc1, hc2, hc4] at e0 e2 e4
  subst e0 e2 e4
  have hA : ∃ a l c zs, c1 = .slice a l c ∧ IsRow .i64 w a l c zs := by
    rcases open_ints Try.underlying22 Try.underlying3 (by kernel_rfl) hu1 with ⟨hcs, _⟩ | ⟨x, l, c, zs, hcs, _, hl, hm, hz, _, hcell, hwz⟩
    · simp [Value.cells, hc1, hc3] at hcs
      exact ⟨none, 0, 0, [], hcs, .inl ⟨rfl, rfl, rfl, rfl⟩⟩
    · simp [Value.cells, hc1, hc3] at hcs
      exact ⟨some x, l, c, zs, hcs, .inr ⟨_, rfl, hl, hm, by simpa using hz, hcell, hwz⟩⟩
  have hB : ∃ a l c zs, c3 = .slice a l c ∧ IsRow .i64 w a l c zs := by
    rcases open_ints Try.underlying22 Try.underlying3 (by kernel_rfl) hu3 with ⟨hcs, _⟩ | ⟨x, l, c, zs, hcs, _, hl, hm, hz, _, hcell, hwz⟩
    · simp [Value.cells, hc1, hc3] at hcs
      exact ⟨none, 0, 0, [], hcs, .inl ⟨rfl, rfl, rfl, rfl⟩⟩
    · simp [Value.cells, hc1, hc3] at hcs
      exact ⟨some x, l, c, zs, hcs, .inr ⟨_, rfl, hl, hm, by simpa using hz, hcell, hwz⟩⟩
  obtain ⟨a, l, c, zs, rfl, h1⟩ := hA
  obtain ⟨a', l', c', zs', rfl, h2⟩ := hB
  exact ⟨b, a, l, c, zs, b', a', l', c', zs', k, rfl, h1, h2, wk⟩

theorem walk (w : World) (g0 : Bool) (a0 : Option Addr) (len0 cap0 : Nat) (z0 : List Int) (w0 : IsRow .i64 w a0 len0 cap0 z0) (gg0 : Bool) (aa0 : Option Addr) (lenb0 capb0 : Nat) (zz0 : List Int) (ww0 : IsRow .i64 w aa0 lenb0 capb0 zz0) (k0 : Int) (wk0 : (Lit.int .i64 k0).wf = true) (a1 : Option Addr) (len1 cap1 : Nat) (z1 : List Int) (w1 : IsRow .i64 w a1 len1 cap1 z1) :
    Calls Try.prog 4 #[.agg #[.bool g0, .slice a0 len0 cap0, .bool gg0, .slice aa0 lenb0 capb0, .int .i64 k0], .slice a1 len1 cap1] w fun e w' => e = .returned (.bool true) ∧ Below w.heap.size w w' := walkSpinRun g0 a0 len0 cap0 z0 gg0 aa0 lenb0 capb0 zz0 k0 a1 len1 cap1 z1 w w0 ww0 w1 (fun h => runR_len _ _ (take_leR _ _ (by omega)) (take_leR _ _ (by omega))) (fun va xs vb ys W h l1 l2 h' l3 => sSpinRun va vb xs ys W h l1 l2 h' l3) (fun va xs vb ys W h l1 l2 h' l3 => iSpinRun va vb xs ys W h l1 l2 h' l3)

set_option maxHeartbeats 1600000 in
set_option maxRecDepth 100000 in
theorem lifted (os : Os) (started : os.Started) (H : Type) (enc : TypeId × Value → H) :
    ReturnsInHanded {} Try.checked os 4 .any (Rows.fnExactSpinRunSpec.pre6 enc Try.prog Try.f4 Rows.fnExactSpinRunRow.domain false) (Rows.fnExactSpinRunSpec.post enc Try.prog Try.f4 false true false false) := by
  refine returnsInHanded_of_change (C := Try.checked) own started (by kernel_rfl) Try.func4
    (ChangeSpec.witness6 (enc := enc) (C := Try.checked) false ⟨#[], #[.agg #[.bool false, .slice none 0 0, .bool false, .slice none 0 0, .int .i64 0], .slice none 0 0], []⟩ 8 (by kernel_rfl) (by kernel_rfl) (by kernel_rfl) (by kernel_rfl)) ?_
  intro W base args ds gs before hval0 hW hcnd _
  have hval : ∀ (j : Nat) t v, Try.f4.params[j]? = some t → args[j]? = some v → Value.okWide Try.prog W .any base t v := hval0
  have hW' := hW
  obtain ⟨p, q, hA0, hV, rfl, hfz, hnd⟩ := hW
  have hA : DataW.TrodAll enc Try.prog W 0 (fun _ => true) true Try.f4.params.toList args.toList ds p := hA0
  rw [Try.params4] at hA hval
  obtain ⟨v0, vs0, d0, ds0, p0, q0, hargs, rfl, rfl, h0, r0⟩ := trodAll_cons hA
  obtain ⟨v1, vs1, d1, ds1, p1, q1, hargs1, rfl, rfl, h1, r1⟩ := trodAll_cons r0
  obtain ⟨rfl, rfl, rfl⟩ := trodAll_nil r1
  obtain rfl : args = #[v0, v1] := by cases args; simp_all
  obtain ⟨rfl, rfl⟩ := trodVars_none hV
  have kk0 := h0
  have lt0 : ∀ x ∈ p0, x.block < W.heap.size := by obtain ⟨m, hm⟩ := kk0; exact DataW.trod_lt m _ _ _ hm
  obtain ⟨g0, a0, len0, cap0, z0, gg0, aa0, lenb0, capb0, zz0, k0, rfl, w0, ww0, wk0⟩ := openP (hval 0 26 v0 rfl rfl) h0
  obtain ⟨a1, len1, cap1, rfl⟩ := okWide_slice Try.underlying22 (hval 1 22 v1 rfl rfl)
  have k1 := h1
  have lt1 : ∀ x ∈ p1, x.block < W.heap.size := by obtain ⟨m, hm⟩ := k1; exact DataW.trod_lt m _ _ _ hm
  obtain ⟨z1, w1⟩ : ∃ zs, IsRow .i64 W a1 len1 cap1 zs := by
    obtain ⟨fuel, hf⟩ := h1
    rcases open_ints Try.underlying22 Try.underlying3 (by kernel_rfl) hf with ⟨hcs, _⟩ | ⟨x, l, c, zs, hcs, _, hl, hm, hz, _, hcell, hwz⟩
    · simp [Value.cells] at hcs
      obtain ⟨rfl, rfl, rfl⟩ := hcs
      exact ⟨[], .inl ⟨rfl, rfl, rfl, rfl⟩⟩
    · simp [Value.cells] at hcs
      obtain ⟨rfl, rfl, rfl⟩ := hcs
      exact ⟨zs, .inr ⟨_, rfl, hl, hm, by simpa using hz, hcell, hwz⟩⟩
  clear hA0 hval0
  refine (walk W g0 a0 len0 cap0 z0 w0 gg0 aa0 lenb0 capb0 zz0 ww0 k0 wk0 a1 len1 cap1 z1 w1).mono fun e W' ⟨he, bel⟩ => ?_
  subst he
  exact ⟨_, rfl, _, _, _, [], _, [], hW', trodAll_mk1 (shut_bool Try.underlying4 _), (trodAll_cons_mk (Below.trod laidOut (by kernel_rfl) (of_decide_eq_true (by kernel_rfl)) kk0 bel lt0) (trodAll_cons_mk (Below.trod laidOut (by kernel_rfl) (of_decide_eq_true (by kernel_rfl)) k1 bel lt1) trodAll_mk0)), rfl, bel.frame _, fun h => by cases h⟩

theorem over : Rows.fnExactSpinRunRow.holds Try.pinned (OpenSpec.ofChange Rows.fnExactSpinRunSpec) :=
  OpenClaim.holds_of_wide 4 Try.f4 rfl rfl rfl rfl rfl rfl rfl ⟨rfl, rfl, rfl, rfl, rfl⟩ rfl rfl rfl rfl rfl (by kernel_rfl) Try.func4 (by kernel_rfl)
    (of_decide_eq_true (by kernel_rfl)) (by unfold Func.isWrapper; first | (rw [if_pos (by decide +kernel)]; kernel_rfl) | (rw [if_neg (by decide +kernel)]; exact ⟨rfl, rfl⟩))
    (fun os started H enc _ => lifted os started H enc)

theorem proved : Rows.FnExactSpinRunSaid := over
#print axioms proved
end Go.Proofs.Ytkbnfillbdjboaa.fnExactSpinRun
namespace Go.Proofs.Ytkbnfillbdjboaa
theorem fnExactSpinRun_holds : Rows.FnExactSpinRunSaid := fnExactSpinRun.proved
end Go.Proofs.Ytkbnfillbdjboaa
