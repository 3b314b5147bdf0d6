/-
  At every argument EngineOk of the program answers as EngineOk of the specification, writes into no argument, and its answer owns its memory: no conditions.
-/
import Derived.Test.YtocaaklhlmnonaaEngB
import Derived.WalkKit
import Derived.ProofKit
import Derived.OpenShut
import Derived.ShutString
import Derived.ChangeOld
import Derived.ChangeSame
import Derived.Below
import Derived.Deep.Strs
namespace Go.Proofs.Ytocaaklhlmnonaa.fnExactEngineOk
open Go.ChangeShapes Go.WideShapes Go.ChangeAt Go.RowKit
open Go.ChangeMaps (open_string shut_string)
set_option linter.unusedVariables false
set_option linter.unusedSimpArgs false

theorem own : ownKnob Try.prog.godebug = none := by kernel_rfl
theorem laidOut : laidOutB Try.prog = true := by kernel_rfl


theorem trodS3 {H : Type} {enc : TypeId × Value → H} {P : Program} {w : World} {base : Nat} {spare : Nat → Bool} {held : Bool} {t : TypeId} {f0 f1 f2 : Field} {fuel : Nat} {cs : List Value} {x : DataW H × List MemPlace} (ht : P.underlying t = some (.struct #[f0, f1, f2])) (h : DataW.trod enc P w base spare held fuel t cs = some x) :
    ∃ y0 y1 y2 n, DataW.trod enc P w base spare held n f0.type ((cs.drop f0.offset).take (P.cellsOf f0.type)) = some y0 ∧ DataW.trod enc P w base spare held n f1.type ((cs.drop f1.offset).take (P.cellsOf f1.type)) = some y1 ∧ DataW.trod enc P w base spare held n f2.type ((cs.drop f2.offset).take (P.cellsOf f2.type)) = some y2 := by
  obtain ⟨xs, n, _, rfl, hl, hlen, hf⟩ := DataW.trod_struct ht h
  match xs, hlen with
  | [y0, y1, y2], _ => exact ⟨y0, y1, y2, n, by simpa using hf 0 f0 rfl, by simpa using hf 1 f1 rfl, by simpa using hf 2 f2 rfl⟩

theorem trodS5 {H : Type} {enc : TypeId × Value → H} {P : Program} {w : World} {base : Nat} {spare : Nat → Bool} {held : Bool} {t : TypeId} {f0 f1 f2 f3 f4 : Field} {fuel : Nat} {cs : List Value} {x : DataW H × List MemPlace} (ht : P.underlying t = some (.struct #[f0, f1, f2, f3, f4])) (h : DataW.trod enc P w base spare held fuel t cs = some x) :
    ∃ y0 y1 y2 y3 y4 n, DataW.trod enc P w base spare held n f0.type ((cs.drop f0.offset).take (P.cellsOf f0.type)) = some y0 ∧ DataW.trod enc P w base spare held n f1.type ((cs.drop f1.offset).take (P.cellsOf f1.type)) = some y1 ∧ DataW.trod enc P w base spare held n f2.type ((cs.drop f2.offset).take (P.cellsOf f2.type)) = some y2 ∧ DataW.trod enc P w base spare held n f3.type ((cs.drop f3.offset).take (P.cellsOf f3.type)) = some y3 ∧ DataW.trod enc P w base spare held n f4.type ((cs.drop f4.offset).take (P.cellsOf f4.type)) = some y4 := by
  obtain ⟨xs, n, _, rfl, hl, hlen, hf⟩ := DataW.trod_struct ht h
  match xs, hlen with
  | [y0, y1, y2, y3, y4], _ => exact ⟨y0, y1, y2, y3, y4, n, by simpa using hf 0 f0 rfl, by simpa using hf 1 f1 rfl, by simpa using hf 2 f2 rfl, by simpa using hf 3 f3 rfl, by simpa using hf 4 f4 rfl⟩

set_option maxRecDepth 100000 in
theorem openE {H : Type} {enc : TypeId × Value → H} {w : World} {base : Nat} {held : Bool} {r : Reach} {b0 : Nat} {v : Value} {d : DataW H} {ps : List MemPlace}
    (hval : Value.okWide Try.prog w r b0 43 v) (hd : DataW.Trod enc Try.prog w base (fun _ => true) held 43 v d ps) : ∃ (bx0 : Bool) (nx1 : Int) (nx2 : Int) (bx3 : Bool) (nx4 : Int) (nx5 : Int) (nx6 : Int) (nx7 : Int) (bx8 : Bool) (bx9 : Bool) (nx10 : Int), v = .agg #[.bool bx0, .int .i64 nx1, .int .i64 nx2, .bool bx3, .int .i64 nx4, .int .i64 nx5, .int .i64 nx6, .int .i64 nx7, .bool bx8, .bool bx9, .int .i64 nx10] ∧ (Lit.int .i64 nx1).wf = true ∧ (Lit.int .i64 nx2).wf = true ∧ (Lit.int .i64 nx4).wf = true ∧ (Lit.int .i64 nx5).wf = true ∧ (Lit.int .i64 nx6).wf = true ∧ (Lit.int .i64 nx7).wf = true ∧ (Lit.int .i64 nx10).wf = true := by
  obtain ⟨cs, rfl, hsz⟩ := okWide_struct Try.underlying43 hval
  have hc3 : Try.prog.cellsOf 3 = 1 := by kernel_rfl
  have hc4 : Try.prog.cellsOf 4 = 1 := by kernel_rfl
  have hc39 : Try.prog.cellsOf 39 = 3 := by kernel_rfl
  have hc41 : Try.prog.cellsOf 41 = 9 := by kernel_rfl
  have hc43 : Try.prog.cellsOf 43 = 11 := by kernel_rfl
  rw [hc43] at hsz
  obtain ⟨l⟩ := cs
  match l, hsz with
  | [c0, c1, c2, c3, c4, c5, c6, c7, c8, c9, c10], _ =>
  obtain ⟨fuel, hf⟩ := hd
  obtain ⟨y1_0, y1_1, y1_2, m1, h1_0, h1_1, h1_2⟩ := trodS3 Try.underlying43 hf
  obtain ⟨y2_0, y2_1, y2_2, y2_3, y2_4, m2, h2_0, h2_1, h2_2, h2_3, h2_4⟩ := trodS5 Try.underlying41 h1_0
  obtain ⟨y3_0, y3_1, y3_2, m3, h3_0, h3_1, h3_2⟩ := trodS3 Try.underlying39 h2_0
  obtain ⟨y4_0, y4_1, y4_2, m4, h4_0, h4_1, h4_2⟩ := trodS3 Try.underlying39 h2_1
  obtain ⟨b0, e0, _⟩ := DataW.trod_bool Try.underlying4 h3_0
  simp [Value.cells, hc3, hc4, hc39, hc41, hc43] at e0
  subst e0
  obtain ⟨n1, e1, _, w1⟩ := DataW.trod_int Try.underlying3 h3_1
  simp [Value.cells, hc3, hc4, hc39, hc41, hc43] at e1
  subst e1
  obtain ⟨n2, e2, _, w2⟩ := DataW.trod_int Try.underlying3 h3_2
  simp [Value.cells, hc3, hc4, hc39, hc41, hc43] at e2
  subst e2
  obtain ⟨b3, e3, _⟩ := DataW.trod_bool Try.underlying4 h4_0
  simp [Value.cells, hc3, hc4, hc39, hc41, hc43] at e3
  subst e3
  obtain ⟨n4, e4, _, w4⟩ := DataW.trod_int Try.underlying3 h4_1
  simp [Value.cells, hc3, hc4, hc39, hc41, hc43] at e4
  subst e4
  obtain ⟨n5, e5, _, w5⟩ := DataW.trod_int Try.underlying3 h4_2
  simp [Value.cells, hc3, hc4, hc39, hc41, hc43] at e5
  subst e5
  obtain ⟨n6, e6, _, w6⟩ := DataW.trod_int Try.underlying3 h2_2
  simp [Value.cells, hc3, hc4, hc39, hc41, hc43] at e6
  subst e6
  obtain ⟨n7, e7, _, w7⟩ := DataW.trod_int Try.underlying3 h2_3
  simp [Value.cells, hc3, hc4, hc39, hc41, hc43] at e7
  subst e7
  obtain ⟨b8, e8, _⟩ := DataW.trod_bool Try.underlying4 h2_4
  simp [Value.cells, hc3, hc4, hc39, hc41, hc43] at e8
  subst e8
  obtain ⟨b9, e9, _⟩ := DataW.trod_bool Try.underlying4 h1_1
  simp [Value.cells, hc3, hc4, hc39, hc41, hc43] at e9
  subst e9
  obtain ⟨n10, e10, _, w10⟩ := DataW.trod_int Try.underlying3 h1_2
  simp [Value.cells, hc3, hc4, hc39, hc41, hc43] at e10
  subst e10
  exact ⟨_, _, _, _, _, _, _, _, _, _, _, rfl, w1, w2, w4, w5, w6, w7, w10⟩

theorem walk (w : World) (b0x0 : Bool) (n0x1 : Int) (n0x2 : Int) (b0x3 : Bool) (n0x4 : Int) (n0x5 : Int) (n0x6 : Int) (n0x7 : Int) (b0x8 : Bool) (b0x9 : Bool) (n0x10 : Int) (w0x1 : (Lit.int .i64 n0x1).wf = true) (w0x2 : (Lit.int .i64 n0x2).wf = true) (w0x4 : (Lit.int .i64 n0x4).wf = true) (w0x5 : (Lit.int .i64 n0x5).wf = true) (w0x6 : (Lit.int .i64 n0x6).wf = true) (w0x7 : (Lit.int .i64 n0x7).wf = true) (w0x10 : (Lit.int .i64 n0x10).wf = true) :
    Calls Try.prog 8 #[.agg #[.bool b0x0, .int .i64 n0x1, .int .i64 n0x2, .bool b0x3, .int .i64 n0x4, .int .i64 n0x5, .int .i64 n0x6, .int .i64 n0x7, .bool b0x8, .bool b0x9, .int .i64 n0x10]] w fun e w' => e = .returned (.bool true) ∧ Below w.heap.size w w' := walkEngineOk b0x0 n0x1 n0x2 b0x3 n0x4 n0x5 n0x6 n0x7 b0x8 b0x9 n0x10 w

set_option maxHeartbeats 1600000 in
set_option maxRecDepth 100000 in
theorem lifted (os : Os) (started : os.Started) (H : Type) (enc : TypeId × Value → H) :
    ReturnsInHanded {} Try.checked os 8 .any (Rows.fnExactEngineOkSpec.pre6 enc Try.prog Try.f8 Rows.fnExactEngineOkRow.domain false) (Rows.fnExactEngineOkSpec.post enc Try.prog Try.f8 false true false false) := by
  refine returnsInHanded_of_change (C := Try.checked) own started (by kernel_rfl) Try.func8
    (ChangeSpec.witness6 (enc := enc) (C := Try.checked) false ⟨#[], #[.agg #[.bool false, .int .i64 0, .int .i64 0, .bool false, .int .i64 0, .int .i64 0, .int .i64 0, .int .i64 0, .bool false, .bool false, .int .i64 0]], []⟩ 8 (by kernel_rfl) (by kernel_rfl) (by kernel_rfl) (by kernel_rfl)) ?_
  intro W base args ds gs before hval0 hW hcnd _
  have hval : ∀ (j : Nat) t v, Try.f8.params[j]? = some t → args[j]? = some v → Value.okWide Try.prog W .any base t v := hval0
  have hW' := hW
  obtain ⟨p, q, hA0, hV, rfl, hfz, hnd⟩ := hW
  have hA : DataW.TrodAll enc Try.prog W 0 (fun _ => true) true Try.f8.params.toList args.toList ds p := hA0
  rw [Try.params8] at hA hval
  obtain ⟨v0, vs0, d0, ds0, p0, q0, hargs, rfl, rfl, h0, r0⟩ := trodAll_cons hA
  obtain ⟨rfl, rfl, rfl⟩ := trodAll_nil r0
  obtain rfl : args = #[v0] := by cases args; simp_all
  obtain ⟨rfl, rfl⟩ := trodVars_none hV
  have kk0 := h0
  have lt0 : ∀ x ∈ p0, x.block < W.heap.size := by obtain ⟨m, hm⟩ := kk0; exact DataW.trod_lt m _ _ _ hm
  obtain ⟨b0x0, n0x1, n0x2, b0x3, n0x4, n0x5, n0x6, n0x7, b0x8, b0x9, n0x10, rfl, w0x1, w0x2, w0x4, w0x5, w0x6, w0x7, w0x10⟩ := openE (hval 0 43 v0 rfl rfl) h0
  clear hA0 hval0
  refine (walk W b0x0 n0x1 n0x2 b0x3 n0x4 n0x5 n0x6 n0x7 b0x8 b0x9 n0x10 w0x1 w0x2 w0x4 w0x5 w0x6 w0x7 w0x10).mono fun e W' ⟨he, bel⟩ => ?_
  subst he
  exact ⟨_, rfl, _, _, _, [], _, [], hW', trodAll_mk1 (shut_bool Try.underlying4 _), (trodAll_cons_mk (Below.trod laidOut (by kernel_rfl) (of_decide_eq_true (by kernel_rfl)) kk0 bel lt0) trodAll_mk0), rfl, bel.frame _, fun h => by cases h⟩

theorem over : Rows.fnExactEngineOkRow.holds Try.pinned (OpenSpec.ofChange Rows.fnExactEngineOkSpec) :=
  OpenClaim.holds_of_wide 8 Try.f8 rfl rfl rfl rfl rfl rfl rfl ⟨rfl, rfl, rfl, rfl, rfl⟩ rfl rfl rfl rfl rfl (by kernel_rfl) Try.func8 (by kernel_rfl)
    (of_decide_eq_true (by kernel_rfl)) (by unfold Func.isWrapper; first | (rw [if_pos (by decide +kernel)]; kernel_rfl) | (rw [if_neg (by decide +kernel)]; exact ⟨rfl, rfl⟩))
    (fun os started H enc _ => lifted os started H enc)

theorem proved : Rows.FnExactEngineOkSaid := over
#print axioms proved
end Go.Proofs.Ytocaaklhlmnonaa.fnExactEngineOk
namespace Go.Proofs.Ytocaaklhlmnonaa
theorem fnExactEngineOk_holds : Rows.FnExactEngineOkSaid := fnExactEngineOk.proved
end Go.Proofs.Ytocaaklhlmnonaa
