/-
  At every argument ConfOk of the program answers as ConfOk of the specification, and writes into no argument: no conditions.
-/
import Derived.Test.YtbfaeieddbaclaaConfB
import Derived.WalkKit
import Derived.ProofKit
import Derived.OpenShut
import Derived.ShutString
import Derived.ChangeOld
import Derived.ChangeSame
import Derived.Below
import Derived.Deep.Strs
namespace Go.Proofs.Ytbfaeieddbaclaa.fnExactConfOk
open Go.ChangeShapes Go.WideShapes Go.ChangeAt Go.RowKit
open Go.ChangeMaps (open_string shut_string)
set_option linter.unusedVariables false
set_option linter.unusedSimpArgs false

theorem own : ownKnob Try.prog.godebug = none := by kernel_rfl
theorem laidOut : laidOutB Try.prog = true := by kernel_rfl


theorem trod_struct5 {H : Type} {enc : TypeId × Value → H} {P : Program} {w : World} {base : Nat} {spare : Nat → Bool} {held : Bool} {t : TypeId} {f0 f1 f2 f3 f4 : Field} {fuel : Nat} {cs : List Value} {x : DataW H × List MemPlace} (ht : P.underlying t = some (.struct #[f0, f1, f2, f3, f4])) (h : DataW.trod enc P w base spare held fuel t cs = some x) :
    ∃ y0 y1 y2 y3 y4 n, DataW.trod enc P w base spare held n f0.type ((cs.drop f0.offset).take (P.cellsOf f0.type)) = some y0 ∧ DataW.trod enc P w base spare held n f1.type ((cs.drop f1.offset).take (P.cellsOf f1.type)) = some y1 ∧ DataW.trod enc P w base spare held n f2.type ((cs.drop f2.offset).take (P.cellsOf f2.type)) = some y2 ∧ DataW.trod enc P w base spare held n f3.type ((cs.drop f3.offset).take (P.cellsOf f3.type)) = some y3 ∧ DataW.trod enc P w base spare held n f4.type ((cs.drop f4.offset).take (P.cellsOf f4.type)) = some y4 := by
  obtain ⟨xs, n, _, rfl, hl, hlen, hf⟩ := DataW.trod_struct ht h
  match xs, hlen with
  | [y0, y1, y2, y3, y4], _ => exact ⟨y0, y1, y2, y3, y4, n, by simpa using hf 0 f0 rfl, by simpa using hf 1 f1 rfl, by simpa using hf 2 f2 rfl, by simpa using hf 3 f3 rfl, by simpa using hf 4 f4 rfl⟩

set_option maxRecDepth 100000 in
theorem openQ {H : Type} {enc : TypeId × Value → H} {w : World} {base : Nat} {sp : Nat → Bool} {held : Bool} {r : Reach} {b0 : Nat} {v : Value} {d : DataW H} {ps : List MemPlace}
    (hval : Value.okWide Try.prog w r b0 37 v) (hd : DataW.Trod enc Try.prog w base sp held 37 v d ps) : ∃ g m n g' m' n' md po tn, v = .agg #[.bool g, .int .i64 m, .int .i64 n, .bool g', .int .i64 m', .int .i64 n', .int .i64 md, .int .i64 po, .bool tn] := by
  obtain ⟨cs, rfl, hsz⟩ := okWide_struct Try.underlying37 hval
  have hc0 : Try.prog.cellsOf 37 = 9 := by kernel_rfl
  have hc1 : Try.prog.cellsOf 35 = 3 := by kernel_rfl
  have hc2 : Try.prog.cellsOf 4 = 1 := by kernel_rfl
  have hc3 : Try.prog.cellsOf 3 = 1 := by kernel_rfl
  rw [hc0] at hsz
  obtain ⟨l⟩ := cs
  match l, hsz with
  | [c0, c1, c2, c3, c4, c5, c6, c7, c8], _ =>
  obtain ⟨fuel, hf⟩ := hd
  obtain ⟨y0, y1, y2, y3, y4, m, hy0, hy1, hy2, hy3, hy4⟩ := trod_struct5 Try.underlying37 hf
  obtain ⟨u0, u1, u2, m0, _, _, hu0, hu1, hu2⟩ := Go.Deep.trod_struct3 Try.underlying35 hy0
  obtain ⟨u3, u4, u5, m1, _, _, hu3, hu4, hu5⟩ := Go.Deep.trod_struct3 Try.underlying35 hy1
  obtain ⟨b0', e0, _⟩ := DataW.trod_bool Try.underlying4 hu0
  obtain ⟨p1, e1, _, _⟩ := DataW.trod_int Try.underlying3 hu1
  obtain ⟨p2, e2, _, _⟩ := DataW.trod_int Try.underlying3 hu2
  obtain ⟨b3', e3, _⟩ := DataW.trod_bool Try.underlying4 hu3
  obtain ⟨p4, e4, _, _⟩ := DataW.trod_int Try.underlying3 hu4
  obtain ⟨p5, e5, _, _⟩ := DataW.trod_int Try.underlying3 hu5
  obtain ⟨p6, e6, _, _⟩ := DataW.trod_int Try.underlying3 hy2
  obtain ⟨p7, e7, _, _⟩ := DataW.trod_int Try.underlying3 hy3
  obtain ⟨b8', e8, _⟩ := DataW.trod_bool Try.underlying4 hy4
  simp [Value.cells, hc1, hc2, hc3] at e0 e1 e2 e3 e4 e5 e6 e7 e8
  subst e0 e1 e2 e3 e4 e5 e6 e7 e8
  exact ⟨_, _, _, _, _, _, _, _, _, rfl⟩

theorem walk (w : World) (g0 : Bool) (m0 n0 : Int) (gg0 : Bool) (mm0 nn0 : Int) (md0 po0 : Int) (tn0 : Bool) :
    Calls Try.prog 10 #[.agg #[.bool g0, .int .i64 m0, .int .i64 n0, .bool gg0, .int .i64 mm0, .int .i64 nn0, .int .i64 md0, .int .i64 po0, .bool tn0]] w fun e w' => e = .returned (.bool true) ∧ Below w.heap.size w w' := walkConfOk g0 m0 n0 gg0 mm0 nn0 md0 po0 tn0 w

set_option maxHeartbeats 1600000 in
set_option maxRecDepth 100000 in
theorem lifted (os : Os) (started : os.Started) (H : Type) (enc : TypeId × Value → H) :
    ReturnsInHanded {} Try.checked os 10 .any (Rows.fnExactConfOkSpec.pre6 enc Try.prog Try.f10 Rows.fnExactConfOkRow.domain false) (Rows.fnExactConfOkSpec.post enc Try.prog Try.f10 false true false false) := by
  refine returnsInHanded_of_change (C := Try.checked) own started (by kernel_rfl) Try.func10
    (ChangeSpec.witness6 (enc := enc) (C := Try.checked) false ⟨#[], #[.agg #[.bool false, .int .i64 0, .int .i64 0, .bool false, .int .i64 0, .int .i64 0, .int .i64 0, .int .i64 0, .bool false]], []⟩ 8 (by kernel_rfl) (by kernel_rfl) (by kernel_rfl) (by kernel_rfl)) ?_
  intro W base args ds gs before hval0 hW hcnd _
  have hval : ∀ (j : Nat) t v, Try.f10.params[j]? = some t → args[j]? = some v → Value.okWide Try.prog W .any base t v := hval0
  have hW' := hW
  obtain ⟨p, q, hA0, hV, rfl, hfz, hnd⟩ := hW
  have hA : DataW.TrodAll enc Try.prog W 0 (fun _ => true) true Try.f10.params.toList args.toList ds p := hA0
  rw [Try.params10] at hA hval
  obtain ⟨v0, vs0, d0, ds0, p0, q0, hargs, rfl, rfl, h0, r0⟩ := trodAll_cons hA
  obtain ⟨rfl, rfl, rfl⟩ := trodAll_nil r0
  obtain rfl : args = #[v0] := by cases args; simp_all
  obtain ⟨rfl, rfl⟩ := trodVars_none hV
  have k0 := h0
  have lt0 : ∀ x ∈ p0, x.block < W.heap.size := by obtain ⟨m, hm⟩ := k0; exact DataW.trod_lt m _ _ _ hm
  obtain ⟨g0, m0, n0, gg0, mm0, nn0, md0, po0, tn0, rfl⟩ := openQ (hval 0 37 v0 rfl rfl) h0
  clear hA0 hval0
  refine (walk W g0 m0 n0 gg0 mm0 nn0 md0 po0 tn0).mono fun e W' ⟨he, bel⟩ => ?_
  subst he
  exact ⟨_, rfl, _, _, _, [], _, [], hW', trodAll_mk1 (shut_bool Try.underlying4 _), (trodAll_cons_mk (Below.trod laidOut (by kernel_rfl) (of_decide_eq_true (by kernel_rfl)) k0 bel lt0) trodAll_mk0), rfl, bel.frame _, fun h => by cases h⟩

theorem over : Rows.fnExactConfOkRow.holds Try.pinned (OpenSpec.ofChange Rows.fnExactConfOkSpec) :=
  OpenClaim.holds_of_wide 10 Try.f10 rfl rfl rfl rfl rfl rfl rfl ⟨rfl, rfl, rfl, rfl, rfl⟩ rfl rfl rfl rfl rfl (by kernel_rfl) Try.func10 (by kernel_rfl)
    (of_decide_eq_true (by kernel_rfl)) (by unfold Func.isWrapper; first | (rw [if_pos (by decide +kernel)]; kernel_rfl) | (rw [if_neg (by decide +kernel)]; exact ⟨rfl, rfl⟩))
    (fun os started H enc _ => lifted os started H enc)

theorem proved : Rows.FnExactConfOkSaid := over
#print axioms proved
end Go.Proofs.Ytbfaeieddbaclaa.fnExactConfOk
namespace Go.Proofs.Ytbfaeieddbaclaa
theorem fnExactConfOk_holds : Rows.FnExactConfOkSaid := fnExactConfOk.proved
end Go.Proofs.Ytbfaeieddbaclaa
