/-
  Proved here: for every int, laws.FnExactPutNum returns true and leaves its argument as it was: PutNum of the program answers as the specification's, and what it answers is memory of its own. No condition.
-/
import Derived.Test.YtnanabbkogakmalPut
import Derived.WalkKit
import Derived.ProofKit
import Derived.OpenShut
import Derived.ShutString
import Derived.ChangeOld
import Derived.Below
namespace Go.Proofs.Ytnanabbkogakmal.fnExactPutNum
open Go.ChangeShapes Go.WideShapes Go.ChangeAt Go.RowKit
open Go.ChangeMaps (open_string shut_string)
set_option linter.unusedVariables false      -- a walk need not use every 'w<i>' (that an integer argument fits its kind)

theorem own : ownKnob Try.prog.godebug = none := by kernel_rfl

theorem below_drawn (B : Nat) (w : World) (n : Nat) : Below B w (w.drewN n) := ⟨rfl, rfl, rfl, Nat.le_refl _, fun _ _ => rfl⟩

set_option maxHeartbeats 1600000 in
theorem walk (a0 : Int) (w0 : (Lit.int .i64 a0).wf = true) (w : World) :
    Calls Try.prog 3 #[.int .i64 a0] w fun e w' => e = .returned (.bool true) ∧ Below w.heap.size w w' := by
  have hl := put_le a0
  go_enter Try.func3, Try.ntmps3
  go_wp2_with fail
  refine (sput a0 _).mono ?_
  rintro e w1 ⟨v1, rfl, o1, b1⟩
  go_wp2_with fail
  refine (iput a0 _).mono ?_
  rintro e w2 ⟨v2, rfl, o2, b2⟩
  have o1' : ownsB w2 w.heap.size v1 (put a0) := o1.below b2 (Nat.le_refl _)
  go_wp2_with fail
  refine (eqB _ _ _ _ _ _ (by omega) o2 o1').mono ?_
  rintro e w3 ⟨rfl, n3, rfl⟩
  go_wp2_with fail
  refine (markB w1.heap.size v2 (put a0) 1 (w2.drewN n3) (by omega) (by omega) (by omega) o2).mono ?_
  rintro e w4 ⟨rfl, o4, g4⟩
  have o1'' : ownsB w4 w.heap.size v1 (put a0) := ownsB.kept (w := w2.drewN n3) o1' g4 (apart_rows o1 o2)
  have hs1 := b1.size
  have hs2 := b2.size
  have b4 : Below w.heap.size w w4 := ((b1.trans (b2.mono hs1)).trans (below_drawn _ _ n3)).grown g4 (by simpa using Nat.le_trans hs1 hs2) (fun k hk => Nat.le_trans hs1 (World.ownsRow.lt o2 k hk).1)
  clear g4 o1 o1' o2
  go_wp2_with fail
  refine (heldB w1.heap.size v2 1 (put a0).length w4 (by omega) (by omega) (by omega) o4).mono ?_
  rintro e w' ⟨rfl, rfl⟩
  go_wp2_with fail
  refine (iput a0 _).mono ?_
  rintro e w5 ⟨v3, rfl, o5, b5⟩
  have o15 : ownsB w5 w.heap.size v1 (put a0) := o1''.below b5 (Nat.le_refl _)
  have o45 : ownsB w5 w1.heap.size v2 (marks 1 (put a0).length) := o4.below b5 (Nat.le_refl _)
  have b5' : Below w.heap.size w w5 := b4.trans (b5.mono b4.size)
  clear o1'' o4 b4
  go_wp2_with fail
  refine (eqB _ _ _ _ _ _ (by omega) o5 o15).mono ?_
  rintro e w6 ⟨rfl, n6, rfl⟩
  go_wp2_with fail
  refine (heldB w1.heap.size v2 1 (put a0).length (w5.drewN n6) (by omega) (by omega) (by omega) o45).mono ?_
  rintro e w' ⟨rfl, rfl⟩
  go_wp2
  go_ret
  exact ⟨rfl, b5'.trans (below_drawn _ _ n6)⟩

/-! ### THE ROW's STEP: WRITTEN OUT: LEAVE IT -/
set_option maxRecDepth 100000 in
theorem lifted (os : Os) (started : os.Started) (H : Type) (enc : TypeId × Value → H) :
    ReturnsInHanded {} Try.checked os 3 .any (Rows.fnExactPutNumSpec.pre6 enc Try.prog Try.f3 Rows.fnExactPutNumRow.domain false) (Rows.fnExactPutNumSpec.post enc Try.prog Try.f3 false true false false) := by
  refine returnsInHanded_of_change (C := Try.checked) own started (by kernel_rfl) Try.func3
    (ChangeSpec.witness6 (enc := enc) (C := Try.checked) false ⟨#[], #[.int .i64 0], []⟩ 8 (by kernel_rfl) (by kernel_rfl) (by kernel_rfl) (by kernel_rfl)) ?_
  intro W base args ds gs before hval0 hW hcnd _
  have hval : ∀ (j : Nat) t v, Try.f3.params[j]? = some t → args[j]? = some v → Value.okWide Try.prog W .any base t v := hval0
  have hW' := hW
  obtain ⟨p, q, hA0, hV, rfl, hfz, hnd⟩ := hW
  have hA : DataW.TrodAll enc Try.prog W 0 (fun _ => true) true Try.f3.params.toList args.toList ds p := hA0
  rw [Try.params3] at hA hval
  obtain ⟨v0, vs0, d0, ds0, p0, q0, hargs, rfl, rfl, h0, r0⟩ := trodAll_cons hA
  obtain ⟨rfl, rfl, rfl⟩ := trodAll_nil r0
  obtain rfl : args = #[v0] := by cases args; simp_all
  obtain ⟨rfl, rfl⟩ := trodVars_none hV
  obtain ⟨a0, rfl, rfl, rfl, w0⟩ := open_int Try.underlying3 (hval 0 3 v0 rfl rfl) h0
  clear hA0 hval0
  refine (walk a0 w0 W).mono fun e W' ⟨he, bel⟩ => ?_
  subst he
  exact ⟨_, rfl, _, _, _, [], _, [], hW', trodAll_mk1 (shut_bool Try.underlying4 _), (trodAll_cons_mk (shut_int Try.underlying3 w0) trodAll_mk0), rfl, bel.frame _, fun h => by cases h⟩

theorem over : Rows.fnExactPutNumRow.holds Try.pinned (OpenSpec.ofChange Rows.fnExactPutNumSpec) :=
  OpenClaim.holds_of_wide 3 Try.f3 rfl rfl rfl rfl rfl rfl rfl ⟨rfl, rfl, rfl, rfl, rfl⟩ rfl rfl rfl rfl rfl (by kernel_rfl) Try.func3 (by kernel_rfl)
    (of_decide_eq_true (by kernel_rfl)) (by unfold Func.isWrapper; first | (rw [if_pos (by decide +kernel)]; kernel_rfl) | (rw [if_neg (by decide +kernel)]; exact ⟨rfl, rfl⟩))
    (fun os started H enc _ => lifted os started H enc)

/-- ████ THE STATEMENT ████ -/
theorem proved : Rows.FnExactPutNumSaid :=
  over
#print axioms proved
end Go.Proofs.Ytnanabbkogakmal.fnExactPutNum
namespace Go.Proofs.Ytnanabbkogakmal
theorem fnExactPutNum_holds : Rows.FnExactPutNumSaid := fnExactPutNum.proved
end Go.Proofs.Ytnanabbkogakmal
