/-
  Proved here: for every text and byte, laws.FnExactParts returns true and leaves its arguments as they were: Parts of the program answers as the specification's, in memory of its own. No condition.
-/
import Derived.Test.YtnanabbkogakmalCut
import Derived.WalkKit
import Derived.ProofKit
import Derived.OpenShut
import Derived.ShutString
import Derived.Below
import Derived.ChangeOld
namespace Go.Proofs.Ytnanabbkogakmal.fnExactParts
open Go.ChangeShapes Go.WideShapes Go.ChangeAt Go.RowKit
open Go.ChangeMaps (open_string shut_string)
set_option linter.unusedVariables false      

theorem own : ownKnob Try.prog.godebug = none := by kernel_rfl

theorem below_drawn (B : Nat) (w : World) (n : Nat) : Below B w (w.drewN n) := ⟨rfl, rfl, rfl, Nat.le_refl _, fun _ _ => rfl⟩

set_option maxHeartbeats 1600000 in
theorem walk_small (s : ByteArray) (b : Int) (hs : s.size ≤ 1048576) (w : World) :
    Calls Try.prog 4 #[.string s, .int .u8 b] w fun e w' => e = .returned (.bool true) ∧ Below w.heap.size w w' := by
  have hl : (cuts s b).length ≤ 1048577 := by have := cutAt_le s b s.size; unfold cuts; rw [List.length_append, List.length_singleton]; omega
  have hs' : ¬ (1048576 : Int) < (s.size : Int) := by omega
  go_enter Try.func4, Try.ntmps4
  go_wp2_with fail
  refine (sparts s b _ hs).mono ?_
  rintro e w1 ⟨v1, rfl, o1, b1⟩
  go_wp2_with fail
  refine (iparts s b _ hs).mono ?_
  rintro e w2 ⟨v2, rfl, o2, b2⟩
  have o1' : ownsS w2 w.heap.size v1 (cuts s b) := o1.below b2 (Nat.le_refl _)
  go_wp2_with fail
  refine (eqS _ _ _ _ _ _ (by omega) o2 o1').mono ?_
  rintro e w3 ⟨rfl, n3, rfl⟩
  go_wp2_with fail
  refine (markS w1.heap.size v2 (cuts s b) 1 (w2.drewN n3) (by omega) (by omega) (by omega) o2).mono ?_
  rintro e w4 ⟨rfl, o4, g4⟩
  have o1'' : ownsS w4 w.heap.size v1 (cuts s b) := ownsS.kept (w := w2.drewN n3) o1' g4 (apart_texts o1 o2)
  have hs1 := b1.size
  have hs2 := b2.size
  have b4 : Below w.heap.size w w4 := ((b1.trans (b2.mono hs1)).trans (below_drawn _ _ n3)).grown g4 (by simpa using Nat.le_trans hs1 hs2) (fun k hk => Nat.le_trans hs1 (World.ownsRow.lt o2 k hk).1)
  clear g4 o1 o1' o2
  go_wp2_with fail
  refine (heldS w1.heap.size v2 1 (cuts s b).length w4 (by omega) (by omega) (by omega) o4).mono ?_
  rintro e w5 ⟨rfl, b5⟩
  have o15 : ownsS w5 w.heap.size v1 (cuts s b) := o1''.below b5 (Nat.le_refl _)
  have o45 : ownsS w5 w1.heap.size v2 (marksS 1 (cuts s b).length) := o4.below b5 (Nat.le_refl _)
  have b5' : Below w.heap.size w w5 := b4.trans (b5.mono b4.size)
  clear o1'' o4 b4 b5
  go_wp2_with fail
  refine (iparts s b _ hs).mono ?_
  rintro e w6 ⟨v3, rfl, o6, b6⟩
  have o16 : ownsS w6 w.heap.size v1 (cuts s b) := o15.below b6 (Nat.le_refl _)
  have o46 : ownsS w6 w1.heap.size v2 (marksS 1 (cuts s b).length) := o45.below b6 (Nat.le_refl _)
  have b6' : Below w.heap.size w w6 := b5'.trans (b6.mono b5'.size)
  clear o15 o45 b5' b6
  go_wp2_with fail
  refine (eqS _ _ _ _ _ _ (by omega) o6 o16).mono ?_
  rintro e w7 ⟨rfl, n7, rfl⟩
  go_wp2_with fail
  refine (heldS w1.heap.size v2 1 (cuts s b).length (w6.drewN n7) (by omega) (by omega) (by omega) o46).mono ?_
  rintro e w8 ⟨rfl, b8⟩
  have b8' : Below w.heap.size w w8 := (b6'.trans (below_drawn _ _ n7)).trans (b8.mono b6'.size)
  go_wp2
  go_ret
  exact ⟨rfl, b8'⟩

theorem walk (a0 : ByteArray) (a1 : Int) (w0 : a0.size ≤ maxLen) (w1 : (Lit.int .u8 a1).wf = true) (w : World) :
    Calls Try.prog 4 #[.string a0, .int .u8 a1] w fun e w' => e = .returned (.bool true) ∧ Below w.heap.size w w' := by
  by_cases hs : a0.size ≤ 1048576
  · exact walk_small a0 a1 hs w
  · have hs' : (1048576 : Int) < (a0.size : Int) := by omega
    go_enter Try.func4, Try.ntmps4
    go_wp2
    go_ret
    exact ⟨rfl, Below.refl _ _⟩

/-! ### THE ROW's STEP: WRITTEN OUT: LEAVE IT -/
set_option maxRecDepth 100000 in
theorem lifted (os : Os) (started : os.Started) (H : Type) (enc : TypeId × Value → H) :
    ReturnsInHanded {} Try.checked os 4 .any (Rows.fnExactPartsSpec.pre6 enc Try.prog Try.f4 Rows.fnExactPartsRow.domain false) (Rows.fnExactPartsSpec.post enc Try.prog Try.f4 false true false false) := by
  refine returnsInHanded_of_change (C := Try.checked) own started (by kernel_rfl) Try.func4
    (ChangeSpec.witness6 (enc := enc) (C := Try.checked) false ⟨#[], #[.string ByteArray.empty, .int .u8 0], []⟩ 8 (by kernel_rfl) (by kernel_rfl) (by kernel_rfl) (by kernel_rfl)) ?_
  intro W base args ds gs before hval0 hW hcnd _
  have hval : ∀ (j : Nat) t v, Try.f4.params[j]? = some t → args[j]? = some v → Value.okWide Try.prog W .any base t v := hval0
  have hW' := hW
  obtain ⟨p, q, hA0, hV, rfl, hfz, hnd⟩ := hW
  have hA : DataW.TrodAll enc Try.prog W 0 (fun _ => true) true Try.f4.params.toList args.toList ds p := hA0
  rw [Try.params4] at hA hval
  obtain ⟨v0, vs0, d0, ds0, p0, q0, hargs, rfl, rfl, h0, r0⟩ := trodAll_cons hA
  obtain ⟨v1, vs1, d1, ds1, p1, q1, rfl, rfl, rfl, h1, r1⟩ := trodAll_cons r0
  obtain ⟨rfl, rfl, rfl⟩ := trodAll_nil r1
  obtain rfl : args = #[v0, v1] := by cases args; simp_all
  obtain ⟨rfl, rfl⟩ := trodVars_none hV
  obtain ⟨a0, rfl, rfl, rfl, w0⟩ := open_string Try.underlying9 (hval 0 9 v0 rfl rfl) h0
  obtain ⟨a1, rfl, rfl, rfl, w1⟩ := open_int Try.underlying5 (hval 1 5 v1 rfl rfl) h1
  clear hA0 hval0
  refine (walk a0 a1 w0 w1 W).mono fun e W' ⟨he, bel⟩ => ?_
  subst he
  exact ⟨_, rfl, _, _, _, [], _, [], hW', trodAll_mk1 (shut_bool Try.underlying4 _), (trodAll_cons_mk (shut_string Try.underlying9 w0) (trodAll_cons_mk (shut_int Try.underlying5 w1) trodAll_mk0)), rfl, bel.frame _, fun h => by cases h⟩

theorem over : Rows.fnExactPartsRow.holds Try.pinned (OpenSpec.ofChange Rows.fnExactPartsSpec) :=
  OpenClaim.holds_of_wide 4 Try.f4 rfl rfl rfl rfl rfl rfl rfl ⟨rfl, rfl, rfl, rfl, rfl⟩ rfl rfl rfl rfl rfl (by kernel_rfl) Try.func4 (by kernel_rfl)
    (of_decide_eq_true (by kernel_rfl)) (by unfold Func.isWrapper; first | (rw [if_pos (by decide +kernel)]; kernel_rfl) | (rw [if_neg (by decide +kernel)]; exact ⟨rfl, rfl⟩))
    (fun os started H enc _ => lifted os started H enc)

theorem proved : Rows.FnExactPartsSaid :=
  over
#print axioms proved
end Go.Proofs.Ytnanabbkogakmal.fnExactParts
namespace Go.Proofs.Ytnanabbkogakmal
theorem fnExactParts_holds : Rows.FnExactPartsSaid := fnExactParts.proved
end Go.Proofs.Ytnanabbkogakmal
