/-
  At every argument KernOk of the program answers as KernOk of the specification, writes into no argument, and its answer owns its memory: no conditions.
-/
import Derived.Test.YtplgohjmfihpaaaWalkKernOk
import Derived.WalkKit
import Derived.ProofKit
import Derived.OpenShut
import Derived.ShutString
import Derived.ChangeOld
import Derived.ChangeSame
import Derived.Below
import Derived.Deep.Strs
namespace Go.Proofs.Ytplgohjmfihpaaa.fnExactKernOk
open Go.ChangeShapes Go.WideShapes Go.ChangeAt Go.RowKit
open Go.ChangeMaps (open_string shut_string)
set_option linter.unusedVariables false
set_option linter.unusedSimpArgs false

theorem own : ownKnob Try.prog.godebug = none := by kernel_rfl
theorem laidOut : laidOutB Try.prog = true := by kernel_rfl


theorem trodS2 {H : Type} {enc : TypeId × Value → H} {P : Program} {w : World} {base : Nat} {spare : Nat → Bool} {held : Bool} {t : TypeId} {f0 f1 : Field} {fuel : Nat} {cs : List Value} {x : DataW H × List MemPlace} (ht : P.underlying t = some (.struct #[f0, f1])) (h : DataW.trod enc P w base spare held fuel t cs = some x) :
    ∃ y0 y1 n, DataW.trod enc P w base spare held n f0.type ((cs.drop f0.offset).take (P.cellsOf f0.type)) = some y0 ∧ DataW.trod enc P w base spare held n f1.type ((cs.drop f1.offset).take (P.cellsOf f1.type)) = some y1 := by
  obtain ⟨xs, n, _, rfl, hl, hlen, hf⟩ := DataW.trod_struct ht h
  match xs, hlen with
  | [y0, y1], _ => exact ⟨y0, y1, n, by simpa using hf 0 f0 rfl, by simpa using hf 1 f1 rfl⟩

theorem trodS3 {H : Type} {enc : TypeId × Value → H} {P : Program} {w : World} {base : Nat} {spare : Nat → Bool} {held : Bool} {t : TypeId} {f0 f1 f2 : Field} {fuel : Nat} {cs : List Value} {x : DataW H × List MemPlace} (ht : P.underlying t = some (.struct #[f0, f1, f2])) (h : DataW.trod enc P w base spare held fuel t cs = some x) :
    ∃ y0 y1 y2 n, DataW.trod enc P w base spare held n f0.type ((cs.drop f0.offset).take (P.cellsOf f0.type)) = some y0 ∧ DataW.trod enc P w base spare held n f1.type ((cs.drop f1.offset).take (P.cellsOf f1.type)) = some y1 ∧ DataW.trod enc P w base spare held n f2.type ((cs.drop f2.offset).take (P.cellsOf f2.type)) = some y2 := by
  obtain ⟨xs, n, _, rfl, hl, hlen, hf⟩ := DataW.trod_struct ht h
  match xs, hlen with
  | [y0, y1, y2], _ => exact ⟨y0, y1, y2, n, by simpa using hf 0 f0 rfl, by simpa using hf 1 f1 rfl, by simpa using hf 2 f2 rfl⟩

set_option maxRecDepth 100000 in
theorem openK {H : Type} {enc : TypeId × Value → H} {w : World} {base : Nat} {held : Bool} {r : Reach} {b0 : Nat} {v : Value} {d : DataW H} {ps : List MemPlace}
    (hval : Value.okWide Try.prog w r b0 26 v) (hd : DataW.Trod enc Try.prog w base (fun _ => true) held 26 v d ps) : ∃ (bx0 : Bool) (ax1 : Option Addr) (lx1 cx1 : Nat) (zx1 : List Int) (bx2 : Bool) (ax3 : Option Addr) (lx3 cx3 : Nat) (zx3 : List Int) (bx4 : Bool) (ax5 : Option Addr) (lx5 cx5 : Nat) (zx5 : List Int), v = .agg #[.bool bx0, .slice ax1 lx1 cx1, .bool bx2, .slice ax3 lx3 cx3, .bool bx4, .slice ax5 lx5 cx5] ∧ IsRow .i64 w ax1 lx1 cx1 zx1 ∧ IsRow .i64 w ax3 lx3 cx3 zx3 ∧ IsRow .i64 w ax5 lx5 cx5 zx5 := by
  obtain ⟨cs, rfl, hsz⟩ := okWide_struct Try.underlying26 hval
  have hc4 : Try.prog.cellsOf 4 = 1 := by kernel_rfl
  have hc22 : Try.prog.cellsOf 22 = 1 := by kernel_rfl
  have hc24 : Try.prog.cellsOf 24 = 2 := by kernel_rfl
  have hc26 : Try.prog.cellsOf 26 = 6 := by kernel_rfl
  rw [hc26] at hsz
  obtain ⟨l⟩ := cs
  match l, hsz with
  | [c0, c1, c2, c3, c4, c5], _ =>
  obtain ⟨fuel, hf⟩ := hd
  obtain ⟨y1_0, y1_1, y1_2, m1, h1_0, h1_1, h1_2⟩ := trodS3 Try.underlying26 hf
  obtain ⟨y2_0, y2_1, m2, h2_0, h2_1⟩ := trodS2 Try.underlying24 h1_0
  obtain ⟨y3_0, y3_1, m3, h3_0, h3_1⟩ := trodS2 Try.underlying24 h1_1
  obtain ⟨y4_0, y4_1, m4, h4_0, h4_1⟩ := trodS2 Try.underlying24 h1_2
  obtain ⟨b0, e0, _⟩ := DataW.trod_bool Try.underlying4 h2_0
  simp [Value.cells, hc4, hc22, hc24, hc26] at e0
  subst e0
  have hA1 : ∃ a l c zs, c1 = .slice a l c ∧ IsRow .i64 w a l c zs := by
    rcases open_ints Try.underlying22 Try.underlying3 (by kernel_rfl) h2_1 with ⟨hcs, _⟩ | ⟨x, l, c, zs, hcs, _, hl, hm, hz, _, hcell, hwz⟩
    · simp [Value.cells, hc4, hc22, hc24, hc26] at hcs
      exact ⟨none, 0, 0, [], hcs, .inl ⟨rfl, rfl, rfl, rfl⟩⟩
    · simp [Value.cells, hc4, hc22, hc24, hc26] at hcs
      exact ⟨some x, l, c, zs, hcs, .inr ⟨_, rfl, hl, hm, by simpa using hz, hcell, hwz⟩⟩
  obtain ⟨a1, l1, k1, z1, rfl, w1⟩ := hA1
  obtain ⟨b2, e2, _⟩ := DataW.trod_bool Try.underlying4 h3_0
  simp [Value.cells, hc4, hc22, hc24, hc26] at e2
  subst e2
  have hA3 : ∃ a l c zs, c3 = .slice a l c ∧ IsRow .i64 w a l c zs := by
    rcases open_ints Try.underlying22 Try.underlying3 (by kernel_rfl) h3_1 with ⟨hcs, _⟩ | ⟨x, l, c, zs, hcs, _, hl, hm, hz, _, hcell, hwz⟩
    · simp [Value.cells, hc4, hc22, hc24, hc26] at hcs
      exact ⟨none, 0, 0, [], hcs, .inl ⟨rfl, rfl, rfl, rfl⟩⟩
    · simp [Value.cells, hc4, hc22, hc24, hc26] at hcs
      exact ⟨some x, l, c, zs, hcs, .inr ⟨_, rfl, hl, hm, by simpa using hz, hcell, hwz⟩⟩
  obtain ⟨a3, l3, k3, z3, rfl, w3⟩ := hA3
  obtain ⟨b4, e4, _⟩ := DataW.trod_bool Try.underlying4 h4_0
  simp [Value.cells, hc4, hc22, hc24, hc26] at e4
  subst e4
  have hA5 : ∃ a l c zs, c5 = .slice a l c ∧ IsRow .i64 w a l c zs := by
    rcases open_ints Try.underlying22 Try.underlying3 (by kernel_rfl) h4_1 with ⟨hcs, _⟩ | ⟨x, l, c, zs, hcs, _, hl, hm, hz, _, hcell, hwz⟩
    · simp [Value.cells, hc4, hc22, hc24, hc26] at hcs
      exact ⟨none, 0, 0, [], hcs, .inl ⟨rfl, rfl, rfl, rfl⟩⟩
    · simp [Value.cells, hc4, hc22, hc24, hc26] at hcs
      exact ⟨some x, l, c, zs, hcs, .inr ⟨_, rfl, hl, hm, by simpa using hz, hcell, hwz⟩⟩
  obtain ⟨a5, l5, k5, z5, rfl, w5⟩ := hA5
  exact ⟨_, _, _, _, z1, _, _, _, _, z3, _, _, _, _, z5, rfl, w1, w3, w5⟩

theorem walk (w : World) (b0x0 : Bool) (a0x1 : Option Addr) (l0x1 c0x1 : Nat) (z0x1 : List Int) (b0x2 : Bool) (a0x3 : Option Addr) (l0x3 c0x3 : Nat) (z0x3 : List Int) (b0x4 : Bool) (a0x5 : Option Addr) (l0x5 c0x5 : Nat) (z0x5 : List Int) (w0x1 : IsRow .i64 w a0x1 l0x1 c0x1 z0x1) (w0x3 : IsRow .i64 w a0x3 l0x3 c0x3 z0x3) (w0x5 : IsRow .i64 w a0x5 l0x5 c0x5 z0x5) :
    Calls Try.prog 3 #[.agg #[.bool b0x0, .slice a0x1 l0x1 c0x1, .bool b0x2, .slice a0x3 l0x3 c0x3, .bool b0x4, .slice a0x5 l0x5 c0x5]] w fun e w' => e = .returned (.bool true) ∧ Below w.heap.size w w' := walkKernOk b0x0 a0x1 l0x1 c0x1 z0x1 b0x2 a0x3 l0x3 c0x3 z0x3 b0x4 a0x5 l0x5 c0x5 z0x5 w w0x1 w0x3 w0x5 (fun va a W h l0 l1 l2 => sKernOk va a W h l0 l1 l2) (fun va a W h l0 l1 l2 => iKernOk va a W h l0 l1 l2)

set_option maxHeartbeats 1600000 in
set_option maxRecDepth 100000 in
theorem lifted (os : Os) (started : os.Started) (H : Type) (enc : TypeId × Value → H) :
    ReturnsInHanded {} Try.checked os 3 .any (Rows.fnExactKernOkSpec.pre6 enc Try.prog Try.f3 Rows.fnExactKernOkRow.domain false) (Rows.fnExactKernOkSpec.post enc Try.prog Try.f3 false true false false) := by
  refine returnsInHanded_of_change (C := Try.checked) own started (by kernel_rfl) Try.func3
    (ChangeSpec.witness6 (enc := enc) (C := Try.checked) false ⟨#[], #[.agg #[.bool false, .slice none 0 0, .bool false, .slice none 0 0, .bool false, .slice none 0 0]], []⟩ 8 (by kernel_rfl) (by kernel_rfl) (by kernel_rfl) (by kernel_rfl)) ?_
  intro W base args ds gs before hval0 hW hcnd _
  have hval : ∀ (j : Nat) t v, Try.f3.params[j]? = some t → args[j]? = some v → Value.okWide Try.prog W .any base t v := hval0
  have hW' := hW
  obtain ⟨p, q, hA0, hV, rfl, hfz, hnd⟩ := hW
  have hA : DataW.TrodAll enc Try.prog W 0 (fun _ => true) true Try.f3.params.toList args.toList ds p := hA0
  rw [Try.params3] at hA hval
  obtain ⟨v0, vs0, d0, ds0, p0, q0, hargs, rfl, rfl, h0, r0⟩ := trodAll_cons hA
  obtain ⟨rfl, rfl, rfl⟩ := trodAll_nil r0
  obtain rfl : args = #[v0] := by cases args; simp_all
  obtain ⟨rfl, rfl⟩ := trodVars_none hV
  have kk0 := h0
  have lt0 : ∀ x ∈ p0, x.block < W.heap.size := by obtain ⟨m, hm⟩ := kk0; exact DataW.trod_lt m _ _ _ hm
  obtain ⟨b0x0, a0x1, l0x1, c0x1, z0x1, b0x2, a0x3, l0x3, c0x3, z0x3, b0x4, a0x5, l0x5, c0x5, z0x5, rfl, w0x1, w0x3, w0x5⟩ := openK (hval 0 26 v0 rfl rfl) h0
  clear hA0 hval0
  refine (walk W b0x0 a0x1 l0x1 c0x1 z0x1 b0x2 a0x3 l0x3 c0x3 z0x3 b0x4 a0x5 l0x5 c0x5 z0x5 w0x1 w0x3 w0x5).mono fun e W' ⟨he, bel⟩ => ?_
  subst he
  exact ⟨_, rfl, _, _, _, [], _, [], hW', trodAll_mk1 (shut_bool Try.underlying4 _), (trodAll_cons_mk (Below.trod laidOut (by kernel_rfl) (of_decide_eq_true (by kernel_rfl)) kk0 bel lt0) trodAll_mk0), rfl, bel.frame _, fun h => by cases h⟩

theorem over : Rows.fnExactKernOkRow.holds Try.pinned (OpenSpec.ofChange Rows.fnExactKernOkSpec) :=
  OpenClaim.holds_of_wide 3 Try.f3 rfl rfl rfl rfl rfl rfl rfl ⟨rfl, rfl, rfl, rfl, rfl⟩ rfl rfl rfl rfl rfl (by kernel_rfl) Try.func3 (by kernel_rfl)
    (of_decide_eq_true (by kernel_rfl)) (by unfold Func.isWrapper; first | (rw [if_pos (by decide +kernel)]; kernel_rfl) | (rw [if_neg (by decide +kernel)]; exact ⟨rfl, rfl⟩))
    (fun os started H enc _ => lifted os started H enc)

theorem proved : Rows.FnExactKernOkSaid := over
#print axioms proved
end Go.Proofs.Ytplgohjmfihpaaa.fnExactKernOk
namespace Go.Proofs.Ytplgohjmfihpaaa
theorem fnExactKernOk_holds : Rows.FnExactKernOkSaid := fnExactKernOk.proved
end Go.Proofs.Ytplgohjmfihpaaa
