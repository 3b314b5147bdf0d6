/-
  At every argument AnswerSame of the program answers as AnswerSame of the specification, writes into no argument, and its answer owns its memory: no conditions.
-/
import Derived.Test.YtocaaklhlmnonaaWalkAnswerSame
import Derived.WalkKit
import Derived.ProofKit
import Derived.OpenShut
import Derived.ShutString
import Derived.ChangeOld
import Derived.ChangeSame
import Derived.Below
import Derived.Deep.Strs
namespace Go.Proofs.Ytocaaklhlmnonaa.fnExactAnswerSame
open Go.ChangeShapes Go.WideShapes Go.ChangeAt Go.RowKit
open Go.ChangeMaps (open_string shut_string)
set_option linter.unusedVariables false
set_option linter.unusedSimpArgs false

theorem own : ownKnob Try.prog.godebug = none := by kernel_rfl
theorem laidOut : laidOutB Try.prog = true := by kernel_rfl


theorem trodS6 {H : Type} {enc : TypeId × Value → H} {P : Program} {w : World} {base : Nat} {spare : Nat → Bool} {held : Bool} {t : TypeId} {f0 f1 f2 f3 f4 f5 : Field} {fuel : Nat} {cs : List Value} {x : DataW H × List MemPlace} (ht : P.underlying t = some (.struct #[f0, f1, f2, f3, f4, f5])) (h : DataW.trod enc P w base spare held fuel t cs = some x) :
    ∃ y0 y1 y2 y3 y4 y5 n, DataW.trod enc P w base spare held n f0.type ((cs.drop f0.offset).take (P.cellsOf f0.type)) = some y0 ∧ DataW.trod enc P w base spare held n f1.type ((cs.drop f1.offset).take (P.cellsOf f1.type)) = some y1 ∧ DataW.trod enc P w base spare held n f2.type ((cs.drop f2.offset).take (P.cellsOf f2.type)) = some y2 ∧ DataW.trod enc P w base spare held n f3.type ((cs.drop f3.offset).take (P.cellsOf f3.type)) = some y3 ∧ DataW.trod enc P w base spare held n f4.type ((cs.drop f4.offset).take (P.cellsOf f4.type)) = some y4 ∧ DataW.trod enc P w base spare held n f5.type ((cs.drop f5.offset).take (P.cellsOf f5.type)) = some y5 := by
  obtain ⟨xs, n, _, rfl, hl, hlen, hf⟩ := DataW.trod_struct ht h
  match xs, hlen with
  | [y0, y1, y2, y3, y4, y5], _ => exact ⟨y0, y1, y2, y3, y4, y5, n, by simpa using hf 0 f0 rfl, by simpa using hf 1 f1 rfl, by simpa using hf 2 f2 rfl, by simpa using hf 3 f3 rfl, by simpa using hf 4 f4 rfl, by simpa using hf 5 f5 rfl⟩

set_option maxRecDepth 100000 in
theorem openA {H : Type} {enc : TypeId × Value → H} {w : World} {base : Nat} {held : Bool} {r : Reach} {b0 : Nat} {v : Value} {d : DataW H} {ps : List MemPlace}
    (hval : Value.okWide Try.prog w r b0 32 v) (hd : DataW.Trod enc Try.prog w base (fun _ => true) held 32 v d ps) : ∃ (nx0 : Int) (nx1 : Int) (nx2 : Int) (nx3 : Int) (sx4 : ByteArray) (ax5 : Option Addr) (lx5 cx5 : Nat) (zx5 : List Int), v = .agg #[.int .i64 nx0, .int .i64 nx1, .int .i64 nx2, .int .i64 nx3, .string sx4, .slice ax5 lx5 cx5] ∧ (Lit.int .i64 nx0).wf = true ∧ (Lit.int .i64 nx1).wf = true ∧ (Lit.int .i64 nx2).wf = true ∧ (Lit.int .i64 nx3).wf = true ∧ sx4.size ≤ maxLen ∧ IsRow .u8 w ax5 lx5 cx5 zx5 := by
  obtain ⟨cs, rfl, hsz⟩ := okWide_struct Try.underlying32 hval
  have hc3 : Try.prog.cellsOf 3 = 1 := by kernel_rfl
  have hc9 : Try.prog.cellsOf 9 = 1 := by kernel_rfl
  have hc24 : Try.prog.cellsOf 24 = 1 := by kernel_rfl
  have hc32 : Try.prog.cellsOf 32 = 6 := by kernel_rfl
  rw [hc32] at hsz
  obtain ⟨l⟩ := cs
  match l, hsz with
  | [c0, c1, c2, c3, c4, c5], _ =>
  obtain ⟨fuel, hf⟩ := hd
  obtain ⟨y1_0, y1_1, y1_2, y1_3, y1_4, y1_5, m1, h1_0, h1_1, h1_2, h1_3, h1_4, h1_5⟩ := trodS6 Try.underlying32 hf
  obtain ⟨n0, e0, _, w0⟩ := DataW.trod_int Try.underlying3 h1_0
  simp [Value.cells, hc3, hc9, hc24, hc32] at e0
  subst e0
  obtain ⟨n1, e1, _, w1⟩ := DataW.trod_int Try.underlying3 h1_1
  simp [Value.cells, hc3, hc9, hc24, hc32] at e1
  subst e1
  obtain ⟨n2, e2, _, w2⟩ := DataW.trod_int Try.underlying3 h1_2
  simp [Value.cells, hc3, hc9, hc24, hc32] at e2
  subst e2
  obtain ⟨n3, e3, _, w3⟩ := DataW.trod_int Try.underlying3 h1_3
  simp [Value.cells, hc3, hc9, hc24, hc32] at e3
  subst e3
  obtain ⟨s4, e4, _, w4⟩ := DataW.trod_string Try.underlying9 h1_4
  simp [Value.cells, hc3, hc9, hc24, hc32] at e4
  subst e4
  have hA5 : ∃ a l c zs, c5 = .slice a l c ∧ IsRow .u8 w a l c zs := by
    rcases open_ints Try.underlying24 Try.underlying5 (by kernel_rfl) h1_5 with ⟨hcs, _⟩ | ⟨x, l, c, zs, hcs, _, hl, hm, hz, _, hcell, hwz⟩
    · simp [Value.cells, hc3, hc9, hc24, hc32] at hcs
      exact ⟨none, 0, 0, [], hcs, .inl ⟨rfl, rfl, rfl, rfl⟩⟩
    · simp [Value.cells, hc3, hc9, hc24, hc32] at hcs
      exact ⟨some x, l, c, zs, hcs, .inr ⟨_, rfl, hl, hm, by simpa using hz, hcell, hwz⟩⟩
  obtain ⟨a5, l5, k5, z5, rfl, w5⟩ := hA5
  exact ⟨_, _, _, _, _, _, _, _, z5, rfl, w0, w1, w2, w3, w4, w5⟩

theorem walk (w : World) (n0x0 : Int) (n0x1 : Int) (n0x2 : Int) (n0x3 : Int) (s0x4 : ByteArray) (a0x5 : Option Addr) (l0x5 c0x5 : Nat) (z0x5 : List Int) (w0x0 : (Lit.int .i64 n0x0).wf = true) (w0x1 : (Lit.int .i64 n0x1).wf = true) (w0x2 : (Lit.int .i64 n0x2).wf = true) (w0x3 : (Lit.int .i64 n0x3).wf = true) (w0x4 : s0x4.size ≤ maxLen) (w0x5 : IsRow .u8 w a0x5 l0x5 c0x5 z0x5) (n1x0 : Int) (n1x1 : Int) (n1x2 : Int) (n1x3 : Int) (s1x4 : ByteArray) (a1x5 : Option Addr) (l1x5 c1x5 : Nat) (z1x5 : List Int) (w1x0 : (Lit.int .i64 n1x0).wf = true) (w1x1 : (Lit.int .i64 n1x1).wf = true) (w1x2 : (Lit.int .i64 n1x2).wf = true) (w1x3 : (Lit.int .i64 n1x3).wf = true) (w1x4 : s1x4.size ≤ maxLen) (w1x5 : IsRow .u8 w a1x5 l1x5 c1x5 z1x5) :
    Calls Try.prog 7 #[.agg #[.int .i64 n0x0, .int .i64 n0x1, .int .i64 n0x2, .int .i64 n0x3, .string s0x4, .slice a0x5 l0x5 c0x5], .agg #[.int .i64 n1x0, .int .i64 n1x1, .int .i64 n1x2, .int .i64 n1x3, .string s1x4, .slice a1x5 l1x5 c1x5]] w fun e w' => e = .returned (.bool true) ∧ Below w.heap.size w w' := walkAnswerSame n0x0 n0x1 n0x2 n0x3 s0x4 a0x5 l0x5 c0x5 z0x5 n1x0 n1x1 n1x2 n1x3 s1x4 a1x5 l1x5 c1x5 z1x5 w (by unfold maxLen at w0x4; omega) w0x5 (by unfold maxLen at w1x4; omega) w1x5 (fun va x vb y W h1 _ h2 _ => sAnswerSame va x vb y W h1 h2) (fun va x vb y W h1 _ h2 _ => iAnswerSame va x vb y W h1 h2)

set_option maxHeartbeats 1600000 in
set_option maxRecDepth 100000 in
theorem lifted (os : Os) (started : os.Started) (H : Type) (enc : TypeId × Value → H) :
    ReturnsInHanded {} Try.checked os 7 .any (Rows.fnExactAnswerSameSpec.pre6 enc Try.prog Try.f7 Rows.fnExactAnswerSameRow.domain false) (Rows.fnExactAnswerSameSpec.post enc Try.prog Try.f7 false true false false) := by
  refine returnsInHanded_of_change (C := Try.checked) own started (by kernel_rfl) Try.func7
    (ChangeSpec.witness6 (enc := enc) (C := Try.checked) false ⟨#[], #[.agg #[.int .i64 0, .int .i64 0, .int .i64 0, .int .i64 0, .string ⟨#[]⟩, .slice none 0 0], .agg #[.int .i64 0, .int .i64 0, .int .i64 0, .int .i64 0, .string ⟨#[]⟩, .slice none 0 0]], []⟩ 8 (by kernel_rfl) (by kernel_rfl) (by kernel_rfl) (by kernel_rfl)) ?_
  intro W base args ds gs before hval0 hW hcnd _
  have hval : ∀ (j : Nat) t v, Try.f7.params[j]? = some t → args[j]? = some v → Value.okWide Try.prog W .any base t v := hval0
  have hW' := hW
  obtain ⟨p, q, hA0, hV, rfl, hfz, hnd⟩ := hW
  have hA : DataW.TrodAll enc Try.prog W 0 (fun _ => true) true Try.f7.params.toList args.toList ds p := hA0
  rw [Try.params7] at hA hval
  obtain ⟨v0, vs0, d0, ds0, p0, q0, hargs, rfl, rfl, h0, r0⟩ := trodAll_cons hA
  obtain ⟨v1, vs1, d1, ds1, p1, q1, hargs1, rfl, rfl, h1, r1⟩ := trodAll_cons r0
  obtain ⟨rfl, rfl, rfl⟩ := trodAll_nil r1
  obtain rfl : args = #[v0, v1] := by cases args; simp_all
  obtain ⟨rfl, rfl⟩ := trodVars_none hV
  have kk0 := h0
  have lt0 : ∀ x ∈ p0, x.block < W.heap.size := by obtain ⟨m, hm⟩ := kk0; exact DataW.trod_lt m _ _ _ hm
  obtain ⟨n0x0, n0x1, n0x2, n0x3, s0x4, a0x5, l0x5, c0x5, z0x5, rfl, w0x0, w0x1, w0x2, w0x3, w0x4, w0x5⟩ := openA (hval 0 32 v0 rfl rfl) h0
  have kk1 := h1
  have lt1 : ∀ x ∈ p1, x.block < W.heap.size := by obtain ⟨m, hm⟩ := kk1; exact DataW.trod_lt m _ _ _ hm
  obtain ⟨n1x0, n1x1, n1x2, n1x3, s1x4, a1x5, l1x5, c1x5, z1x5, rfl, w1x0, w1x1, w1x2, w1x3, w1x4, w1x5⟩ := openA (hval 1 32 v1 rfl rfl) h1
  clear hA0 hval0
  refine (walk W n0x0 n0x1 n0x2 n0x3 s0x4 a0x5 l0x5 c0x5 z0x5 w0x0 w0x1 w0x2 w0x3 w0x4 w0x5 n1x0 n1x1 n1x2 n1x3 s1x4 a1x5 l1x5 c1x5 z1x5 w1x0 w1x1 w1x2 w1x3 w1x4 w1x5).mono fun e W' ⟨he, bel⟩ => ?_
  subst he
  exact ⟨_, rfl, _, _, _, [], _, [], hW', trodAll_mk1 (shut_bool Try.underlying4 _), (trodAll_cons_mk (Below.trod laidOut (by kernel_rfl) (of_decide_eq_true (by kernel_rfl)) kk0 bel lt0) (trodAll_cons_mk (Below.trod laidOut (by kernel_rfl) (of_decide_eq_true (by kernel_rfl)) kk1 bel lt1) trodAll_mk0)), rfl, bel.frame _, fun h => by cases h⟩

theorem over : Rows.fnExactAnswerSameRow.holds Try.pinned (OpenSpec.ofChange Rows.fnExactAnswerSameSpec) :=
  OpenClaim.holds_of_wide 7 Try.f7 rfl rfl rfl rfl rfl rfl rfl ⟨rfl, rfl, rfl, rfl, rfl⟩ rfl rfl rfl rfl rfl (by kernel_rfl) Try.func7 (by kernel_rfl)
    (of_decide_eq_true (by kernel_rfl)) (by unfold Func.isWrapper; first | (rw [if_pos (by decide +kernel)]; kernel_rfl) | (rw [if_neg (by decide +kernel)]; exact ⟨rfl, rfl⟩))
    (fun os started H enc _ => lifted os started H enc)

theorem proved : Rows.FnExactAnswerSameSaid := over
#print axioms proved
end Go.Proofs.Ytocaaklhlmnonaa.fnExactAnswerSame
namespace Go.Proofs.Ytocaaklhlmnonaa
theorem fnExactAnswerSame_holds : Rows.FnExactAnswerSameSaid := fnExactAnswerSame.proved
end Go.Proofs.Ytocaaklhlmnonaa
