/- Several exact steps: the answer (no walk). -/
import Derived.Test.YtkbnfillbdjboaaSpStepM
namespace Go.Proofs.Ytkbnfillbdjboaa
open Go.RowKit
set_option linter.unusedSimpArgs false
set_option linter.unusedVariables false

theorem ownsP.key {w : World} {base : Nat} {x0 x1 x2 x3 : Value} {k : Int} {a : Ph} (h : ownsP w base (.agg #[x0, x1, x2, x3, .int .i64 k]) a) : a.2 = k := by
  obtain ⟨s, t, e, -⟩ := h
  injection e with e
  simp at e
  exact e.2.2.2.2.symm
def runFrom : Nat → List Int → Ph → Option Ph
  | _, [], a => some a
  | k, d :: ds, a => if (stepR a k d).2 = true then runFrom (k + 1) ds (stepR a k d).1 else none
def runR (a : Ph) (ds : List Int) : Ph × Bool := match runFrom 0 ds a with
  | some b => (b, true)
  | none => (a, false)
def lenP (a : Ph) : Prop := a.1.1.2.length ≤ 1048576 ∧ a.1.2.2.length ≤ 1048576
/-- k steps are done, and b is what they made. -/
def atRun (a : Ph) (ds : List Int) (k : Nat) (b : Ph) : Prop := runFrom 0 ds a = runFrom k (ds.drop k) b ∧ lenP b
theorem atRun.zero {a : Ph} (ds : List Int) (h : lenP a) : atRun a ds 0 a := ⟨rfl, h⟩
theorem atRun.one {a : Ph} {ds : List Int} {k : Nat} {b : Ph} (h : atRun a ds k b) (hk : k < ds.length) : runFrom 0 ds a = if (stepR b k (ds.getD k 0)).2 = true then runFrom (k + 1) (ds.drop (k + 1)) (stepR b k (ds.getD k 0)).1 else none := by
  rw [h.1, List.drop_eq_getElem_cons hk]
  have e : ds.getD k 0 = ds[k] := by rw [List.getD_eq_getElem?_getD, List.getElem?_eq_getElem hk]; rfl
  rw [e]
  rfl
theorem atRun.next {a : Ph} {ds : List Int} {k : Nat} {b c : Ph} {d : Int} (h : atRun a ds k b) (hk : k < ds.length) (hd : ds.getD k 0 = d) (hs : stepR b k d = (c, true)) : atRun a ds (k + 1) c := by
  refine ⟨?_, ?_⟩
  · rw [h.one hk, hd, hs, if_pos rfl]
  · have := stepR_len b k d h.2.1 h.2.2
    rw [hs] at this
    exact this
theorem atRun.no {a : Ph} {ds : List Int} {k : Nat} {b c : Ph} {d : Int} (h : atRun a ds k b) (hk : k < ds.length) (hd : ds.getD k 0 = d) (hs : stepR b k d = (c, false)) : runR a ds = (a, false) := by
  unfold runR
  rw [h.one hk, hd, hs, if_neg (by simp)]
theorem atRun.done {a : Ph} {ds : List Int} {b : Ph} (h : atRun a ds ds.length b) : runR a ds = (b, true) := by
  unfold runR
  rw [h.1, List.drop_length]
  rfl
theorem runFrom_len (ds : List Int) : ∀ (k : Nat) (a b : Ph), lenP a → runFrom k ds a = some b → lenP b := by
  induction ds with
  | nil => intro k a b h e; cases e; exact h
  | cons d ds ih =>
    intro k a b h e
    unfold runFrom at e
    split at e
    · exact ih _ _ _ (stepR_len a k d h.1 h.2) e
    · cases e
theorem runR_len (a : Ph) (ds : List Int) (h0 : a.1.1.2.length ≤ 1048576) (h1 : a.1.2.2.length ≤ 1048576) : (runR a ds).1.1.1.2.length ≤ 1048576 ∧ (runR a ds).1.1.2.2.length ≤ 1048576 := by
  unfold runR
  cases h : runFrom 0 ds a with
  | none => exact ⟨h0, h1⟩
  | some b => exact runFrom_len ds 0 a b ⟨h0, h1⟩ h

end Go.Proofs.Ytkbnfillbdjboaa
