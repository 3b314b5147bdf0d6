/- What draws of numbers with a sign hand out to the laws; results of a cell and of slots (no walk). -/
import Derived.Test.YtlnpfjnpnjiepaaDrW
import Derived.Test.YtlnpfjnpnjiepaaDraw
import Derived.Test.YtlnpfjnpnjiepaaGB
namespace Go.Proofs.Ytlnpfjnpnjiepaa
open Go.RowKit
set_option linter.unusedSimpArgs false

theorem results_cell_tmp2 {fn : Func} {p u u' : Tmp} {ty : TypeId} (h : fn.results = #[.cell p ty, .tmp u, .tmp u']) (tmps : Array Value) (P : Program) (w : World) :
    (results fn tmps).run P w = ((asAddr (tmps.getD p undef)).run P w).andThen fun a w₁ => ((loadVar ty a).run P w₁).andThen fun v w₂ => .ok (.tuple #[v, tmps.getD u undef, tmps.getD u' undef]) w₂ := by
  simp only [results, h]
  simp [Sem.run_bind, Result.andThen]
theorem results_cell2_tmp1 {fn : Func} {p q u : Tmp} {ty ty' : TypeId} (h : fn.results = #[.cell p ty, .cell q ty', .tmp u]) (tmps : Array Value) (P : Program) (w : World) :
    (results fn tmps).run P w = ((asAddr (tmps.getD p undef)).run P w).andThen fun a w₁ => ((loadVar ty a).run P w₁).andThen fun v w₂ => ((asAddr (tmps.getD q undef)).run P w₂).andThen fun b w₃ => ((loadVar ty' b).run P w₃).andThen fun v' w₄ => .ok (.tuple #[v, v', tmps.getD u undef]) w₄ := by
  simp only [results, h]
  simp [Sem.run_bind, Result.andThen]
theorem results_cell2 {fn : Func} {p q : Tmp} {ty ty' : TypeId} (h : fn.results = #[.cell p ty, .cell q ty']) (tmps : Array Value) (P : Program) (w : World) :
    (results fn tmps).run P w = ((asAddr (tmps.getD p undef)).run P w).andThen fun a w₁ => ((loadVar ty a).run P w₁).andThen fun v w₂ => ((asAddr (tmps.getD q undef)).run P w₂).andThen fun b w₃ => ((loadVar ty' b).run P w₃).andThen fun v' w₄ => .ok (.tuple #[v, v']) w₄ := by
  simp only [results, h]
  simp [Sem.run_bind, Result.andThen]
def DrawnWKM (w : World) (e : Ending) (w' : World) : Prop := ∃ v a k m, e = .returned (.tuple #[v, .int .i64 k, .int .i64 m]) ∧ rowW w' v a ∧ a.2.length ≤ 98 ∧ -2000 ≤ k ∧ k ≤ 2000 ∧ -1 ≤ m ∧ m ≤ 5 ∧ Below w.heap.size w w'
def DrawnWK (w : World) (e : Ending) (w' : World) : Prop := ∃ v a k, e = .returned (.tuple #[v, .int .i64 k]) ∧ rowW w' v a ∧ a.2.length ≤ 98 ∧ -2000 ≤ k ∧ k ≤ 2000 ∧ Below w.heap.size w w'
def DrawnWWM (w : World) (e : Ending) (w' : World) : Prop := ∃ v u a b m, e = .returned (.tuple #[v, u, .int .i64 m]) ∧ rowW w' v a ∧ rowW w' u b ∧ a.2.length ≤ 98 ∧ b.2.length ≤ 98 ∧ -1 ≤ m ∧ m ≤ 5 ∧ Below w.heap.size w w'
theorem BoxW.curn {w w' : World} {base b B : Nat} {x y : Value} (h : BoxW w base b x y) (hg : w.grownBy w' (some B)) (hne : b ≠ B) : BoxW w' base b x y :=
  h.tn (Tn.of_grown hg) (fun k hk hs => by simp at hk hs; omega)
/-- What stands when a number is put into the cell of the answer. -/
theorem drOut {w w5 : World} (g : Bool) {v : Value} {l : List Int} {base b : Nat} (q : ownsI w5 base v l) (hb : b < base) (hlo : w.heap.size ≤ b) (B5 : Below w.heap.size w w5) :
    rowW ((w5.setCell ⟨b, 0, none⟩ (.bool g)).setCell ⟨b, 1, none⟩ v) (.agg #[.bool g, v]) (g, l) ∧ Below w.heap.size w ((w5.setCell ⟨b, 0, none⟩ (.bool g)).setCell ⟨b, 1, none⟩ v) :=
  ⟨⟨_, rfl, ((q.set b 0 hb (.bool g)).set b 1 hb v).row⟩, (B5.setCell (p := ⟨b, 0, none⟩) hlo _).setCell (p := ⟨b, 1, none⟩) hlo _⟩

end Go.Proofs.Ytlnpfjnpnjiepaa
