/- Formats: what the functions on them answer; the law's copy of one; the specification's FmtOk, the program's, each by its contract. -/
import Derived.Test.YtdcmpbljedbdhaaDoorSIn
import Derived.Laws.ResultCell
import Derived.BigQuiet
import Derived.Deep.RegionHeld
namespace Go.Proofs.YtdcmpbljedbdhaaDoor
open Go.RowKit

def fok (m n : Int) : Bool := decide (2 ≤ m ∧ m ≤ 60 ∧ 0 ≤ n ∧ n ≤ m)
/-- A format as a value. -/
abbrev vF (g : Bool) (m n : Int) : Value := .agg #[.bool g, .int .i64 m, .int .i64 n]
theorem results_cellF {fn : Func} {p : Tmp} {ty : TypeId} (h : fn.results = #[.cell p ty]) (tmps : Array Value) (P : Program) (w : World) :
    (results fn tmps).run P w = ((asAddr (tmps.getD p undef)).run P w).andThen fun a w₁ => (loadVar ty a).run P w₁ := by
  simp only [results, h]
  simp [Sem.run_bind, Result.andThen]
theorem belowF1 (w : World) (o1 : Obj) : Below w.heap.size w (w.alloc o1) := (Below.refl w.heap.size w).alloc (Nat.le_refl _) o1
theorem belowF2 (w : World) (o1 o2 : Obj) : Below w.heap.size w ((w.alloc o1).alloc o2) := (belowF1 w o1).alloc (by simp) o2

/-- The box of a format's variable, the first new block. -/
def BoxF (w : World) (g : Bool) (m n : Int) (W : World) : Prop := W.cell? ⟨w.heap.size, 0, none⟩ = some (.bool g) ∧ W.cell? ⟨w.heap.size, 1, none⟩ = some (.int .i64 m) ∧ W.cell? ⟨w.heap.size, 2, none⟩ = some (.int .i64 n) ∧ w.heap.size < W.heap.size ∧ Below w.heap.size w W
theorem BoxF.made (w : World) (g : Bool) (m n : Int) (t : TypeId) : BoxF w g m n (w.alloc (.cells #[.bool g, .int .i64 m, .int .i64 n] t)) :=
  ⟨by simp, by simp, by simp, by simp, belowF1 w _⟩
theorem BoxF.below {w W W' : World} {g : Bool} {m n : Int} (h : BoxF w g m n W) (b : Below W.heap.size W W') : BoxF w g m n W' := by
  obtain ⟨h0, h1, h2, h3, h4⟩ := h
  exact ⟨(b.cell (p := ⟨w.heap.size, 0, none⟩) h3).trans h0, (b.cell (p := ⟨w.heap.size, 1, none⟩) h3).trans h1, (b.cell (p := ⟨w.heap.size, 2, none⟩) h3).trans h2, Nat.lt_of_lt_of_le h3 b.size, h4.trans (b.mono h4.size)⟩
theorem BoxF.drew {w W : World} {g : Bool} {m n : Int} (h : BoxF w g m n W) : BoxF w g m n W.drew := ⟨h.1, h.2.1, h.2.2.1, h.2.2.2.1, h.2.2.2.2.drew⟩

set_option maxHeartbeats 1600000 in
theorem toF (g : Bool) (m n : Int) (w : World) :
    Calls Tryd.prog 7 #[vF g m n] w fun e w' => e = .returned (vF g m n) ∧ Below w.heap.size w w' := by
  go_enter Tryd.func7, Tryd.ntmps7
  go_wp2
  (try simp only [Exit.inBlock, Exit.then])
  refine bodyPost_ret (v := vF g m n) ?_ rfl ⟨rfl, ?_⟩
  · rw [results_cellF rfl]
    go_simp
  · repeat (first | exact Below.refl _ _ | refine Below.setCell ?_ (by simp <;> omega) _ | refine Below.alloc ?_ (by simp <;> omega) _)

set_option maxHeartbeats 1600000 in
theorem sFmtOk (g : Bool) (m n : Int) (w : World) :
    Calls Tryd.prog 15 #[vF g m n] w fun e w' => e = .returned (.bool (fok m n)) ∧ Below w.heap.size w w' := by
  by_cases h1 : 2 ≤ m ∧ m ≤ 60
  · by_cases h2 : 0 ≤ n ∧ n ≤ m
    · have HB : Hid (fok m n = true) := by show _ = _; unfold fok; simp; omega
      go_enter Tryd.func15, Tryd.ntmps15
      go_wp2_with fail
      refine (in_yes m 2 60 _ h1.1 h1.2).mono ?_
      rintro e w1 ⟨rfl, rfl⟩
      go_wp2_with fail
      refine (in_yes n 0 m _ h2.1 h2.2).mono ?_
      rintro e w1 ⟨rfl, rfl⟩
      go_wp2
      go_ret
      exact ⟨by rw [HB.out]; rfl, belowF1 w _⟩
    · have HB : Hid (fok m n = false) := by show _ = _; unfold fok; simp; omega
      have HN : Hid (¬ (0 ≤ n ∧ n ≤ m)) := h2
      clear h2
      go_enter Tryd.func15, Tryd.ntmps15
      go_wp2_with fail
      refine (in_yes m 2 60 _ h1.1 h1.2).mono ?_
      rintro e w1 ⟨rfl, rfl⟩
      go_wp2_with fail
      refine (in_no n 0 m _ HN.out).mono ?_
      rintro e w1 ⟨rfl, rfl⟩
      go_wp2
      go_ret
      exact ⟨by rw [HB.out]; rfl, belowF1 w _⟩
  · have HB : Hid (fok m n = false) := by show _ = _; unfold fok; simp; omega
    have HN : Hid (¬ (2 ≤ m ∧ m ≤ 60)) := h1
    clear h1
    go_enter Tryd.func15, Tryd.ntmps15
    go_wp2_with fail
    refine (in_no m 2 60 _ HN.out).mono ?_
    rintro e w1 ⟨rfl, rfl⟩
    go_wp2
    go_ret
    exact ⟨by rw [HB.out]; rfl, belowF1 w _⟩

end Go.Proofs.YtdcmpbljedbdhaaDoor
