/- l1PickInt of a row of whichever numbers, by its contract. -/
import Derived.Test.YtnojigofojjopaaDoorDrN
namespace Go.Proofs.YtnojigofojjopaaDoor
open Go.RowKit

/-- Whether a value is a whole number. -/
def isI : Value → Bool
  | .int .i64 _ => true
  | _ => false
def intI : Value → Int
  | .int .i64 x => x
  | _ => 0
theorem isI_eq {v : Value} (h : isI v = true) : v = .int .i64 (intI v) := by
  unfold isI at h
  split at h
  · rfl
  · cases h
/-- l1PickInt of a row of whichever numbers. -/
theorem pickAny (B g n c : Nat) (cs : Array Value) (t : TypeId) (w : World) (hc : CurAt w B) (hg : g ≠ B) (hh : w.heap[g]? = some (.cells cs t (0, 0))) (hn : cs.size = n) (ha : cs.toList.all isI = true) (h0 : 0 < n) (h1 : n ≤ 4096) :
    Calls Tryd.prog 37 #[.pointer (some ⟨B, 0, none⟩), .slice (some ⟨g, 0, none⟩) n c] w fun e w' => ∃ x, e = .returned (.int .i64 x) ∧ CurAt w' B ∧ w.grownBy w' (some B) := by
  refine (pickInt B g n c (cs.toList.map intI) w hc (by simp [hn]) h0 h1 hg ?_).mono ?_
  · intro j hj
    have hj' : j < cs.size := by omega
    rw [cell_of_row w g j cs t (0, 0) hh, Array.getElem?_eq_getElem hj']
    have hm : cs[j] ∈ cs.toList := by simp
    have := isI_eq (List.all_eq_true.1 ha _ hm)
    rw [List.getD_eq_getElem?_getD, List.getElem?_map]
    have e : cs.toList[j]? = some cs[j] := by simp [hj']
    rw [e]
    simp
    exact this
  · rintro e w' ⟨x, hx, -, hc', hg'⟩
    exact ⟨x, hx, hc', hg'⟩

end Go.Proofs.YtnojigofojjopaaDoor
