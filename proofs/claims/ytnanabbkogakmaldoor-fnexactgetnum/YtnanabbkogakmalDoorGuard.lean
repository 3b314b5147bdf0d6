/- The program's Number: what its deferred closure makes of a panic; its contract for every text. -/
import Derived.Test.YtnanabbkogakmalDoorRead
namespace Go.Proofs.YtnanabbkogakmalDoor
open Go.RowKit

theorem below2 (w : World) (o o' : Obj) : Below w.heap.size w ((w.alloc o).alloc o') := ((Below.refl _ _).alloc (Nat.le_refl _) o).alloc (by simp) o'

set_option maxHeartbeats 1600000 in
theorem inum_no (s : ByteArray) (w : World) (u : TypeId) (pv : Value) (hs : s.size ≤ 1048576) (hg : ¬ good s.data.toList) (hvar : w.cell? ⟨0, 0, none⟩ = some (.iface u pv)) :
    Calls Tryd.prog 6 #[.string s] w fun e w' => e = .returned (.tuple #[.int .i64 0, .bool false]) ∧ Below w.heap.size w w' := by
  have hmf : ∀ (fn : Fn) (first cap : Array Value) (w : World), (Instr.makeFunc fn first cap).run Tryd.prog w = .ok (.func fn first cap) w := fun _ _ _ _ => rfl
  have hv2 : ((w.alloc (.cells #[.int .i64 0] 3)).alloc (.cells #[.bool false] 4)).cell? ⟨0, 0, none⟩ = some (.iface u pv) := ((below2 w _ _).cell (p := ⟨0, 0, none⟩) (block_lt_of_cell hvar)).trans hvar
  go_enter_defers Tryd.func6, Tryd.ntmps6
  go_wp2_with (go_at_call 13; refine (readDigits_no s _ u pv hs hg hv2).mono ?_; rintro e w' ⟨rfl, rfl⟩)
  refine leaves_cons (f := 12) (args := #[.pointer (some ⟨w.heap.size, 0, none⟩), .pointer (some ⟨w.heap.size + 1, 0, none⟩)]) (by simp) (by simp [go_sem]) ?_
  refine (catch2_panicking ⟨w.heap.size, 0, none⟩ ⟨w.heap.size + 1, 0, none⟩ 0 false u pv [] _ ?_ ?_ ?_ ?_ ?_).mono ?_
  · simp [go_sem]
  · simp [go_sem]
  · simp [go_sem]
  · simp [go_sem]
  · simp
  rintro e u' w'' ⟨rfl, rfl, rfl⟩
  simp [Leaves, settle, results, Tryd.results6, go_sem]
  exact below2 _ _ _

set_option maxHeartbeats 1600000 in
theorem inum_yes (s : ByteArray) (w : World) (hg : good s.data.toList) :
    Calls Tryd.prog 6 #[.string s] w fun e w' => e = .returned (.tuple #[.int .i64 (val s.data.toList), .bool true]) ∧ Below w.heap.size w w' := by
  have hmf : ∀ (fn : Fn) (first cap : Array Value) (w : World), (Instr.makeFunc fn first cap).run Tryd.prog w = .ok (.func fn first cap) w := fun _ _ _ _ => rfl
  go_enter_defers Tryd.func6, Tryd.ntmps6
  go_wp2_with (go_at_call 13; refine (readDigits_yes s _ hg).mono ?_; rintro e w' ⟨rfl, rfl⟩)
  refine leaves_cons (f := 12) (args := #[.pointer (some ⟨w.heap.size, 0, none⟩), .pointer (some ⟨w.heap.size + 1, 0, none⟩)]) (by simp) (by simp [go_sem]) ?_
  refine (catch2_idle ⟨w.heap.size, 0, none⟩ ⟨w.heap.size + 1, 0, none⟩ _).mono ?_
  rintro e u' w'' ⟨rfl, rfl, rfl⟩
  simp [Leaves, settle, results, Tryd.results6, go_sem]
  exact below2 _ _ _

theorem inum (s : ByteArray) (w : World) (u : TypeId) (pv : Value) (hs : s.size ≤ 1048576) (hvar : w.cell? ⟨0, 0, none⟩ = some (.iface u pv)) :
    Calls Tryd.prog 6 #[.string s] w fun e w' => e = .returned (.tuple #[.int .i64 (numR s.data.toList).1, .bool (numR s.data.toList).2]) ∧ Below w.heap.size w w' := by
  by_cases hg : good s.data.toList
  · rw [numR, if_pos hg]; exact inum_yes s w hg
  · rw [numR, if_neg hg]; exact inum_no s w u pv hs hg hvar

set_option maxHeartbeats 1600000 in
theorem walk_number (s : ByteArray) (w : World) (u : TypeId) (pv : Value) (hvar : w.cell? ⟨0, 0, none⟩ = some (.iface u pv)) :
    Calls Tryd.prog 3 #[.string s] w fun e w' => e = .returned (.bool true) ∧ Below w.heap.size w w' := by
  by_cases hs : s.size ≤ 1048576
  · have hs' : ¬ (1048576 : Int) < (s.size : Int) := by omega
    obtain ⟨n, ok, hR⟩ : ∃ n ok, numR s.data.toList = (n, ok) := ⟨_, _, rfl⟩
    have HR : Hid (numR s.data.toList = (n, ok)) := hR
    clear hR
    go_enter Tryd.func3, Tryd.ntmps3
    go_wp2_with fail
    refine (snum s w).mono ?_
    rintro e w1 ⟨rfl, b1⟩
    rw [HR.out]
    have hv1 : w1.cell? ⟨0, 0, none⟩ = some (.iface u pv) := (b1.cell (p := ⟨0, 0, none⟩) (block_lt_of_cell hvar)).trans hvar
    go_wp2_with fail
    refine (inum s w1 u pv hs hv1).mono ?_
    rintro e w2 ⟨rfl, b2⟩
    rw [HR.out]
    go_wp2
    go_ret
    exact ⟨rfl, b1.trans (b2.mono b1.size)⟩
  · have hs' : (1048576 : Int) < (s.size : Int) := by omega
    go_enter Tryd.func3, Tryd.ntmps3
    go_wp2
    go_ret
    exact ⟨rfl, Below.refl _ _⟩

end Go.Proofs.YtnanabbkogakmalDoor
