/- StatusText of the specification and of the program, each by its contract, and the law's walk. -/
import Derived.Test.YtocaaklhlmnonaaOwnS
import Derived.Test.YtocaaklhlmnonaaSIn
namespace Go.Proofs.Ytocaaklhlmnonaa
open Go.RowKit
set_option linter.unusedSimpArgs false

def statList : List ByteArray := [⟨#[111, 107]⟩, ⟨#[115, 97, 116]⟩, ⟨#[111, 118, 101, 114]⟩, ⟨#[119, 114, 97, 112]⟩, ⟨#[100, 111, 109, 97, 105, 110]⟩, ⟨#[104, 97, 114, 100]⟩, ⟨#[98, 97, 100]⟩]
def statR (k : Int) : ByteArray := if 0 ≤ k ∧ k ≤ 6 then statList.getD k.toNat ⟨#[]⟩ else ⟨#[]⟩

theorem below_new (w : World) (o : Obj) : Below w.heap.size w (w.alloc o) := (Below.refl _ _).alloc (Nat.le_refl _) _

set_option maxHeartbeats 1600000 in
theorem iStatusText (k : Int) (w : World) : Calls Try.prog 15 #[.int .i64 k] w fun e w' => e = .returned (.string (statR k)) ∧ Below w.heap.size w w' := by
  have HB := fun o => below_new w o
  by_cases h : 0 ≤ k ∧ k ≤ 6
  · have hk : k = 0 ∨ k = 1 ∨ k = 2 ∨ k = 3 ∨ k = 4 ∨ k = 5 ∨ k = 6 := by omega
    clear h
    rcases hk with rfl | rfl | rfl | rfl | rfl | rfl | rfl <;>
    · go_enter Try.func15, Try.ntmps15
      go_wp2
      go_ret
      exact ⟨rfl, HB _⟩
  · have e : statR k = ⟨#[]⟩ := if_neg h
    rw [e]
    by_cases h0 : 0 ≤ k
    · have h7 : 7 ≤ k := by omega
      clear h e
      go_enter Try.func15, Try.ntmps15
      go_wp2
      go_ret
      exact ⟨rfl, HB _⟩
    · clear h e
      go_enter Try.func15, Try.ntmps15
      go_wp2
      go_ret
      exact ⟨rfl, HB _⟩

set_option maxHeartbeats 1600000 in
theorem sStatusText (k : Int) (w : World) : Calls Try.prog 14 #[.int .i64 k] w fun e w' => e = .returned (.string (statR k)) ∧ Below w.heap.size w w' := by
  have HB := fun o => below_new w o
  by_cases h : 0 ≤ k ∧ k ≤ 6
  · have hk : k = 0 ∨ k = 1 ∨ k = 2 ∨ k = 3 ∨ k = 4 ∨ k = 5 ∨ k = 6 := by omega
    have hin := fun W => in_yes k 0 6 W h.1 h.2
    clear h
    rcases hk with rfl | rfl | rfl | rfl | rfl | rfl | rfl <;>
    · go_enter Try.func14, Try.ntmps14
      go_wp2_with fail
      refine (hin _).mono ?_
      rintro e w1 ⟨rfl, rfl⟩
      go_wp2
      go_ret
      exact ⟨rfl, HB _⟩
  · have e : statR k = ⟨#[]⟩ := if_neg h
    rw [e]
    have hin := fun W => in_no k 0 6 W h
    clear h e
    go_enter Try.func14, Try.ntmps14
    go_wp2_with fail
    refine (hin _).mono ?_
    rintro e w1 ⟨rfl, rfl⟩
    go_wp2
    go_ret
    exact ⟨rfl, HB _⟩

set_option maxHeartbeats 1600000 in
theorem walkStatusText (k : Int) (w : World) : Calls Try.prog 3 #[.int .i64 k] w fun e w' => e = .returned (.bool true) ∧ Below w.heap.size w w' := by
  go_enter Try.func3, Try.ntmps3
  go_wp2_with fail
  refine (sStatusText k w).mono ?_
  rintro e w1 ⟨rfl, b1⟩
  go_wp2_with fail
  refine (iStatusText k w1).mono ?_
  rintro e w2 ⟨rfl, b2⟩
  have B := b1.trans (b2.mono b1.size)
  generalize statR k = s
  clear b1 b2
  go_wp2
  go_ret
  exact ⟨rfl, B⟩

end Go.Proofs.Ytocaaklhlmnonaa
