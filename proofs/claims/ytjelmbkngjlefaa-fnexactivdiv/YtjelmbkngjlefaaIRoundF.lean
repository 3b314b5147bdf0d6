/- The program's RoundFrac and RoundAt, each by its contract. -/
import Derived.Test.YtjelmbkngjlefaaBRound
import Derived.Test.YtjelmbkngjlefaaGAt
import Derived.Test.YtjelmbkngjlefaaSTB
import Derived.Test.YtjelmbkngjlefaaSWhole
namespace Go.Proofs.Ytjelmbkngjlefaa
open Go.RowKit
set_option linter.unusedSimpArgs false

theorem SGG.other {w : World} {b m : Nat} {g : Bool} (h : SGG w b g m) (p : Addr) (hp : b ≠ p.block) (v : Value) : SGG (w.setCell p v) b g m :=
  h.tn (Tn.cell (Tn.refl [p.block] w) p (by simp) v) (by simpa using hp)
theorem SGG.drewN {w : World} {b m : Nat} {g : Bool} (h : SGG w b g m) (n : Nat) : SGG (w.drewN n) b g m := ⟨h.1, h.2.drewN n⟩
theorem valW_len {a : Wh} (h : okW a = true) : (limbs (valW a).natAbs).length ≤ 48 := by
  have h3 := ((okW_iff a).1 h).1.1
  have : (mkW (valW a)).2.length ≤ 48 := by rw [← mkW_of h]; exact h3
  exact this
theorem cmpJ_nat (m n : Nat) : cmpJ (m : Int) (n : Int) = cmpI m n := by unfold cmpJ cmpI; simp


end Go.Proofs.Ytjelmbkngjlefaa
