/- The program's order of numbers with a sign, by its contract. -/
import Derived.Test.YtnngmkgkphkmhaaSG
import Derived.Test.YtnngmkgkphkmhaaGB
namespace Go.Proofs.Ytnngmkgkphkmhaa
open Go.RowKit

theorem ord_z {x y : Int} : (if x < y then (-1 : Int) else if y < x then 1 else 0) = if decide (x < 0) = decide (y < 0) then (if x < 0 then cmpI y.natAbs x.natAbs else cmpI x.natAbs y.natAbs) else (if x < 0 then -1 else 1) := by
  unfold cmpI
  by_cases hx : x < 0 <;> by_cases hy : y < 0 <;> simp [hx, hy] <;> (repeat' split) <;> omega

set_option maxRecDepth 20000 in
set_option maxHeartbeats 1600000 in
/-- order: how two numbers with a sign stand to each other. -/
theorem sOrder (a b : Nat) (x y : Int) (w : World) (ha : SG w a x) (hb : SG w b y) :
    Calls Try.prog 73 #[.pointer (some ⟨a, 0, none⟩), .pointer (some ⟨b, 0, none⟩)] w fun e w' => e = .returned (.int .i64 (if x < y then -1 else if y < x then 1 else 0)) ∧ Below w.heap.size w w' := by
  obtain ⟨r, hr⟩ : ∃ r, (if x < y then (-1 : Int) else if y < x then 1 else 0) = r := ⟨_, rfl⟩
  rw [hr]
  rw [ord_z] at hr
  have ca := ha.sign
  have cb := hb.sign
  have kA := fun q => gOrder a 1 b 1 x.natAbs y.natAbs (w.drewN q).drew (ha.mag.drewN q).drew (hb.mag.drewN q).drew
  have kB := fun q => gOrder b 1 a 1 y.natAbs x.natAbs (w.drewN q).drew (hb.mag.drewN q).drew (ha.mag.drewN q).drew
  have D : ∀ q, Below w.heap.size w (w.drewN q) := fun q => ⟨rfl, rfl, rfl, Nat.le_refl _, fun _ _ => rfl⟩
  have D2 : ∀ q, Below w.heap.size w (w.drewN q).drew := fun q => ⟨rfl, rfl, rfl, Nat.le_refl _, fun _ _ => rfl⟩
  by_cases hx : x < 0 <;> by_cases hy : y < 0
  · rw [decide_eq_true hx] at ca hr
    rw [decide_eq_true hy] at cb hr
    rw [if_pos rfl, if_pos hx] at hr
    simp only [hr] at kB
    clear kA
    clear hx hy hr ha hb
    go_enter Try.func73, Try.ntmps73
    go_wp2_with fail
    go_quiet (fail)
    go_wp2_with fail
    go_region_held (fun _ => True) (trivial)
      (first
        | (go_at_call 78
           refine (kB nq).mono ?_
           rintro e w5 ⟨rfl, b5⟩))
    go_wp2
    go_ret
    exact ⟨rfl, (D2 nq).trans b5⟩
  · rw [decide_eq_true hx] at ca hr
    rw [decide_eq_false hy] at cb hr
    rw [if_neg (by simp), if_pos hx] at hr
    have HRR : Hid (r = -1) := hr.symm
    clear hr
    clear hx hy ha hb kA kB
    go_enter Try.func73, Try.ntmps73
    go_wp2_with fail
    go_quiet (fail)
    go_wp2
    go_ret
    exact ⟨by rw [HRR.out]; rfl, D nq⟩
  · rw [decide_eq_false hx] at ca hr
    rw [decide_eq_true hy] at cb hr
    rw [if_neg (by simp), if_neg hx] at hr
    have HRR : Hid (r = 1) := hr.symm
    clear hr
    clear hx hy ha hb kA kB
    go_enter Try.func73, Try.ntmps73
    go_wp2_with fail
    go_quiet (fail)
    go_wp2
    go_ret
    exact ⟨by rw [HRR.out]; rfl, D nq⟩
  · rw [decide_eq_false hx] at ca hr
    rw [decide_eq_false hy] at cb hr
    rw [if_pos rfl, if_neg hx] at hr
    simp only [hr] at kA
    clear kB
    clear hx hy hr ha hb
    go_enter Try.func73, Try.ntmps73
    go_wp2_with fail
    go_quiet (fail)
    go_wp2_with fail
    go_region_held (fun _ => True) (trivial)
      (first
        | (go_at_call 78
           refine (kA nq).mono ?_
           rintro e w5 ⟨rfl, b5⟩))
    go_wp2
    go_ret
    exact ⟨rfl, (D2 nq).trans b5⟩

end Go.Proofs.Ytnngmkgkphkmhaa
