/- The program's FmtOk, by its contract. -/
import Derived.Test.YtdcmpbljedbdhaaDoorFmtR
namespace Go.Proofs.YtdcmpbljedbdhaaDoor
open Go.RowKit

def bW (m : Int) : Int := min (max m 2) 60
def bF (m n : Int) : Int := min (max n 0) (bW m)

set_option maxHeartbeats 1600000 in
theorem iBounded (g : Bool) (m n : Int) (w : World) :
    Calls Tryd.prog 30 #[vF g m n] w fun e w' => e = .returned (vF g (bW m) (bF m n)) ∧ Below w.heap.size w w' := by
  go_enter Tryd.func30, Tryd.ntmps30
  go_wp2
  all_goals
    (try simp only [Exit.inBlock, Exit.then])
    refine bodyPost_ret (v := vF g (bW m) (bF m n)) ?_ rfl ⟨rfl, ?_⟩
    · rw [results_cellF rfl]
      go_simp
      (try simp only [bW, bF])
      omega
    · repeat (first | exact Below.refl _ _ | refine Below.setCell ?_ (by simp <;> omega) _ | refine Below.alloc ?_ (by simp <;> omega) _)

theorem fok_bounded (m n : Int) : fok m n = (m == bW m && n == bF m n) := by
  unfold fok bF bW
  by_cases h1 : 2 ≤ m ∧ m ≤ 60
  · have e1 : min (max m 2) 60 = m := by omega
    rw [e1]
    by_cases h2 : 0 ≤ n ∧ n ≤ m
    · have e2 : min (max n 0) m = n := by omega
      rw [e2]
      simp; omega
    · have e2 : (n == min (max n 0) m) = false := by rw [beq_eq_false_iff_ne]; omega
      rw [e2]
      simp; omega
  · have e1 : (m == min (max m 2) 60) = false := by rw [beq_eq_false_iff_ne]; omega
    rw [e1]
    simp; omega

set_option maxHeartbeats 1600000 in
theorem iFmtOk (g : Bool) (m n : Int) (w : World) :
    Calls Tryd.prog 20 #[vF g m n] w fun e w' => e = .returned (.bool (fok m n)) ∧ Below w.heap.size w w' := by
  have HB : Hid (fok m n = (m == bW m && n == bF m n)) := fok_bounded m n
  have kb := fun W => iBounded g m n W
  obtain ⟨m', hm⟩ : ∃ z, bW m = z := ⟨_, rfl⟩
  obtain ⟨n', hn⟩ : ∃ z, bF m n = z := ⟨_, rfl⟩
  rw [hm, hn] at HB
  simp only [hm, hn] at kb
  clear hm hn
  by_cases h1 : m = m'
  · subst h1
    rw [beq_self_eq_true, Bool.true_and] at HB
    by_cases h2 : n = n'
    · subst h2
      rw [beq_self_eq_true] at HB
      go_enter Tryd.func20, Tryd.ntmps20
      go_wp2_with fail
      have b1 := belowF1 w (.cells #[.bool g, .int .i64 m, .int .i64 n] 25)
      have hs : (w.alloc (.cells #[.bool g, .int .i64 m, .int .i64 n] 25)).heap.size = w.heap.size + 1 := by simp
      have c0 : (w.alloc (.cells #[.bool g, .int .i64 m, .int .i64 n] 25)).cell? ⟨w.heap.size, 0, none⟩ = some (.bool g) := by simp
      have c1 : (w.alloc (.cells #[.bool g, .int .i64 m, .int .i64 n] 25)).cell? ⟨w.heap.size, 1, none⟩ = some (.int .i64 m) := by simp
      have c2 : (w.alloc (.cells #[.bool g, .int .i64 m, .int .i64 n] 25)).cell? ⟨w.heap.size, 2, none⟩ = some (.int .i64 n) := by simp
      generalize w.alloc (.cells #[.bool g, .int .i64 m, .int .i64 n] 25) = w1 at *
      have b2 := b1.drew
      go_region_held (fun w' => w'.cell? ⟨w.heap.size, 0, none⟩ = some (.bool g) ∧ w'.cell? ⟨w.heap.size, 1, none⟩ = some (.int .i64 m) ∧ w'.cell? ⟨w.heap.size, 2, none⟩ = some (.int .i64 n)) (go_keep)
        (first
          | (go_at_call 30
             refine (kb _).mono ?_
             rintro e w4 ⟨rfl, b4⟩
             have B5 := b2.trans (b4.mono b2.size)
             have d0 := (b4.cell (p := ⟨w.heap.size, 0, none⟩) (by show w.heap.size < w1.heap.size; omega)).trans c0
             have d1 := (b4.cell (p := ⟨w.heap.size, 1, none⟩) (by show w.heap.size < w1.heap.size; omega)).trans c1
             have d2 := (b4.cell (p := ⟨w.heap.size, 2, none⟩) (by show w.heap.size < w1.heap.size; omega)).trans c2))
      go_wp2
      go_ret
      exact ⟨by rw [HB.out]; rfl, B5⟩
    · have e2 : (n == n') = false := beq_eq_false_iff_ne.2 h2
      rw [e2] at HB
      clear h2
      go_enter Tryd.func20, Tryd.ntmps20
      go_wp2_with fail
      have b1 := belowF1 w (.cells #[.bool g, .int .i64 m, .int .i64 n] 25)
      have hs : (w.alloc (.cells #[.bool g, .int .i64 m, .int .i64 n] 25)).heap.size = w.heap.size + 1 := by simp
      have c0 : (w.alloc (.cells #[.bool g, .int .i64 m, .int .i64 n] 25)).cell? ⟨w.heap.size, 0, none⟩ = some (.bool g) := by simp
      have c1 : (w.alloc (.cells #[.bool g, .int .i64 m, .int .i64 n] 25)).cell? ⟨w.heap.size, 1, none⟩ = some (.int .i64 m) := by simp
      have c2 : (w.alloc (.cells #[.bool g, .int .i64 m, .int .i64 n] 25)).cell? ⟨w.heap.size, 2, none⟩ = some (.int .i64 n) := by simp
      generalize w.alloc (.cells #[.bool g, .int .i64 m, .int .i64 n] 25) = w1 at *
      have b2 := b1.drew
      go_region_held (fun w' => w'.cell? ⟨w.heap.size, 0, none⟩ = some (.bool g) ∧ w'.cell? ⟨w.heap.size, 1, none⟩ = some (.int .i64 m) ∧ w'.cell? ⟨w.heap.size, 2, none⟩ = some (.int .i64 n)) (go_keep)
        (first
          | (go_at_call 30
             refine (kb _).mono ?_
             rintro e w4 ⟨rfl, b4⟩
             have B5 := b2.trans (b4.mono b2.size)
             have d0 := (b4.cell (p := ⟨w.heap.size, 0, none⟩) (by show w.heap.size < w1.heap.size; omega)).trans c0
             have d1 := (b4.cell (p := ⟨w.heap.size, 1, none⟩) (by show w.heap.size < w1.heap.size; omega)).trans c1
             have d2 := (b4.cell (p := ⟨w.heap.size, 2, none⟩) (by show w.heap.size < w1.heap.size; omega)).trans c2))
      go_wp2
      go_ret
      exact ⟨by rw [HB.out]; rfl, B5⟩
  · have e1 : (m == m') = false := beq_eq_false_iff_ne.2 h1
    rw [e1, Bool.false_and] at HB
    clear h1
    go_enter Tryd.func20, Tryd.ntmps20
    go_wp2_with fail
    have b1 := belowF1 w (.cells #[.bool g, .int .i64 m, .int .i64 n] 25)
    have hs : (w.alloc (.cells #[.bool g, .int .i64 m, .int .i64 n] 25)).heap.size = w.heap.size + 1 := by simp
    have c0 : (w.alloc (.cells #[.bool g, .int .i64 m, .int .i64 n] 25)).cell? ⟨w.heap.size, 0, none⟩ = some (.bool g) := by simp
    have c1 : (w.alloc (.cells #[.bool g, .int .i64 m, .int .i64 n] 25)).cell? ⟨w.heap.size, 1, none⟩ = some (.int .i64 m) := by simp
    have c2 : (w.alloc (.cells #[.bool g, .int .i64 m, .int .i64 n] 25)).cell? ⟨w.heap.size, 2, none⟩ = some (.int .i64 n) := by simp
    generalize w.alloc (.cells #[.bool g, .int .i64 m, .int .i64 n] 25) = w1 at *
    have b2 := b1.drew
    go_region_held (fun w' => w'.cell? ⟨w.heap.size, 0, none⟩ = some (.bool g) ∧ w'.cell? ⟨w.heap.size, 1, none⟩ = some (.int .i64 m) ∧ w'.cell? ⟨w.heap.size, 2, none⟩ = some (.int .i64 n)) (go_keep)
      (first
        | (go_at_call 30
           refine (kb _).mono ?_
           rintro e w4 ⟨rfl, b4⟩
           have B5 := b2.trans (b4.mono b2.size)
           have d0 := (b4.cell (p := ⟨w.heap.size, 0, none⟩) (by show w.heap.size < w1.heap.size; omega)).trans c0
           have d1 := (b4.cell (p := ⟨w.heap.size, 1, none⟩) (by show w.heap.size < w1.heap.size; omega)).trans c1
           have d2 := (b4.cell (p := ⟨w.heap.size, 2, none⟩) (by show w.heap.size < w1.heap.size; omega)).trans c2))
    go_wp2
    go_ret
    exact ⟨by rw [HB.out]; rfl, B5⟩

end Go.Proofs.YtdcmpbljedbdhaaDoor
