/- Several small texts in one: FmtR, SLeast, IFmtOk, ILeast. -/
import Derived.Test.YtmafljcolniddaaBase
import Derived.Laws.ResultCell
import Derived.BigQuiet
import Derived.Deep.RegionHeld
import Derived.Test.YtmafljcolniddaaSB
/- Formats: what the functions on them answer; the law's copy of one; the specification's FmtOk, the program's, each by its contract. -/
namespace Go.Proofs.Ytmafljcolniddaa
open Go.RowKit

def fok (m n : Int) : Bool := decide (2 ≤ m ∧ m ≤ 60 ∧ 0 ≤ n ∧ n ≤ m)
/-- A format as a value. -/
abbrev vF (g : Bool) (m n : Int) : Value := .agg #[.bool g, .int .i64 m, .int .i64 n]
theorem results_cellF {fn : Func} {p : Tmp} {ty : TypeId} (h : fn.results = #[.cell p ty]) (tmps : Array Value) (P : Program) (w : World) :
    (results fn tmps).run P w = ((asAddr (tmps.getD p undef)).run P w).andThen fun a w₁ => (loadVar ty a).run P w₁ := by
  simp only [results, h]
  simp [Sem.run_bind, Result.andThen]
theorem belowF1 (w : World) (o1 : Obj) : Below w.heap.size w (w.alloc o1) := (Below.refl w.heap.size w).alloc (Nat.le_refl _) o1
theorem belowF2 (w : World) (o1 o2 : Obj) : Below w.heap.size w ((w.alloc o1).alloc o2) := (belowF1 w o1).alloc (by simp) o2

/-- The box of a format's variable, the first new block. -/
def BoxF (w : World) (g : Bool) (m n : Int) (W : World) : Prop := W.cell? ⟨w.heap.size, 0, none⟩ = some (.bool g) ∧ W.cell? ⟨w.heap.size, 1, none⟩ = some (.int .i64 m) ∧ W.cell? ⟨w.heap.size, 2, none⟩ = some (.int .i64 n) ∧ w.heap.size < W.heap.size ∧ Below w.heap.size w W
theorem BoxF.made (w : World) (g : Bool) (m n : Int) (t : TypeId) : BoxF w g m n (w.alloc (.cells #[.bool g, .int .i64 m, .int .i64 n] t)) :=
  ⟨by simp, by simp, by simp, by simp, belowF1 w _⟩
theorem BoxF.below {w W W' : World} {g : Bool} {m n : Int} (h : BoxF w g m n W) (b : Below W.heap.size W W') : BoxF w g m n W' := by
  obtain ⟨h0, h1, h2, h3, h4⟩ := h
  exact ⟨(b.cell (p := ⟨w.heap.size, 0, none⟩) h3).trans h0, (b.cell (p := ⟨w.heap.size, 1, none⟩) h3).trans h1, (b.cell (p := ⟨w.heap.size, 2, none⟩) h3).trans h2, Nat.lt_of_lt_of_le h3 b.size, h4.trans (b.mono h4.size)⟩
theorem BoxF.drew {w W : World} {g : Bool} {m n : Int} (h : BoxF w g m n W) : BoxF w g m n W.drew := ⟨h.1, h.2.1, h.2.2.1, h.2.2.2.1, h.2.2.2.2.drew⟩

set_option maxHeartbeats 1600000 in
theorem toF (g : Bool) (m n : Int) (w : World) :
    Calls Try.prog 6 #[vF g m n] w fun e w' => e = .returned (vF g m n) ∧ Below w.heap.size w w' := by
  go_enter Try.func6, Try.ntmps6
  go_wp2
  (try simp only [Exit.inBlock, Exit.then])
  refine bodyPost_ret (v := vF g m n) ?_ rfl ⟨rfl, ?_⟩
  · rw [results_cellF rfl]
    go_simp
  · repeat (first | exact Below.refl _ _ | refine Below.setCell ?_ (by simp <;> omega) _ | refine Below.alloc ?_ (by simp <;> omega) _)

set_option maxHeartbeats 1600000 in
theorem sFmtOk (g : Bool) (m n : Int) (w : World) :
    Calls Try.prog 11 #[vF g m n] w fun e w' => e = .returned (.bool (fok m n)) ∧ Below w.heap.size w w' := by
  by_cases h1 : 2 ≤ m ∧ m ≤ 60
  · by_cases h2 : 0 ≤ n ∧ n ≤ m
    · have HB : Hid (fok m n = true) := by show _ = _; unfold fok; simp; omega
      go_enter Try.func11, Try.ntmps11
      go_wp2_with fail
      refine (in_yes m 2 60 _ h1.1 h1.2).mono ?_
      rintro e w1 ⟨rfl, rfl⟩
      go_wp2_with fail
      refine (in_yes n 0 m _ h2.1 h2.2).mono ?_
      rintro e w1 ⟨rfl, rfl⟩
      go_wp2
      go_ret
      exact ⟨by rw [HB.out]; rfl, belowF1 w _⟩
    · have HB : Hid (fok m n = false) := by show _ = _; unfold fok; simp; omega
      have HN : Hid (¬ (0 ≤ n ∧ n ≤ m)) := h2
      clear h2
      go_enter Try.func11, Try.ntmps11
      go_wp2_with fail
      refine (in_yes m 2 60 _ h1.1 h1.2).mono ?_
      rintro e w1 ⟨rfl, rfl⟩
      go_wp2_with fail
      refine (in_no n 0 m _ HN.out).mono ?_
      rintro e w1 ⟨rfl, rfl⟩
      go_wp2
      go_ret
      exact ⟨by rw [HB.out]; rfl, belowF1 w _⟩
  · have HB : Hid (fok m n = false) := by show _ = _; unfold fok; simp; omega
    have HN : Hid (¬ (2 ≤ m ∧ m ≤ 60)) := h1
    clear h1
    go_enter Try.func11, Try.ntmps11
    go_wp2_with fail
    refine (in_no m 2 60 _ HN.out).mono ?_
    rintro e w1 ⟨rfl, rfl⟩
    go_wp2
    go_ret
    exact ⟨by rw [HB.out]; rfl, belowF1 w _⟩

end Go.Proofs.Ytmafljcolniddaa

/- Least and Most of the specification, each by its contract. -/
namespace Go.Proofs.Ytmafljcolniddaa
open Go.RowKit

def leastR (g : Bool) (m n : Int) : Int := if fok m n = true ∧ g = true then -((2 : Int) ^ (m - 1).toNat) else 0
def mostR (g : Bool) (m n : Int) : Int := if fok m n = true then (if g = true then (2 : Int) ^ (m - 1).toNat - 1 else (2 : Int) ^ m.toNat - 1) else 0
def rawR (g : Bool) (m n v : Int) : Bool := fok m n && decide (leastR g m n ≤ v) && decide (v ≤ mostR g m n)

set_option maxHeartbeats 1600000 in
theorem sLeast (g : Bool) (m n : Int) (w : World) :
    Calls Try.prog 15 #[vF g m n] w fun e w' => e = .returned (.int .i64 (leastR g m n)) ∧ Below w.heap.size w w' := by
  have kF := fun W => sFmtOk g m n W
  have B0 := BoxF.made w g m n 25
  obtain ⟨b, hb⟩ : ∃ b, fok m n = b := ⟨_, rfl⟩
  rw [hb] at kF
  cases b
  · have HR : Hid (leastR g m n = 0) := by show _ = _; unfold leastR; rw [if_neg (by rw [hb]; simp)]
    clear hb
    go_enter Try.func15, Try.ntmps15
    go_wp2_with fail
    refine (kF _).mono ?_
    rintro e w1 ⟨rfl, b1⟩
    have B1 := B0.below b1
    clear B0 b1
    go_wp2
    go_ret
    exact ⟨by rw [HR.out]; rfl, B1.2.2.2.2⟩
  · have hm := of_decide_eq_true hb
    cases g
    · have HR : Hid (leastR false m n = 0) := by show _ = _; unfold leastR; rw [if_neg (by simp)]
      clear hb
      go_enter Try.func15, Try.ntmps15
      go_wp2_with fail
      refine (kF _).mono ?_
      rintro e w1 ⟨rfl, b1⟩
      have B1 := B0.below b1
      clear B0 b1
      obtain ⟨d0, d1, d2, -, -⟩ := id B1
      go_wp2
      go_ret
      exact ⟨by rw [HR.out]; rfl, B1.2.2.2.2⟩
    · obtain ⟨k, rfl⟩ : ∃ k : Nat, m = (k : Int) + 1 := ⟨(m - 1).toNat, by omega⟩
      have HR : Hid (leastR true ((k : Int) + 1) n = -((2 : Int) ^ k)) := by
        show _ = _
        unfold leastR
        rw [if_pos ⟨hb, rfl⟩]
        simp
      have hk : k ≤ 59 := by omega
      have p1 := two_pow_le hk
      have p0 := two_pow_pos k
      have p2 : (2 : Int) ^ k ≤ 576460752303423488 := by omega
      have HP : Hid ((2 : Int) ^ k ≤ 576460752303423488 ∧ 0 < (2 : Int) ^ k) := ⟨p2, p0⟩
      clear p1
      have kp := fun W => sPow k W (by omega)
      obtain ⟨z, hz⟩ : ∃ z, (2 : Int) ^ k = z := ⟨_, rfl⟩
      rw [hz] at HR p0 p2 HP
      simp only [hz] at kp
      clear hz hb
      go_enter Try.func15, Try.ntmps15
      go_wp2_with fail
      refine (kF _).mono ?_
      rintro e w1 ⟨rfl, b1⟩
      have B1 := B0.below b1
      clear B0 b1
      obtain ⟨d0, d1, d2, -, -⟩ := id B1
      go_wp2_with fail
      refine (kp _).mono ?_
      rintro e w2 ⟨rfl, rfl⟩
      go_wp2
      go_ret
      exact ⟨by rw [HR.out]; (try simp), B1.2.2.2.2⟩

set_option maxHeartbeats 1600000 in
theorem sMost (g : Bool) (m n : Int) (w : World) :
    Calls Try.prog 16 #[vF g m n] w fun e w' => e = .returned (.int .i64 (mostR g m n)) ∧ Below w.heap.size w w' := by
  have kF := fun W => sFmtOk g m n W
  have B0 := BoxF.made w g m n 25
  obtain ⟨b, hb⟩ : ∃ b, fok m n = b := ⟨_, rfl⟩
  rw [hb] at kF
  cases b
  · have HR : Hid (mostR g m n = 0) := by show _ = _; unfold mostR; rw [if_neg (by rw [hb]; simp)]
    clear hb
    go_enter Try.func16, Try.ntmps16
    go_wp2_with fail
    refine (kF _).mono ?_
    rintro e w1 ⟨rfl, b1⟩
    have B1 := B0.below b1
    clear B0 b1
    go_wp2
    go_ret
    exact ⟨by rw [HR.out]; rfl, B1.2.2.2.2⟩
  · have hm := of_decide_eq_true hb
    cases g
    · obtain ⟨k, rfl⟩ : ∃ k : Nat, m = (k : Int) := ⟨m.toNat, by omega⟩
      have HR : Hid (mostR false (k : Int) n = (2 : Int) ^ k - 1) := by
        show _ = _
        unfold mostR
        rw [if_pos hb]
        simp
      have hk : k ≤ 60 := by omega
      have p1 := two_pow_le hk
      have p0 := two_pow_pos k
      have p2 : (2 : Int) ^ k ≤ 1152921504606846976 := by omega
      clear p1
      have kp := fun W => sPow k W (by omega)
      obtain ⟨z, hz⟩ : ∃ z, (2 : Int) ^ k = z := ⟨_, rfl⟩
      rw [hz] at HR p0 p2
      simp only [hz] at kp
      clear hz hb
      go_enter Try.func16, Try.ntmps16
      go_wp2_with fail
      refine (kF _).mono ?_
      rintro e w1 ⟨rfl, b1⟩
      have B1 := B0.below b1
      clear B0 b1
      obtain ⟨d0, d1, d2, -, -⟩ := id B1
      go_wp2_with fail
      refine (kp _).mono ?_
      rintro e w2 ⟨rfl, rfl⟩
      go_wp2
      go_ret
      exact ⟨by rw [HR.out]; (try simp), B1.2.2.2.2⟩
    · obtain ⟨k, rfl⟩ : ∃ k : Nat, m = (k : Int) + 1 := ⟨(m - 1).toNat, by omega⟩
      have HR : Hid (mostR true ((k : Int) + 1) n = (2 : Int) ^ k - 1) := by
        show _ = _
        unfold mostR
        rw [if_pos hb]
        simp
      have hk : k ≤ 60 := by omega
      have p1 := two_pow_le hk
      have p0 := two_pow_pos k
      have p2 : (2 : Int) ^ k ≤ 1152921504606846976 := by omega
      clear p1
      have kp := fun W => sPow k W (by omega)
      obtain ⟨z, hz⟩ : ∃ z, (2 : Int) ^ k = z := ⟨_, rfl⟩
      rw [hz] at HR p0 p2
      simp only [hz] at kp
      clear hz hb
      go_enter Try.func16, Try.ntmps16
      go_wp2_with fail
      refine (kF _).mono ?_
      rintro e w1 ⟨rfl, b1⟩
      have B1 := B0.below b1
      clear B0 b1
      obtain ⟨d0, d1, d2, -, -⟩ := id B1
      go_wp2_with fail
      refine (kp _).mono ?_
      rintro e w2 ⟨rfl, rfl⟩
      go_wp2
      go_ret
      exact ⟨by rw [HR.out]; (try simp), B1.2.2.2.2⟩

end Go.Proofs.Ytmafljcolniddaa

/- The program's FmtOk, by its contract. -/
namespace Go.Proofs.Ytmafljcolniddaa
open Go.RowKit

def bW (m : Int) : Int := min (max m 2) 60
def bF (m n : Int) : Int := min (max n 0) (bW m)

set_option maxHeartbeats 1600000 in
theorem iBounded (g : Bool) (m n : Int) (w : World) :
    Calls Try.prog 30 #[vF g m n] w fun e w' => e = .returned (vF g (bW m) (bF m n)) ∧ Below w.heap.size w w' := by
  go_enter Try.func30, Try.ntmps30
  go_wp2
  all_goals
    (try simp only [Exit.inBlock, Exit.then])
    refine bodyPost_ret (v := vF g (bW m) (bF m n)) ?_ rfl ⟨rfl, ?_⟩
    · rw [results_cellF rfl]
      go_simp
      (try simp only [bW, bF])
      omega
    · repeat (first | exact Below.refl _ _ | refine Below.setCell ?_ (by simp <;> omega) _ | refine Below.alloc ?_ (by simp <;> omega) _)

theorem fok_bounded (m n : Int) : fok m n = (m == bW m && n == bF m n) := by
  unfold fok bF bW
  by_cases h1 : 2 ≤ m ∧ m ≤ 60
  · have e1 : min (max m 2) 60 = m := by omega
    rw [e1]
    by_cases h2 : 0 ≤ n ∧ n ≤ m
    · have e2 : min (max n 0) m = n := by omega
      rw [e2]
      simp; omega
    · have e2 : (n == min (max n 0) m) = false := by rw [beq_eq_false_iff_ne]; omega
      rw [e2]
      simp; omega
  · have e1 : (m == min (max m 2) 60) = false := by rw [beq_eq_false_iff_ne]; omega
    rw [e1]
    simp; omega

set_option maxHeartbeats 1600000 in
theorem iFmtOk (g : Bool) (m n : Int) (w : World) :
    Calls Try.prog 17 #[vF g m n] w fun e w' => e = .returned (.bool (fok m n)) ∧ Below w.heap.size w w' := by
  have HB : Hid (fok m n = (m == bW m && n == bF m n)) := fok_bounded m n
  have kb := fun W => iBounded g m n W
  obtain ⟨m', hm⟩ : ∃ z, bW m = z := ⟨_, rfl⟩
  obtain ⟨n', hn⟩ : ∃ z, bF m n = z := ⟨_, rfl⟩
  rw [hm, hn] at HB
  simp only [hm, hn] at kb
  clear hm hn
  by_cases h1 : m = m'
  · subst h1
    rw [beq_self_eq_true, Bool.true_and] at HB
    by_cases h2 : n = n'
    · subst h2
      rw [beq_self_eq_true] at HB
      go_enter Try.func17, Try.ntmps17
      go_wp2_with fail
      have b1 := belowF1 w (.cells #[.bool g, .int .i64 m, .int .i64 n] 25)
      have hs : (w.alloc (.cells #[.bool g, .int .i64 m, .int .i64 n] 25)).heap.size = w.heap.size + 1 := by simp
      have c0 : (w.alloc (.cells #[.bool g, .int .i64 m, .int .i64 n] 25)).cell? ⟨w.heap.size, 0, none⟩ = some (.bool g) := by simp
      have c1 : (w.alloc (.cells #[.bool g, .int .i64 m, .int .i64 n] 25)).cell? ⟨w.heap.size, 1, none⟩ = some (.int .i64 m) := by simp
      have c2 : (w.alloc (.cells #[.bool g, .int .i64 m, .int .i64 n] 25)).cell? ⟨w.heap.size, 2, none⟩ = some (.int .i64 n) := by simp
      generalize w.alloc (.cells #[.bool g, .int .i64 m, .int .i64 n] 25) = w1 at *
      have b2 := b1.drew
      go_region_held (fun w' => w'.cell? ⟨w.heap.size, 0, none⟩ = some (.bool g) ∧ w'.cell? ⟨w.heap.size, 1, none⟩ = some (.int .i64 m) ∧ w'.cell? ⟨w.heap.size, 2, none⟩ = some (.int .i64 n)) (go_keep)
        (first
          | (go_at_call 30
             refine (kb _).mono ?_
             rintro e w4 ⟨rfl, b4⟩
             have B5 := b2.trans (b4.mono b2.size)
             have d0 := (b4.cell (p := ⟨w.heap.size, 0, none⟩) (by show w.heap.size < w1.heap.size; omega)).trans c0
             have d1 := (b4.cell (p := ⟨w.heap.size, 1, none⟩) (by show w.heap.size < w1.heap.size; omega)).trans c1
             have d2 := (b4.cell (p := ⟨w.heap.size, 2, none⟩) (by show w.heap.size < w1.heap.size; omega)).trans c2))
      go_wp2
      go_ret
      exact ⟨by rw [HB.out]; rfl, B5⟩
    · have e2 : (n == n') = false := beq_eq_false_iff_ne.2 h2
      rw [e2] at HB
      clear h2
      go_enter Try.func17, Try.ntmps17
      go_wp2_with fail
      have b1 := belowF1 w (.cells #[.bool g, .int .i64 m, .int .i64 n] 25)
      have hs : (w.alloc (.cells #[.bool g, .int .i64 m, .int .i64 n] 25)).heap.size = w.heap.size + 1 := by simp
      have c0 : (w.alloc (.cells #[.bool g, .int .i64 m, .int .i64 n] 25)).cell? ⟨w.heap.size, 0, none⟩ = some (.bool g) := by simp
      have c1 : (w.alloc (.cells #[.bool g, .int .i64 m, .int .i64 n] 25)).cell? ⟨w.heap.size, 1, none⟩ = some (.int .i64 m) := by simp
      have c2 : (w.alloc (.cells #[.bool g, .int .i64 m, .int .i64 n] 25)).cell? ⟨w.heap.size, 2, none⟩ = some (.int .i64 n) := by simp
      generalize w.alloc (.cells #[.bool g, .int .i64 m, .int .i64 n] 25) = w1 at *
      have b2 := b1.drew
      go_region_held (fun w' => w'.cell? ⟨w.heap.size, 0, none⟩ = some (.bool g) ∧ w'.cell? ⟨w.heap.size, 1, none⟩ = some (.int .i64 m) ∧ w'.cell? ⟨w.heap.size, 2, none⟩ = some (.int .i64 n)) (go_keep)
        (first
          | (go_at_call 30
             refine (kb _).mono ?_
             rintro e w4 ⟨rfl, b4⟩
             have B5 := b2.trans (b4.mono b2.size)
             have d0 := (b4.cell (p := ⟨w.heap.size, 0, none⟩) (by show w.heap.size < w1.heap.size; omega)).trans c0
             have d1 := (b4.cell (p := ⟨w.heap.size, 1, none⟩) (by show w.heap.size < w1.heap.size; omega)).trans c1
             have d2 := (b4.cell (p := ⟨w.heap.size, 2, none⟩) (by show w.heap.size < w1.heap.size; omega)).trans c2))
      go_wp2
      go_ret
      exact ⟨by rw [HB.out]; rfl, B5⟩
  · have e1 : (m == m') = false := beq_eq_false_iff_ne.2 h1
    rw [e1, Bool.false_and] at HB
    clear h1
    go_enter Try.func17, Try.ntmps17
    go_wp2_with fail
    have b1 := belowF1 w (.cells #[.bool g, .int .i64 m, .int .i64 n] 25)
    have hs : (w.alloc (.cells #[.bool g, .int .i64 m, .int .i64 n] 25)).heap.size = w.heap.size + 1 := by simp
    have c0 : (w.alloc (.cells #[.bool g, .int .i64 m, .int .i64 n] 25)).cell? ⟨w.heap.size, 0, none⟩ = some (.bool g) := by simp
    have c1 : (w.alloc (.cells #[.bool g, .int .i64 m, .int .i64 n] 25)).cell? ⟨w.heap.size, 1, none⟩ = some (.int .i64 m) := by simp
    have c2 : (w.alloc (.cells #[.bool g, .int .i64 m, .int .i64 n] 25)).cell? ⟨w.heap.size, 2, none⟩ = some (.int .i64 n) := by simp
    generalize w.alloc (.cells #[.bool g, .int .i64 m, .int .i64 n] 25) = w1 at *
    have b2 := b1.drew
    go_region_held (fun w' => w'.cell? ⟨w.heap.size, 0, none⟩ = some (.bool g) ∧ w'.cell? ⟨w.heap.size, 1, none⟩ = some (.int .i64 m) ∧ w'.cell? ⟨w.heap.size, 2, none⟩ = some (.int .i64 n)) (go_keep)
      (first
        | (go_at_call 30
           refine (kb _).mono ?_
           rintro e w4 ⟨rfl, b4⟩
           have B5 := b2.trans (b4.mono b2.size)
           have d0 := (b4.cell (p := ⟨w.heap.size, 0, none⟩) (by show w.heap.size < w1.heap.size; omega)).trans c0
           have d1 := (b4.cell (p := ⟨w.heap.size, 1, none⟩) (by show w.heap.size < w1.heap.size; omega)).trans c1
           have d2 := (b4.cell (p := ⟨w.heap.size, 2, none⟩) (by show w.heap.size < w1.heap.size; omega)).trans c2))
    go_wp2
    go_ret
    exact ⟨by rw [HB.out]; rfl, B5⟩

end Go.Proofs.Ytmafljcolniddaa

/- Least and Most of the program, each by its contract. -/
namespace Go.Proofs.Ytmafljcolniddaa
open Go.RowKit


set_option maxHeartbeats 1600000 in
theorem iLeast (g : Bool) (m n : Int) (w : World) :
    Calls Try.prog 20 #[vF g m n] w fun e w' => e = .returned (.int .i64 (leastR g m n)) ∧ Below w.heap.size w w' := by
  have kF := fun W => iFmtOk g m n W
  have B0 := BoxF.made w g m n 25
  obtain ⟨b, hb⟩ : ∃ b, fok m n = b := ⟨_, rfl⟩
  rw [hb] at kF
  cases b
  · have HR : Hid (leastR g m n = 0) := by show _ = _; unfold leastR; rw [if_neg (by rw [hb]; simp)]
    clear hb
    go_enter Try.func20, Try.ntmps20
    go_wp2_with fail
    refine (kF _).mono ?_
    rintro e w1 ⟨rfl, b1⟩
    have B1 := B0.below b1
    clear B0 b1
    go_wp2
    go_ret
    exact ⟨by rw [HR.out]; rfl, B1.2.2.2.2⟩
  · have hm := of_decide_eq_true hb
    cases g
    · have HR : Hid (leastR false m n = 0) := by show _ = _; unfold leastR; rw [if_neg (by simp)]
      clear hb
      go_enter Try.func20, Try.ntmps20
      go_wp2_with fail
      refine (kF _).mono ?_
      rintro e w1 ⟨rfl, b1⟩
      have B1 := B0.below b1
      clear B0 b1
      obtain ⟨d0, d1, d2, -, -⟩ := id B1
      go_wp2
      go_ret
      exact ⟨by rw [HR.out]; rfl, B1.2.2.2.2⟩
    · obtain ⟨k, rfl⟩ : ∃ k : Nat, m = (k : Int) + 1 := ⟨(m - 1).toNat, by omega⟩
      have HR : Hid (leastR true ((k : Int) + 1) n = -((2 : Int) ^ k)) := by
        show _ = _
        unfold leastR
        rw [if_pos ⟨hb, rfl⟩]
        simp
      have hk : k ≤ 59 := by omega
      have p1 := two_pow_le hk
      have p0 := two_pow_pos k
      have p2 : (2 : Int) ^ k ≤ 576460752303423488 := by omega
      have HP : Hid ((2 : Int) ^ k ≤ 576460752303423488 ∧ 0 < (2 : Int) ^ k) := ⟨p2, p0⟩
      clear p1
      clear hb
      go_enter Try.func20, Try.ntmps20
      go_wp2_with fail
      refine (kF _).mono ?_
      rintro e w1 ⟨rfl, b1⟩
      have B1 := B0.below b1
      clear B0 b1
      obtain ⟨d0, d1, d2, -, -⟩ := id B1
      go_wp2
      go_ret
      exact ⟨by rw [HR.out]; (try simp), B1.2.2.2.2⟩

set_option maxHeartbeats 1600000 in
theorem iMost (g : Bool) (m n : Int) (w : World) :
    Calls Try.prog 21 #[vF g m n] w fun e w' => e = .returned (.int .i64 (mostR g m n)) ∧ Below w.heap.size w w' := by
  have kF := fun W => iFmtOk g m n W
  have B0 := BoxF.made w g m n 25
  obtain ⟨b, hb⟩ : ∃ b, fok m n = b := ⟨_, rfl⟩
  rw [hb] at kF
  cases b
  · have HR : Hid (mostR g m n = 0) := by show _ = _; unfold mostR; rw [if_neg (by rw [hb]; simp)]
    clear hb
    go_enter Try.func21, Try.ntmps21
    go_wp2_with fail
    refine (kF _).mono ?_
    rintro e w1 ⟨rfl, b1⟩
    have B1 := B0.below b1
    clear B0 b1
    go_wp2
    go_ret
    exact ⟨by rw [HR.out]; rfl, B1.2.2.2.2⟩
  · have hm := of_decide_eq_true hb
    cases g
    · obtain ⟨k, rfl⟩ : ∃ k : Nat, m = (k : Int) := ⟨m.toNat, by omega⟩
      have HR : Hid (mostR false (k : Int) n = (2 : Int) ^ k - 1) := by
        show _ = _
        unfold mostR
        rw [if_pos hb]
        simp
      have hk : k ≤ 60 := by omega
      have p1 := two_pow_le hk
      have p0 := two_pow_pos k
      have p2 : (2 : Int) ^ k ≤ 1152921504606846976 := by omega
      clear p1
      clear hb
      go_enter Try.func21, Try.ntmps21
      go_wp2_with fail
      refine (kF _).mono ?_
      rintro e w1 ⟨rfl, b1⟩
      have B1 := B0.below b1
      clear B0 b1
      obtain ⟨d0, d1, d2, -, -⟩ := id B1
      go_wp2
      go_ret
      exact ⟨by rw [HR.out]; (try simp), B1.2.2.2.2⟩
    · obtain ⟨k, rfl⟩ : ∃ k : Nat, m = (k : Int) + 1 := ⟨(m - 1).toNat, by omega⟩
      have HR : Hid (mostR true ((k : Int) + 1) n = (2 : Int) ^ k - 1) := by
        show _ = _
        unfold mostR
        rw [if_pos hb]
        simp
      have hk : k ≤ 60 := by omega
      have p1 := two_pow_le hk
      have p0 := two_pow_pos k
      have p2 : (2 : Int) ^ k ≤ 1152921504606846976 := by omega
      clear p1
      clear hb
      go_enter Try.func21, Try.ntmps21
      go_wp2_with fail
      refine (kF _).mono ?_
      rintro e w1 ⟨rfl, b1⟩
      have B1 := B0.below b1
      clear B0 b1
      obtain ⟨d0, d1, d2, -, -⟩ := id B1
      go_wp2
      go_ret
      exact ⟨by rw [HR.out]; (try simp), B1.2.2.2.2⟩

end Go.Proofs.Ytmafljcolniddaa
