/- Exact of the program, by its contract. -/
import Derived.Test.YtbfaeieddbaclaaEE
import Derived.Test.YtbfaeieddbaclaaGCmp
namespace Go.Proofs.Ytbfaeieddbaclaa
open Go.RowKit
set_option linter.unusedSimpArgs false

set_option maxRecDepth 20000 in
set_option maxHeartbeats 3200000 in
theorem iAny (fn a b : Int) (f : Nat) (w : World) (hf : f ≤ 60) :
    Calls Try.prog 45 #[.int .i64 fn, .int .i64 f, .int .i64 a, .int .i64 b] w fun e w' => e = .returned (.tuple #[.int .i64 (anyR fn (2 ^ f) a b).1, .bool (anyR fn (2 ^ f) a b).2]) ∧ Below w.heap.size w w' := by
  have hp0 : (0 : Int) < 2 ^ f := Int.pow_pos (by omega)
  have hp : (2 : Int) ^ f ≤ 2 ^ 60 := by
    have : (2 : Nat) ^ f ≤ 2 ^ 60 := Nat.pow_le_pow_right (by decide) (by omega)
    exact_mod_cast this
  have p1 : RowKit.wrap64 ((2 : Int) ^ f) = 2 ^ f := IntWalk.wrap64_in _ (by omega)
  have p2 : (f : Int).toNat = f := by omega
  have p3 : (f : Int) ≤ 64 := by omega
  unfold anyR
  by_cases c4 : fn = 4
  · subst c4
    clear hp0 hp p1 p2 p3 hf
    go_enter Try.func45, Try.ntmps45
    go_wp2
    go_ret2
    exact ⟨by simp, Below.refl _ _⟩
  by_cases c7 : fn = 7
  · subst c7
    clear hp0 hp p1 p2 p3 hf
    go_enter Try.func45, Try.ntmps45
    go_wp2
    go_ret2
    exact ⟨by simp, Below.refl _ _⟩
  by_cases c12 : fn = 12
  · subst c12
    clear hp0 hp p1 p2 p3 hf
    go_enter Try.func45, Try.ntmps45
    go_wp2
    go_ret2
    exact ⟨by simp, Below.refl _ _⟩
  by_cases c6 : fn = 6
  · subst c6
    clear hp0 hp p1 p2 p3 hf
    go_enter Try.func45, Try.ntmps45
    go_wp2
    go_ret2
    exact ⟨by simp, Below.refl _ _⟩
  by_cases c8 : fn = 8
  · subst c8
    clear hp0 hp p1 p2 p3 hf
    go_enter Try.func45, Try.ntmps45
    go_wp2
    go_ret2
    exact ⟨by simp, Below.refl _ _⟩
  by_cases c9 : fn = 9
  · subst c9
    clear hp0 hp p1 p2 p3 hf
    go_enter Try.func45, Try.ntmps45
    go_wp2
    go_ret2
    exact ⟨by simp, Below.refl _ _⟩
  by_cases c11 : fn = 11
  · subst c11
    clear hp0 hp p1 p2 p3 hf
    go_enter Try.func45, Try.ntmps45
    go_wp2
    go_ret2
    exact ⟨by simp, Below.refl _ _⟩
  by_cases c13 : fn = 13
  · subst c13
    clear hp0 hp p1 p2 p3 hf
    go_enter Try.func45, Try.ntmps45
    go_wp2
    go_ret2
    exact ⟨by simp, Below.refl _ _⟩
  by_cases c14 : fn = 14
  · subst c14
    clear hp0 hp p1 p2 p3 hf
    go_enter Try.func45, Try.ntmps45
    go_wp2
    go_ret2
    exact ⟨by simp, Below.refl _ _⟩
  by_cases c5 : fn = 5
  · subst c5
    go_enter Try.func45, Try.ntmps45
    go_wp2_with fail
    go_quiet (fail)
    go_wp2
    go_ret2
    refine ⟨?_, ⟨rfl, rfl, rfl, Nat.le_refl _, fun _ _ => rfl⟩⟩
    simp [p1]
  by_cases c10 : fn = 10
  · subst c10
    clear hp0 hp p1 p2 p3 hf
    by_cases d1 : a = 0
    · subst d1
      go_enter Try.func45, Try.ntmps45
      go_wp2
      go_ret2
      exact ⟨by simp, Below.refl _ _⟩
    · have d2 : (a == 0) = false := by simp [d1]
      go_enter Try.func45, Try.ntmps45
      go_wp2
      go_ret2
      exact ⟨by simp [d2], Below.refl _ _⟩
  have e4 : (fn == 4) = false := by simp [c4]
  have e7 : (fn == 7) = false := by simp [c7]
  have e12 : (fn == 12) = false := by simp [c12]
  have e6 : (fn == 6) = false := by simp [c6]
  have e8 : (fn == 8) = false := by simp [c8]
  have e9 : (fn == 9) = false := by simp [c9]
  have e11 : (fn == 11) = false := by simp [c11]
  have e13 : (fn == 13) = false := by simp [c13]
  have e14 : (fn == 14) = false := by simp [c14]
  have e5 : (fn == 5) = false := by simp [c5]
  have e10 : (fn == 10) = false := by simp [c10]
  clear hp0 hp p1 p2 p3 hf
  go_enter Try.func45, Try.ntmps45
  go_wp2
  go_ret2
  exact ⟨by simp [c4, c7, c12, c6, c8, c9, c11, c13, c14, c5, c10], Below.refl _ _⟩

set_option maxRecDepth 20000 in
set_option maxHeartbeats 3200000 in
theorem iOfTurns (fn a : Int) (f : Nat) (w : World) (hf : f ≤ 60) :
    Calls Try.prog 46 #[.int .i64 fn, .int .i64 f, .int .i64 a] w fun e w' => ∃ n, e = .returned (.tuple #[.int .i64 n, .bool (turnR fn f a).2]) ∧ ((turnR fn f a).2 = true → n = (turnR fn f a).1) ∧ Below w.heap.size w w' := by
  have kE := fun W => eighthsAt a f W hf
  have hb := eiR_lo a f
  unfold turnR
  generalize eiR a f = r at *
  obtain ⟨n, b⟩ := r
  dsimp only at hb
  clear hf
  cases b
  · have ht : turnE fn (n, false) = (0, false) := rfl
    rw [ht]
    clear ht
    go_enter Try.func46, Try.ntmps46
    go_wp2_with fail
    refine (kE _).mono ?_
    rintro e w1 ⟨rfl, b1⟩
    go_wp2
    go_ret2
    exact ⟨_, rfl, fun _ => rfl, b1⟩
  have hc : n = 0 ∨ n = 1 ∨ n = 2 ∨ n = 3 ∨ n = 4 ∨ n = 5 ∨ n = 6 ∨ n = 7 := by omega
  clear hb
  by_cases c6 : fn = 6
  · subst c6
    rcases hc with rfl | rfl | rfl | rfl | rfl | rfl | rfl | rfl
    all_goals (
      go_enter Try.func46, Try.ntmps46
      go_wp2_with fail
      refine (kE _).mono ?_
      rintro e w1 ⟨rfl, b1⟩
      have bA := b1.alloc b1.size (.cells #[.int .i64 0, .int .i64 1, .int .i64 0, .int .i64 (-1)] 68)
      go_wp2
      go_ret2
      exact ⟨_, rfl, by first | exact (fun _ => rfl) | (intro h; cases h), bA⟩)
  by_cases c7 : fn = 7
  · subst c7
    rcases hc with rfl | rfl | rfl | rfl | rfl | rfl | rfl | rfl
    all_goals (
      go_enter Try.func46, Try.ntmps46
      go_wp2_with fail
      refine (kE _).mono ?_
      rintro e w1 ⟨rfl, b1⟩
      have bA := b1.alloc b1.size (.cells #[.int .i64 0, .int .i64 1, .int .i64 0, .int .i64 (-1)] 68)
      go_wp2
      go_ret2
      exact ⟨_, rfl, by first | exact (fun _ => rfl) | (intro h; cases h), bA⟩)
  by_cases c8 : fn = 8
  · subst c8
    rcases hc with rfl | rfl | rfl | rfl | rfl | rfl | rfl | rfl
    all_goals (
      go_enter Try.func46, Try.ntmps46
      go_wp2_with fail
      refine (kE _).mono ?_
      rintro e w1 ⟨rfl, b1⟩
      have bA := b1.alloc b1.size (.cells #[.int .i64 0, .int .i64 1, .int .i64 0, .int .i64 (-1)] 68)
      go_wp2
      go_ret2
      exact ⟨_, rfl, by first | exact (fun _ => rfl) | (intro h; cases h), bA⟩)
  rw [turnE_no fn _ c6 c7 c8]
  have e6 : (fn == 6) = false := by simp [c6]
  have e7 : (fn == 7) = false := by simp [c7]
  have e8 : (fn == 8) = false := by simp [c8]
  clear hc
  go_enter Try.func46, Try.ntmps46
  go_wp2_with fail
  refine (kE _).mono ?_
  rintro e w1 ⟨rfl, b1⟩
  have bA := b1.alloc b1.size (.cells #[.int .i64 0, .int .i64 1, .int .i64 0, .int .i64 (-1)] 68)
  go_wp2
  go_ret2
  exact ⟨_, rfl, fun _ => rfl, bA⟩

def ptN (y x : Int) : Int := if y = 0 then 2 - 2 * cmpG x 0 else cmpG y 0 * (2 - cmpG x 0)
theorem pt_same (y x : Int) (h : ¬ (y = 0 ∧ x = 0)) (ho : (pointR y x).2 = true) : ptN y x = (pointR y x).1 := by
  unfold ptN pointR cmpG sgn at *
  by_cases hy : y = 0
  · rw [if_pos hy, if_pos hy]
    by_cases hx : x < 0
    · rw [if_pos hx, if_neg (by omega)]; rfl
    · rw [if_neg hx, if_pos (by omega), if_pos (by omega)]; rfl
  · rw [if_neg hy, if_neg hy]
    rw [if_neg hy] at ho
    by_cases hx : x = 0
    · subst hx
      rw [if_pos rfl]
      by_cases h2 : y < 0
      · rw [if_pos h2, if_pos h2]; rfl
      · rw [if_neg h2, if_neg h2, if_pos (by omega)]; rfl
    · rw [if_neg hx]
      rw [if_neg hx] at ho
      by_cases h3 : x = y ∨ x = -y
      · rw [if_pos h3]
        by_cases h2 : y < 0 <;> by_cases h4 : x < 0
        · rw [if_pos h2, if_pos h4, if_neg (by omega), if_pos h2]; rfl
        · rw [if_pos h2, if_neg h4, if_pos (by omega), if_pos (by omega), if_pos h2]; rfl
        · rw [if_neg h2, if_pos (by omega), if_pos h4, if_neg (by omega), if_neg h2]; rfl
        · rw [if_neg h2, if_pos (by omega), if_neg h4, if_pos (by omega), if_pos (by omega), if_neg h2]; rfl
      · rw [if_neg h3] at ho; cases ho
theorem cmpG_b (x y : Int) : -1 ≤ cmpG x y ∧ cmpG x y ≤ 1 := by
  unfold cmpG
  split
  · omega
  · split <;> omega

set_option maxHeartbeats 3200000 in
theorem iPoint (y x : Int) (w : World) (hy0 : -2305843009213693952 ≤ y) (hy1 : y ≤ 2305843009213693952) (hx0 : -2305843009213693952 ≤ x) (hx1 : x ≤ 2305843009213693952) :
    Calls Try.prog 66 #[.int .i64 y, .int .i64 x] w fun e w' => e = .returned (.tuple #[.int .i64 (ptN y x), .bool (pointR y x).2]) ∧ Below w.heap.size w w' := by
  have k1 := fun W => compI x 0 W
  have k2 := fun W => compI y 0 W
  have k3 := fun W => sizeAt y W hy0 hy1
  have k4 := fun W => sizeAt x W hx0 hx1
  have bx := cmpG_b x 0
  have bz := cmpG_b y 0
  unfold ptN
  generalize hcx : cmpG x 0 = cx at *
  generalize hcy : cmpG y 0 = cy at *
  clear hcx hcy hy0 hy1 hx0 hx1
  by_cases d1 : y = 0
  · subst d1
    rw [if_pos rfl]
    have hr : (pointR 0 x).2 = true := rfl
    rw [hr]
    clear k2 k3 k4 bz hr
    go_enter Try.func66, Try.ntmps66
    go_wp2_with fail
    refine (k1 _).mono ?_
    rintro e w1 ⟨rfl, rfl⟩
    go_wp2
    go_ret2
    exact ⟨by simp, Below.refl _ _⟩
  · rw [if_neg d1]
    have d2 : (y == 0) = false := by simp [d1]
    have q : IntKind.i64.wrap (cy * (2 - cx)) = cy * (2 - cx) := by
      have : cy = -1 ∨ cy = 0 ∨ cy = 1 := by omega
      rw [IntKind.wrap_i64]
      rcases this with rfl | rfl | rfl <;> omega
    have q0 : RowKit.wrap64 (cy * (2 - cx)) = cy * (2 - cx) := by rw [← IntWalk.i64_left]; exact q
    by_cases d3 : x = 0
    · subst d3
      have hr : (pointR y 0).2 = true := by unfold pointR; rw [if_neg d1, if_pos rfl]
      rw [hr]
      clear hr k3 k4
      go_enter Try.func66, Try.ntmps66
      go_wp2_with fail
      refine (k2 _).mono ?_
      rintro e w1 ⟨rfl, rfl⟩
      go_wp2_with fail
      refine (k1 _).mono ?_
      rintro e w1 ⟨rfl, rfl⟩
      go_wp2
      go_ret2
      exact ⟨by simp [q0], Below.refl _ _⟩
    · have d4 : (x == 0) = false := by simp [d3]
      have hr : (pointR y x).2 = ((y.natAbs : Int) == (x.natAbs : Int)) := by
        unfold pointR
        rw [if_neg d1, if_neg d3]
        by_cases h3 : x = y ∨ x = -y
        · rw [if_pos h3]
          have : (y.natAbs : Int) = (x.natAbs : Int) := by omega
          simp [this]
        · rw [if_neg h3]
          have : ¬ (y.natAbs : Int) = (x.natAbs : Int) := by omega
          simp
          omega
      rw [hr]
      clear hr
      generalize y.natAbs = ny at *
      generalize x.natAbs = nx at *
      go_enter Try.func66, Try.ntmps66
      go_wp2_with fail
      refine (k2 _).mono ?_
      rintro e w1 ⟨rfl, rfl⟩
      go_wp2_with fail
      refine (k1 _).mono ?_
      rintro e w1 ⟨rfl, rfl⟩
      go_wp2_with fail
      refine (k3 _).mono ?_
      rintro e w1 ⟨rfl, rfl⟩
      go_wp2_with fail
      refine (k4 _).mono ?_
      rintro e w1 ⟨rfl, rfl⟩
      go_wp2
      go_ret2
      exact ⟨by simp [q0], Below.refl _ _⟩

set_option maxRecDepth 20000 in
set_option maxHeartbeats 3200000 in
theorem iInTurns (fn a b : Int) (f : Nat) (w : World) (hf : f ≤ 60) (ha0 : -2305843009213693952 ≤ a) (ha1 : a ≤ 2305843009213693952) (hb0 : -2305843009213693952 ≤ b) (hb1 : b ≤ 2305843009213693952) (hz : fn = 10 → ¬ (a = 0 ∧ b = 0)) :
    Calls Try.prog 47 #[.int .i64 fn, .int .i64 f, .int .i64 a, .int .i64 b] w fun e w' => ∃ n, e = .returned (.tuple #[.int .i64 n, .bool (inTurnR fn (2 ^ f) a b).2]) ∧ ((inTurnR fn (2 ^ f) a b).2 = true → n = (inTurnR fn (2 ^ f) a b).1) ∧ Below w.heap.size w w' := by
  have hp0 : (0 : Int) < 2 ^ f := Int.pow_pos (by omega)
  have hp : (2 : Int) ^ f ≤ 2 ^ 60 := by
    have : (2 : Nat) ^ f ≤ 2 ^ 60 := Nat.pow_le_pow_right (by decide) (by omega)
    exact_mod_cast this
  have p1 : RowKit.wrap64 ((2 : Int) ^ f) = 2 ^ f := IntWalk.wrap64_in _ (by omega)
  have p1' : IntKind.i64.wrap ((2 : Int) ^ f) = 2 ^ f := by rw [IntWalk.i64_left]; exact p1
  have p2 : (f : Int).toNat = f := by omega
  have p3 : (f : Int) ≤ 64 := by omega
  have k9 := fun W => iPoint a (2 ^ f) W ha0 ha1 (by omega) (by omega)
  have k10 := fun W => iPoint a b W ha0 ha1 hb0 hb1
  have s9 := pt_same a (2 ^ f) (by omega)
  unfold inTurnR
  by_cases c9 : fn = 9
  · subst c9
    rw [if_pos rfl]
    clear k10 hz hb0 hb1 ha0 ha1
    go_enter Try.func47, Try.ntmps47
    go_wp2_with fail
    (try simp only [Int.one_mul, p2, p1])
    refine (k9 _).mono ?_
    rintro e w1 ⟨rfl, b1⟩
    go_wp2
    go_ret2
    exact ⟨_, rfl, s9, b1⟩
  rw [if_neg c9]
  have e9 : (fn == 9) = false := by simp [c9]
  by_cases c10 : fn = 10
  · subst c10
    rw [if_pos rfl]
    have s10 := pt_same a b (hz rfl)
    clear k9 hz hb0 hb1 ha0 ha1 hp0 hp p1 p1' p2 p3 s9
    go_enter Try.func47, Try.ntmps47
    go_wp2_with fail
    refine (k10 _).mono ?_
    rintro e w1 ⟨rfl, b1⟩
    go_wp2
    go_ret2
    exact ⟨_, rfl, s10, b1⟩
  rw [if_neg c10]
  have e10 : (fn == 10) = false := by simp [c10]
  clear k9 k10 hz hb0 hb1 ha0 ha1 hp0 hp p1 p1' p2 p3 s9
  go_enter Try.func47, Try.ntmps47
  go_wp2
  go_ret2
  exact ⟨_, rfl, fun _ => rfl, Below.refl _ _⟩

set_option maxRecDepth 20000 in
set_option maxHeartbeats 3200000 in
theorem iExact (fn : Int) (tn : Bool) (f a b : Int) (w : World) :
    Calls Try.prog 16 #[.int .i64 fn, .bool tn, .int .i64 f, .int .i64 a, .int .i64 b] w fun e w' => e = .returned (.tuple #[.int .i64 (exactR fn tn f a b).1, .int .i64 (exactR fn tn f a b).2.1, .bool (exactR fn tn f a b).2.2]) ∧ Below w.heap.size w w' := by
  have kD := fun W => iInDomain fn tn f a b W
  by_cases hd : inDomR fn tn f a b = true
  case neg =>
    have hf : inDomR fn tn f a b = false := by simpa using hd
    have hr : exactR fn tn f a b = (0, 0, false) := by unfold exactR; rw [if_pos (.inl hf)]
    rw [hr]
    rw [hf] at kD
    clear hd hf hr
    go_enter Try.func16, Try.ntmps16
    go_wp2_with fail
    refine (kD _).mono ?_
    rintro e w1 ⟨rfl, b1⟩
    go_wp2
    go_ret3
    exact ⟨rfl, b1⟩
  have hb : domOk fn f a b := by
    unfold inDomR at hd
    split at hd
    · assumption
    · cases hd
  obtain ⟨k, rfl⟩ : ∃ k : Nat, f = (k : Int) := ⟨f.toNat, by unfold domOk at hb; omega⟩
  have hz : fn = 10 → ¬ (a = 0 ∧ b = 0) := by
    rintro rfl ⟨rfl, rfl⟩
    unfold inDomR at hd
    rw [if_pos hb] at hd
    simp at hd
  have hk : k ≤ 60 := by unfold domOk at hb; omega
  have k1 := fun W => iAny fn a b k W hk
  have k2 := fun W => iOfTurns fn a k W hk
  have k3 := fun W => iInTurns fn a b k W hk hb.2.2.2.2.1 hb.2.2.2.2.2.1 hb.2.2.2.2.2.2.1 hb.2.2.2.2.2.2.2 hz
  rw [exact_same fn tn k a b hd, Int.toNat_natCast]
  rw [hd] at kD
  clear hd hb hz hk
  generalize anyR fn (2 ^ k) a b = r1 at *
  generalize turnR fn k a = r2 at *
  generalize inTurnR fn (2 ^ k) a b = r3 at *
  obtain ⟨n1, o1⟩ := r1
  obtain ⟨n2, o2⟩ := r2
  obtain ⟨n3, o3⟩ := r3
  dsimp only at k1 k2 k3
  cases o1
  case true =>
    have hr : exactC tn (n1, true) (n2, o2) (n3, o3) = (n1, 0, true) := rfl
    rw [hr]
    clear hr k2 k3
    go_enter Try.func16, Try.ntmps16
    go_wp2_with fail
    refine (kD _).mono ?_
    rintro e w1 ⟨rfl, b1⟩
    go_wp2_with fail
    refine (k1 _).mono ?_
    rintro e w2 ⟨rfl, b2⟩
    have HB : Hid (Below w.heap.size w w2) := b1.trans (b2.mono b1.size)
    clear b1 b2 kD k1
    go_wp2
    go_ret3
    exact ⟨rfl, HB.out⟩
  cases tn
  case false =>
    have hr : exactC false (n1, false) (n2, o2) (n3, o3) = (0, 0, false) := rfl
    rw [hr]
    clear hr k2 k3
    go_enter Try.func16, Try.ntmps16
    go_wp2_with fail
    refine (kD _).mono ?_
    rintro e w1 ⟨rfl, b1⟩
    go_wp2_with fail
    refine (k1 _).mono ?_
    rintro e w2 ⟨rfl, b2⟩
    have HB : Hid (Below w.heap.size w w2) := b1.trans (b2.mono b1.size)
    clear b1 b2 kD k1
    go_wp2
    go_ret3
    exact ⟨rfl, HB.out⟩
  cases o2
  case true =>
    have hr : exactC true (n1, false) (n2, true) (n3, o3) = (n2, 0, true) := rfl
    rw [hr]
    clear hr k3
    go_enter Try.func16, Try.ntmps16
    go_wp2_with fail
    refine (kD _).mono ?_
    rintro e w1 ⟨rfl, b1⟩
    go_wp2_with fail
    refine (k1 _).mono ?_
    rintro e w2 ⟨rfl, b2⟩
    go_wp2_with fail
    refine (k2 _).mono ?_
    rintro e w3 ⟨n, rfl, hn, b3⟩
    have HB : Hid (Below w.heap.size w w3) := (b1.trans (b2.mono b1.size)).trans (b3.mono (b1.trans (b2.mono b1.size)).size)
    obtain rfl := hn (by first | exact trivial | rfl)
    clear b1 b2 b3 kD k1 k2 hn
    go_wp2
    go_ret3
    exact ⟨rfl, HB.out⟩
  cases o3
  case true =>
    have hr : exactC true (n1, false) (n2, false) (n3, true) = (n3, 3, true) := rfl
    rw [hr]
    clear hr
    go_enter Try.func16, Try.ntmps16
    go_wp2_with fail
    refine (kD _).mono ?_
    rintro e w1 ⟨rfl, b1⟩
    go_wp2_with fail
    refine (k1 _).mono ?_
    rintro e w2 ⟨rfl, b2⟩
    go_wp2_with fail
    refine (k2 _).mono ?_
    rintro e w3 ⟨n, rfl, -, b3⟩
    go_wp2_with fail
    refine (k3 _).mono ?_
    rintro e w4 ⟨m, rfl, hn, b4⟩
    have B3 := (b1.trans (b2.mono b1.size)).trans (b3.mono (b1.trans (b2.mono b1.size)).size)
    have HB : Hid (Below w.heap.size w w4) := B3.trans (b4.mono B3.size)
    obtain rfl := hn (by first | exact trivial | rfl)
    clear b1 b2 b3 b4 B3 kD k1 k2 k3 hn
    go_wp2
    go_ret3
    exact ⟨rfl, HB.out⟩
  case false =>
    have hr : exactC true (n1, false) (n2, false) (n3, false) = (0, 0, false) := rfl
    rw [hr]
    clear hr
    go_enter Try.func16, Try.ntmps16
    go_wp2_with fail
    refine (kD _).mono ?_
    rintro e w1 ⟨rfl, b1⟩
    go_wp2_with fail
    refine (k1 _).mono ?_
    rintro e w2 ⟨rfl, b2⟩
    go_wp2_with fail
    refine (k2 _).mono ?_
    rintro e w3 ⟨n, rfl, -, b3⟩
    go_wp2_with fail
    refine (k3 _).mono ?_
    rintro e w4 ⟨m, rfl, -, b4⟩
    have B3 := (b1.trans (b2.mono b1.size)).trans (b3.mono (b1.trans (b2.mono b1.size)).size)
    have HB : Hid (Below w.heap.size w w4) := B3.trans (b4.mono B3.size)
    clear b1 b2 b3 b4 B3 kD k1 k2 k3
    go_wp2
    go_ret3
    exact ⟨rfl, HB.out⟩

end Go.Proofs.Ytbfaeieddbaclaa
