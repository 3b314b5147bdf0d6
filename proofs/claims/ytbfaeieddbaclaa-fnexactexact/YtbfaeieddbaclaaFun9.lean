/- Exact of the specification, by its contract. -/
import Derived.Test.YtbfaeieddbaclaaEE
import Derived.Deep.QuietTactic
import Derived.BigQuiet
namespace Go.Proofs.Ytbfaeieddbaclaa
open Go.RowKit
set_option linter.unusedSimpArgs false

theorem sSign (a : Int) (w : World) : Calls Try.prog 64 #[.int .i64 a] w fun e w' => e = .returned (.int .i64 (sgn a)) ∧ w' = w := by
  unfold sgn
  by_cases h : a < 0
  · rw [if_pos h]
    go_enter Try.func64, Try.ntmps64
    go_wp2
    go_ret
    exact ⟨rfl, rfl⟩
  · rw [if_neg h]
    have h2 : decide (a < 0) = false := decide_eq_false h
    go_enter Try.func64, Try.ntmps64
    go_wp2
    go_ret
    exact ⟨rfl, rfl⟩

theorem sBit (b : Bool) (w : World) : Calls Try.prog 42 #[.bool b] w fun e w' => e = .returned (.int .i64 (if b = true then 1 else 0)) ∧ w' = w := by
  cases b
  · go_enter Try.func42, Try.ntmps42
    go_wp2
    go_ret
    exact ⟨rfl, rfl⟩
  · go_enter Try.func42, Try.ntmps42
    go_wp2
    go_ret
    exact ⟨rfl, rfl⟩

theorem sWave (n : Int) (w : World) (h0 : 0 ≤ n) (h4 : n ≤ 4) : Calls Try.prog 65 #[.int .i64 n] w fun e w' => e = .returned (.int .i64 (wave n)) ∧ Below w.heap.size w w' := by
  have hc : n = 0 ∨ n = 1 ∨ n = 2 ∨ n = 3 ∨ n = 4 := by omega
  clear h0 h4
  rcases hc with rfl | rfl | rfl | rfl | rfl
  all_goals (
    have bA := below1 w (.cells #[.int .i64 0, .int .i64 1, .int .i64 0, .int .i64 (-1)] 3)
    go_enter Try.func65, Try.ntmps65
    go_wp2
    go_ret
    exact ⟨rfl, bA⟩)

theorem part_b (a : Int) (f k : Nat) : 0 ≤ (partR a f k 4).2 ∧ (partR a f k 4).2 ≤ 3 := by
  unfold partR
  split
  · dsimp only
    omega
  · exact ⟨Int.le_refl _, by decide⟩
theorem wave_b (n : Int) : -1 ≤ wave n ∧ wave n ≤ 1 := by
  unfold wave
  split
  · omega
  · split <;> omega
theorem sgn_wave (a n : Int) : RowKit.wrap64 (sgn a * wave n) = sgn a * wave n := by
  have h1 := wave_b n
  have h2 : sgn a = -1 ∨ sgn a = 1 := by
    unfold sgn
    split
    · exact .inl rfl
    · exact .inr rfl
  refine IntWalk.wrap64_in _ ?_
  rcases h2 with h | h <;> (rw [h]; omega)

set_option maxRecDepth 20000 in
set_option maxHeartbeats 3200000 in
theorem sTurn (fn a : Int) (f : Nat) (w : World) (hf : f ≤ 60) (h0 : -2305843009213693952 ≤ a) (h1 : a ≤ 2305843009213693952) :
    Calls Try.prog 44 #[.int .i64 fn, .int .i64 f, .int .i64 a] w fun e w' => e = .returned (.tuple #[.int .i64 (turnR fn f a).1, .bool (turnR fn f a).2]) ∧ Below w.heap.size w w' := by
  have k1 := fun W => sPart a f 4 4 W h0 h1 hf (by omega) (Or.inr rfl)
  have k2 := fun W => sPart a f 8 4 W h0 h1 hf (by omega) (Or.inr rfl)
  have b4 := part_b a f 4
  have b8 := part_b a f 8
  have kG := fun W => sSign a W
  have sw := sgn_wave a
  rw [turn_part]
  generalize partR a f 4 4 = p4 at *
  generalize partR a f 8 4 = p8 at *
  obtain ⟨w4, n⟩ := p4
  obtain ⟨w8, m⟩ := p8
  dsimp only at *
  have kW := fun W => sWave n W b4.1 (by omega)
  have kX := fun W => sWave (n + 1) W (by omega) (by omega)
  have wn := wave_b n
  have hg : -1 ≤ sgn a ∧ sgn a ≤ 1 := by
    unfold sgn
    split <;> omega
  generalize sgn a = sg at *
  have v0 : wave 0 = 0 := rfl
  have v1 : wave 1 = 1 := rfl
  have v2 : wave 2 = 0 := rfl
  have v3 : wave 3 = -1 := rfl
  have z0 : RowKit.wrap64 0 = 0 := IntWalk.wrap64_in _ (by omega)
  have z1 : RowKit.wrap64 sg = sg := IntWalk.wrap64_in _ (by omega)
  have z2 : RowKit.wrap64 (-sg) = -sg := IntWalk.wrap64_in _ (by omega)
  have u0 : IntKind.i64.wrap 0 = 0 := by rw [IntWalk.i64_left]; exact z0
  have u1 : IntKind.i64.wrap sg = sg := by rw [IntWalk.i64_left]; exact z1
  have u2 : IntKind.i64.wrap (-sg) = -sg := by rw [IntWalk.i64_left]; exact z2
  clear hf h0 h1
  by_cases c6 : fn = 6
  · subst c6
    cases w4
    · clear kW kX kG
      go_enter Try.func44, Try.ntmps44
      go_wp2_with fail
      refine (k1 _).mono ?_
      rintro e w1 ⟨rfl, b1⟩
      go_wp2_with fail
      refine (k2 _).mono ?_
      rintro e w2 ⟨rfl, b2⟩
      have B2 := b1.trans (b2.mono b1.size)
      clear b1 b2
      go_wp2
      go_ret2
      exact ⟨by simp, B2⟩
    · have hs := sw n
      clear kX
      go_enter Try.func44, Try.ntmps44
      go_wp2_with fail
      refine (k1 _).mono ?_
      rintro e w1 ⟨rfl, b1⟩
      go_wp2_with fail
      refine (k2 _).mono ?_
      rintro e w2 ⟨rfl, b2⟩
      have B2 := b1.trans (b2.mono b1.size)
      clear b1 b2
      go_wp2_with fail
      refine (kG _).mono ?_
      rintro e w3 ⟨rfl, rfl⟩
      go_wp2_with fail
      refine (kW _).mono ?_
      rintro e w3 ⟨rfl, b3⟩
      go_wp2
      go_ret2
      exact ⟨by simp [hs], B2.trans (b3.mono B2.size)⟩
  have e6 : (fn == 6) = false := by simp [c6]
  by_cases c7 : fn = 7
  · subst c7
    cases w4
    · clear kW kX kG
      go_enter Try.func44, Try.ntmps44
      go_wp2_with fail
      refine (k1 _).mono ?_
      rintro e w1 ⟨rfl, b1⟩
      go_wp2_with fail
      refine (k2 _).mono ?_
      rintro e w2 ⟨rfl, b2⟩
      have B2 := b1.trans (b2.mono b1.size)
      clear b1 b2
      go_wp2
      go_ret2
      exact ⟨by simp, B2⟩
    · clear kW kG
      go_enter Try.func44, Try.ntmps44
      go_wp2_with fail
      refine (k1 _).mono ?_
      rintro e w1 ⟨rfl, b1⟩
      go_wp2_with fail
      refine (k2 _).mono ?_
      rintro e w2 ⟨rfl, b2⟩
      have B2 := b1.trans (b2.mono b1.size)
      clear b1 b2
      go_wp2_with fail
      refine (kX _).mono ?_
      rintro e w3 ⟨rfl, b3⟩
      go_wp2
      go_ret2
      exact ⟨by simp, B2.trans (b3.mono B2.size)⟩
  have e7 : (fn == 7) = false := by simp [c7]
  by_cases c8 : fn = 8
  · subst c8
    cases w8
    · clear kW kX kG
      go_enter Try.func44, Try.ntmps44
      go_wp2_with fail
      refine (k1 _).mono ?_
      rintro e w1 ⟨rfl, b1⟩
      go_wp2_with fail
      refine (k2 _).mono ?_
      rintro e w2 ⟨rfl, b2⟩
      have B2 := b1.trans (b2.mono b1.size)
      clear b1 b2
      go_wp2
      go_ret2
      exact ⟨by simp, B2⟩
    · have hm : m = 0 ∨ m = 1 ∨ m = 2 ∨ m = 3 := by omega
      clear kW kX wn b4
      rcases hm with rfl | rfl | rfl | rfl
      all_goals (
        go_enter Try.func44, Try.ntmps44
        go_wp2_with fail
        refine (k1 _).mono ?_
        rintro e w1 ⟨rfl, b1⟩
        go_wp2_with fail
        refine (k2 _).mono ?_
        rintro e w2 ⟨rfl, b2⟩
        have B2 := b1.trans (b2.mono b1.size)
        clear b1 b2
        go_wp2_with fail
        have B3 := B2.drew.alloc B2.size (.cells #[.int .i64 0, .int .i64 1, .int .i64 0, .int .i64 (-1)] 3)
        go_region_with (go_at_call 64; refine (kG _).mono ?_; rintro e w3 ⟨rfl, rfl⟩)
        all_goals (
          go_wp2
          go_ret2
          exact ⟨by simp [v0, v1, v2, v3, u0, u1, u2], B3⟩))
  have e8 : (fn == 8) = false := by simp [c8]
  clear kW kX kG
  go_enter Try.func44, Try.ntmps44
  go_wp2_with fail
  refine (k1 _).mono ?_
  rintro e w1 ⟨rfl, b1⟩
  go_wp2_with fail
  refine (k2 _).mono ?_
  rintro e w2 ⟨rfl, b2⟩
  have B2 := b1.trans (b2.mono b1.size)
  clear b1 b2
  go_wp2
  go_ret2
  exact ⟨by simp [c6, c7, c8], B2⟩

set_option maxHeartbeats 3200000 in
theorem sEighths (y x : Int) (w : World) (hy0 : -2305843009213693952 ≤ y) (hy1 : y ≤ 2305843009213693952) :
    Calls Try.prog 43 #[.int .i64 y, .int .i64 x] w fun e w' => e = .returned (.tuple #[.int .i64 (pointR y x).1, .bool (pointR y x).2]) ∧ w' = w := by
  have kG := fun W => sSign y W
  have hg : -1 ≤ sgn y ∧ sgn y ≤ 1 := by
    unfold sgn
    split <;> omega
  unfold pointR
  generalize sgn y = sg at *
  by_cases d1 : y = 0
  · subst d1
    rw [if_pos rfl]
    clear kG hg hy0 hy1
    by_cases d2 : 0 < x
    · rw [if_pos d2]
      go_enter Try.func43, Try.ntmps43
      go_wp2
      go_ret2
      exact ⟨rfl, rfl⟩
    · rw [if_neg d2]
      have d3 : decide (0 < x) = false := decide_eq_false d2
      go_enter Try.func43, Try.ntmps43
      go_wp2
      go_ret2
      exact ⟨rfl, rfl⟩
  rw [if_neg d1]
  have d1' : (y == 0) = false := by simp [d1]
  by_cases d2 : x = 0
  · subst d2
    rw [if_pos rfl]
    go_enter Try.func43, Try.ntmps43
    go_wp2_with fail
    refine (kG _).mono ?_
    rintro e w1 ⟨rfl, rfl⟩
    go_wp2
    go_ret2
    exact ⟨by simp, rfl⟩
  rw [if_neg d2]
  have d2' : (x == 0) = false := by simp [d2]
  have hn : IntKind.i64.wrap (-y) = -y := by rw [IntKind.wrap_i64]; omega
  by_cases d3 : x = y
  · subst d3
    rw [if_pos (.inl rfl)]
    have d3' : (x == x) = true := by simp
    by_cases d4 : 0 < x
    · rw [if_pos d4]
      go_enter Try.func43, Try.ntmps43
      go_wp2_with fail
      refine (kG _).mono ?_
      rintro e w1 ⟨rfl, rfl⟩
      go_wp2
      go_ret2
      exact ⟨by simp, rfl⟩
    · rw [if_neg d4]
      have d5 : decide (0 < x) = false := decide_eq_false d4
      go_enter Try.func43, Try.ntmps43
      go_wp2_with fail
      refine (kG _).mono ?_
      rintro e w1 ⟨rfl, rfl⟩
      go_wp2
      go_ret2
      exact ⟨by simp, rfl⟩
  have d3' : (x == y) = false := by simp [d3]
  by_cases d6 : x = -y
  · rw [if_pos (.inr d6)]
    have d6' : (x == -y) = true := by simp [d6]
    clear d6
    by_cases d4 : 0 < x
    · rw [if_pos d4]
      go_enter Try.func43, Try.ntmps43
      go_wp2_with fail
      refine (kG _).mono ?_
      rintro e w1 ⟨rfl, rfl⟩
      go_wp2
      go_ret2
      exact ⟨by simp, rfl⟩
    · rw [if_neg d4]
      have d5 : decide (0 < x) = false := decide_eq_false d4
      go_enter Try.func43, Try.ntmps43
      go_wp2_with fail
      refine (kG _).mono ?_
      rintro e w1 ⟨rfl, rfl⟩
      go_wp2
      go_ret2
      exact ⟨by simp, rfl⟩
  · rw [if_neg (fun h => h.elim d3 d6)]
    have d6' : (x == -y) = false := by simp [d6]
    clear kG
    go_enter Try.func43, Try.ntmps43
    go_wp2
    go_ret2
    exact ⟨rfl, rfl⟩

set_option maxRecDepth 20000 in
set_option maxHeartbeats 6400000 in
theorem sExact (fn : Int) (tn : Bool) (f a b : Int) (w : World) :
    Calls Try.prog 15 #[.int .i64 fn, .bool tn, .int .i64 f, .int .i64 a, .int .i64 b] w fun e w' => e = .returned (.tuple #[.int .i64 (exactR fn tn f a b).1, .int .i64 (exactR fn tn f a b).2.1, .bool (exactR fn tn f a b).2.2]) ∧ Below w.heap.size w w' := by
  have kD := fun W => sInDomain fn tn f a b W
  by_cases hd : inDomR fn tn f a b = true
  case neg =>
    have hf : inDomR fn tn f a b = false := by simpa using hd
    have hr : exactR fn tn f a b = (0, 0, false) := by unfold exactR; rw [if_pos (.inl hf)]
    rw [hr]
    rw [hf] at kD
    clear hd hf hr
    go_enter Try.func15, Try.ntmps15
    go_wp2_with fail
    refine (kD _).mono ?_
    rintro e w1 ⟨rfl, b1⟩
    go_wp2
    go_ret3
    exact ⟨rfl, b1⟩
  have hb : domOk fn f a b := by
    unfold inDomR at hd
    split at hd
    · assumption
    · cases hd
  obtain ⟨k, rfl⟩ : ∃ k : Nat, f = (k : Int) := ⟨f.toNat, by unfold domOk at hb; omega⟩
  have hk : k ≤ 60 := by unfold domOk at hb; omega
  have kP := fun W => sPow k W (by omega)
  have kT := fun W => sTurn fn a k W hk hb.2.2.2.2.1 hb.2.2.2.2.2.1
  have kE := fun x W => sEighths a x W hb.2.2.2.2.1 hb.2.2.2.2.2.1
  have kB := fun c W => sBit c W
  unfold exactR
  rw [hd] at kD
  rw [hd, Int.toNat_natCast]
  clear hd hk
  generalize turnR fn k a = r2 at *
  obtain ⟨n2, o2⟩ := r2
  generalize (2 : Int) ^ k = P at *
  dsimp only at kT
  by_cases c4 : fn < 4
  · rw [if_pos (.inr c4)]
    clear kP kT kE kB
    go_enter Try.func15, Try.ntmps15
    go_wp2_with fail
    refine (kD _).mono ?_
    rintro e w1 ⟨rfl, b1⟩
    go_wp2
    go_ret3
    exact ⟨rfl, b1⟩
  rw [if_neg (by simp; omega)]
  have c4' : decide (fn < 4) = false := decide_eq_false c4
  by_cases z : a = 0 ∧ fn ≠ 5 ∧ fn ≠ 10
  · rw [if_pos z]
    obtain ⟨rfl, z5, z10⟩ := z
    have e5 : (fn == 5) = false := by simp [z5]
    have e10 : (fn == 10) = false := by simp [z10]
    have e5n : (fn != 5) = true := by simp [z5]
    have e10n : (fn != 10) = true := by simp [z10]
    clear kP kT kE
    by_cases x1 : fn = 4
    · subst x1
      go_enter Try.func15, Try.ntmps15
      go_wp2_with fail
      refine (kD _).mono ?_
      rintro e w1 ⟨rfl, b1⟩
      go_wp2_with fail
      refine (kB true _).mono ?_
      rintro e w1 ⟨rfl, rfl⟩
      go_wp2
      go_ret3
      exact ⟨rfl, b1⟩
    have x1' : (fn == 4) = false := by simp [x1]
    by_cases x2 : fn = 7
    · subst x2
      go_enter Try.func15, Try.ntmps15
      go_wp2_with fail
      refine (kD _).mono ?_
      rintro e w1 ⟨rfl, b1⟩
      go_wp2_with fail
      refine (kB true _).mono ?_
      rintro e w1 ⟨rfl, rfl⟩
      go_wp2
      go_ret3
      exact ⟨rfl, b1⟩
    have x2' : (fn == 7) = false := by simp [x2]
    by_cases x3 : fn = 12
    · subst x3
      go_enter Try.func15, Try.ntmps15
      go_wp2_with fail
      refine (kD _).mono ?_
      rintro e w1 ⟨rfl, b1⟩
      go_wp2_with fail
      refine (kB true _).mono ?_
      rintro e w1 ⟨rfl, rfl⟩
      go_wp2
      go_ret3
      exact ⟨rfl, b1⟩
    have x3' : (fn == 12) = false := by simp [x3]
    rw [if_neg (by omega)]
    go_enter Try.func15, Try.ntmps15
    go_wp2_with fail
    refine (kD _).mono ?_
    rintro e w1 ⟨rfl, b1⟩
    go_wp2_with fail
    refine (kB false _).mono ?_
    rintro e w1 ⟨rfl, rfl⟩
    go_wp2
    go_ret3
    exact ⟨rfl, b1⟩
  rw [if_neg z]
  by_cases c5 : fn = 5
  · subst c5
    rw [if_pos rfl]
    clear kT kE kB
    by_cases a0 : a = 0
    · subst a0
      go_enter Try.func15, Try.ntmps15
      go_wp2_with fail
      refine (kD _).mono ?_
      rintro e w1 ⟨rfl, b1⟩
      go_wp2_with fail
      refine (kP _).mono ?_
      rintro e w1 ⟨rfl, rfl⟩
      go_wp2
      go_ret3
      exact ⟨rfl, b1⟩
    · have a0' : (a == 0) = false := by simp [a0]
      go_enter Try.func15, Try.ntmps15
      go_wp2_with fail
      refine (kD _).mono ?_
      rintro e w1 ⟨rfl, b1⟩
      go_wp2_with fail
      refine (kP _).mono ?_
      rintro e w1 ⟨rfl, rfl⟩
      go_wp2
      go_ret3
      exact ⟨rfl, b1⟩
  rw [if_neg c5]
  have e5 : (fn == 5) = false := by simp [c5]
  have e5n : (fn != 5) = true := by simp [c5]
  by_cases c10 : fn = 10
  · subst c10
    clear kP kT kB
    by_cases a0 : a = 0
    · subst a0
      by_cases p : 0 < b
      · rw [if_pos ⟨rfl, rfl, p⟩]
        clear kE
        go_enter Try.func15, Try.ntmps15
        go_wp2_with fail
        refine (kD _).mono ?_
        rintro e w1 ⟨rfl, b1⟩
        go_wp2
        go_ret3
        exact ⟨rfl, b1⟩
      · rw [if_neg (fun h => p h.2.2)]
        have p' : decide (0 < b) = false := decide_eq_false p
        cases tn
        · clear kE
          go_enter Try.func15, Try.ntmps15
          go_wp2_with fail
          refine (kD _).mono ?_
          rintro e w1 ⟨rfl, b1⟩
          go_wp2
          go_ret3
          exact ⟨rfl, b1⟩
        · rw [if_neg (by simp), if_pos (.inr rfl), show (if (10 : Int) = 9 then P else b) = b from if_neg (by decide)]
          have kF := fun W => kE b W
          clear kE
          generalize pointR 0 b = r at *
          obtain ⟨rn, ro⟩ := r
          cases ro
          · go_enter Try.func15, Try.ntmps15
            go_wp2_with fail
            refine (kD _).mono ?_
            rintro e w1 ⟨rfl, b1⟩
            go_wp2_with fail
            refine (kF _).mono ?_
            rintro e w1 ⟨rfl, rfl⟩
            go_wp2
            go_ret3
            exact ⟨rfl, b1⟩
          · go_enter Try.func15, Try.ntmps15
            go_wp2_with fail
            refine (kD _).mono ?_
            rintro e w1 ⟨rfl, b1⟩
            go_wp2_with fail
            refine (kF _).mono ?_
            rintro e w1 ⟨rfl, rfl⟩
            go_wp2
            go_ret3
            exact ⟨rfl, b1⟩
    · have a0' : (a == 0) = false := by simp [a0]
      rw [if_neg (fun h => a0 h.2.1)]
      cases tn
      · clear kE
        go_enter Try.func15, Try.ntmps15
        go_wp2_with fail
        refine (kD _).mono ?_
        rintro e w1 ⟨rfl, b1⟩
        go_wp2
        go_ret3
        exact ⟨rfl, b1⟩
      · rw [if_neg (by simp), if_pos (.inr rfl), show (if (10 : Int) = 9 then P else b) = b from if_neg (by decide)]
        have kF := fun W => kE b W
        clear kE
        generalize pointR a b = r at *
        obtain ⟨rn, ro⟩ := r
        cases ro
        · go_enter Try.func15, Try.ntmps15
          go_wp2_with fail
          refine (kD _).mono ?_
          rintro e w1 ⟨rfl, b1⟩
          go_wp2_with fail
          refine (kF _).mono ?_
          rintro e w1 ⟨rfl, rfl⟩
          go_wp2
          go_ret3
          exact ⟨rfl, b1⟩
        · go_enter Try.func15, Try.ntmps15
          go_wp2_with fail
          refine (kD _).mono ?_
          rintro e w1 ⟨rfl, b1⟩
          go_wp2_with fail
          refine (kF _).mono ?_
          rintro e w1 ⟨rfl, rfl⟩
          go_wp2
          go_ret3
          exact ⟨rfl, b1⟩
  rw [if_neg (fun h => c10 h.1)]
  have e10 : (fn == 10) = false := by simp [c10]
  have a0 : ¬ a = 0 := fun h => z ⟨h, c5, c10⟩
  have a0' : (a == 0) = false := by simp [a0]
  clear z kB
  cases tn
  · clear kP kT kE
    go_enter Try.func15, Try.ntmps15
    go_wp2_with fail
    refine (kD _).mono ?_
    rintro e w1 ⟨rfl, b1⟩
    go_wp2
    go_ret3
    exact ⟨rfl, b1⟩
  rw [if_neg (by simp)]
  by_cases c9 : fn = 9
  · subst c9
    rw [if_pos (.inl rfl), show (if (9 : Int) = 9 then P else b) = P from if_pos rfl]
    have kF := fun W => kE P W
    clear kE kT
    generalize pointR a P = r at *
    obtain ⟨rn, ro⟩ := r
    cases ro
    · go_enter Try.func15, Try.ntmps15
      go_wp2_with fail
      refine (kD _).mono ?_
      rintro e w1 ⟨rfl, b1⟩
      go_wp2_with fail
      refine (kP _).mono ?_
      rintro e w1 ⟨rfl, rfl⟩
      go_wp2_with fail
      refine (kF _).mono ?_
      rintro e w1 ⟨rfl, rfl⟩
      go_wp2
      go_ret3
      exact ⟨rfl, b1⟩
    · go_enter Try.func15, Try.ntmps15
      go_wp2_with fail
      refine (kD _).mono ?_
      rintro e w1 ⟨rfl, b1⟩
      go_wp2_with fail
      refine (kP _).mono ?_
      rintro e w1 ⟨rfl, rfl⟩
      go_wp2_with fail
      refine (kF _).mono ?_
      rintro e w1 ⟨rfl, rfl⟩
      go_wp2
      go_ret3
      exact ⟨rfl, b1⟩
  have e9 : (fn == 9) = false := by simp [c9]
  rw [if_neg (by omega)]
  clear kP kE
  go_enter Try.func15, Try.ntmps15
  go_wp2_with fail
  refine (kD _).mono ?_
  rintro e w1 ⟨rfl, b1⟩
  go_wp2_with fail
  refine (kT _).mono ?_
  rintro e w2 ⟨rfl, b2⟩
  go_wp2
  go_ret3
  exact ⟨rfl, b1.trans (b2.mono b1.size)⟩

end Go.Proofs.Ytbfaeieddbaclaa
