/- The program's GetNum and what it calls, each by its contract. -/
import Derived.Test.YtnanabbkogakmaaDoorGetDefs
namespace Go.Proofs.YtnanabbkogakmaaDoor
open Go.RowKit

theorem groupAt_yes (g len cap q : Nat) (d : Int) (w : World) (hin : q < len) (hc : w.cell? ⟨g, q, none⟩ = some (.int .u8 d)) (b1 : 0 ≤ d) (b2 : d ≤ 255) :
    Calls Tryd.prog 19 #[.slice (some ⟨g, 0, none⟩) len cap, .int .i64 q] w fun e w' => e = .returned (.int .i64 d) ∧ w' = w := by
  have h0 : ¬ ((q : Int) < 0) := by omega
  have h1 : ¬ ((len : Int) ≤ q) := by omega
  go_enter Tryd.func19, Tryd.ntmps19
  go_wp2
  go_ret
  exact ⟨rfl, rfl⟩

theorem groupAt_no (a0 : Option Addr) (len cap : Nat) (q : Int) (w : World) (u : TypeId) (pv : Value) (hout : q < 0 ∨ (len : Int) ≤ q) (hvar : w.cell? ⟨0, 0, none⟩ = some (.iface u pv)) :
    Calls Tryd.prog 19 #[.slice a0 len cap, .int .i64 q] w fun e w' => e = .panicked (thrown u pv) ∧ w' = w := by
  rcases hout with h | h
  · go_enter Tryd.func19, Tryd.ntmps19
    go_wp2
    exact ⟨rfl, rfl, rfl⟩
  · have h0 : ¬ (q < 0) := by omega
    go_enter Tryd.func19, Tryd.ntmps19
    go_wp2
    exact ⟨rfl, rfl, rfl⟩

theorem check_yes (n d sh : Int) (w : World) (h1 : n ≤ 2147483647) (h2 : ¬ (d = 0 ∧ 0 < sh)) :
    Calls Tryd.prog 20 #[.int .i64 n, .int .i64 d, .int .i64 sh] w fun e w' => e = .returned (.tuple #[]) ∧ w' = w := by
  by_cases hd : d = 0
  · have ed : (d == 0) = true := by simpa using hd
    have hs : ¬ 0 < sh := fun h => h2 ⟨hd, h⟩
    clear h2 hd
    go_enter Tryd.func20, Tryd.ntmps20
    go_wp2
    go_end0
    exact ⟨rfl, rfl⟩
  · have ed : (d == 0) = false := by rw [beq_eq_false_iff_ne]; exact hd
    clear h2 hd
    go_enter Tryd.func20, Tryd.ntmps20
    go_wp2
    go_end0
    exact ⟨rfl, rfl⟩

theorem check_no (n d sh : Int) (w : World) (u : TypeId) (pv : Value) (h : 2147483647 < n ∨ (d = 0 ∧ 0 < sh)) (hvar : w.cell? ⟨0, 0, none⟩ = some (.iface u pv)) :
    Calls Tryd.prog 20 #[.int .i64 n, .int .i64 d, .int .i64 sh] w fun e w' => e = .panicked (thrown u pv) ∧ w' = w := by
  by_cases hn : 2147483647 < n
  · clear h
    go_enter Tryd.func20, Tryd.ntmps20
    go_wp2
    exact ⟨rfl, rfl, rfl⟩
  · obtain ⟨hd, hs⟩ := h.resolve_left hn
    have ed : (d == 0) = true := by simpa using hd
    clear h hd
    go_enter Tryd.func20, Tryd.ntmps20
    go_wp2
    exact ⟨rfl, rfl, rfl⟩

/-- How readGroups ends. -/
def endT (u : TypeId) (pv : Value) : Option (Int × Int) → Ending
  | none => .panicked (thrown u pv)
  | some (n, p) => .returned (.tuple #[.int .i64 n, .int .i64 p])

set_option maxHeartbeats 3200000 in
theorem readGroups_nat (g len cap a : Nat) (xs : List Int) (w : World) (u : TypeId) (pv : Value) (hxl : xs.length = len) (hlen : len ≤ 1048576) (ha : a ≤ 9223372036854775807)
    (hc : ∀ j, j < len → w.cell? ⟨g, j, none⟩ = some (.int .u8 (xs.getD j 0))) (hb : ∀ j, 0 ≤ xs.getD j 0 ∧ xs.getD j 0 ≤ 255) (hvar : w.cell? ⟨0, 0, none⟩ = some (.iface u pv)) :
    Calls Tryd.prog 15 #[.slice (some ⟨g, 0, none⟩) len cap, .int .i64 a] w fun e w' => e = endT u pv (getFrom xs a 5 0 0) ∧ w' = w := by
  go_enter Tryd.func15, Tryd.ntmps15
  go_wp2
  go_loop [6, 7, 8, 9] (fun n p i gr => ∃ (k f : Nat) (m : Int), k + f = 5 ∧ i = .int .i64 ((7 * k : Nat) : Int) ∧ p = .int .i64 ((a + k : Nat) : Int) ∧ n = .int .i64 m ∧ 0 ≤ m ∧ m < 128 ^ k ∧ (0 < k → a + k ≤ len) ∧ Hid (getFrom xs a 5 0 0 = getFrom xs a f k m)) (fun _ _ i _ => 36 - (intOf i).toNat)
  case atStart => exact ⟨0, 5, 0, rfl, rfl, rfl, rfl, by omega, by omega, by omega, rfl⟩
  case round =>
    obtain ⟨k, f, m, hkf, rfl, rfl, rfl, hm0, hm1, hal, HG⟩ := hrel
    have hcell := hc (a + k)
    obtain ⟨b1, b2⟩ := hb (a + k)
    have hout := getFrom_out xs a
    have hmore := getFrom_more xs a
    have hbad := getFrom_bad xs a
    have hgood := getFrom_good xs a
    rw [hxl] at hout hmore hbad hgood
    obtain ⟨d, hd⟩ : ∃ d, xs.getD (a + k) 0 = d := ⟨_, rfl⟩
    rw [hd] at hcell b1 b2
    have HD : Hid (xs.getD (a + k) 0 = d) := hd
    clear hd hc hb
    have H := HG.out
    clear HG
    rcases pow_cases k f hkf with ⟨rfl, rfl⟩ | ⟨rfl, rfl⟩ | ⟨rfl, rfl⟩ | ⟨rfl, rfl⟩ | ⟨rfl, rfl⟩ | ⟨rfl, rfl⟩
    case inr.inr.inr.inr.inr =>
      have HN : Hid (getFrom xs a 5 0 0 = none) := H
      clear hmore hbad hgood hout H hcell
      go_wp2
      exact ⟨rfl, by rw [HN.out]; rfl, rfl⟩
    case inl =>
      have hp : (128 : Int) ^ 0 = 1 := by decide
      have hm2 : m < 1 := by rw [hp] at hm1; exact hm1
      clear hm1
      by_cases hin : a + 0 < len
      · have hc' : w.cell? ⟨g, a, none⟩ = some (.int .u8 d) := hcell hin
        have hin' : a < len := hin
        by_cases hsm : d < 128
        · by_cases hz : (False) ∨ 2147483647 < m + d % 128
          · exact hz.elim (fun h => h.elim) (fun h => by omega)
          · have hn1 : m + d % 128 ≤ 2147483647 := Int.not_lt.1 fun h => hz (.inr h)
            
            have HN : Hid (getFrom xs a 5 0 0 = some (m + d % 128, (a : Int) + 0 + 1)) := by show _ = _; rw [H, hgood _ _ _ _ hin HD.out hsm (by rw [hp]; omega), hp]; simp
            clear hmore hbad hgood hout H hcell hp hz
            go_wp2_with (first | (go_at_call 19; refine (groupAt_yes g len cap (a) d _ hin' hc' b1 b2).mono ?_; rintro e w' ⟨rfl, rfl⟩) | (go_at_call 20; refine (check_yes (m + d % 128) d 0 _ hn1 (fun h => absurd h.2 (Int.lt_irrefl 0))).mono ?_; rintro e w' ⟨rfl, rfl⟩))
            go_ret2
            exact ⟨by rw [HN.out]; rfl, rfl⟩
        · have HN : Hid (getFrom xs a 5 0 0 = getFrom xs a 4 1 (m + d % 128)) := by show _ = _; rw [H, hmore _ _ _ _ hin HD.out hsm, hp]; simp
          clear hmore hbad hgood hout H hcell hp
          go_wp2_with (go_at_call 19; refine (groupAt_yes g len cap (a) d _ hin' hc' b1 b2).mono ?_; rintro e w' ⟨rfl, rfl⟩)
          go_round
          case rel => exact ⟨1, 4, m + d % 128, rfl, by go_num, by go_num, rfl, by omega, by rw [(by decide : (128 : Int) ^ 1 = 128)]; omega, by omega, HN⟩
          case measure => simp [intOf]
      · have HN : Hid (getFrom xs a 5 0 0 = none) := H.trans (hout _ _ _ hin)
        have hin' : ((len : Int) ≤ ((a + 0 : Nat) : Int)) := by omega
        clear hmore hbad hgood hout H hcell hp
        go_wp2_with (go_at_call 19; refine (groupAt_no _ len cap _ _ u pv (.inr (by omega)) hvar).mono ?_; rintro e w' ⟨rfl, rfl⟩)
        exact ⟨rfl, by rw [HN.out]; rfl, rfl⟩
    case inr.inl =>
      have hp : (128 : Int) ^ 1 = 128 := by decide
      have hm2 : m < 128 := by rw [hp] at hm1; exact hm1
      clear hm1
      by_cases hin : a + 1 < len
      · have hc' : w.cell? ⟨g, a + 1, none⟩ = some (.int .u8 d) := hcell hin
        have hin' : a + 1 < len := hin
        by_cases hsm : d < 128
        · by_cases hz : (d = 0) ∨ 2147483647 < m + d % 128 * 128
          · have HN : Hid (getFrom xs a 5 0 0 = none) := H.trans (hbad _ _ _ _ hin HD.out hsm (by rw [hp]; rcases hz with h | h; exact .inl ⟨by omega, h⟩; exact .inr h))
            have hck : 2147483647 < m + d % 128 * 128 ∨ (d = 0 ∧ (0 : Int) < 7) := by omega
            clear hmore hbad hgood hout H hcell hp hz
            go_wp2_with (first | (go_at_call 19; refine (groupAt_yes g len cap (a + 1) d _ hin' hc' b1 b2).mono ?_; rintro e w' ⟨rfl, rfl⟩) | (go_at_call 20; refine (check_no (m + d % 128 * 128) d 7 _ u pv hck hvar).mono ?_; rintro e w' ⟨rfl, rfl⟩))
            exact ⟨rfl, by rw [HN.out]; rfl, rfl⟩
          · have hn1 : m + d % 128 * 128 ≤ 2147483647 := Int.not_lt.1 fun h => hz (.inr h)
            have hd0 : ¬ d = 0 := fun h => hz (.inl h)
            have HN : Hid (getFrom xs a 5 0 0 = some (m + d % 128 * 128, (a : Int) + 1 + 1)) := by show _ = _; rw [H, hgood _ _ _ _ hin HD.out hsm (by rw [hp]; rintro (h | h); exact hz (.inl h.2); exact hz (.inr h)), hp]; simp
            clear hmore hbad hgood hout H hcell hp hz
            go_wp2_with (first | (go_at_call 19; refine (groupAt_yes g len cap (a + 1) d _ hin' hc' b1 b2).mono ?_; rintro e w' ⟨rfl, rfl⟩) | (go_at_call 20; refine (check_yes (m + d % 128 * 128) d 7 _ hn1 (fun h => hd0 h.1)).mono ?_; rintro e w' ⟨rfl, rfl⟩))
            go_ret2
            exact ⟨by rw [HN.out]; rfl, rfl⟩
        · have HN : Hid (getFrom xs a 5 0 0 = getFrom xs a 3 2 (m + d % 128 * 128)) := by show _ = _; rw [H, hmore _ _ _ _ hin HD.out hsm, hp]
          clear hmore hbad hgood hout H hcell hp
          go_wp2_with (go_at_call 19; refine (groupAt_yes g len cap (a + 1) d _ hin' hc' b1 b2).mono ?_; rintro e w' ⟨rfl, rfl⟩)
          go_round
          case rel => exact ⟨2, 3, m + d % 128 * 128, rfl, by go_num, by go_num, rfl, by omega, by rw [(by decide : (128 : Int) ^ 2 = 16384)]; omega, by omega, HN⟩
          case measure => simp [intOf]
      · have HN : Hid (getFrom xs a 5 0 0 = none) := H.trans (hout _ _ _ hin)
        have hin' : ((len : Int) ≤ ((a + 1 : Nat) : Int)) := by omega
        clear hmore hbad hgood hout H hcell hp
        go_wp2_with (go_at_call 19; refine (groupAt_no _ len cap _ _ u pv (.inr (by omega)) hvar).mono ?_; rintro e w' ⟨rfl, rfl⟩)
        exact ⟨rfl, by rw [HN.out]; rfl, rfl⟩
    case inr.inr.inl =>
      have hp : (128 : Int) ^ 2 = 16384 := by decide
      have hm2 : m < 16384 := by rw [hp] at hm1; exact hm1
      clear hm1
      by_cases hin : a + 2 < len
      · have hc' : w.cell? ⟨g, a + 2, none⟩ = some (.int .u8 d) := hcell hin
        have hin' : a + 2 < len := hin
        by_cases hsm : d < 128
        · by_cases hz : (d = 0) ∨ 2147483647 < m + d % 128 * 16384
          · have HN : Hid (getFrom xs a 5 0 0 = none) := H.trans (hbad _ _ _ _ hin HD.out hsm (by rw [hp]; rcases hz with h | h; exact .inl ⟨by omega, h⟩; exact .inr h))
            have hck : 2147483647 < m + d % 128 * 16384 ∨ (d = 0 ∧ (0 : Int) < 14) := by omega
            clear hmore hbad hgood hout H hcell hp hz
            go_wp2_with (first | (go_at_call 19; refine (groupAt_yes g len cap (a + 2) d _ hin' hc' b1 b2).mono ?_; rintro e w' ⟨rfl, rfl⟩) | (go_at_call 20; refine (check_no (m + d % 128 * 16384) d 14 _ u pv hck hvar).mono ?_; rintro e w' ⟨rfl, rfl⟩))
            exact ⟨rfl, by rw [HN.out]; rfl, rfl⟩
          · have hn1 : m + d % 128 * 16384 ≤ 2147483647 := Int.not_lt.1 fun h => hz (.inr h)
            have hd0 : ¬ d = 0 := fun h => hz (.inl h)
            have HN : Hid (getFrom xs a 5 0 0 = some (m + d % 128 * 16384, (a : Int) + 2 + 1)) := by show _ = _; rw [H, hgood _ _ _ _ hin HD.out hsm (by rw [hp]; rintro (h | h); exact hz (.inl h.2); exact hz (.inr h)), hp]; simp
            clear hmore hbad hgood hout H hcell hp hz
            go_wp2_with (first | (go_at_call 19; refine (groupAt_yes g len cap (a + 2) d _ hin' hc' b1 b2).mono ?_; rintro e w' ⟨rfl, rfl⟩) | (go_at_call 20; refine (check_yes (m + d % 128 * 16384) d 14 _ hn1 (fun h => hd0 h.1)).mono ?_; rintro e w' ⟨rfl, rfl⟩))
            go_ret2
            exact ⟨by rw [HN.out]; rfl, rfl⟩
        · have HN : Hid (getFrom xs a 5 0 0 = getFrom xs a 2 3 (m + d % 128 * 16384)) := by show _ = _; rw [H, hmore _ _ _ _ hin HD.out hsm, hp]
          clear hmore hbad hgood hout H hcell hp
          go_wp2_with (go_at_call 19; refine (groupAt_yes g len cap (a + 2) d _ hin' hc' b1 b2).mono ?_; rintro e w' ⟨rfl, rfl⟩)
          go_round
          case rel => exact ⟨3, 2, m + d % 128 * 16384, rfl, by go_num, by go_num, rfl, by omega, by rw [(by decide : (128 : Int) ^ 3 = 2097152)]; omega, by omega, HN⟩
          case measure => simp [intOf]
      · have HN : Hid (getFrom xs a 5 0 0 = none) := H.trans (hout _ _ _ hin)
        have hin' : ((len : Int) ≤ ((a + 2 : Nat) : Int)) := by omega
        clear hmore hbad hgood hout H hcell hp
        go_wp2_with (go_at_call 19; refine (groupAt_no _ len cap _ _ u pv (.inr (by omega)) hvar).mono ?_; rintro e w' ⟨rfl, rfl⟩)
        exact ⟨rfl, by rw [HN.out]; rfl, rfl⟩
    case inr.inr.inr.inl =>
      have hp : (128 : Int) ^ 3 = 2097152 := by decide
      have hm2 : m < 2097152 := by rw [hp] at hm1; exact hm1
      clear hm1
      by_cases hin : a + 3 < len
      · have hc' : w.cell? ⟨g, a + 3, none⟩ = some (.int .u8 d) := hcell hin
        have hin' : a + 3 < len := hin
        by_cases hsm : d < 128
        · by_cases hz : (d = 0) ∨ 2147483647 < m + d % 128 * 2097152
          · have HN : Hid (getFrom xs a 5 0 0 = none) := H.trans (hbad _ _ _ _ hin HD.out hsm (by rw [hp]; rcases hz with h | h; exact .inl ⟨by omega, h⟩; exact .inr h))
            have hck : 2147483647 < m + d % 128 * 2097152 ∨ (d = 0 ∧ (0 : Int) < 21) := by omega
            clear hmore hbad hgood hout H hcell hp hz
            go_wp2_with (first | (go_at_call 19; refine (groupAt_yes g len cap (a + 3) d _ hin' hc' b1 b2).mono ?_; rintro e w' ⟨rfl, rfl⟩) | (go_at_call 20; refine (check_no (m + d % 128 * 2097152) d 21 _ u pv hck hvar).mono ?_; rintro e w' ⟨rfl, rfl⟩))
            exact ⟨rfl, by rw [HN.out]; rfl, rfl⟩
          · have hn1 : m + d % 128 * 2097152 ≤ 2147483647 := Int.not_lt.1 fun h => hz (.inr h)
            have hd0 : ¬ d = 0 := fun h => hz (.inl h)
            have HN : Hid (getFrom xs a 5 0 0 = some (m + d % 128 * 2097152, (a : Int) + 3 + 1)) := by show _ = _; rw [H, hgood _ _ _ _ hin HD.out hsm (by rw [hp]; rintro (h | h); exact hz (.inl h.2); exact hz (.inr h)), hp]; simp
            clear hmore hbad hgood hout H hcell hp hz
            go_wp2_with (first | (go_at_call 19; refine (groupAt_yes g len cap (a + 3) d _ hin' hc' b1 b2).mono ?_; rintro e w' ⟨rfl, rfl⟩) | (go_at_call 20; refine (check_yes (m + d % 128 * 2097152) d 21 _ hn1 (fun h => hd0 h.1)).mono ?_; rintro e w' ⟨rfl, rfl⟩))
            go_ret2
            exact ⟨by rw [HN.out]; rfl, rfl⟩
        · have HN : Hid (getFrom xs a 5 0 0 = getFrom xs a 1 4 (m + d % 128 * 2097152)) := by show _ = _; rw [H, hmore _ _ _ _ hin HD.out hsm, hp]
          clear hmore hbad hgood hout H hcell hp
          go_wp2_with (go_at_call 19; refine (groupAt_yes g len cap (a + 3) d _ hin' hc' b1 b2).mono ?_; rintro e w' ⟨rfl, rfl⟩)
          go_round
          case rel => exact ⟨4, 1, m + d % 128 * 2097152, rfl, by go_num, by go_num, rfl, by omega, by rw [(by decide : (128 : Int) ^ 4 = 268435456)]; omega, by omega, HN⟩
          case measure => simp [intOf]
      · have HN : Hid (getFrom xs a 5 0 0 = none) := H.trans (hout _ _ _ hin)
        have hin' : ((len : Int) ≤ ((a + 3 : Nat) : Int)) := by omega
        clear hmore hbad hgood hout H hcell hp
        go_wp2_with (go_at_call 19; refine (groupAt_no _ len cap _ _ u pv (.inr (by omega)) hvar).mono ?_; rintro e w' ⟨rfl, rfl⟩)
        exact ⟨rfl, by rw [HN.out]; rfl, rfl⟩
    case inr.inr.inr.inr.inl =>
      have hp : (128 : Int) ^ 4 = 268435456 := by decide
      have hm2 : m < 268435456 := by rw [hp] at hm1; exact hm1
      clear hm1
      by_cases hin : a + 4 < len
      · have hc' : w.cell? ⟨g, a + 4, none⟩ = some (.int .u8 d) := hcell hin
        have hin' : a + 4 < len := hin
        by_cases hsm : d < 128
        · by_cases hz : (d = 0) ∨ 2147483647 < m + d % 128 * 268435456
          · have HN : Hid (getFrom xs a 5 0 0 = none) := H.trans (hbad _ _ _ _ hin HD.out hsm (by rw [hp]; rcases hz with h | h; exact .inl ⟨by omega, h⟩; exact .inr h))
            have hck : 2147483647 < m + d % 128 * 268435456 ∨ (d = 0 ∧ (0 : Int) < 28) := by omega
            clear hmore hbad hgood hout H hcell hp hz
            go_wp2_with (first | (go_at_call 19; refine (groupAt_yes g len cap (a + 4) d _ hin' hc' b1 b2).mono ?_; rintro e w' ⟨rfl, rfl⟩) | (go_at_call 20; refine (check_no (m + d % 128 * 268435456) d 28 _ u pv hck hvar).mono ?_; rintro e w' ⟨rfl, rfl⟩))
            exact ⟨rfl, by rw [HN.out]; rfl, rfl⟩
          · have hn1 : m + d % 128 * 268435456 ≤ 2147483647 := Int.not_lt.1 fun h => hz (.inr h)
            have hd0 : ¬ d = 0 := fun h => hz (.inl h)
            have HN : Hid (getFrom xs a 5 0 0 = some (m + d % 128 * 268435456, (a : Int) + 4 + 1)) := by show _ = _; rw [H, hgood _ _ _ _ hin HD.out hsm (by rw [hp]; rintro (h | h); exact hz (.inl h.2); exact hz (.inr h)), hp]; simp
            clear hmore hbad hgood hout H hcell hp hz
            go_wp2_with (first | (go_at_call 19; refine (groupAt_yes g len cap (a + 4) d _ hin' hc' b1 b2).mono ?_; rintro e w' ⟨rfl, rfl⟩) | (go_at_call 20; refine (check_yes (m + d % 128 * 268435456) d 28 _ hn1 (fun h => hd0 h.1)).mono ?_; rintro e w' ⟨rfl, rfl⟩))
            go_ret2
            exact ⟨by rw [HN.out]; rfl, rfl⟩
        · have HN : Hid (getFrom xs a 5 0 0 = getFrom xs a 0 5 (m + d % 128 * 268435456)) := by show _ = _; rw [H, hmore _ _ _ _ hin HD.out hsm, hp]
          clear hmore hbad hgood hout H hcell hp
          go_wp2_with (go_at_call 19; refine (groupAt_yes g len cap (a + 4) d _ hin' hc' b1 b2).mono ?_; rintro e w' ⟨rfl, rfl⟩)
          go_round
          case rel => exact ⟨5, 0, m + d % 128 * 268435456, rfl, by go_num, by go_num, rfl, by omega, by rw [(by decide : (128 : Int) ^ 5 = 34359738368)]; omega, by omega, HN⟩
          case measure => simp [intOf]
      · have HN : Hid (getFrom xs a 5 0 0 = none) := H.trans (hout _ _ _ hin)
        have hin' : ((len : Int) ≤ ((a + 4 : Nat) : Int)) := by omega
        clear hmore hbad hgood hout H hcell hp
        go_wp2_with (go_at_call 19; refine (groupAt_no _ len cap _ _ u pv (.inr (by omega)) hvar).mono ?_; rintro e w' ⟨rfl, rfl⟩)
        exact ⟨rfl, by rw [HN.out]; rfl, rfl⟩

end Go.Proofs.YtnanabbkogakmaaDoor
