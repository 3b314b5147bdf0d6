/- GetNum, of the specification and of the program: each by its contract. -/
import Derived.Test.YtnanabbkogakmalDoorToB
import Derived.Test.YtnanabbkogakmalDoorGuard
import Derived.Test.YtnanabbkogakmalDoorBits
namespace Go.Proofs.YtnanabbkogakmalDoor
open Go.RowKit

/-- The number that begins at place 'a': 'f' bytes may follow still, 'k' are read, 'n' is their sum. -/
def getFrom (xs : List Int) (a : Nat) : Nat → Nat → Int → Option (Int × Int)
  | 0, _, _ => none
  | f + 1, k, n =>
    if a + k < xs.length then
      if xs.getD (a + k) 0 < 128 then
        if (0 < k ∧ xs.getD (a + k) 0 = 0) ∨ 2147483647 < n + xs.getD (a + k) 0 % 128 * 128 ^ k then none else some (n + xs.getD (a + k) 0 % 128 * 128 ^ k, (a : Int) + k + 1)
      else getFrom xs a f (k + 1) (n + xs.getD (a + k) 0 % 128 * 128 ^ k)
    else none
def getR (xs : List Int) (at' : Int) : Option (Int × Int) := if at' < 0 then none else getFrom xs at'.toNat 5 0 0

theorem getFrom_out (xs : List Int) (a f k : Nat) (n : Int) (h : ¬ a + k < xs.length) : getFrom xs a (f + 1) k n = none := by rw [getFrom, if_neg h]
theorem getFrom_more (xs : List Int) (a f k : Nat) (n d : Int) (h : a + k < xs.length) (hd : xs.getD (a + k) 0 = d) (h1 : ¬ d < 128) : getFrom xs a (f + 1) k n = getFrom xs a f (k + 1) (n + d % 128 * 128 ^ k) := by
  rw [getFrom, if_pos h, hd, if_neg h1]
theorem getFrom_bad (xs : List Int) (a f k : Nat) (n d : Int) (h : a + k < xs.length) (hd : xs.getD (a + k) 0 = d) (h1 : d < 128) (h2 : (0 < k ∧ d = 0) ∨ 2147483647 < n + d % 128 * 128 ^ k) : getFrom xs a (f + 1) k n = none := by
  rw [getFrom, if_pos h, hd, if_pos h1, if_pos h2]
theorem getFrom_good (xs : List Int) (a f k : Nat) (n d : Int) (h : a + k < xs.length) (hd : xs.getD (a + k) 0 = d) (h1 : d < 128) (h2 : ¬ ((0 < k ∧ d = 0) ∨ 2147483647 < n + d % 128 * 128 ^ k)) : getFrom xs a (f + 1) k n = some (n + d % 128 * 128 ^ k, (a : Int) + k + 1) := by
  rw [getFrom, if_pos h, hd, if_pos h1, if_neg h2]
/-- What GetNum returns of such an answer. -/
def resT : Option (Int × Int) → Value
  | none => .tuple #[.int .i64 0, .int .i64 0, .bool false]
  | some (n, p) => .tuple #[.int .i64 n, .int .i64 p, .bool true]
theorem pow_cases (k f : Nat) (h : k + f = 5) : (k = 0 ∧ f = 4 + 1) ∨ (k = 1 ∧ f = 3 + 1) ∨ (k = 2 ∧ f = 2 + 1) ∨ (k = 3 ∧ f = 1 + 1) ∨ (k = 4 ∧ f = 0 + 1) ∨ (k = 5 ∧ f = 0) := by omega

set_option maxHeartbeats 3200000 in
theorem sget_nat (g len cap a : Nat) (xs : List Int) (w : World) (hxl : xs.length = len) (hlen : len ≤ 1048576) (ha : a ≤ 9223372036854775807)
    (hc : ∀ j, j < len → w.cell? ⟨g, j, none⟩ = some (.int .u8 (xs.getD j 0))) (hb : ∀ j, 0 ≤ xs.getD j 0 ∧ xs.getD j 0 ≤ 255) :
    Calls Tryd.prog 7 #[.slice (some ⟨g, 0, none⟩) len cap, .int .i64 a] w fun e w' => e = .returned (resT (getFrom xs a 5 0 0)) ∧ w' = w := by
  have ha0 : ¬ ((a : Int) < 0) := by omega
  go_enter Tryd.func7, Tryd.ntmps7
  go_wp2
  go_loop [7, 8] (fun n i => ∃ (k f : Nat) (m : Int), k + f = 5 ∧ i = .int .i64 k ∧ n = .int .i64 m ∧ 0 ≤ m ∧ m < 128 ^ k ∧ Hid (getFrom xs a 5 0 0 = getFrom xs a f k m)) (fun _ i => 5 - (intOf i).toNat)
  case atStart => exact ⟨0, 5, 0, rfl, rfl, rfl, by omega, by omega, rfl⟩
  case round =>
    obtain ⟨k, f, m, hkf, rfl, rfl, hm0, hm1, HG⟩ := hrel
    have hcell := hc (a + k)
    obtain ⟨b1, b2⟩ := hb (a + k)
    have hout := getFrom_out xs a
    have hmore := getFrom_more xs a
    have hbad := getFrom_bad xs a
    have hgood := getFrom_good xs a
    rw [hxl] at hout hmore hbad hgood
    obtain ⟨d, hd⟩ : ∃ d, xs.getD (a + k) 0 = d := ⟨_, rfl⟩
    rw [hd] at hcell b1 b2
    have HD : Hid (xs.getD (a + k) 0 = d) := hd
    clear hd hc hb
    have H := HG.out
    clear HG
    rcases pow_cases k f hkf with ⟨rfl, rfl⟩ | ⟨rfl, rfl⟩ | ⟨rfl, rfl⟩ | ⟨rfl, rfl⟩ | ⟨rfl, rfl⟩ | ⟨rfl, rfl⟩
    case inr.inr.inr.inr.inr =>
      have HN : Hid (getFrom xs a 5 0 0 = none) := H
      clear hmore hbad hgood hout H hcell
      go_wp2
      go_ret3
      exact ⟨by rw [HN.out]; rfl, rfl⟩
    case inl =>
      have hp : (128 : Int) ^ 0 = 1 := by decide
      have hm2 : m < 1 := by rw [hp] at hm1; exact hm1
      clear hm1
      by_cases hin : a + 0 < len
      · have hc' : w.cell? ⟨g, a, none⟩ = some (.int .u8 d) := hcell hin
        have hor : bits .or .i64 m (d % 128) = m + d % 128 := or_sum 0 m (d % 128) hm0 (by simpa using hm2) (by omega) (by omega) (by omega) (by omega)
        have hin' : a < len := hin
        by_cases hsm : d < 128
        · have hnb : ¬ 2147483647 < m + d % 128 := by omega
          have HN : Hid (getFrom xs a 5 0 0 = some (m + d % 128, (a : Int) + 1)) := by show _ = _; rw [H, hgood _ _ _ _ hin HD.out hsm (by rw [hp]; omega), hp]; simp
          clear hmore hbad hgood hout H hcell hp
          go_wp2
          go_ret3
          exact ⟨by rw [HN.out]; rfl, rfl⟩
        · have HN : Hid (getFrom xs a 5 0 0 = getFrom xs a 4 1 (m + d % 128)) := by show _ = _; rw [H, hmore _ _ _ _ hin HD.out hsm, hp]; simp
          clear hmore hbad hgood hout H hcell hp
          go_wp2
          go_round
          case rel => exact ⟨1, 4, m + d % 128, rfl, by go_num, rfl, by omega, by rw [(by decide : (128 : Int) ^ 1 = 128)]; omega, HN⟩
          case measure => simp [intOf]
      · have HN : Hid (getFrom xs a 5 0 0 = none) := H.trans (hout _ _ _ hin)
        have hin' : ¬ a < len := hin
        clear hmore hbad hgood hout H hcell hp
        go_wp2
        go_ret3
        exact ⟨by rw [HN.out]; rfl, rfl⟩
    case inr.inl =>
      have hp : (128 : Int) ^ 1 = 128 := by decide
      have hm2 : m < 128 := by rw [hp] at hm1; exact hm1
      clear hm1
      by_cases hin : a + 1 < len
      · have hc' : w.cell? ⟨g, a + 1, none⟩ = some (.int .u8 d) := hcell hin
        have hor : bits .or .i64 m (d % 128 * 128) = m + d % 128 * 128 := or_sum 7 m (d % 128 * 128) hm0 (by simpa using hm2) (by omega) (by omega) (by omega) (by omega)
        have hin' : a + 1 < len := hin
        by_cases hsm : d < 128
        · by_cases hz : d = 0
          · have ez : (d == 0) = true := by simpa using hz
            have HN : Hid (getFrom xs a 5 0 0 = none) := H.trans (hbad _ _ _ _ hin HD.out hsm (.inl ⟨by omega, hz⟩))
            clear hmore hbad hgood hout H hcell hp
            go_wp2
            go_ret3
            exact ⟨by rw [HN.out]; rfl, rfl⟩
          · have ez : (d == 0) = false := by rw [beq_eq_false_iff_ne]; exact hz
            by_cases hbig : 2147483647 < m + d % 128 * 128
            · exfalso; omega
            · have HN : Hid (getFrom xs a 5 0 0 = some (m + d % 128 * 128, (a : Int) + 1 + 1)) := by show _ = _; rw [H, hgood _ _ _ _ hin HD.out hsm (by rw [hp]; omega), hp]; rfl
              clear hmore hbad hgood hout H hcell hp
              go_wp2
              go_ret3
              exact ⟨by rw [HN.out]; rfl, rfl⟩
        · have HN : Hid (getFrom xs a 5 0 0 = getFrom xs a 3 2 (m + d % 128 * 128)) := by show _ = _; rw [H, hmore _ _ _ _ hin HD.out hsm, hp]
          clear hmore hbad hgood hout H hcell hp
          go_wp2
          go_round
          case rel => exact ⟨2, 3, m + d % 128 * 128, rfl, by go_num, rfl, by omega, by rw [(by decide : (128 : Int) ^ 2 = 16384)]; omega, HN⟩
          case measure => simp [intOf]
      · have HN : Hid (getFrom xs a 5 0 0 = none) := H.trans (hout _ _ _ hin)
        have hin' : ¬ a + 1 < len := hin
        clear hmore hbad hgood hout H hcell hp
        go_wp2
        go_ret3
        exact ⟨by rw [HN.out]; rfl, rfl⟩
    case inr.inr.inl =>
      have hp : (128 : Int) ^ 2 = 16384 := by decide
      have hm2 : m < 16384 := by rw [hp] at hm1; exact hm1
      clear hm1
      by_cases hin : a + 2 < len
      · have hc' : w.cell? ⟨g, a + 2, none⟩ = some (.int .u8 d) := hcell hin
        have hor : bits .or .i64 m (d % 128 * 16384) = m + d % 128 * 16384 := or_sum 14 m (d % 128 * 16384) hm0 (by simpa using hm2) (by omega) (by omega) (by omega) (by omega)
        have hin' : a + 2 < len := hin
        by_cases hsm : d < 128
        · by_cases hz : d = 0
          · have ez : (d == 0) = true := by simpa using hz
            have HN : Hid (getFrom xs a 5 0 0 = none) := H.trans (hbad _ _ _ _ hin HD.out hsm (.inl ⟨by omega, hz⟩))
            clear hmore hbad hgood hout H hcell hp
            go_wp2
            go_ret3
            exact ⟨by rw [HN.out]; rfl, rfl⟩
          · have ez : (d == 0) = false := by rw [beq_eq_false_iff_ne]; exact hz
            by_cases hbig : 2147483647 < m + d % 128 * 16384
            · exfalso; omega
            · have HN : Hid (getFrom xs a 5 0 0 = some (m + d % 128 * 16384, (a : Int) + 2 + 1)) := by show _ = _; rw [H, hgood _ _ _ _ hin HD.out hsm (by rw [hp]; omega), hp]; rfl
              clear hmore hbad hgood hout H hcell hp
              go_wp2
              go_ret3
              exact ⟨by rw [HN.out]; rfl, rfl⟩
        · have HN : Hid (getFrom xs a 5 0 0 = getFrom xs a 2 3 (m + d % 128 * 16384)) := by show _ = _; rw [H, hmore _ _ _ _ hin HD.out hsm, hp]
          clear hmore hbad hgood hout H hcell hp
          go_wp2
          go_round
          case rel => exact ⟨3, 2, m + d % 128 * 16384, rfl, by go_num, rfl, by omega, by rw [(by decide : (128 : Int) ^ 3 = 2097152)]; omega, HN⟩
          case measure => simp [intOf]
      · have HN : Hid (getFrom xs a 5 0 0 = none) := H.trans (hout _ _ _ hin)
        have hin' : ¬ a + 2 < len := hin
        clear hmore hbad hgood hout H hcell hp
        go_wp2
        go_ret3
        exact ⟨by rw [HN.out]; rfl, rfl⟩
    case inr.inr.inr.inl =>
      have hp : (128 : Int) ^ 3 = 2097152 := by decide
      have hm2 : m < 2097152 := by rw [hp] at hm1; exact hm1
      clear hm1
      by_cases hin : a + 3 < len
      · have hc' : w.cell? ⟨g, a + 3, none⟩ = some (.int .u8 d) := hcell hin
        have hor : bits .or .i64 m (d % 128 * 2097152) = m + d % 128 * 2097152 := or_sum 21 m (d % 128 * 2097152) hm0 (by simpa using hm2) (by omega) (by omega) (by omega) (by omega)
        have hin' : a + 3 < len := hin
        by_cases hsm : d < 128
        · by_cases hz : d = 0
          · have ez : (d == 0) = true := by simpa using hz
            have HN : Hid (getFrom xs a 5 0 0 = none) := H.trans (hbad _ _ _ _ hin HD.out hsm (.inl ⟨by omega, hz⟩))
            clear hmore hbad hgood hout H hcell hp
            go_wp2
            go_ret3
            exact ⟨by rw [HN.out]; rfl, rfl⟩
          · have ez : (d == 0) = false := by rw [beq_eq_false_iff_ne]; exact hz
            by_cases hbig : 2147483647 < m + d % 128 * 2097152
            · exfalso; omega
            · have HN : Hid (getFrom xs a 5 0 0 = some (m + d % 128 * 2097152, (a : Int) + 3 + 1)) := by show _ = _; rw [H, hgood _ _ _ _ hin HD.out hsm (by rw [hp]; omega), hp]; rfl
              clear hmore hbad hgood hout H hcell hp
              go_wp2
              go_ret3
              exact ⟨by rw [HN.out]; rfl, rfl⟩
        · have HN : Hid (getFrom xs a 5 0 0 = getFrom xs a 1 4 (m + d % 128 * 2097152)) := by show _ = _; rw [H, hmore _ _ _ _ hin HD.out hsm, hp]
          clear hmore hbad hgood hout H hcell hp
          go_wp2
          go_round
          case rel => exact ⟨4, 1, m + d % 128 * 2097152, rfl, by go_num, rfl, by omega, by rw [(by decide : (128 : Int) ^ 4 = 268435456)]; omega, HN⟩
          case measure => simp [intOf]
      · have HN : Hid (getFrom xs a 5 0 0 = none) := H.trans (hout _ _ _ hin)
        have hin' : ¬ a + 3 < len := hin
        clear hmore hbad hgood hout H hcell hp
        go_wp2
        go_ret3
        exact ⟨by rw [HN.out]; rfl, rfl⟩
    case inr.inr.inr.inr.inl =>
      have hp : (128 : Int) ^ 4 = 268435456 := by decide
      have hm2 : m < 268435456 := by rw [hp] at hm1; exact hm1
      clear hm1
      by_cases hin : a + 4 < len
      · have hc' : w.cell? ⟨g, a + 4, none⟩ = some (.int .u8 d) := hcell hin
        have hor : bits .or .i64 m (d % 128 * 268435456) = m + d % 128 * 268435456 := or_sum 28 m (d % 128 * 268435456) hm0 (by simpa using hm2) (by omega) (by omega) (by omega) (by omega)
        have hin' : a + 4 < len := hin
        by_cases hsm : d < 128
        · by_cases hz : d = 0
          · have ez : (d == 0) = true := by simpa using hz
            have HN : Hid (getFrom xs a 5 0 0 = none) := H.trans (hbad _ _ _ _ hin HD.out hsm (.inl ⟨by omega, hz⟩))
            clear hmore hbad hgood hout H hcell hp
            go_wp2
            go_ret3
            exact ⟨by rw [HN.out]; rfl, rfl⟩
          · have ez : (d == 0) = false := by rw [beq_eq_false_iff_ne]; exact hz
            by_cases hbig : 2147483647 < m + d % 128 * 268435456
            · have HN : Hid (getFrom xs a 5 0 0 = none) := H.trans (hbad _ _ _ _ hin HD.out hsm (.inr (by rw [hp]; exact hbig)))
              clear hmore hbad hgood hout H hcell hp
              go_wp2
              go_ret3
              exact ⟨by rw [HN.out]; rfl, rfl⟩
            · have HN : Hid (getFrom xs a 5 0 0 = some (m + d % 128 * 268435456, (a : Int) + 4 + 1)) := by show _ = _; rw [H, hgood _ _ _ _ hin HD.out hsm (by rw [hp]; omega), hp]; rfl
              clear hmore hbad hgood hout H hcell hp
              go_wp2
              go_ret3
              exact ⟨by rw [HN.out]; rfl, rfl⟩
        · have HN : Hid (getFrom xs a 5 0 0 = getFrom xs a 0 5 (m + d % 128 * 268435456)) := by show _ = _; rw [H, hmore _ _ _ _ hin HD.out hsm, hp]
          clear hmore hbad hgood hout H hcell hp
          go_wp2
          go_round
          case rel => exact ⟨5, 0, m + d % 128 * 268435456, rfl, by go_num, rfl, by omega, by rw [(by decide : (128 : Int) ^ 5 = 34359738368)]; omega, HN⟩
          case measure => simp [intOf]
      · have HN : Hid (getFrom xs a 5 0 0 = none) := H.trans (hout _ _ _ hin)
        have hin' : ¬ a + 4 < len := hin
        clear hmore hbad hgood hout H hcell hp
        go_wp2
        go_ret3
        exact ⟨by rw [HN.out]; rfl, rfl⟩

end Go.Proofs.YtnanabbkogakmalDoor
