/- Several small texts in one: SPow0, SBits, SLimb, SMax, STrim, SPlus, SLess, SCmp, SPow, TimesM. -/
import Derived.Test.YtmafljcolniddaaBase
import Derived.Deep.QuietTactic
import Derived.BigQuiet
/- The specification's l2Pow, by its contract. -/
namespace Go.Proofs.Ytmafljcolniddaa
open Go.RowKit

theorem two_pow_le {k m : Nat} (h : k ≤ m) : (2 : Int) ^ k ≤ 2 ^ m := by
  have h1 := Nat.pow_le_pow_right (by omega : 0 < 2) h
  have e1 : ((2 ^ k : Nat) : Int) = (2 : Int) ^ k := by simp
  have e2 : ((2 ^ m : Nat) : Int) = (2 : Int) ^ m := by simp
  omega
theorem two_pow_pos (k : Nat) : (0 : Int) < 2 ^ k := Int.pow_pos (by omega)

set_option maxHeartbeats 800000 in
theorem sPow (k : Nat) (w : World) (hk : k ≤ 61) : Calls Try.prog 29 #[.int .i64 k] w fun e w' => e = .returned (.int .i64 ((2 : Int) ^ k)) ∧ w' = w := by
  go_enter Try.func29, Try.ntmps29
  go_wp2
  go_loop [3, 4] (fun t i => ∃ (j : Nat) (p : Int), j ≤ k ∧ i = .int .i64 j ∧ t = .int .i64 p ∧ Hid (p = (2 : Int) ^ j) ∧ 0 ≤ p ∧ p ≤ 2305843009213693952) (fun _ i => k - (intOf i).toNat)
  case atStart => exact ⟨0, 1, Nat.zero_le _, rfl, rfl, rfl, by omega, by omega⟩
  case round =>
    obtain ⟨j, p, hj, rfl, rfl, HP, p0, p1⟩ := hrel
    by_cases hlt : j < k
    · have hlt' : (j : Int) < (k : Int) := by omega
      have hb : p * 2 ≤ 2305843009213693952 := by
        have h1 := two_pow_le (show j + 1 ≤ 61 by omega)
        rw [Int.pow_succ, ← HP.out] at h1
        omega
      go_wp2
      go_round
      case rel => exact ⟨j + 1, p * 2, by omega, by go_num, rfl, by show _ = _; rw [HP.out, Int.pow_succ], by omega, hb⟩
      case measure => simp [intOf]; omega
    · have hjk : j = k := by omega
      subst hjk
      go_wp2
      go_ret
      exact ⟨by rw [← HP.out]; rfl, rfl⟩

end Go.Proofs.Ytmafljcolniddaa

/- The specification's l2Bits and NatBits, by their contracts. -/
namespace Go.Proofs.Ytmafljcolniddaa
open Go.RowKit

/-- How many bits a number has. -/
def nbits (n : Nat) : Nat := if n = 0 then 0 else nbits (n / 2) + 1
  termination_by n
  decreasing_by omega
theorem nbits_zero : nbits 0 = 0 := by rw [nbits]; simp
theorem nbits_pos (n : Nat) (h : 0 < n) : nbits n = nbits (n / 2) + 1 := by
  conv => lhs; rw [nbits]
  rw [if_neg (by omega)]
theorem nbits_high (p : Nat) : ∀ (a b : Nat), a < 2 ^ p → 0 < b → nbits (a + 2 ^ p * b) = p + nbits b := by
  induction p with
  | zero => intro a b h hb; have : a = 0 := by simpa using h
            subst this; simp
  | succ p ih =>
    intro a b h hb
    have h2 : 2 ^ (p + 1) * b = 2 * (2 ^ p * b) := by rw [Nat.pow_succ, Nat.mul_comm (2 ^ p) 2, Nat.mul_assoc]
    have hp : 0 < 2 ^ p * b := Nat.mul_pos (Nat.pow_pos (by omega)) hb
    rw [Nat.pow_succ] at h
    rw [h2, nbits_pos _ (by omega), show (a + 2 * (2 ^ p * b)) / 2 = a / 2 + 2 ^ p * b by omega, ih (a / 2) b (by omega) hb]
    omega
theorem base_pow (k : Nat) : 16777216 ^ k = 2 ^ (24 * k) := by rw [Nat.pow_mul]
/-- Bits of a list of limbs: by its last one. -/
theorem nbits_limbs {xs : List Int} (h : inR xs) (m : Nat) (hm : xs.length = m + 1) (hz : xs.getD m 0 ≠ 0) : nbits (num xs) = 24 * m + nbits (xs.getD m 0).toNat := by
  have hd := inR_getD h m
  have h1 := lval_split xs m
  have h2 := lval_drop xs m
  rw [List.drop_of_length_le (by omega : xs.length ≤ m + 1)] at h2
  simp only [lval, Int.mul_zero, Int.add_zero] at h2
  rw [h2] at h1
  have h3 := lval_take_lt h m
  have h4 := lval_nonneg (inR_take h m)
  have h5 := num_val h
  obtain ⟨t, ht⟩ := Int.eq_ofNat_of_zero_le h4
  obtain ⟨d, hdd⟩ := Int.eq_ofNat_of_zero_le hd.1
  rw [hdd] at h1 hz hd ⊢
  rw [ht] at h1 h3
  have e1 : ((16777216 ^ m : Nat) : Int) = (16777216 : Int) ^ m := by simp
  have h6 : num xs = t + 16777216 ^ m * d := by
    have : ((t + 16777216 ^ m * d : Nat) : Int) = (num xs : Int) := by
      rw [h5, h1]; simp
    omega
  rw [h6, base_pow, nbits_high (24 * m) t d (by rw [← base_pow]; omega) (by omega)]
  simp

def bitsR (xs : List Int) : Int := if okB xs = true then (nbits (num xs) : Int) else -1

theorem nbits_le (n : Nat) : nbits n ≤ n := by
  induction n using Nat.strongRecOn with
  | ind n ih =>
    by_cases h : n = 0
    · subst h; rw [nbits_zero]; omega
    · rw [nbits_pos n (by omega)]
      have := ih (n / 2) (by omega)
      omega

theorem nbits_le_pow (p : Nat) : ∀ n, n < 2 ^ p → nbits n ≤ p := by
  induction p with
  | zero => intro n h; have : n = 0 := by simpa using h
            subst this; rw [nbits_zero]; omega
  | succ p ih =>
    intro n h
    by_cases h0 : n = 0
    · subst h0; rw [nbits_zero]; omega
    · rw [nbits_pos n (by omega)]
      have := ih (n / 2) (by rw [Nat.pow_succ] at h; omega)
      omega
theorem lt_nbits (n : Nat) : n < 2 ^ nbits n := by
  induction n using Nat.strongRecOn with
  | ind n ih =>
    by_cases h : n = 0
    · subst h; rw [nbits_zero]; simp
    · rw [nbits_pos n (by omega), Nat.pow_succ]
      have := ih (n / 2) (by omega)
      omega
theorem num_lt {xs : List Int} (h : inR xs) : num xs < 2 ^ (24 * xs.length) := by
  have h1 := lval_lt h
  have h2 := num_val h
  have e : (((2 : Nat) ^ (24 * xs.length) : Nat) : Int) = (16777216 : Int) ^ xs.length := by
    rw [Nat.pow_mul]; simp
  omega
theorem nbits_len {xs : List Int} (h : inR xs) : nbits (num xs) ≤ 24 * xs.length := nbits_le_pow _ _ (num_lt h)

end Go.Proofs.Ytmafljcolniddaa

/- The specification's l2Limb, by its contract. -/
namespace Go.Proofs.Ytmafljcolniddaa
open Go.RowKit

theorem sLimb (v : Value) (xs : List Int) (i : Nat) (w : World) (h : rowI w v xs) :
    Calls Try.prog 38 #[v, .int .i64 i] w fun e w' => e = .returned (.int .i64 (xs.getD i 0)) ∧ w' = w := by
  obtain ⟨a, cap, rfl, h2, h3, h4, h5, h6⟩ := h
  by_cases hi : i < xs.length
  · obtain ⟨g, off, rfl, hg, hc⟩ := h6 i hi
    obtain ⟨d, hd⟩ : ∃ d, xs.getD i 0 = d := ⟨_, rfl⟩
    rw [hd] at hc ⊢
    clear hd h6 h4 h5
    go_enter Try.func38, Try.ntmps38
    go_wp2
    go_ret
    exact ⟨rfl, rfl⟩
  · have e : xs.getD i 0 = 0 := by rw [List.getD_eq_getElem?_getD, List.getElem?_eq_none (by omega)]; rfl
    rw [e]
    clear e h6 h4 h5
    go_enter Try.func38, Try.ntmps38
    go_wp2
    go_ret
    exact ⟨rfl, rfl⟩

end Go.Proofs.Ytmafljcolniddaa

/- The specification's l1Max, by its contract. -/
namespace Go.Proofs.Ytmafljcolniddaa
open Go.RowKit

theorem sMax (m n : Nat) (w : World) : Calls Try.prog 23 #[.int .i64 m, .int .i64 n] w fun e w' => e = .returned (.int .i64 (max m n : Nat)) ∧ w' = w := by
  by_cases h : (n : Int) < (m : Int)
  · have e : max m n = m := by omega
    rw [e]
    clear e
    go_enter Try.func23, Try.ntmps23
    go_wp2
    go_ret
    exact ⟨rfl, rfl⟩
  · have e : max m n = n := by omega
    rw [e]
    clear e
    go_enter Try.func23, Try.ntmps23
    go_wp2
    go_ret
    exact ⟨rfl, rfl⟩

end Go.Proofs.Ytmafljcolniddaa

/- The specification's l2Trim, by its contract. -/
namespace Go.Proofs.Ytmafljcolniddaa
open Go.RowKit

set_option maxHeartbeats 1600000 in
/-- l2Trim: the right list, in new memory. -/
theorem sTrim (v : Value) (xs : List Int) (w : World) (h : rowI w v xs) (hr : inR xs) (hl : xs.length ≤ 1073741824) :
    Calls Try.prog 39 #[v] w fun e w' => ∃ v', e = .returned v' ∧ ownsI w' w.heap.size v' (limbs (num xs)) ∧ Below w.heap.size w w' := by
  have hrow := h
  obtain ⟨a, cap, rfl, h2, h3, h4, h5, h6⟩ := h
  have H6 : Hid (∀ j, j < xs.length → ∃ g off, a = some ⟨g, off, none⟩ ∧ g < w.heap.size ∧ w.cell? ⟨g, off + j, none⟩ = some (.int .i64 (xs.getD j 0))) := h6
  clear h6 h4 h5
  have hbm : Below w.heap.size w (w.alloc (.cells #[] 3)) := (Below.refl _ _).alloc (Nat.le_refl _) _
  have hrow' : rowI (w.alloc (.cells #[] 3)) (.slice a xs.length cap) xs := hrow.below hbm (Nat.le_refl _)
  clear hrow
  go_enter Try.func39, Try.ntmps39
  go_wp2
  go_loop [3] (fun i => ∃ n : Nat, n ≤ xs.length ∧ i = .int .i64 n ∧ ∀ j, n ≤ j → j < xs.length → xs.getD j 0 = 0) (fun i => (intOf i).toNat)
  case atStart => exact ⟨xs.length, Nat.le_refl _, rfl, fun j h1 h2 => by omega⟩
  case round =>
    obtain ⟨n, hn, rfl, hz⟩ := hrel
    have HZ : Hid (∀ j, n ≤ j → j < xs.length → xs.getD j 0 = 0) := hz
    clear hz
    by_cases hn0 : n = 0
    · subst hn0
      have hn' : ¬ (0 : Int) < ((0 : Nat) : Int) := by omega
      have hfin := trim_limbs xs 0 hr (by omega) HZ.out (fun h => absurd h (by omega))
      have HF : Hid (xs.take 0 = limbs (num xs)) := hfin
      clear hfin
      go_wp2_with (at_builtin; refine wpI_all w _ rfl (.tmp 18) (.tmp 21) rfl w.heap.size _ _ [] (xs.take 0) rfl (made_own w) rfl (hrow'.take 0 (by omega)) hbm (by rw [List.length_take, List.length_nil]; omega) (by simp) ?_; intro v1 w1 o1 b1)
      go_ret
      exact ⟨_, rfl, by rw [← HF.out]; exact o1, b1⟩
    · obtain ⟨m, rfl⟩ : ∃ m, n = m + 1 := ⟨n - 1, by omega⟩
      obtain ⟨g, off, rfl, hg, hc⟩ := H6.out m (by omega)
      have hnp : (0 : Int) < ((m + 1 : Nat) : Int) := by omega
      by_cases hd : xs.getD m 0 = 0
      · rw [hd] at hc
        have HN : Hid (∀ j, m ≤ j → j < xs.length → xs.getD j 0 = 0) := fun j h1 h2 => by
          by_cases e : j = m
          · subst e; exact hd
          · exact HZ.out j (by omega) h2
        clear hd
        go_wp2
        go_round
        case rel => exact ⟨m, by omega, by go_num, HN.out⟩
        case measure => simp [intOf]
      · have HF : Hid (xs.take (m + 1) = limbs (num xs)) := trim_limbs xs (m + 1) hr hn HZ.out (fun _ => hd)
        obtain ⟨d, hdd⟩ : ∃ d, xs.getD m 0 = d := ⟨_, rfl⟩
        rw [hdd] at hc hd
        have ed : (d == 0) = false := by rw [beq_eq_false_iff_ne]; exact hd
        clear hdd hd
        go_wp2_with (at_builtin; refine wpI_all w _ rfl (.tmp 18) (.tmp 21) rfl w.heap.size _ _ [] (xs.take (m + 1)) rfl (made_own w) rfl (hrow'.take (m + 1) hn) hbm (by rw [List.length_take, List.length_nil]; omega) (by simp) ?_; intro v1 w1 o1 b1)
        go_ret
        exact ⟨_, rfl, by rw [← HF.out]; exact o1, b1⟩

end Go.Proofs.Ytmafljcolniddaa

/- The specification's l2Plus, by its contract. -/
namespace Go.Proofs.Ytmafljcolniddaa
open Go.RowKit

end Go.Proofs.Ytmafljcolniddaa

/- The specification's l2Less, by its contract. -/
namespace Go.Proofs.Ytmafljcolniddaa
open Go.RowKit

end Go.Proofs.Ytmafljcolniddaa

/- The specification's l2Cmp, by its contract. -/
namespace Go.Proofs.Ytmafljcolniddaa
open Go.RowKit

set_option maxHeartbeats 1600000 in
/-- l2Cmp. -/
theorem sCmp (va vb : Value) (xs ys : List Int) (w : World) (ha : rowI w va xs) (hb : rowI w vb ys) (hxr : inR xs) (hyr : inR ys) (hlx : xs.length ≤ 1048576) (hly : ys.length ≤ 1048576) :
    Calls Try.prog 37 #[va, vb] w fun e w' => e = .returned (.int .i64 (cmpI (num xs) (num ys))) ∧ w' = w := by
  obtain ⟨a1, cap1, rfl, -⟩ := id ha
  obtain ⟨a2, cap2, rfl, -⟩ := id hb
  go_enter Try.func37, Try.ntmps37
  go_wp2_with (go_at_call 23; refine (sMax xs.length ys.length w).mono ?_; rintro e w ⟨rfl, rfl⟩)
  go_loop [5, 6, 7] (fun i p q => ∃ k : Nat, k ≤ max xs.length ys.length ∧ i = .int .i64 ((k : Int) - 1) ∧ lval (xs.drop k) = lval (ys.drop k)) (fun i _ _ => (intOf i + 1).toNat)
  case atStart => exact ⟨max xs.length ys.length, Nat.le_refl _, by go_num, by rw [List.drop_of_length_le (by omega), List.drop_of_length_le (by omega)]⟩
  case round =>
    obtain ⟨k, hk, rfl, hd⟩ := hrel
    have HD : Hid (lval (xs.drop k) = lval (ys.drop k)) := hd
    clear hd
    by_cases hk0 : k = 0
    · subst hk0
      have HE : Hid (cmpI (num xs) (num ys) = 0) := by
        have h1 := num_val hxr
        have h2 := num_val hyr
        have h3 := HD.out
        rw [List.drop_zero, List.drop_zero] at h3
        show _ = _
        rw [cmpI, if_neg (by omega), if_neg (by omega)]
      go_wp2
      go_ret
      exact ⟨by rw [HE.out]; rfl, rfl⟩
    · obtain ⟨m, rfl⟩ : ∃ m, k = m + 1 := ⟨k - 1, by omega⟩
      have hm : ((m + 1 : Nat) : Int) - 1 = (m : Int) := by omega
      have dx := lval_drop xs m
      have dy := lval_drop ys m
      have cx := sLimb _ xs m w ha
      have cy := sLimb _ ys m w hb
      have gx := inR_getD hxr m
      have gy := inR_getD hyr m
      obtain ⟨xk, hxk⟩ : ∃ xk, xs.getD m 0 = xk := ⟨_, rfl⟩
      obtain ⟨yk, hyk⟩ : ∃ yk, ys.getD m 0 = yk := ⟨_, rfl⟩
      rw [hxk] at gx dx cx
      rw [hyk] at gy dy cy
      have hdd := HD.out
      rw [hm]
      clear hxk hyk HD hm
      by_cases h1 : xk < yk
      · have HE : Hid (cmpI (num xs) (num ys) = -1) := by
          show _ = _
          rw [cmpI, if_pos (cmp_lt hxr hyr m (by omega))]
        clear dx dy hdd gx gy
        go_wp2_with fail
        refine cx.mono ?_
        rintro e w ⟨rfl, rfl⟩
        go_wp2_with fail
        refine cy.mono ?_
        rintro e w ⟨rfl, rfl⟩
        go_wp2
        go_ret
        exact ⟨by rw [HE.out]; rfl, rfl⟩
      · by_cases h2 : yk < xk
        · have HE : Hid (cmpI (num xs) (num ys) = 1) := by
            have h3 := cmp_lt hyr hxr m (by omega)
            show _ = _
            rw [cmpI, if_neg (by omega), if_pos h3]
          clear dx dy hdd gx gy
          go_wp2_with fail
          refine cx.mono ?_
          rintro e w ⟨rfl, rfl⟩
          go_wp2_with fail
          refine cy.mono ?_
          rintro e w ⟨rfl, rfl⟩
          go_wp2
          go_ret
          exact ⟨by rw [HE.out]; rfl, rfl⟩
        · have hnext : Hid (lval (xs.drop m) = lval (ys.drop m)) := by show _ = _; omega
          clear dx dy hdd gx gy
          go_wp2_with fail
          refine cx.mono ?_
          rintro e w ⟨rfl, rfl⟩
          go_wp2_with fail
          refine cy.mono ?_
          rintro e w ⟨rfl, rfl⟩
          go_wp2
          go_round
          case rel => exact ⟨m, by omega, rfl, hnext.out⟩
          case measure => simp [intOf]

end Go.Proofs.Ytmafljcolniddaa

/- The specification's l2Pow, by its contract, and what is said of limbs. -/

/- Products of limbs, step by step (plain facts). -/
namespace Go.Proofs.Ytmafljcolniddaa
open Go.RowKit

theorem lval_set (zs : List Int) (k : Nat) (y : Int) (h : k < zs.length) : lval (zs.set k y) = lval zs + 16777216 ^ k * (y - zs.getD k 0) := by
  induction zs generalizing k with
  | nil => simp at h
  | cons z r ih =>
    cases k with
    | zero => simp [lval]; omega
    | succ k =>
      have h' : k < r.length := by simpa using h
      simp only [List.set_cons_succ, lval, List.getD_cons_succ]
      rw [ih k h', Int.pow_succ]
      have : (16777216 : Int) ^ k * 16777216 * (y - r.getD k 0) = 16777216 * (16777216 ^ k * (y - r.getD k 0)) := by rw [Int.mul_comm ((16777216 : Int) ^ k) 16777216, Int.mul_assoc]
      rw [this]
      omega

theorem inR_set {zs : List Int} (h : inR zs) (k : Nat) {y : Int} (h0 : 0 ≤ y) (h1 : y < 16777216) : inR (zs.set k y) := fun x hx => by
  rcases List.mem_or_eq_of_mem_set hx with h' | rfl
  · exact h x h'
  · exact ⟨h0, h1⟩

theorem getD_set_ne (zs : List Int) (k m : Nat) (y : Int) (h : k ≠ m) : (zs.set k y).getD m 0 = zs.getD m 0 := by
  simp only [List.getD_eq_getElem?_getD, List.getElem?_set]
  rw [if_neg h]


theorem times_step (i j : Nat) (c x z xi yj A T : Int) (zs : List Int) (hl : i + j < zs.length) (hz : zs.getD (i + j) 0 = z) (h : lval zs + 16777216 ^ (i + j) * c = A + 16777216 ^ i * (xi * T)) (hx : x = z + xi * yj + c) :
    lval (zs.set (i + j) (x % 16777216)) + 16777216 ^ (i + (j + 1)) * (x / 16777216) = A + 16777216 ^ i * (xi * (T + 16777216 ^ j * yj)) := by
  rw [lval_set zs _ _ hl, hz, ← Nat.add_assoc, Int.pow_succ, Int.pow_add]
  rw [Int.pow_add] at h
  have e : x = 16777216 * (x / 16777216) + x % 16777216 := by omega
  obtain ⟨P, hP⟩ : ∃ P, (16777216 : Int) ^ i = P := ⟨_, rfl⟩
  obtain ⟨R, hR⟩ : ∃ R, (16777216 : Int) ^ j = R := ⟨_, rfl⟩
  obtain ⟨q, hq⟩ : ∃ q, x / 16777216 = q := ⟨_, rfl⟩
  obtain ⟨r, hr⟩ : ∃ r, x % 16777216 = r := ⟨_, rfl⟩
  rw [hq, hr] at e
  rw [hP, hR] at h
  rw [hP, hR, hq, hr]
  have e2 : r = z + xi * yj + c - 16777216 * q := by omega
  subst e2
  clear e hx hq hr
  grind

theorem mul_lim {a b : Int} (a0 : 0 ≤ a) (a1 : a < 16777216) (b0 : 0 ≤ b) (b1 : b < 16777216) : 0 ≤ a * b ∧ a * b ≤ 281474943156225 := by
  refine ⟨Int.mul_nonneg a0 b0, ?_⟩
  have := Int.mul_le_mul (show a ≤ 16777215 by omega) (show b ≤ 16777215 by omega) b0 (by omega)
  omega

end Go.Proofs.Ytmafljcolniddaa
