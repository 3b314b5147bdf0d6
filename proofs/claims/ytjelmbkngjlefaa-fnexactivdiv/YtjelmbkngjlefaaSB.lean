/- Several small texts in one: TimesM, SLimb, SMax, SCmp, STrim, SPlus, SLess, STimes, SPow0, SPow, SUp, SDown, SBits. -/
import Derived.Test.YtjelmbkngjlefaaBase
import Derived.Deep.QuietTactic
import Derived.BigQuiet
import Derived.Laws.MakeOwn
import Derived.Deep.RegionLaw
/- Products of limbs, step by step (plain facts). -/
namespace Go.Proofs.Ytjelmbkngjlefaa
open Go.RowKit

theorem lval_set (zs : List Int) (k : Nat) (y : Int) (h : k < zs.length) : lval (zs.set k y) = lval zs + 16777216 ^ k * (y - zs.getD k 0) := by
  induction zs generalizing k with
  | nil => simp at h
  | cons z r ih =>
    cases k with
    | zero => simp [lval]; omega
    | succ k =>
      have h' : k < r.length := by simpa using h
      simp only [List.set_cons_succ, lval, List.getD_cons_succ]
      rw [ih k h', Int.pow_succ]
      have : (16777216 : Int) ^ k * 16777216 * (y - r.getD k 0) = 16777216 * (16777216 ^ k * (y - r.getD k 0)) := by rw [Int.mul_comm ((16777216 : Int) ^ k) 16777216, Int.mul_assoc]
      rw [this]
      omega

theorem inR_set {zs : List Int} (h : inR zs) (k : Nat) {y : Int} (h0 : 0 ≤ y) (h1 : y < 16777216) : inR (zs.set k y) := fun x hx => by
  rcases List.mem_or_eq_of_mem_set hx with h' | rfl
  · exact h x h'
  · exact ⟨h0, h1⟩

theorem getD_set_ne (zs : List Int) (k m : Nat) (y : Int) (h : k ≠ m) : (zs.set k y).getD m 0 = zs.getD m 0 := by
  simp only [List.getD_eq_getElem?_getD, List.getElem?_set]
  rw [if_neg h]


theorem times_step (i j : Nat) (c x z xi yj A T : Int) (zs : List Int) (hl : i + j < zs.length) (hz : zs.getD (i + j) 0 = z) (h : lval zs + 16777216 ^ (i + j) * c = A + 16777216 ^ i * (xi * T)) (hx : x = z + xi * yj + c) :
    lval (zs.set (i + j) (x % 16777216)) + 16777216 ^ (i + (j + 1)) * (x / 16777216) = A + 16777216 ^ i * (xi * (T + 16777216 ^ j * yj)) := by
  rw [lval_set zs _ _ hl, hz, ← Nat.add_assoc, Int.pow_succ, Int.pow_add]
  rw [Int.pow_add] at h
  have e : x = 16777216 * (x / 16777216) + x % 16777216 := by omega
  obtain ⟨P, hP⟩ : ∃ P, (16777216 : Int) ^ i = P := ⟨_, rfl⟩
  obtain ⟨R, hR⟩ : ∃ R, (16777216 : Int) ^ j = R := ⟨_, rfl⟩
  obtain ⟨q, hq⟩ : ∃ q, x / 16777216 = q := ⟨_, rfl⟩
  obtain ⟨r, hr⟩ : ∃ r, x % 16777216 = r := ⟨_, rfl⟩
  rw [hq, hr] at e
  rw [hP, hR] at h
  rw [hP, hR, hq, hr]
  have e2 : r = z + xi * yj + c - 16777216 * q := by omega
  subst e2
  clear e hx hq hr
  grind

theorem mul_lim {a b : Int} (a0 : 0 ≤ a) (a1 : a < 16777216) (b0 : 0 ≤ b) (b1 : b < 16777216) : 0 ≤ a * b ∧ a * b ≤ 281474943156225 := by
  refine ⟨Int.mul_nonneg a0 b0, ?_⟩
  have := Int.mul_le_mul (show a ≤ 16777215 by omega) (show b ≤ 16777215 by omega) b0 (by omega)
  omega

end Go.Proofs.Ytjelmbkngjlefaa

/- The specification's l2Limb, by its contract. -/
namespace Go.Proofs.Ytjelmbkngjlefaa
open Go.RowKit

theorem sLimb (v : Value) (xs : List Int) (i : Nat) (w : World) (h : rowI w v xs) :
    Calls Try.prog 76 #[v, .int .i64 i] w fun e w' => e = .returned (.int .i64 (xs.getD i 0)) ∧ w' = w := by
  obtain ⟨a, cap, rfl, h2, h3, h4, h5, h6⟩ := h
  by_cases hi : i < xs.length
  · obtain ⟨g, off, rfl, hg, hc⟩ := h6 i hi
    obtain ⟨d, hd⟩ : ∃ d, xs.getD i 0 = d := ⟨_, rfl⟩
    rw [hd] at hc ⊢
    clear hd h6 h4 h5
    go_enter Try.func76, Try.ntmps76
    go_wp2
    go_ret
    exact ⟨rfl, rfl⟩
  · have e : xs.getD i 0 = 0 := by rw [List.getD_eq_getElem?_getD, List.getElem?_eq_none (by omega)]; rfl
    rw [e]
    clear e h6 h4 h5
    go_enter Try.func76, Try.ntmps76
    go_wp2
    go_ret
    exact ⟨rfl, rfl⟩

end Go.Proofs.Ytjelmbkngjlefaa

/- The specification's l1Max, by its contract. -/
namespace Go.Proofs.Ytjelmbkngjlefaa
open Go.RowKit

theorem sMax (m n : Nat) (w : World) : Calls Try.prog 75 #[.int .i64 m, .int .i64 n] w fun e w' => e = .returned (.int .i64 (max m n : Nat)) ∧ w' = w := by
  by_cases h : (n : Int) < (m : Int)
  · have e : max m n = m := by omega
    rw [e]
    clear e
    go_enter Try.func75, Try.ntmps75
    go_wp2
    go_ret
    exact ⟨rfl, rfl⟩
  · have e : max m n = n := by omega
    rw [e]
    clear e
    go_enter Try.func75, Try.ntmps75
    go_wp2
    go_ret
    exact ⟨rfl, rfl⟩

end Go.Proofs.Ytjelmbkngjlefaa

/- The specification's l2Cmp, by its contract. -/
namespace Go.Proofs.Ytjelmbkngjlefaa
open Go.RowKit

set_option maxHeartbeats 1600000 in
/-- l2Cmp. -/
theorem sCmp (va vb : Value) (xs ys : List Int) (w : World) (ha : rowI w va xs) (hb : rowI w vb ys) (hxr : inR xs) (hyr : inR ys) (hlx : xs.length ≤ 1048576) (hly : ys.length ≤ 1048576) :
    Calls Try.prog 54 #[va, vb] w fun e w' => e = .returned (.int .i64 (cmpI (num xs) (num ys))) ∧ w' = w := by
  obtain ⟨a1, cap1, rfl, -⟩ := id ha
  obtain ⟨a2, cap2, rfl, -⟩ := id hb
  go_enter Try.func54, Try.ntmps54
  go_wp2_with (go_at_call 75; refine (sMax xs.length ys.length w).mono ?_; rintro e w ⟨rfl, rfl⟩)
  go_loop [5, 6, 7] (fun i p q => ∃ k : Nat, k ≤ max xs.length ys.length ∧ i = .int .i64 ((k : Int) - 1) ∧ lval (xs.drop k) = lval (ys.drop k)) (fun i _ _ => (intOf i + 1).toNat)
  case atStart => exact ⟨max xs.length ys.length, Nat.le_refl _, by go_num, by rw [List.drop_of_length_le (by omega), List.drop_of_length_le (by omega)]⟩
  case round =>
    obtain ⟨k, hk, rfl, hd⟩ := hrel
    have HD : Hid (lval (xs.drop k) = lval (ys.drop k)) := hd
    clear hd
    by_cases hk0 : k = 0
    · subst hk0
      have HE : Hid (cmpI (num xs) (num ys) = 0) := by
        have h1 := num_val hxr
        have h2 := num_val hyr
        have h3 := HD.out
        rw [List.drop_zero, List.drop_zero] at h3
        show _ = _
        rw [cmpI, if_neg (by omega), if_neg (by omega)]
      go_wp2
      go_ret
      exact ⟨by rw [HE.out]; rfl, rfl⟩
    · obtain ⟨m, rfl⟩ : ∃ m, k = m + 1 := ⟨k - 1, by omega⟩
      have hm : ((m + 1 : Nat) : Int) - 1 = (m : Int) := by omega
      have dx := lval_drop xs m
      have dy := lval_drop ys m
      have cx := sLimb _ xs m w ha
      have cy := sLimb _ ys m w hb
      have gx := inR_getD hxr m
      have gy := inR_getD hyr m
      obtain ⟨xk, hxk⟩ : ∃ xk, xs.getD m 0 = xk := ⟨_, rfl⟩
      obtain ⟨yk, hyk⟩ : ∃ yk, ys.getD m 0 = yk := ⟨_, rfl⟩
      rw [hxk] at gx dx cx
      rw [hyk] at gy dy cy
      have hdd := HD.out
      rw [hm]
      clear hxk hyk HD hm
      by_cases h1 : xk < yk
      · have HE : Hid (cmpI (num xs) (num ys) = -1) := by
          show _ = _
          rw [cmpI, if_pos (cmp_lt hxr hyr m (by omega))]
        clear dx dy hdd gx gy
        go_wp2_with fail
        refine cx.mono ?_
        rintro e w ⟨rfl, rfl⟩
        go_wp2_with fail
        refine cy.mono ?_
        rintro e w ⟨rfl, rfl⟩
        go_wp2
        go_ret
        exact ⟨by rw [HE.out]; rfl, rfl⟩
      · by_cases h2 : yk < xk
        · have HE : Hid (cmpI (num xs) (num ys) = 1) := by
            have h3 := cmp_lt hyr hxr m (by omega)
            show _ = _
            rw [cmpI, if_neg (by omega), if_pos h3]
          clear dx dy hdd gx gy
          go_wp2_with fail
          refine cx.mono ?_
          rintro e w ⟨rfl, rfl⟩
          go_wp2_with fail
          refine cy.mono ?_
          rintro e w ⟨rfl, rfl⟩
          go_wp2
          go_ret
          exact ⟨by rw [HE.out]; rfl, rfl⟩
        · have hnext : Hid (lval (xs.drop m) = lval (ys.drop m)) := by show _ = _; omega
          clear dx dy hdd gx gy
          go_wp2_with fail
          refine cx.mono ?_
          rintro e w ⟨rfl, rfl⟩
          go_wp2_with fail
          refine cy.mono ?_
          rintro e w ⟨rfl, rfl⟩
          go_wp2
          go_round
          case rel => exact ⟨m, by omega, rfl, hnext.out⟩
          case measure => simp [intOf]

end Go.Proofs.Ytjelmbkngjlefaa

/- The specification's l2Trim, by its contract. -/
namespace Go.Proofs.Ytjelmbkngjlefaa
open Go.RowKit

set_option maxHeartbeats 1600000 in
/-- l2Trim: the right list, in new memory. -/
theorem sTrim (v : Value) (xs : List Int) (w : World) (h : rowI w v xs) (hr : inR xs) (hl : xs.length ≤ 1073741824) :
    Calls Try.prog 77 #[v] w fun e w' => ∃ v', e = .returned v' ∧ ownsI w' w.heap.size v' (limbs (num xs)) ∧ Below w.heap.size w w' := by
  have hrow := h
  obtain ⟨a, cap, rfl, h2, h3, h4, h5, h6⟩ := h
  have H6 : Hid (∀ j, j < xs.length → ∃ g off, a = some ⟨g, off, none⟩ ∧ g < w.heap.size ∧ w.cell? ⟨g, off + j, none⟩ = some (.int .i64 (xs.getD j 0))) := h6
  clear h6 h4 h5
  have hbm : Below w.heap.size w (w.alloc (.cells #[] 3)) := (Below.refl _ _).alloc (Nat.le_refl _) _
  have hrow' : rowI (w.alloc (.cells #[] 3)) (.slice a xs.length cap) xs := hrow.below hbm (Nat.le_refl _)
  clear hrow
  go_enter Try.func77, Try.ntmps77
  go_wp2
  go_loop [3] (fun i => ∃ n : Nat, n ≤ xs.length ∧ i = .int .i64 n ∧ ∀ j, n ≤ j → j < xs.length → xs.getD j 0 = 0) (fun i => (intOf i).toNat)
  case atStart => exact ⟨xs.length, Nat.le_refl _, rfl, fun j h1 h2 => by omega⟩
  case round =>
    obtain ⟨n, hn, rfl, hz⟩ := hrel
    have HZ : Hid (∀ j, n ≤ j → j < xs.length → xs.getD j 0 = 0) := hz
    clear hz
    by_cases hn0 : n = 0
    · subst hn0
      have hn' : ¬ (0 : Int) < ((0 : Nat) : Int) := by omega
      have hfin := trim_limbs xs 0 hr (by omega) HZ.out (fun h => absurd h (by omega))
      have HF : Hid (xs.take 0 = limbs (num xs)) := hfin
      clear hfin
      go_wp2_with (at_builtin; refine wpI_all w _ rfl (.tmp 18) (.tmp 21) rfl w.heap.size _ _ [] (xs.take 0) rfl (made_own w) rfl (hrow'.take 0 (by omega)) hbm (by rw [List.length_take, List.length_nil]; omega) (by simp) ?_; intro v1 w1 o1 b1)
      go_ret
      exact ⟨_, rfl, by rw [← HF.out]; exact o1, b1⟩
    · obtain ⟨m, rfl⟩ : ∃ m, n = m + 1 := ⟨n - 1, by omega⟩
      obtain ⟨g, off, rfl, hg, hc⟩ := H6.out m (by omega)
      have hnp : (0 : Int) < ((m + 1 : Nat) : Int) := by omega
      by_cases hd : xs.getD m 0 = 0
      · rw [hd] at hc
        have HN : Hid (∀ j, m ≤ j → j < xs.length → xs.getD j 0 = 0) := fun j h1 h2 => by
          by_cases e : j = m
          · subst e; exact hd
          · exact HZ.out j (by omega) h2
        clear hd
        go_wp2
        go_round
        case rel => exact ⟨m, by omega, by go_num, HN.out⟩
        case measure => simp [intOf]
      · have HF : Hid (xs.take (m + 1) = limbs (num xs)) := trim_limbs xs (m + 1) hr hn HZ.out (fun _ => hd)
        obtain ⟨d, hdd⟩ : ∃ d, xs.getD m 0 = d := ⟨_, rfl⟩
        rw [hdd] at hc hd
        have ed : (d == 0) = false := by rw [beq_eq_false_iff_ne]; exact hd
        clear hdd hd
        go_wp2_with (at_builtin; refine wpI_all w _ rfl (.tmp 18) (.tmp 21) rfl w.heap.size _ _ [] (xs.take (m + 1)) rfl (made_own w) rfl (hrow'.take (m + 1) hn) hbm (by rw [List.length_take, List.length_nil]; omega) (by simp) ?_; intro v1 w1 o1 b1)
        go_ret
        exact ⟨_, rfl, by rw [← HF.out]; exact o1, b1⟩

end Go.Proofs.Ytjelmbkngjlefaa

/- The specification's l2Plus, by its contract. -/
namespace Go.Proofs.Ytjelmbkngjlefaa
open Go.RowKit

set_option maxHeartbeats 1600000 in
/-- l2Plus: the sum. -/
theorem sPlus (va vb : Value) (xs ys : List Int) (w : World) (ha : rowI w va xs) (hb : rowI w vb ys) (hxr : inR xs) (hyr : inR ys) (hlx : xs.length ≤ 1048576) (hly : ys.length ≤ 1048576) :
    Calls Try.prog 59 #[va, vb] w fun e w' => ∃ v', e = .returned v' ∧ ownsI w' w.heap.size v' (limbs (num xs + num ys)) ∧ Below w.heap.size w w' := by
  obtain ⟨a1, cap1, rfl, -⟩ := id ha
  obtain ⟨a2, cap2, rfl, -⟩ := id hb
  go_enter Try.func59, Try.ntmps59
  go_wp2
  go_loopw [5, 6, 7, 8] (fun v c i x wr => ∃ (k : Nat) (cc : Int) (out : List Int), k ≤ max xs.length ys.length + 1 ∧ i = .int .i64 k ∧ c = .int .i64 cc ∧ 0 ≤ cc ∧ cc ≤ 1 ∧ (max xs.length ys.length < k → cc = 0) ∧ out.length = k ∧ inR out ∧ Hid (lval out + 16777216 ^ k * cc = lval (xs.take k) + lval (ys.take k)) ∧ ownsI wr w.heap.size v out ∧ Below w.heap.size w wr) (fun _ _ i _ _ => max xs.length ys.length + 1 - (intOf i).toNat)
  case atStart => exact ⟨0, 0, [], by omega, rfl, rfl, by omega, by omega, fun _ => rfl, rfl, inR_nil, by show _ = _; simp [lval], made_own w, (Below.refl _ _).alloc (Nat.le_refl _) _⟩
  case round =>
    obtain ⟨k, cc, out, hk, rfl, rfl, c0, c1, cz, hol, hoR, HL, hown, hbw⟩ := hrel
    have hsz := hbw.size
    have ha' := ha.below hbw (Nat.le_refl _)
    have hb' := hb.below hbw (Nat.le_refl _)
    have gx := inR_getD hxr k
    have gy := inR_getD hyr k
    by_cases hlt : k ≤ max xs.length ys.length
    · have HT : Hid (lval (xs.take (k + 1)) = lval (xs.take k) + 16777216 ^ k * xs.getD k 0 ∧ lval (ys.take (k + 1)) = lval (ys.take k) + 16777216 ^ k * ys.getD k 0) := ⟨lval_take_succ xs k, lval_take_succ ys k⟩
      have hxz : xs.length ≤ k → xs.getD k 0 = 0 := fun h => by rw [List.getD_eq_getElem?_getD, List.getElem?_eq_none (by omega)]; rfl
      have hyz : ys.length ≤ k → ys.getD k 0 = 0 := fun h => by rw [List.getD_eq_getElem?_getD, List.getElem?_eq_none (by omega)]; rfl
      have cx := sLimb _ xs k wr ha'
      have cy := sLimb _ ys k wr hb'
      obtain ⟨xk, hxk⟩ : ∃ xk, xs.getD k 0 = xk := ⟨_, rfl⟩
      obtain ⟨yk, hyk⟩ : ∃ yk, ys.getD k 0 = yk := ⟨_, rfl⟩
      rw [hxk] at gx HT hxz cx
      rw [hyk] at gy HT hyz cy
      obtain ⟨gx0, gx1⟩ := gx
      obtain ⟨gy0, gy1⟩ := gy
      have HZ : Hid ((xs.length ≤ k → xk = 0) ∧ (ys.length ≤ k → yk = 0)) := ⟨hxz, hyz⟩
      clear hxk hyk ha' hb' hxz hyz
      have hlt' : (k : Int) ≤ ((max xs.length ys.length : Nat) : Int) := by omega
      go_wp2_with fail
      refine (sMax xs.length ys.length wr).mono ?_
      rintro e wr ⟨rfl, rfl⟩
      go_wp2_with fail
      refine cx.mono ?_
      rintro e wr ⟨rfl, rfl⟩
      go_wp2_with fail
      refine cy.mono ?_
      rintro e wr ⟨rfl, rfl⟩
      clear cx cy
      go_wp2_with (at_builtin; refine wpI_app w wr rfl (.tmp 28) (.tmp 31) rfl w.heap.size _ out _ rfl hown hbw rfl (by omega) hsz ?_; intro v1 w1 o1 b1)
      go_roundw
      case rel =>
        refine ⟨k + 1, (xk + yk + cc) / 16777216, out ++ [(xk + yk + cc) % 16777216], by omega, by go_num, rfl, by omega, by omega, fun h => ?_, by rw [List.length_append, List.length_singleton, hol], inR_append.2 ⟨hoR, inR_cons.2 ⟨by omega, inR_nil⟩⟩, ?_, o1, b1⟩
        · have z1 := HZ.out.1 (by omega)
          have z2 := HZ.out.2 (by omega)
          omega
        · show _ = _
          rw [HT.out.1, HT.out.2]
          exact plus_step k cc _ _ _ out hol HL.out xk yk rfl
      case measure => simp [intOf]; omega
    · have hke : k = max xs.length ys.length + 1 := by omega
      have hlt' : ¬ (k : Int) ≤ ((max xs.length ys.length : Nat) : Int) := by omega
      have hcz := cz (by omega)
      have hval : lval out = lval xs + lval ys := by
        have := HL.out
        rw [hcz, Int.mul_zero, Int.add_zero, List.take_of_length_le (by omega), List.take_of_length_le (by omega)] at this
        exact this
      have hnum : num out = num xs + num ys := by
        have h1 := num_val hoR
        have h2 := num_val hxr
        have h3 := num_val hyr
        omega
      have hrow := hown.row
      have hlo : out.length ≤ 1073741824 := by omega
      clear hval HL hcz ha' hb' gx gy
      go_wp2_with fail
      refine (sMax xs.length ys.length wr).mono ?_
      rintro e wr ⟨rfl, rfl⟩
      go_wp2_with fail
      refine (sTrim _ out wr hrow hoR hlo).mono ?_
      rintro e w1 ⟨v1, rfl, o1, b1⟩
      rw [hnum] at o1
      go_wp2
      go_ret
      exact ⟨_, rfl, ownsI_mono o1 hsz, hbw.trans (b1.mono hsz)⟩

end Go.Proofs.Ytjelmbkngjlefaa

/- The specification's l2Less, by its contract. -/
namespace Go.Proofs.Ytjelmbkngjlefaa
open Go.RowKit

set_option maxHeartbeats 1600000 in
/-- l2Less: the difference, a being no smaller. -/
theorem sLess (va vb : Value) (xs ys : List Int) (w : World) (ha : rowI w va xs) (hb : rowI w vb ys) (hxr : inR xs) (hyr : inR ys) (hlx : xs.length ≤ 1048576) (hly : ys.length ≤ xs.length) (hge : num ys ≤ num xs) :
    Calls Try.prog 84 #[va, vb] w fun e w' => ∃ v', e = .returned v' ∧ ownsI w' w.heap.size v' (limbs (num xs - num ys)) ∧ Below w.heap.size w w' := by
  obtain ⟨a1, cap1, rfl, -, -, -, -, h6⟩ := id ha
  obtain ⟨a2, cap2, rfl, -⟩ := id hb
  have H6 : Hid (∀ j, j < xs.length → ∃ g off, a1 = some ⟨g, off, none⟩ ∧ g < w.heap.size ∧ w.cell? ⟨g, off + j, none⟩ = some (.int .i64 (xs.getD j 0))) := h6
  clear h6
  go_enter Try.func84, Try.ntmps84
  go_wp2
  go_loopw [5, 6, 7, 8] (fun v c i x wr => ∃ (k : Nat) (bb : Int) (out : List Int), k ≤ xs.length ∧ i = .int .i64 k ∧ c = .int .i64 bb ∧ 0 ≤ bb ∧ bb ≤ 1 ∧ out.length = k ∧ inR out ∧ Hid (lval out - 16777216 ^ k * bb = lval (xs.take k) - lval (ys.take k)) ∧ ownsI wr w.heap.size v out ∧ Below w.heap.size w wr) (fun _ _ i _ _ => xs.length - (intOf i).toNat)
  case atStart => exact ⟨0, 0, [], by omega, rfl, rfl, by omega, by omega, rfl, inR_nil, by show _ = _; simp [lval], made_own w, (Below.refl _ _).alloc (Nat.le_refl _) _⟩
  case round =>
    obtain ⟨k, bb, out, hk, rfl, rfl, c0, c1, hol, hoR, HL, hown, hbw⟩ := hrel
    have hsz := hbw.size
    have hb' := hb.below hbw (Nat.le_refl _)
    have gx := inR_getD hxr k
    have gy := inR_getD hyr k
    by_cases hlt : k < xs.length
    · obtain ⟨g, off, rfl, hg, hc0⟩ := H6.out k hlt
      have hc : wr.cell? ⟨g, off + k, none⟩ = some (.int .i64 (xs.getD k 0)) := (hbw.cell (p := ⟨g, off + k, none⟩) hg).trans hc0
      have HT : Hid (lval (xs.take (k + 1)) = lval (xs.take k) + 16777216 ^ k * xs.getD k 0 ∧ lval (ys.take (k + 1)) = lval (ys.take k) + 16777216 ^ k * ys.getD k 0) := ⟨lval_take_succ xs k, lval_take_succ ys k⟩
      have cy := fun W (h : rowI W (.slice a2 ys.length cap2) ys) => sLimb _ ys k W h
      obtain ⟨xk, hxk⟩ : ∃ xk, xs.getD k 0 = xk := ⟨_, rfl⟩
      obtain ⟨yk, hyk⟩ : ∃ yk, ys.getD k 0 = yk := ⟨_, rfl⟩
      rw [hxk] at gx HT hc
      rw [hyk] at gy HT
      simp only [hyk] at cy
      obtain ⟨gx0, gx1⟩ := gx
      obtain ⟨gy0, gy1⟩ := gy
      clear hxk hyk hc0 ha
      go_wp2_with fail
      go_quiet ((go_at_call 76; exact Calls.quiet_of_same (cy _ hb')))
      clear cy hb'
      have hown' : ownsI (wr.drewN nq) w.heap.size u5 out := hown
      have hbw' : Below w.heap.size w (wr.drewN nq) := hbw.trans ⟨rfl, rfl, rfl, Nat.le_refl _, fun _ _ => rfl⟩
      have hsz' := hbw'.size
      clear hown hbw hc
      by_cases hneg : xk - yk - bb < 0
      · go_wp2_with (at_builtin; refine wpI_app w (wr.drewN nq) rfl (.tmp 30) (.tmp 32) rfl w.heap.size _ out _ rfl hown' hbw' rfl (by omega) hsz' ?_; intro v1 w1 o1 b1)
        go_roundw
        case rel => exact ⟨k + 1, 1, out ++ [xk - yk - bb + 16777216], by omega, by go_num, rfl, by omega, by omega, by rw [List.length_append, List.length_singleton, hol], inR_append.2 ⟨hoR, inR_cons.2 ⟨by omega, inR_nil⟩⟩, by show _ = _; rw [HT.out.1, HT.out.2]; exact less_step k bb _ _ _ out hol HL.out xk yk 1 _ rfl (by omega), o1, b1⟩
        case measure => simp [intOf]; omega
      · go_wp2_with (at_builtin; refine wpI_app w (wr.drewN nq) rfl (.tmp 30) (.tmp 32) rfl w.heap.size _ out _ rfl hown' hbw' rfl (by omega) hsz' ?_; intro v1 w1 o1 b1)
        go_roundw
        case rel => exact ⟨k + 1, 0, out ++ [xk - yk - bb], by omega, by go_num, rfl, by omega, by omega, by rw [List.length_append, List.length_singleton, hol], inR_append.2 ⟨hoR, inR_cons.2 ⟨by omega, inR_nil⟩⟩, by show _ = _; rw [HT.out.1, HT.out.2]; exact less_step k bb _ _ _ out hol HL.out xk yk 0 _ rfl (by omega), o1, b1⟩
        case measure => simp [intOf]; omega
    · have hke : k = xs.length := by omega
      subst hke
      have hnum : num out = num xs - num ys := by
        have h1 := num_val hoR
        have h2 := num_val hxr
        have h3 := num_val hyr
        have h4 := lval_lt hoR
        rw [hol] at h4
        have h5 := HL.out
        rw [List.take_of_length_le (Nat.le_refl _), List.take_of_length_le hly] at h5
        have h6 := pow_pos xs.length
        have hb0 : bb = 0 := by
          apply Classical.byContradiction; intro hn
          have hb1 : bb = 1 := by omega
          rw [hb1, Int.mul_one] at h5
          omega
        rw [hb0, Int.mul_zero] at h5
        omega
      have hrow := hown.row
      have hlo : out.length ≤ 1073741824 := by omega
      clear HL ha hb' gx gy
      go_wp2_with fail
      refine (sTrim _ out wr hrow hoR hlo).mono ?_
      rintro e w1 ⟨v1, rfl, o1, b1⟩
      rw [hnum] at o1
      go_wp2
      go_ret
      exact ⟨_, rfl, ownsI_mono o1 hsz, hbw.trans (b1.mono hsz)⟩

end Go.Proofs.Ytjelmbkngjlefaa

/- The specification's l2Times and NatMul, by their contracts. -/
namespace Go.Proofs.Ytjelmbkngjlefaa
open Go.RowKit

set_option maxHeartbeats 3200000 in
/-- l2Times: the product. -/
theorem sTimes (va vb : Value) (xs ys : List Int) (w : World) (ha : rowI w va xs) (hb : rowI w vb ys) (hxr : inR xs) (hyr : inR ys) (hlx : xs.length ≤ 1048576) (hly : ys.length ≤ 1048576) :
    Calls Try.prog 56 #[va, vb] w fun e w' => ∃ v', e = .returned v' ∧ ownsI w' w.heap.size v' (limbs (num xs * num ys)) ∧ Below w.heap.size w w' := by
  obtain ⟨a1, cap1, rfl, -⟩ := id ha
  obtain ⟨a2, cap2, rfl, -⟩ := id hb
  obtain ⟨i0, hi, hz0, hz1, hz2⟩ := info_parts Try.info3
  obtain ⟨N, hN⟩ : ∃ N, xs.length + ys.length + 1 = N := ⟨_, rfl⟩
  obtain ⟨w1, hmk, hown1, hg1⟩ := run_make_full (P := Try.prog) w w.heap.size 22 3 i0 (.int .i64 0) 1 Try.underlying22 hi hz0 hz1 .i64 .i64 N (by rw [hz2]; omega) (by unfold maxLen; omega) (Nat.le_refl _)
  have ec : (N : Int) = (xs.length : Int) + (ys.length : Int) + 1 := by omega
  rw [ec] at hmk
  have hb1 : Below w.heap.size w w1 := (Below.refl _ _).grown hg1 (Nat.le_refl _) (fun k hk => by cases hk)
  have hz : (madeCells (Value.int .i64 0).cells (N * 1)).toList = (List.replicate N (0 : Int)).map (Value.int .i64) := by
    rw [Nat.mul_one]
    have := toList_madeCells_one (Value.int .i64 0) N
    rw [List.map_replicate]
    exact this
  rw [hz] at hown1
  clear hg1 hi hz0 hz1 hz2 hz ec
  go_enter Try.func56, Try.ntmps56
  go_wp2
  go_loopw [6] (fun i wr => ∃ (n : Nat) (zs : List Int), n ≤ xs.length ∧ i = .int .i64 n ∧ zs.length = N ∧ inR zs ∧ (∀ m, n + ys.length ≤ m → zs.getD m 0 = 0) ∧ Hid (lval zs = lval (xs.take n) * lval ys) ∧ wr.ownsRow w.heap.size 3 1 (.slice (some ⟨w.heap.size, 0, none⟩) N N) N (zs.map (Value.int .i64)) ∧ Below w.heap.size w wr) (fun i _ => xs.length - (intOf i).toNat)
  case atStart => exact ⟨0, List.replicate N 0, by omega, rfl, List.length_replicate, fun x hx => by rw [List.eq_of_mem_replicate hx]; omega, fun m _ => by simp [List.getD_eq_getElem?_getD, List.getElem?_replicate]; split <;> rfl, by show _ = _; rw [lval_zeros]; simp [lval], hown1, hb1⟩
  case round =>
    obtain ⟨n, zs, hn, rfl, hzl, hzR, hzz, HL, hown, hbw⟩ := hrel
    by_cases hlt : n < xs.length
    · have hlt' : (n : Int) < (xs.length : Int) := by omega
      have gx := inR_getD hxr n
      have HT : Hid (lval (xs.take (n + 1)) = lval (xs.take n) + 16777216 ^ n * xs.getD n 0) := lval_take_succ xs n
      obtain ⟨xi, hxi⟩ : ∃ xi, xs.getD n 0 = xi := ⟨_, rfl⟩
      rw [hxi] at gx HT
      obtain ⟨gx0, gx1⟩ := gx
      go_wp2
      go_loopw [7, 8] (fun c j wr => ∃ (m : Nat) (cc : Int) (zs : List Int), m ≤ ys.length ∧ j = .int .i64 m ∧ c = .int .i64 cc ∧ 0 ≤ cc ∧ cc < 16777216 ∧ zs.length = N ∧ inR zs ∧ (∀ q, n + ys.length ≤ q → zs.getD q 0 = 0) ∧ Hid (lval zs + 16777216 ^ (n + m) * cc = lval (xs.take n) * lval ys + 16777216 ^ n * (xi * lval (ys.take m))) ∧ wr.ownsRow w.heap.size 3 1 (.slice (some ⟨w.heap.size, 0, none⟩) N N) N (zs.map (Value.int .i64)) ∧ Below w.heap.size w wr) (fun _ j _ => ys.length - (intOf j).toNat)
      case atStart => exact ⟨0, 0, zs, by omega, rfl, rfl, by omega, by omega, hzl, hzR, hzz, by show _ = _; rw [HL.out]; simp [lval], hown, hbw⟩
      case round =>
        clear hown hbw hzz hzR hzl HL
        obtain ⟨m, cc, zs, hm, rfl, rfl, c0, c1, hzl, hzR, hzz, HL, hown, hbw⟩ := hrel
        have hsz := hbw.size
        by_cases hlm : m < ys.length
        · have hlm' : (m : Int) < (ys.length : Int) := by omega
          obtain ⟨b1, o1, rfl, ca⟩ := (ha.below hbw (Nat.le_refl _)).at n hlt
          obtain ⟨b2, o2, rfl, cb⟩ := (hb.below hbw (Nat.le_refl _)).at m hlm
          have cz := cellsI_of hown hzl (n + m) (by omega)
          have fz := hown.frozenAt (n + m)
          have gy := inR_getD hyr m
          have gz := inR_getD hzR (n + m)
          have HTy : Hid (lval (ys.take (m + 1)) = lval (ys.take m) + 16777216 ^ m * ys.getD m 0) := lval_take_succ ys m
          obtain ⟨yj, hyj⟩ : ∃ yj, ys.getD m 0 = yj := ⟨_, rfl⟩
          obtain ⟨z, hz⟩ : ∃ z, zs.getD (n + m) 0 = z := ⟨_, rfl⟩
          rw [hyj] at gy cb HTy
          rw [hxi] at ca
          rw [hz] at gz cz
          obtain ⟨gy0, gy1⟩ := gy
          obtain ⟨gz0, gz1⟩ := gz
          obtain ⟨p0, p1⟩ := mul_lim gx0 gx1 gy0 gy1
          have HZ : Hid (zs.getD (n + m) 0 = z) := hz
          have HS := fun nq => (show (wr.drewN nq).ownsRow w.heap.size 3 1 (.slice (some ⟨w.heap.size, 0, none⟩) N N) N (zs.map (Value.int .i64)) from hown).stored (n + m) (.int .i64 ((z + xi * yj + cc) % 16777216))
          have HB : Hid (Below w.heap.size w wr) := hbw
          clear hown hbw hz hyj
          go_wp2
          go_quiet (fail)
          have hs := HS nq
          clear HS
          go_wp2
          go_roundw
          case rel =>
            refine ⟨m + 1, (z + xi * yj + cc) / 16777216, zs.set (n + m) ((z + xi * yj + cc) % 16777216), by omega, by go_num, rfl, by omega, by omega, by rw [List.length_set, hzl], inR_set hzR _ (by omega) (by omega), fun q hq => by rw [getD_set_ne _ _ _ _ (by omega)]; exact hzz q hq, ?_, by rw [List.map_set]; exact hs.1, ?_⟩
            · show _ = _
              rw [HTy.out]
              exact times_step n m cc _ z xi yj _ _ zs (by omega) HZ.out HL.out rfl
            · have hbq : Below w.heap.size w (wr.drewN nq) := Below.trans HB.out ⟨rfl, rfl, rfl, Nat.le_refl _, fun _ _ => rfl⟩
              exact Below.setCell (p := ⟨w.heap.size, n + m, none⟩) hbq (Nat.le_refl _) _
          case measure => simp [intOf]; omega
        · have hlm' : (ys.length : Int) ≤ (m : Int) := by omega
          have hme : m = ys.length := by omega
          subst hme
          have cz := cellsI_of hown hzl (n + ys.length) (by omega)
          rw [hzz _ (Nat.le_refl _)] at cz
          have fz := hown.frozenAt (n + ys.length)
          have hs := hown.stored (n + ys.length) (.int .i64 cc)
          have HB : Hid (Below w.heap.size w wr) := hbw
          clear hown hbw
          go_wp2
          go_roundw
          case rel =>
            refine ⟨n + 1, zs.set (n + ys.length) cc, by omega, by go_num, by rw [List.length_set, hzl], inR_set hzR _ c0 c1, fun q hq => by rw [getD_set_ne _ _ _ _ (by omega)]; exact hzz q (by omega), ?_, by rw [List.map_set]; exact hs.1, ?_⟩
            · show _ = _
              rw [lval_set _ _ _ (by omega), hzz _ (Nat.le_refl _), HT.out, Int.add_mul]
              have h3 := HL.out
              rw [List.take_length] at h3
              rw [Int.sub_zero, h3, Int.mul_assoc]
            · exact Below.setCell HB.out (Nat.le_refl _) _
          case measure => simp [intOf]; omega
    · have hlt' : (xs.length : Int) ≤ (n : Int) := by omega
      have hsz := hbw.size
      have hnum : num zs = num xs * num ys := by
        have h1 := num_val hzR
        have h2 := num_val hxr
        have h3 := num_val hyr
        have h4 := HL.out
        rw [List.take_of_length_le (by omega), ← h1, ← h2, ← h3] at h4
        exact_mod_cast h4
      have hownI : ownsI wr w.heap.size (.slice (some ⟨w.heap.size, 0, none⟩) N N) zs := by
        unfold ownsI
        rw [hzl]
        exact hown
      have kt := sTrim _ zs wr hownI.row hzR (by omega)
      rw [hnum] at kt
      clear HL hnum hownI hown hzz
      go_wp2_with fail
      refine kt.mono ?_
      rintro e w2 ⟨v1, rfl, o1, b1⟩
      go_wp2
      go_ret
      exact ⟨_, rfl, ownsI_mono o1 hsz, hbw.trans (b1.mono hsz)⟩

end Go.Proofs.Ytjelmbkngjlefaa

/- The specification's l2Pow, by its contract. -/
namespace Go.Proofs.Ytjelmbkngjlefaa
open Go.RowKit

theorem two_pow_le {k m : Nat} (h : k ≤ m) : (2 : Int) ^ k ≤ 2 ^ m := by
  have h1 := Nat.pow_le_pow_right (by omega : 0 < 2) h
  have e1 : ((2 ^ k : Nat) : Int) = (2 : Int) ^ k := by simp
  have e2 : ((2 ^ m : Nat) : Int) = (2 : Int) ^ m := by simp
  omega
theorem two_pow_pos (k : Nat) : (0 : Int) < 2 ^ k := Int.pow_pos (by omega)

set_option maxHeartbeats 800000 in
theorem sPow (k : Nat) (w : World) (hk : k ≤ 61) : Calls Try.prog 78 #[.int .i64 k] w fun e w' => e = .returned (.int .i64 ((2 : Int) ^ k)) ∧ w' = w := by
  go_enter Try.func78, Try.ntmps78
  go_wp2
  go_loop [3, 4] (fun t i => ∃ (j : Nat) (p : Int), j ≤ k ∧ i = .int .i64 j ∧ t = .int .i64 p ∧ Hid (p = (2 : Int) ^ j) ∧ 0 ≤ p ∧ p ≤ 2305843009213693952) (fun _ i => k - (intOf i).toNat)
  case atStart => exact ⟨0, 1, Nat.zero_le _, rfl, rfl, rfl, by omega, by omega⟩
  case round =>
    obtain ⟨j, p, hj, rfl, rfl, HP, p0, p1⟩ := hrel
    by_cases hlt : j < k
    · have hlt' : (j : Int) < (k : Int) := by omega
      have hb : p * 2 ≤ 2305843009213693952 := by
        have h1 := two_pow_le (show j + 1 ≤ 61 by omega)
        rw [Int.pow_succ, ← HP.out] at h1
        omega
      go_wp2
      go_round
      case rel => exact ⟨j + 1, p * 2, by omega, by go_num, rfl, by show _ = _; rw [HP.out, Int.pow_succ], by omega, hb⟩
      case measure => simp [intOf]; omega
    · have hjk : j = k := by omega
      subst hjk
      go_wp2
      go_ret
      exact ⟨by rw [← HP.out]; rfl, rfl⟩

end Go.Proofs.Ytjelmbkngjlefaa

/- The specification's l2Pow, by its contract, and what is said of limbs. -/

/- The specification's l2Up and NatShl, by their contracts. -/
namespace Go.Proofs.Ytjelmbkngjlefaa
open Go.RowKit

theorem up_step (i : Nat) (c x f A xk : Int) (ys : List Int) (hi : ys.length = i) (h : lval ys + 16777216 ^ i * c = f * A) (hx : x = xk * f + c) :
    lval (ys ++ [x % 16777216]) + 16777216 ^ (i + 1) * (x / 16777216) = f * (A + 16777216 ^ i * xk) := by
  rw [lval_snoc, hi, Int.pow_succ]
  have e : x = 16777216 * (x / 16777216) + x % 16777216 := by omega
  have e3 : (16777216 : Int) ^ i * x = 16777216 ^ i * 16777216 * (x / 16777216) + 16777216 ^ i * (x % 16777216) := by
    conv => lhs; rw [e]
    rw [Int.mul_add, ← Int.mul_assoc]
  have e2 : (16777216 : Int) ^ i * x = 16777216 ^ i * (xk * f) + 16777216 ^ i * c := by rw [hx, Int.mul_add]
  have e4 : f * (A + 16777216 ^ i * xk) = f * A + 16777216 ^ i * (xk * f) := by
    rw [Int.mul_add, Int.mul_comm xk f, ← Int.mul_assoc, ← Int.mul_assoc, Int.mul_comm f (16777216 ^ i)]
  omega

theorem mul_bd {d f : Int} (d0 : 0 ≤ d) (d1 : d < 16777216) (f0 : 0 < f) (_f1 : f ≤ 8388608) : 0 ≤ d * f ∧ d * f ≤ 16777215 * f := 
  ⟨Int.mul_nonneg d0 (by omega), Int.mul_le_mul_of_nonneg_right (by omega) (by omega)⟩

theorem pow24 (k : Nat) : (16777216 : Int) ^ (k / 24) * 2 ^ (k % 24) = 2 ^ k := by
  have e : (16777216 : Int) = 2 ^ 24 := by decide
  rw [e, ← Int.pow_mul, ← Int.pow_add]
  congr 1
  omega

set_option maxHeartbeats 1600000 in
/-- l2Up: the number times 2^k. -/
theorem sUp (v : Value) (xs : List Int) (k : Nat) (w : World) (h : rowI w v xs) (hr : inR xs) (hl : xs.length ≤ 1048576) (hk : k ≤ 16777216) :
    Calls Try.prog 58 #[v, .int .i64 k] w fun e w' => ∃ v', e = .returned v' ∧ ownsI w' w.heap.size v' (limbs (num xs * 2 ^ k)) ∧ Below w.heap.size w w' := by
  obtain ⟨a, cap, rfl, -⟩ := id h
  obtain ⟨i0, hi, hz0, hz1, hz2⟩ := info_parts Try.info3
  obtain ⟨w1, hmk, hown1, hg1⟩ := run_make_full (P := Try.prog) w w.heap.size 22 3 i0 (.int .i64 0) 1 Try.underlying22 hi hz0 hz1 .i64 .i64 (k / 24) (by rw [hz2]; omega) (by unfold maxLen; omega) (Nat.le_refl _)
  have ec : ((k / 24 : Nat) : Int) = (k : Int) / 24 := by omega
  rw [ec] at hmk
  have hb1 : Below w.heap.size w w1 := (Below.refl _ _).grown hg1 (Nat.le_refl _) (fun k hk => by cases hk)
  have hz : (madeCells (Value.int .i64 0).cells (k / 24 * 1)).toList = (List.replicate (k / 24) (0 : Int)).map (Value.int .i64) := by
    rw [Nat.mul_one]
    have := toList_madeCells_one (Value.int .i64 0) (k / 24)
    rw [List.map_replicate]
    exact this
  have ho1 : ownsI w1 w.heap.size (.slice (some ⟨w.heap.size, 0, none⟩) (k / 24) (k / 24)) (List.replicate (k / 24) 0) := by
    rw [hz] at hown1
    unfold ownsI
    rw [List.length_replicate]
    exact hown1
  have hf0 := two_pow_pos (k % 24)
  have hf1 : (2 : Int) ^ (k % 24) ≤ 8388608 := two_pow_le (show k % 24 ≤ 23 by omega)
  have hm24 : ((k % 24 : Nat) : Int) = (k : Int) % 24 := by omega
  have kp := sPow (k % 24) w1 (by omega)
  rw [hm24] at kp
  have hpw := pow24 k
  obtain ⟨f, hf⟩ : ∃ f, (2 : Int) ^ (k % 24) = f := ⟨_, rfl⟩
  rw [hf] at hf0 hf1 kp hpw
  have HPW : Hid ((16777216 : Int) ^ (k / 24) * f = 2 ^ k) := hpw
  have hrow1 := h.below hb1 (Nat.le_refl _)
  clear hown1 hg1 hi hz0 hz1 hz2 hf hm24 hpw hz ec
  go_enter Try.func58, Try.ntmps58
  go_wp2_with (go_at_call 78; refine kp.mono ?_; rintro e w1 ⟨rfl, rfl⟩)
  go_loopw [5, 7, 8, 9] (fun v c i x wr => ∃ (j : Nat) (cc : Int) (ys : List Int), j ≤ xs.length + 1 ∧ i = .int .i64 j ∧ c = .int .i64 cc ∧ 0 ≤ cc ∧ cc < f ∧ (xs.length < j → cc = 0) ∧ ys.length = j ∧ inR ys ∧ Hid (lval ys + 16777216 ^ j * cc = f * lval (xs.take j)) ∧ ownsI wr w.heap.size v (List.replicate (k / 24) 0 ++ ys) ∧ Below w.heap.size w wr) (fun _ _ i _ _ => xs.length + 1 - (intOf i).toNat)
  case atStart => exact ⟨0, 0, [], by omega, rfl, rfl, by omega, hf0, fun _ => rfl, rfl, inR_nil, by show _ = _; simp [lval], by rw [List.append_nil]; exact ho1, hb1⟩
  case round =>
    obtain ⟨j, cc, ys, hj, rfl, rfl, c0, c1, cz, hol, hoR, HL, hown, hbw⟩ := hrel
    have hsz := hbw.size
    by_cases hlt : j ≤ xs.length
    · have hlt' : (j : Int) ≤ (xs.length : Int) := by omega
      have kl := sLimb _ xs j wr (h.below hbw (Nat.le_refl _))
      have gx := inR_getD hr j
      have HT : Hid (lval (xs.take (j + 1)) = lval (xs.take j) + 16777216 ^ j * xs.getD j 0) := lval_take_succ xs j
      have hxz : xs.length ≤ j → xs.getD j 0 = 0 := fun h => by rw [List.getD_eq_getElem?_getD, List.getElem?_eq_none (by omega)]; rfl
      obtain ⟨xk, hxk⟩ : ∃ xk, xs.getD j 0 = xk := ⟨_, rfl⟩
      rw [hxk] at kl gx HT hxz
      obtain ⟨m0, m1⟩ := mul_bd gx.1 gx.2 hf0 hf1
      have HZ : Hid (xs.length ≤ j → xk = 0) := hxz
      have hlo : (List.replicate (k / 24) (0 : Int) ++ ys).length ≤ 1099511627776 := by rw [List.length_append, List.length_replicate]; omega
      clear hxk hxz gx
      go_wp2_with fail
      refine kl.mono ?_
      rintro e wr ⟨rfl, rfl⟩
      go_wp2_with (at_builtin; refine wpI_app w wr rfl (.tmp 29) (.tmp 32) rfl w.heap.size _ _ _ rfl hown hbw rfl hlo hsz ?_; intro v1 w2 o1 b1)
      go_roundw
      case rel =>
        refine ⟨j + 1, (xk * f + cc) / 16777216, ys ++ [(xk * f + cc) % 16777216], by omega, by go_num, rfl, by omega, by omega, fun h => ?_, by rw [List.length_append, List.length_singleton, hol], inR_append.2 ⟨hoR, inR_cons.2 ⟨by omega, inR_nil⟩⟩, ?_, by rw [← List.append_assoc]; exact o1, b1⟩
        · have z1 := HZ.out (by omega)
          rw [z1, Int.zero_mul]
          omega
        · show _ = _
          rw [HT.out]
          exact up_step j cc _ f _ xk ys hol HL.out rfl
      case measure => simp [intOf]; omega
    · have hlt' : ¬ (j : Int) ≤ (xs.length : Int) := by omega
      have hcz := cz (by omega)
      have hoR' : inR (List.replicate (k / 24) 0 ++ ys) := inR_append.2 ⟨fun x hx => by rw [List.eq_of_mem_replicate hx]; omega, hoR⟩
      have hnum : num (List.replicate (k / 24) 0 ++ ys) = num xs * 2 ^ k := by
        have h1 := num_val hoR'
        have h2 := num_val hr
        have h3 := HL.out
        rw [hcz, Int.mul_zero, Int.add_zero, List.take_of_length_le (by omega)] at h3
        rw [lval_append, lval_zeros, List.length_replicate, Int.zero_add, h3, ← Int.mul_assoc, HPW.out, ← h2] at h1
        have e : ((num xs * 2 ^ k : Nat) : Int) = 2 ^ k * (num xs : Int) := by simp [Int.mul_comm]
        omega
      have hrow := hown.row
      have hlo : (List.replicate (k / 24) (0 : Int) ++ ys).length ≤ 1073741824 := by rw [List.length_append, List.length_replicate]; omega
      have kt := sTrim _ _ wr hrow hoR' hlo
      rw [hnum] at kt
      clear HL hcz hnum hoR' hrow
      go_wp2_with fail
      refine kt.mono ?_
      rintro e w2 ⟨v1, rfl, o1, b1⟩
      go_wp2
      go_ret
      exact ⟨_, rfl, ownsI_mono o1 hsz, hbw.trans (b1.mono hsz)⟩

end Go.Proofs.Ytjelmbkngjlefaa

/- The specification's l2Down and NatShr, by their contracts. -/
namespace Go.Proofs.Ytjelmbkngjlefaa
open Go.RowKit

/-- 'append(row of the call's own, number)' as one step of a region that draws its order. -/
theorem stepI_app (w0 w : World) {ops : Array Oper} {o : Oper} {a : Act} {K : Act → World → Prop} {Q : Exit → Act → World → Prop} {E : Prop} (hgd : o.guard = none) (s x : Operand)
    (ho : o.op = Op.call { callee := Callee.builtin Builtin.append, args := #[s, x], argTypes := #[22, 22] }) (base : Nat) (v : Value) (xs : List Int) (y : Int)
    (hs : a.eval s = v) (hown : ownsI w base v xs) (hb : Below base w0 w) (hx : a.eval x = .slice (some ⟨w.heap.size, 0, none⟩) 1 1) (hlen : xs.length ≤ 1099511627776) (hbase : base ≤ w.heap.size)
    (h : ∀ v' w', ownsI w' base v' (xs ++ [y]) → Below base w0 w' → K (a.put o.dst v') w') :
    if Region.wanted o (yielded ops a.tmps) = true then Oper.wp Try.prog o a (w.alloc (.cells #[.int .i64 y] 3)) K Q else E := by
  have hw : Region.wanted o (yielded ops a.tmps) = true := by simp [Region.wanted, hgd]
  rw [if_pos hw]
  obtain ⟨i0, hi, hz0, hz1, hz2⟩ := info_parts Try.info3
  refine wp_append_own _ s x 22 ho base 3 i0 (.int .i64 0) 1 8 Try.underlying22 hi hz0 hz1 hz2 rfl (by decide) v xs.length (xs.map (Value.int .i64)) hs (World.ownsRow.alloc hown _) ⟨w.heap.size, 0, none⟩ 1 1 [.int .i64 y] hx rfl ?_ ?_ ?_ ?_ ?_ ?_
  · intro j u hj
    match j, hj with
    | 0, hj => simp at hj; subst hj; simp [Addr.add]
  · intro u hu; simp at hu; subst hu; rfl
  · unfold maxLen; omega
  · omega
  · simp; omega
  · intro v' w' ho' hg _
    refine h v' w' ?_ ((hb.alloc hbase _).grown hg (by simp; omega) fun k hk => (World.ownsRow.lt hown k hk).1)
    unfold ownsI
    simpa using ho'

theorem down_bd {d e f g : Int} (d0 : 0 ≤ d) (d1 : d < 16777216) (f0 : 0 < f) (g0 : 0 < g) (hfg : f * g = 16777216) : 0 ≤ d / f ∧ d / f < g ∧ 0 ≤ e % f * g ∧ e % f * g ≤ 16777216 - g := by
  have h1 : d / f < g := Int.ediv_lt_of_lt_mul f0 (by rw [Int.mul_comm]; omega)
  have h2 := Int.emod_nonneg e (Int.ne_of_gt f0)
  have h3 := Int.emod_lt_of_pos e f0
  have h4 : e % f * g ≤ (f - 1) * g := Int.mul_le_mul_of_nonneg_right (by omega) (by omega)
  rw [Int.sub_mul, hfg, Int.one_mul] at h4
  exact ⟨Int.ediv_nonneg d0 (by omega), h1, Int.mul_nonneg h2 (by omega), h4⟩

theorem down_step (s i : Nat) (hi : s ≤ i) (f g xi xj A T : Int) (zs : List Int) (hl : zs.length = i - s) (hfg : f * g = 16777216)
    (h : 16777216 ^ s * (f * lval zs) + T = A + 16777216 ^ i * (xi % f)) :
    16777216 ^ s * (f * lval (zs ++ [xi / f + xj % f * g])) + T = (A + 16777216 ^ i * xi) + 16777216 ^ (i + 1) * (xj % f) := by
  rw [lval_snoc, hl, Int.pow_succ]
  have e1 : (16777216 : Int) ^ i = 16777216 ^ s * 16777216 ^ (i - s) := by rw [← Int.pow_add]; congr 1; omega
  have e2 : xi = f * (xi / f) + xi % f := by have := Int.mul_ediv_add_emod xi f; omega
  obtain ⟨P, hP⟩ : ∃ P, (16777216 : Int) ^ s = P := ⟨_, rfl⟩
  obtain ⟨R, hR⟩ : ∃ R, (16777216 : Int) ^ (i - s) = R := ⟨_, rfl⟩
  obtain ⟨q, hq⟩ : ∃ q, xi / f = q := ⟨_, rfl⟩
  obtain ⟨r, hr⟩ : ∃ r, xi % f = r := ⟨_, rfl⟩
  obtain ⟨t, ht⟩ : ∃ t, xj % f = t := ⟨_, rfl⟩
  obtain ⟨Z, hZ⟩ : ∃ Z, lval zs = Z := ⟨_, rfl⟩
  rw [hq, hr] at e2
  rw [e1, hP, hR, hr, hZ] at h
  rw [e1, hP, hR, hq, ht, hZ]
  subst e2
  have e3 : f * (Z + R * (q + t * g)) = f * Z + R * (f * q) + R * t * (f * g) := by grind
  rw [e3, hfg]
  grind

theorem down_fin {V P f Z r t : Int} (h : P * (f * Z) + (t + P * r) = V) (hP : 0 < P) (hf : 0 < f) (t0 : 0 ≤ t) (t1 : t < P) (r0 : 0 ≤ r) (r1 : r < f) : V / (P * f) = Z := by
  have h1 : P * (r + 1) ≤ P * f := Int.mul_le_mul_of_nonneg_left (by omega) (by omega)
  have h2 : 0 ≤ P * r := Int.mul_nonneg (by omega) r0
  rw [Int.mul_add, Int.mul_one] at h1
  have h3 : V = (t + P * r) + (P * f) * Z := by rw [Int.mul_assoc]; omega
  rw [h3, Int.add_mul_ediv_left _ _ (by have := Int.mul_pos hP hf; omega), Int.ediv_eq_zero_of_lt (by omega) (by omega)]
  omega

set_option maxRecDepth 40000 in
set_option maxHeartbeats 1600000 in
/-- l2Down: the number by 2^k. -/
theorem sDown (v : Value) (xs : List Int) (k : Nat) (w : World) (h : rowI w v xs) (hr : inR xs) (hl : xs.length ≤ 1048576) (hk : k ≤ 16777216) :
    Calls Try.prog 57 #[v, .int .i64 k] w fun e w' => ∃ v', e = .returned v' ∧ ownsI w' w.heap.size v' (limbs (num xs / 2 ^ k)) ∧ Below w.heap.size w w' := by
  obtain ⟨a, cap, rfl, -⟩ := id h
  have hf0 := two_pow_pos (k % 24)
  have hf1 : (2 : Int) ^ (k % 24) ≤ 8388608 := two_pow_le (show k % 24 ≤ 23 by omega)
  have hm24 : ((k % 24 : Nat) : Int) = (k : Int) % 24 := by omega
  have hs24 : ((k / 24 : Nat) : Int) = (k : Int) / 24 := by omega
  have kp := sPow (k % 24) w (by omega)
  rw [hm24] at kp
  have hpw := pow24 k
  have hg0 := two_pow_pos (24 - k % 24)
  have hfg : (2 : Int) ^ (k % 24) * 2 ^ (24 - k % 24) = 16777216 := by rw [← Int.pow_add, show k % 24 + (24 - k % 24) = 24 by omega]; decide
  obtain ⟨f, hf⟩ : ∃ f, (2 : Int) ^ (k % 24) = f := ⟨_, rfl⟩
  obtain ⟨g, hg⟩ : ∃ g, (2 : Int) ^ (24 - k % 24) = g := ⟨_, rfl⟩
  rw [hf] at hf0 hf1 kp hpw hfg
  rw [hg] at hg0 hfg
  have hq : (16777216 : Int) / f = g := by rw [← hfg, Int.mul_ediv_cancel_left _ (by omega)]
  obtain ⟨s, hs⟩ : ∃ s, k / 24 = s := ⟨_, rfl⟩
  rw [hs] at hpw hs24
  have hs48 : s ≤ 700000 := by omega
  have HPW : Hid ((16777216 : Int) ^ s * f = 2 ^ k) := hpw
  have HFG : Hid (f * g = 16777216) := hfg
  clear hf hg hm24 hpw hfg hs
  have ho := made_own w
  go_enter Try.func57, Try.ntmps57
  go_wp2_with (go_at_call 78; refine kp.mono ?_; rintro e w ⟨rfl, rfl⟩)
  go_loopw [7, 8] (fun v i wr => ∃ (j : Nat) (zs : List Int), s ≤ j ∧ (s < j → j ≤ xs.length) ∧ i = .int .i64 j ∧ zs.length = j - s ∧ inR zs ∧ Hid (16777216 ^ s * (f * lval zs) + (lval (xs.take s) + 16777216 ^ s * (xs.getD s 0 % f)) = lval (xs.take j) + 16777216 ^ j * (xs.getD j 0 % f)) ∧ ownsI wr w.heap.size v zs ∧ Below w.heap.size w wr) (fun _ i _ => xs.length - (intOf i).toNat)
  case atStart => exact ⟨s, [], by omega, fun h => absurd h (by omega), by rw [hs24], by simp, inR_nil, by show _ = _; simp [lval], ho, (Below.refl _ _).alloc (Nat.le_refl _) _⟩
  case round =>
    obtain ⟨j, zs, hj1, hj2, rfl, hzl, hzR, HL, hown, hbw⟩ := hrel
    have hsz := hbw.size
    by_cases hlt : j < xs.length
    · have hrow := h.below hbw (Nat.le_refl _)
      have kl := sLimb _ xs (j + 1) wr.drew hrow
      have gx := inR_getD hr j
      have gy := inR_getD hr (j + 1)
      have HT : Hid (lval (xs.take (j + 1)) = lval (xs.take j) + 16777216 ^ j * xs.getD j 0) := lval_take_succ xs j
      obtain ⟨a', cap', e1, e2, e3, e4, e5, e6⟩ := hrow
      simp only [Value.slice.injEq, true_and] at e1
      obtain ⟨rfl, rfl⟩ := e1
      obtain ⟨bk, off, rfl, hbk, hc⟩ := e6 j hlt
      obtain ⟨xj, hxj⟩ : ∃ xj, xs.getD j 0 = xj := ⟨_, rfl⟩
      obtain ⟨xn, hxn⟩ : ∃ xn, xs.getD (j + 1) 0 = xn := ⟨_, rfl⟩
      rw [hxj] at hc gx HT HL
      rw [hxn] at kl gy
      obtain ⟨q0, q1, q2, q3⟩ := down_bd (e := xn) gx.1 gx.2 hf0 hg0 HFG.out
      have hlo : zs.length ≤ 1099511627776 := by omega
      have hbd : Below w.heap.size w wr.drew := hbw.drew
      have hcd : wr.drew.cell? ⟨bk, off + j, none⟩ = some (.int .i64 xj) := hc
      rw [show (((j + 1 : Nat)) : Int) = (j : Int) + 1 by omega] at kl
      have w1 : IntKind.i64.wrap ((j : Int) + 1) = (j : Int) + 1 := by rw [IntKind.wrap_i64]; omega
      have w2 : IntKind.i64.wrap (xj.tdiv f) = xj / f := by rw [Int.tdiv_eq_ediv_of_nonneg gx.1, IntKind.wrap_i64]; have := Int.ediv_le_self f gx.1; omega
      have r0 := Int.emod_nonneg xn (Int.ne_of_gt hf0)
      have r1 := Int.emod_lt_of_pos xn hf0
      have w7 : xn.tmod f = xn % f := Int.tmod_eq_emod_of_nonneg gy.1
      have hgb : g ≤ 16777216 := by rw [← hq]; exact Int.ediv_le_self f (by omega)
      have w4 : IntKind.i64.wrap ((16777216 : Int).tdiv f) = g := by rw [Int.tdiv_eq_ediv_of_nonneg (by omega), hq, IntKind.wrap_i64]; omega
      have w5 : IntKind.i64.wrap (xn % f * g) = xn % f * g := by rw [IntKind.wrap_i64]; omega
      have w6 : IntKind.i64.wrap (xj / f + xn % f * g) = xj / f + xn % f * g := by rw [IntKind.wrap_i64]; omega
      have hfn : f ≠ 0 := by omega
      clear e6 e4 e5
      go_wp2_with fail
      go_region_law (first
        | (refine stepI_app w wr.drew rfl (.tmp 22) (.tmp 39) rfl w.heap.size _ zs _ rfl hown hbd rfl hlo hsz ?_; intro v1 w2 o1 b1)
        | (go_simp; go_wp2_with (go_at_call 76; refine kl.mono ?_; rintro e w9 ⟨rfl, rfl⟩)))
      all_goals
        go_wp2
        go_roundw
        case rel =>
          refine ⟨j + 1, zs ++ [xj / f + xn % f * g], by omega, fun _ => by omega, by go_num, by rw [List.length_append, List.length_singleton, hzl]; omega, inR_append.2 ⟨hzR, inR_cons.2 ⟨by omega, inR_nil⟩⟩, ?_, o1, b1⟩
          show _ = _
          rw [HT.out, hxn]
          exact down_step s j hj1 f g xj xn _ _ zs hzl HFG.out HL.out
        case measure => simp [intOf]; omega
    · have hlt' : (xs.length : Int) ≤ (j : Int) := by omega
      have hnum : num zs = num xs / 2 ^ k := by
        have h1 := num_val hzR
        have h2 := num_val hr
        have h3 := HL.out
        have ez : xs.getD j 0 = 0 := by rw [List.getD_eq_getElem?_getD, List.getElem?_eq_none (by omega)]; rfl
        rw [ez, Int.zero_emod, Int.mul_zero, Int.add_zero, List.take_of_length_le (show xs.length ≤ j by omega)] at h3
        have h4 := down_fin h3 (pow_pos s) hf0 (lval_nonneg (inR_take hr s)) (lval_take_lt hr s) (Int.emod_nonneg _ (Int.ne_of_gt hf0)) (Int.emod_lt_of_pos _ hf0)
        rw [HPW.out, ← h2, ← h1] at h4
        have e : ((num xs / 2 ^ k : Nat) : Int) = (num xs : Int) / 2 ^ k := by simp
        omega
      have hrow := hown.row
      have hlo : zs.length ≤ 1073741824 := by omega
      have kt := sTrim _ _ wr hrow hzR hlo
      rw [hnum] at kt
      clear HL hnum hrow
      go_wp2_with fail
      refine kt.mono ?_
      rintro e w2 ⟨v1, rfl, o1, b1⟩
      go_wp2
      go_ret
      exact ⟨_, rfl, ownsI_mono o1 hsz, hbw.trans (b1.mono hsz)⟩

end Go.Proofs.Ytjelmbkngjlefaa

/- The specification's l2Bits and NatBits, by their contracts. -/
namespace Go.Proofs.Ytjelmbkngjlefaa
open Go.RowKit

/-- How many bits a number has. -/
def nbits (n : Nat) : Nat := if n = 0 then 0 else nbits (n / 2) + 1
  termination_by n
  decreasing_by omega
theorem nbits_zero : nbits 0 = 0 := by rw [nbits]; simp
theorem nbits_pos (n : Nat) (h : 0 < n) : nbits n = nbits (n / 2) + 1 := by
  conv => lhs; rw [nbits]
  rw [if_neg (by omega)]
theorem nbits_high (p : Nat) : ∀ (a b : Nat), a < 2 ^ p → 0 < b → nbits (a + 2 ^ p * b) = p + nbits b := by
  induction p with
  | zero => intro a b h hb; have : a = 0 := by simpa using h
            subst this; simp
  | succ p ih =>
    intro a b h hb
    have h2 : 2 ^ (p + 1) * b = 2 * (2 ^ p * b) := by rw [Nat.pow_succ, Nat.mul_comm (2 ^ p) 2, Nat.mul_assoc]
    have hp : 0 < 2 ^ p * b := Nat.mul_pos (Nat.pow_pos (by omega)) hb
    rw [Nat.pow_succ] at h
    rw [h2, nbits_pos _ (by omega), show (a + 2 * (2 ^ p * b)) / 2 = a / 2 + 2 ^ p * b by omega, ih (a / 2) b (by omega) hb]
    omega
theorem base_pow (k : Nat) : 16777216 ^ k = 2 ^ (24 * k) := by rw [Nat.pow_mul]
/-- Bits of a list of limbs: by its last one. -/
theorem nbits_limbs {xs : List Int} (h : inR xs) (m : Nat) (hm : xs.length = m + 1) (hz : xs.getD m 0 ≠ 0) : nbits (num xs) = 24 * m + nbits (xs.getD m 0).toNat := by
  have hd := inR_getD h m
  have h1 := lval_split xs m
  have h2 := lval_drop xs m
  rw [List.drop_of_length_le (by omega : xs.length ≤ m + 1)] at h2
  simp only [lval, Int.mul_zero, Int.add_zero] at h2
  rw [h2] at h1
  have h3 := lval_take_lt h m
  have h4 := lval_nonneg (inR_take h m)
  have h5 := num_val h
  obtain ⟨t, ht⟩ := Int.eq_ofNat_of_zero_le h4
  obtain ⟨d, hdd⟩ := Int.eq_ofNat_of_zero_le hd.1
  rw [hdd] at h1 hz hd ⊢
  rw [ht] at h1 h3
  have e1 : ((16777216 ^ m : Nat) : Int) = (16777216 : Int) ^ m := by simp
  have h6 : num xs = t + 16777216 ^ m * d := by
    have : ((t + 16777216 ^ m * d : Nat) : Int) = (num xs : Int) := by
      rw [h5, h1]; simp
    omega
  rw [h6, base_pow, nbits_high (24 * m) t d (by rw [← base_pow]; omega) (by omega)]
  simp

def bitsR (xs : List Int) : Int := if okB xs = true then (nbits (num xs) : Int) else -1

theorem nbits_le (n : Nat) : nbits n ≤ n := by
  induction n using Nat.strongRecOn with
  | ind n ih =>
    by_cases h : n = 0
    · subst h; rw [nbits_zero]; omega
    · rw [nbits_pos n (by omega)]
      have := ih (n / 2) (by omega)
      omega

theorem nbits_le_pow (p : Nat) : ∀ n, n < 2 ^ p → nbits n ≤ p := by
  induction p with
  | zero => intro n h; have : n = 0 := by simpa using h
            subst this; rw [nbits_zero]; omega
  | succ p ih =>
    intro n h
    by_cases h0 : n = 0
    · subst h0; rw [nbits_zero]; omega
    · rw [nbits_pos n (by omega)]
      have := ih (n / 2) (by rw [Nat.pow_succ] at h; omega)
      omega
theorem lt_nbits (n : Nat) : n < 2 ^ nbits n := by
  induction n using Nat.strongRecOn with
  | ind n ih =>
    by_cases h : n = 0
    · subst h; rw [nbits_zero]; simp
    · rw [nbits_pos n (by omega), Nat.pow_succ]
      have := ih (n / 2) (by omega)
      omega
theorem num_lt {xs : List Int} (h : inR xs) : num xs < 2 ^ (24 * xs.length) := by
  have h1 := lval_lt h
  have h2 := num_val h
  have e : (((2 : Nat) ^ (24 * xs.length) : Nat) : Int) = (16777216 : Int) ^ xs.length := by
    rw [Nat.pow_mul]; simp
  omega
theorem nbits_len {xs : List Int} (h : inR xs) : nbits (num xs) ≤ 24 * xs.length := nbits_le_pow _ _ (num_lt h)

set_option maxHeartbeats 800000 in
theorem sBits (v : Value) (xs : List Int) (w : World) (h : rowI w v xs) (hok : inR xs ∧ noZ xs) (hlen : xs.length ≤ 1048576) :
    Calls Try.prog 83 #[v] w fun e w' => e = .returned (.int .i64 (nbits (num xs))) ∧ w' = w := by
  obtain ⟨a, cap, rfl, h2, h3, h4, h5, h6⟩ := h
  clear h4 h5
  by_cases h0 : xs.length = 0
  · have hx : xs = [] := List.eq_nil_of_length_eq_zero h0
    have HE : Hid (nbits (num xs) = 0) := by show _ = _; rw [hx]; exact nbits_zero
    have e0 : ((xs.length : Int) == 0) = true := by rw [h0]; rfl
    clear hx h6
    go_enter Try.func83, Try.ntmps83
    go_wp2
    go_ret
    exact ⟨by rw [HE.out]; rfl, rfl⟩
  · obtain ⟨m, hm⟩ : ∃ m, m + 1 = xs.length := ⟨xs.length - 1, by omega⟩
    have hz : xs.getD m 0 ≠ 0 := by
      have hne : xs ≠ [] := by intro e; rw [e] at h0; simp at h0
      have := hok.2 hne
      rw [last_getD hne] at this
      rwa [show xs.length - 1 = m by omega] at this
    have hb := nbits_limbs hok.1 m hm.symm hz
    have hd := inR_getD hok.1 m
    obtain ⟨g, off, rfl, hg, hc⟩ := h6 (xs.length - 1) (by omega)
    rw [show xs.length - 1 = m by omega] at hc
    have hc' : w.cell? ⟨g, off + (xs.length - 1), none⟩ = some (.int .i64 (xs.getD m 0)) := by rw [show xs.length - 1 = m by omega]; exact hc
    obtain ⟨d, hdd⟩ : ∃ d, xs.getD m 0 = d := ⟨_, rfl⟩
    rw [hdd] at hb hd hc'
    obtain ⟨dn, rfl⟩ := Int.eq_ofNat_of_zero_le hd.1
    have e0 : ((xs.length : Int) == 0) = false := by rw [beq_eq_false_iff_ne]; omega
    have HB : Hid (nbits (num xs) = 24 * m + nbits dn) := by show _ = _; simpa using hb
    have HM : Hid (m + 1 = xs.length) := hm
    have hd1 := hd.2
    clear hb hc hdd hz hok h6 hm hd
    go_enter Try.func83, Try.ntmps83
    go_wp2
    go_loop [3, 4] (fun t i => ∃ (x : Nat) (n : Int), (x : Int) < 16777216 ∧ i = .int .i64 x ∧ t = .int .i64 n ∧ 0 ≤ n ∧ n + x ≤ 100000000 ∧ Hid (n + nbits x = (nbits (num xs) : Int))) (fun _ i => (intOf i).toNat)
    case atStart => exact ⟨dn, 24 * ((xs.length : Int) - 1), hd1, rfl, by go_num, by omega, by omega, by show _ = _; rw [HB.out]; have := HM.out; omega⟩
    case round =>
      obtain ⟨x, n, hx, rfl, rfl, n0, n1, HN⟩ := hrel
      by_cases hlt : 0 < x
      · have hlt' : (0 : Int) < (x : Int) := by omega
        have hnb := nbits_pos x hlt
        have HNB : Hid (nbits x = nbits (x / 2) + 1) := hnb
        clear hnb
        go_wp2
        go_round
        case rel => exact ⟨x / 2, n + 1, by omega, by go_num, rfl, by omega, by omega, by show _ = _; have h1 := HN.out; rw [HNB.out] at h1; omega⟩
        case measure => simp [intOf]; omega
      · have hx0 : x = 0 := by omega
        subst hx0
        have hfin : n = (nbits (num xs) : Int) := by have := HN.out; rw [nbits_zero] at this; omega
        have HF : Hid (n = (nbits (num xs) : Int)) := hfin
        clear hfin
        go_wp2
        go_ret
        exact ⟨by rw [← HF.out]; rfl, rfl⟩

end Go.Proofs.Ytjelmbkngjlefaa
