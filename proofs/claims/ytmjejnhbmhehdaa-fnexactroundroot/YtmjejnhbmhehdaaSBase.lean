/- Several small texts in one: SMake, SLimb, SMax, STrim, SPlus, SLess, SCmp, SWAdd, CutW, RoundM, BoxLt, SPick. -/
import Derived.Test.YtmjejnhbmhehdaaBase
import Derived.Deep.QuietTactic
import Derived.BigQuiet
import Derived.Deep.RegionHeld
/- The specification's l4Make, by its contract. -/
namespace Go.Proofs.Ytmjejnhbmhehdaa
open Go.RowKit

theorem mkW_sign (neg : Bool) (m : Nat) : mkW (if neg = true then -(m : Int) else (m : Int)) = (neg && decide (0 < m), limbs m) := by
  unfold mkW
  cases neg <;> simp

set_option maxHeartbeats 1600000 in
theorem sMake (neg : Bool) (s : Value) (m : Nat) (base : Nat) (w : World) (h : ownsI w base s (limbs m)) (hl : (limbs m).length ≤ 1073741824) :
    Calls Try.prog 35 #[.bool neg, s] w fun e w' => ∃ v, e = .returned v ∧ ownsW w' base v (mkW (if neg = true then -(m : Int) else (m : Int))) ∧ Below w.heap.size w w' := by
  obtain ⟨ad, cap, rfl, -⟩ := h.row
  have hm : decide ((0 : Int) < ((limbs m).length : Int)) = decide (0 < m) := by
    by_cases h0 : m = 0
    · subst h0; rw [limbs_zero]; rfl
    · have : 0 < (limbs m).length := by rw [limbs_pos m (by omega)]; simp
      simp; omega
  have hm' : decide (0 < (limbs m).length) = decide (0 < m) := by rw [← hm]; simp
  have H0 : Hid (mkW (m : Int) = (false, limbs m)) := by show _ = _; have := mkW_sign false m; simpa using this
  have H1 : Hid (mkW (-(m : Int)) = (decide (0 < (limbs m).length), limbs m)) := by
    show _ = _
    have := mkW_sign true m
    rw [hm']
    simpa using this
  have HO : Hid (ownsI w base (.slice ad (limbs m).length cap) (limbs m)) := h
  clear h hm hm'
  cases neg
  · go_enter Try.func35, Try.ntmps35
    go_wp2
    (try simp only [Exit.inBlock, Exit.then])
    refine bodyPost_ret (v := .agg #[.bool false, .slice ad (limbs m).length cap]) ?_ rfl ⟨_, rfl, ?_, below1 _ _⟩
    · rw [results_cell1 rfl]
      go_simp
    · rw [H0.out]
      exact ⟨_, rfl, World.ownsRow.alloc HO.out _⟩
  · go_enter Try.func35, Try.ntmps35
    go_wp2
    (try simp only [Exit.inBlock, Exit.then])
    refine bodyPost_ret (v := .agg #[.bool (decide (0 < (limbs m).length)), .slice ad (limbs m).length cap]) ?_ rfl ⟨_, rfl, ?_, below1 _ _⟩
    · rw [results_cell1 rfl]
      go_simp
    · rw [H1.out]
      exact ⟨_, rfl, World.ownsRow.alloc HO.out _⟩

end Go.Proofs.Ytmjejnhbmhehdaa

/- The specification's l2Limb, by its contract. -/
namespace Go.Proofs.Ytmjejnhbmhehdaa
open Go.RowKit

theorem sLimb (v : Value) (xs : List Int) (i : Nat) (w : World) (h : rowI w v xs) :
    Calls Try.prog 102 #[v, .int .i64 i] w fun e w' => e = .returned (.int .i64 (xs.getD i 0)) ∧ w' = w := by
  obtain ⟨a, cap, rfl, h2, h3, h4, h5, h6⟩ := h
  by_cases hi : i < xs.length
  · obtain ⟨g, off, rfl, hg, hc⟩ := h6 i hi
    obtain ⟨d, hd⟩ : ∃ d, xs.getD i 0 = d := ⟨_, rfl⟩
    rw [hd] at hc ⊢
    clear hd h6 h4 h5
    go_enter Try.func102, Try.ntmps102
    go_wp2
    go_ret
    exact ⟨rfl, rfl⟩
  · have e : xs.getD i 0 = 0 := by rw [List.getD_eq_getElem?_getD, List.getElem?_eq_none (by omega)]; rfl
    rw [e]
    clear e h6 h4 h5
    go_enter Try.func102, Try.ntmps102
    go_wp2
    go_ret
    exact ⟨rfl, rfl⟩

end Go.Proofs.Ytmjejnhbmhehdaa

/- The specification's l1Max, by its contract. -/
namespace Go.Proofs.Ytmjejnhbmhehdaa
open Go.RowKit

theorem sMax (m n : Nat) (w : World) : Calls Try.prog 101 #[.int .i64 m, .int .i64 n] w fun e w' => e = .returned (.int .i64 (max m n : Nat)) ∧ w' = w := by
  by_cases h : (n : Int) < (m : Int)
  · have e : max m n = m := by omega
    rw [e]
    clear e
    go_enter Try.func101, Try.ntmps101
    go_wp2
    go_ret
    exact ⟨rfl, rfl⟩
  · have e : max m n = n := by omega
    rw [e]
    clear e
    go_enter Try.func101, Try.ntmps101
    go_wp2
    go_ret
    exact ⟨rfl, rfl⟩

end Go.Proofs.Ytmjejnhbmhehdaa

/- The specification's l2Trim, by its contract. -/
namespace Go.Proofs.Ytmjejnhbmhehdaa
open Go.RowKit

set_option maxHeartbeats 1600000 in
/-- l2Trim: the right list, in new memory. -/
theorem sTrim (v : Value) (xs : List Int) (w : World) (h : rowI w v xs) (hr : inR xs) (hl : xs.length ≤ 1073741824) :
    Calls Try.prog 103 #[v] w fun e w' => ∃ v', e = .returned v' ∧ ownsI w' w.heap.size v' (limbs (num xs)) ∧ Below w.heap.size w w' := by
  have hrow := h
  obtain ⟨a, cap, rfl, h2, h3, h4, h5, h6⟩ := h
  have H6 : Hid (∀ j, j < xs.length → ∃ g off, a = some ⟨g, off, none⟩ ∧ g < w.heap.size ∧ w.cell? ⟨g, off + j, none⟩ = some (.int .i64 (xs.getD j 0))) := h6
  clear h6 h4 h5
  have hbm : Below w.heap.size w (w.alloc (.cells #[] 3)) := (Below.refl _ _).alloc (Nat.le_refl _) _
  have hrow' : rowI (w.alloc (.cells #[] 3)) (.slice a xs.length cap) xs := hrow.below hbm (Nat.le_refl _)
  clear hrow
  go_enter Try.func103, Try.ntmps103
  go_wp2
  go_loop [3] (fun i => ∃ n : Nat, n ≤ xs.length ∧ i = .int .i64 n ∧ ∀ j, n ≤ j → j < xs.length → xs.getD j 0 = 0) (fun i => (intOf i).toNat)
  case atStart => exact ⟨xs.length, Nat.le_refl _, rfl, fun j h1 h2 => by omega⟩
  case round =>
    obtain ⟨n, hn, rfl, hz⟩ := hrel
    have HZ : Hid (∀ j, n ≤ j → j < xs.length → xs.getD j 0 = 0) := hz
    clear hz
    by_cases hn0 : n = 0
    · subst hn0
      have hn' : ¬ (0 : Int) < ((0 : Nat) : Int) := by omega
      have hfin := trim_limbs xs 0 hr (by omega) HZ.out (fun h => absurd h (by omega))
      have HF : Hid (xs.take 0 = limbs (num xs)) := hfin
      clear hfin
      go_wp2_with (at_builtin; refine wpI_all w _ rfl (.tmp 18) (.tmp 21) rfl w.heap.size _ _ [] (xs.take 0) rfl (made_own w) rfl (hrow'.take 0 (by omega)) hbm (by rw [List.length_take, List.length_nil]; omega) (by simp) ?_; intro v1 w1 o1 b1)
      go_ret
      exact ⟨_, rfl, by rw [← HF.out]; exact o1, b1⟩
    · obtain ⟨m, rfl⟩ : ∃ m, n = m + 1 := ⟨n - 1, by omega⟩
      obtain ⟨g, off, rfl, hg, hc⟩ := H6.out m (by omega)
      have hnp : (0 : Int) < ((m + 1 : Nat) : Int) := by omega
      by_cases hd : xs.getD m 0 = 0
      · rw [hd] at hc
        have HN : Hid (∀ j, m ≤ j → j < xs.length → xs.getD j 0 = 0) := fun j h1 h2 => by
          by_cases e : j = m
          · subst e; exact hd
          · exact HZ.out j (by omega) h2
        clear hd
        go_wp2
        go_round
        case rel => exact ⟨m, by omega, by go_num, HN.out⟩
        case measure => simp [intOf]
      · have HF : Hid (xs.take (m + 1) = limbs (num xs)) := trim_limbs xs (m + 1) hr hn HZ.out (fun _ => hd)
        obtain ⟨d, hdd⟩ : ∃ d, xs.getD m 0 = d := ⟨_, rfl⟩
        rw [hdd] at hc hd
        have ed : (d == 0) = false := by rw [beq_eq_false_iff_ne]; exact hd
        clear hdd hd
        go_wp2_with (at_builtin; refine wpI_all w _ rfl (.tmp 18) (.tmp 21) rfl w.heap.size _ _ [] (xs.take (m + 1)) rfl (made_own w) rfl (hrow'.take (m + 1) hn) hbm (by rw [List.length_take, List.length_nil]; omega) (by simp) ?_; intro v1 w1 o1 b1)
        go_ret
        exact ⟨_, rfl, by rw [← HF.out]; exact o1, b1⟩

end Go.Proofs.Ytmjejnhbmhehdaa

/- The specification's l2Plus, by its contract. -/
namespace Go.Proofs.Ytmjejnhbmhehdaa
open Go.RowKit

set_option maxHeartbeats 1600000 in
/-- l2Plus: the sum. -/
theorem sPlus (va vb : Value) (xs ys : List Int) (w : World) (ha : rowI w va xs) (hb : rowI w vb ys) (hxr : inR xs) (hyr : inR ys) (hlx : xs.length ≤ 1048576) (hly : ys.length ≤ 1048576) :
    Calls Try.prog 73 #[va, vb] w fun e w' => ∃ v', e = .returned v' ∧ ownsI w' w.heap.size v' (limbs (num xs + num ys)) ∧ Below w.heap.size w w' := by
  obtain ⟨a1, cap1, rfl, -⟩ := id ha
  obtain ⟨a2, cap2, rfl, -⟩ := id hb
  go_enter Try.func73, Try.ntmps73
  go_wp2
  go_loopw [5, 6, 7, 8] (fun v c i x wr => ∃ (k : Nat) (cc : Int) (out : List Int), k ≤ max xs.length ys.length + 1 ∧ i = .int .i64 k ∧ c = .int .i64 cc ∧ 0 ≤ cc ∧ cc ≤ 1 ∧ (max xs.length ys.length < k → cc = 0) ∧ out.length = k ∧ inR out ∧ Hid (lval out + 16777216 ^ k * cc = lval (xs.take k) + lval (ys.take k)) ∧ ownsI wr w.heap.size v out ∧ Below w.heap.size w wr) (fun _ _ i _ _ => max xs.length ys.length + 1 - (intOf i).toNat)
  case atStart => exact ⟨0, 0, [], by omega, rfl, rfl, by omega, by omega, fun _ => rfl, rfl, inR_nil, by show _ = _; simp [lval], made_own w, (Below.refl _ _).alloc (Nat.le_refl _) _⟩
  case round =>
    obtain ⟨k, cc, out, hk, rfl, rfl, c0, c1, cz, hol, hoR, HL, hown, hbw⟩ := hrel
    have hsz := hbw.size
    have ha' := ha.below hbw (Nat.le_refl _)
    have hb' := hb.below hbw (Nat.le_refl _)
    have gx := inR_getD hxr k
    have gy := inR_getD hyr k
    by_cases hlt : k ≤ max xs.length ys.length
    · have HT : Hid (lval (xs.take (k + 1)) = lval (xs.take k) + 16777216 ^ k * xs.getD k 0 ∧ lval (ys.take (k + 1)) = lval (ys.take k) + 16777216 ^ k * ys.getD k 0) := ⟨lval_take_succ xs k, lval_take_succ ys k⟩
      have hxz : xs.length ≤ k → xs.getD k 0 = 0 := fun h => by rw [List.getD_eq_getElem?_getD, List.getElem?_eq_none (by omega)]; rfl
      have hyz : ys.length ≤ k → ys.getD k 0 = 0 := fun h => by rw [List.getD_eq_getElem?_getD, List.getElem?_eq_none (by omega)]; rfl
      have cx := sLimb _ xs k wr ha'
      have cy := sLimb _ ys k wr hb'
      obtain ⟨xk, hxk⟩ : ∃ xk, xs.getD k 0 = xk := ⟨_, rfl⟩
      obtain ⟨yk, hyk⟩ : ∃ yk, ys.getD k 0 = yk := ⟨_, rfl⟩
      rw [hxk] at gx HT hxz cx
      rw [hyk] at gy HT hyz cy
      obtain ⟨gx0, gx1⟩ := gx
      obtain ⟨gy0, gy1⟩ := gy
      have HZ : Hid ((xs.length ≤ k → xk = 0) ∧ (ys.length ≤ k → yk = 0)) := ⟨hxz, hyz⟩
      clear hxk hyk ha' hb' hxz hyz
      have hlt' : (k : Int) ≤ ((max xs.length ys.length : Nat) : Int) := by omega
      go_wp2_with fail
      refine (sMax xs.length ys.length wr).mono ?_
      rintro e wr ⟨rfl, rfl⟩
      go_wp2_with fail
      refine cx.mono ?_
      rintro e wr ⟨rfl, rfl⟩
      go_wp2_with fail
      refine cy.mono ?_
      rintro e wr ⟨rfl, rfl⟩
      clear cx cy
      go_wp2_with (at_builtin; refine wpI_app w wr rfl (.tmp 28) (.tmp 31) rfl w.heap.size _ out _ rfl hown hbw rfl (by omega) hsz ?_; intro v1 w1 o1 b1)
      go_roundw
      case rel =>
        refine ⟨k + 1, (xk + yk + cc) / 16777216, out ++ [(xk + yk + cc) % 16777216], by omega, by go_num, rfl, by omega, by omega, fun h => ?_, by rw [List.length_append, List.length_singleton, hol], inR_append.2 ⟨hoR, inR_cons.2 ⟨by omega, inR_nil⟩⟩, ?_, o1, b1⟩
        · have z1 := HZ.out.1 (by omega)
          have z2 := HZ.out.2 (by omega)
          omega
        · show _ = _
          rw [HT.out.1, HT.out.2]
          exact plus_step k cc _ _ _ out hol HL.out xk yk rfl
      case measure => simp [intOf]; omega
    · have hke : k = max xs.length ys.length + 1 := by omega
      have hlt' : ¬ (k : Int) ≤ ((max xs.length ys.length : Nat) : Int) := by omega
      have hcz := cz (by omega)
      have hval : lval out = lval xs + lval ys := by
        have := HL.out
        rw [hcz, Int.mul_zero, Int.add_zero, List.take_of_length_le (by omega), List.take_of_length_le (by omega)] at this
        exact this
      have hnum : num out = num xs + num ys := by
        have h1 := num_val hoR
        have h2 := num_val hxr
        have h3 := num_val hyr
        omega
      have hrow := hown.row
      have hlo : out.length ≤ 1073741824 := by omega
      clear hval HL hcz ha' hb' gx gy
      go_wp2_with fail
      refine (sMax xs.length ys.length wr).mono ?_
      rintro e wr ⟨rfl, rfl⟩
      go_wp2_with fail
      refine (sTrim _ out wr hrow hoR hlo).mono ?_
      rintro e w1 ⟨v1, rfl, o1, b1⟩
      rw [hnum] at o1
      go_wp2
      go_ret
      exact ⟨_, rfl, ownsI_mono o1 hsz, hbw.trans (b1.mono hsz)⟩

end Go.Proofs.Ytmjejnhbmhehdaa

/- The specification's l2Less, by its contract. -/
namespace Go.Proofs.Ytmjejnhbmhehdaa
open Go.RowKit

set_option maxHeartbeats 1600000 in
/-- l2Less: the difference, a being no smaller. -/
theorem sLess (va vb : Value) (xs ys : List Int) (w : World) (ha : rowI w va xs) (hb : rowI w vb ys) (hxr : inR xs) (hyr : inR ys) (hlx : xs.length ≤ 1048576) (hly : ys.length ≤ xs.length) (hge : num ys ≤ num xs) :
    Calls Try.prog 75 #[va, vb] w fun e w' => ∃ v', e = .returned v' ∧ ownsI w' w.heap.size v' (limbs (num xs - num ys)) ∧ Below w.heap.size w w' := by
  obtain ⟨a1, cap1, rfl, -, -, -, -, h6⟩ := id ha
  obtain ⟨a2, cap2, rfl, -⟩ := id hb
  have H6 : Hid (∀ j, j < xs.length → ∃ g off, a1 = some ⟨g, off, none⟩ ∧ g < w.heap.size ∧ w.cell? ⟨g, off + j, none⟩ = some (.int .i64 (xs.getD j 0))) := h6
  clear h6
  go_enter Try.func75, Try.ntmps75
  go_wp2
  go_loopw [5, 6, 7, 8] (fun v c i x wr => ∃ (k : Nat) (bb : Int) (out : List Int), k ≤ xs.length ∧ i = .int .i64 k ∧ c = .int .i64 bb ∧ 0 ≤ bb ∧ bb ≤ 1 ∧ out.length = k ∧ inR out ∧ Hid (lval out - 16777216 ^ k * bb = lval (xs.take k) - lval (ys.take k)) ∧ ownsI wr w.heap.size v out ∧ Below w.heap.size w wr) (fun _ _ i _ _ => xs.length - (intOf i).toNat)
  case atStart => exact ⟨0, 0, [], by omega, rfl, rfl, by omega, by omega, rfl, inR_nil, by show _ = _; simp [lval], made_own w, (Below.refl _ _).alloc (Nat.le_refl _) _⟩
  case round =>
    obtain ⟨k, bb, out, hk, rfl, rfl, c0, c1, hol, hoR, HL, hown, hbw⟩ := hrel
    have hsz := hbw.size
    have hb' := hb.below hbw (Nat.le_refl _)
    have gx := inR_getD hxr k
    have gy := inR_getD hyr k
    by_cases hlt : k < xs.length
    · obtain ⟨g, off, rfl, hg, hc0⟩ := H6.out k hlt
      have hc : wr.cell? ⟨g, off + k, none⟩ = some (.int .i64 (xs.getD k 0)) := (hbw.cell (p := ⟨g, off + k, none⟩) hg).trans hc0
      have HT : Hid (lval (xs.take (k + 1)) = lval (xs.take k) + 16777216 ^ k * xs.getD k 0 ∧ lval (ys.take (k + 1)) = lval (ys.take k) + 16777216 ^ k * ys.getD k 0) := ⟨lval_take_succ xs k, lval_take_succ ys k⟩
      have cy := fun W (h : rowI W (.slice a2 ys.length cap2) ys) => sLimb _ ys k W h
      obtain ⟨xk, hxk⟩ : ∃ xk, xs.getD k 0 = xk := ⟨_, rfl⟩
      obtain ⟨yk, hyk⟩ : ∃ yk, ys.getD k 0 = yk := ⟨_, rfl⟩
      rw [hxk] at gx HT hc
      rw [hyk] at gy HT
      simp only [hyk] at cy
      obtain ⟨gx0, gx1⟩ := gx
      obtain ⟨gy0, gy1⟩ := gy
      clear hxk hyk hc0 ha
      go_wp2_with fail
      go_quiet ((go_at_call 102; exact Calls.quiet_of_same (cy _ hb')))
      clear cy hb'
      have hown' : ownsI (wr.drewN nq) w.heap.size u5 out := hown
      have hbw' : Below w.heap.size w (wr.drewN nq) := hbw.trans ⟨rfl, rfl, rfl, Nat.le_refl _, fun _ _ => rfl⟩
      have hsz' := hbw'.size
      clear hown hbw hc
      by_cases hneg : xk - yk - bb < 0
      · go_wp2_with (at_builtin; refine wpI_app w (wr.drewN nq) rfl (.tmp 30) (.tmp 32) rfl w.heap.size _ out _ rfl hown' hbw' rfl (by omega) hsz' ?_; intro v1 w1 o1 b1)
        go_roundw
        case rel => exact ⟨k + 1, 1, out ++ [xk - yk - bb + 16777216], by omega, by go_num, rfl, by omega, by omega, by rw [List.length_append, List.length_singleton, hol], inR_append.2 ⟨hoR, inR_cons.2 ⟨by omega, inR_nil⟩⟩, by show _ = _; rw [HT.out.1, HT.out.2]; exact less_step k bb _ _ _ out hol HL.out xk yk 1 _ rfl (by omega), o1, b1⟩
        case measure => simp [intOf]; omega
      · go_wp2_with (at_builtin; refine wpI_app w (wr.drewN nq) rfl (.tmp 30) (.tmp 32) rfl w.heap.size _ out _ rfl hown' hbw' rfl (by omega) hsz' ?_; intro v1 w1 o1 b1)
        go_roundw
        case rel => exact ⟨k + 1, 0, out ++ [xk - yk - bb], by omega, by go_num, rfl, by omega, by omega, by rw [List.length_append, List.length_singleton, hol], inR_append.2 ⟨hoR, inR_cons.2 ⟨by omega, inR_nil⟩⟩, by show _ = _; rw [HT.out.1, HT.out.2]; exact less_step k bb _ _ _ out hol HL.out xk yk 0 _ rfl (by omega), o1, b1⟩
        case measure => simp [intOf]; omega
    · have hke : k = xs.length := by omega
      subst hke
      have hnum : num out = num xs - num ys := by
        have h1 := num_val hoR
        have h2 := num_val hxr
        have h3 := num_val hyr
        have h4 := lval_lt hoR
        rw [hol] at h4
        have h5 := HL.out
        rw [List.take_of_length_le (Nat.le_refl _), List.take_of_length_le hly] at h5
        have h6 := pow_pos xs.length
        have hb0 : bb = 0 := by
          apply Classical.byContradiction; intro hn
          have hb1 : bb = 1 := by omega
          rw [hb1, Int.mul_one] at h5
          omega
        rw [hb0, Int.mul_zero] at h5
        omega
      have hrow := hown.row
      have hlo : out.length ≤ 1073741824 := by omega
      clear HL ha hb' gx gy
      go_wp2_with fail
      refine (sTrim _ out wr hrow hoR hlo).mono ?_
      rintro e w1 ⟨v1, rfl, o1, b1⟩
      rw [hnum] at o1
      go_wp2
      go_ret
      exact ⟨_, rfl, ownsI_mono o1 hsz, hbw.trans (b1.mono hsz)⟩

end Go.Proofs.Ytmjejnhbmhehdaa

/- The specification's l2Cmp, by its contract. -/
namespace Go.Proofs.Ytmjejnhbmhehdaa
open Go.RowKit

set_option maxHeartbeats 1600000 in
/-- l2Cmp. -/
theorem sCmp (va vb : Value) (xs ys : List Int) (w : World) (ha : rowI w va xs) (hb : rowI w vb ys) (hxr : inR xs) (hyr : inR ys) (hlx : xs.length ≤ 1048576) (hly : ys.length ≤ 1048576) :
    Calls Try.prog 74 #[va, vb] w fun e w' => e = .returned (.int .i64 (cmpI (num xs) (num ys))) ∧ w' = w := by
  obtain ⟨a1, cap1, rfl, -⟩ := id ha
  obtain ⟨a2, cap2, rfl, -⟩ := id hb
  go_enter Try.func74, Try.ntmps74
  go_wp2_with (go_at_call 101; refine (sMax xs.length ys.length w).mono ?_; rintro e w ⟨rfl, rfl⟩)
  go_loop [5, 6, 7] (fun i p q => ∃ k : Nat, k ≤ max xs.length ys.length ∧ i = .int .i64 ((k : Int) - 1) ∧ lval (xs.drop k) = lval (ys.drop k)) (fun i _ _ => (intOf i + 1).toNat)
  case atStart => exact ⟨max xs.length ys.length, Nat.le_refl _, by go_num, by rw [List.drop_of_length_le (by omega), List.drop_of_length_le (by omega)]⟩
  case round =>
    obtain ⟨k, hk, rfl, hd⟩ := hrel
    have HD : Hid (lval (xs.drop k) = lval (ys.drop k)) := hd
    clear hd
    by_cases hk0 : k = 0
    · subst hk0
      have HE : Hid (cmpI (num xs) (num ys) = 0) := by
        have h1 := num_val hxr
        have h2 := num_val hyr
        have h3 := HD.out
        rw [List.drop_zero, List.drop_zero] at h3
        show _ = _
        rw [cmpI, if_neg (by omega), if_neg (by omega)]
      go_wp2
      go_ret
      exact ⟨by rw [HE.out]; rfl, rfl⟩
    · obtain ⟨m, rfl⟩ : ∃ m, k = m + 1 := ⟨k - 1, by omega⟩
      have hm : ((m + 1 : Nat) : Int) - 1 = (m : Int) := by omega
      have dx := lval_drop xs m
      have dy := lval_drop ys m
      have cx := sLimb _ xs m w ha
      have cy := sLimb _ ys m w hb
      have gx := inR_getD hxr m
      have gy := inR_getD hyr m
      obtain ⟨xk, hxk⟩ : ∃ xk, xs.getD m 0 = xk := ⟨_, rfl⟩
      obtain ⟨yk, hyk⟩ : ∃ yk, ys.getD m 0 = yk := ⟨_, rfl⟩
      rw [hxk] at gx dx cx
      rw [hyk] at gy dy cy
      have hdd := HD.out
      rw [hm]
      clear hxk hyk HD hm
      by_cases h1 : xk < yk
      · have HE : Hid (cmpI (num xs) (num ys) = -1) := by
          show _ = _
          rw [cmpI, if_pos (cmp_lt hxr hyr m (by omega))]
        clear dx dy hdd gx gy
        go_wp2_with fail
        refine cx.mono ?_
        rintro e w ⟨rfl, rfl⟩
        go_wp2_with fail
        refine cy.mono ?_
        rintro e w ⟨rfl, rfl⟩
        go_wp2
        go_ret
        exact ⟨by rw [HE.out]; rfl, rfl⟩
      · by_cases h2 : yk < xk
        · have HE : Hid (cmpI (num xs) (num ys) = 1) := by
            have h3 := cmp_lt hyr hxr m (by omega)
            show _ = _
            rw [cmpI, if_neg (by omega), if_pos h3]
          clear dx dy hdd gx gy
          go_wp2_with fail
          refine cx.mono ?_
          rintro e w ⟨rfl, rfl⟩
          go_wp2_with fail
          refine cy.mono ?_
          rintro e w ⟨rfl, rfl⟩
          go_wp2
          go_ret
          exact ⟨by rw [HE.out]; rfl, rfl⟩
        · have hnext : Hid (lval (xs.drop m) = lval (ys.drop m)) := by show _ = _; omega
          clear dx dy hdd gx gy
          go_wp2_with fail
          refine cx.mono ?_
          rintro e w ⟨rfl, rfl⟩
          go_wp2_with fail
          refine cy.mono ?_
          rintro e w ⟨rfl, rfl⟩
          go_wp2
          go_round
          case rel => exact ⟨m, by omega, rfl, hnext.out⟩
          case measure => simp [intOf]

end Go.Proofs.Ytmjejnhbmhehdaa

/- The specification's l4Add, by its contract. -/
namespace Go.Proofs.Ytmjejnhbmhehdaa
open Go.RowKit

theorem signed (x : Int) : (if (mkW x).1 = true then -(x.natAbs : Int) else (x.natAbs : Int)) = x := by
  unfold mkW
  by_cases h : x < 0
  · simp [h]; omega
  · simp [h]; omega

set_option maxHeartbeats 1600000 in
theorem sWAdd (va vb : Value) (x y : Int) (w : World) (ha : rowW w va (mkW x)) (hb : rowW w vb (mkW y)) (hlx : (limbs x.natAbs).length ≤ 1000000) (hly : (limbs y.natAbs).length ≤ 1000000) :
    Calls Try.prog 48 #[va, vb] w fun e w' => ∃ v, e = .returned v ∧ ownsW w' w.heap.size v (mkW (x + y)) ∧ Below w.heap.size w w' := by
  obtain ⟨s, rfl, hs⟩ := ha
  obtain ⟨t, rfl, ht⟩ := hb
  have hs' : rowI w s (limbs x.natAbs) := hs
  have ht' : rowI w t (limbs y.natAbs) := ht
  have sx := signed x
  have sy := signed y
  obtain ⟨na, hna⟩ : ∃ n, (mkW x).1 = n := ⟨_, rfl⟩
  obtain ⟨nb, hnb⟩ : ∃ n, (mkW y).1 = n := ⟨_, rfl⟩
  obtain ⟨mx, hmx⟩ : ∃ n, x.natAbs = n := ⟨_, rfl⟩
  obtain ⟨my, hmy⟩ : ∃ n, y.natAbs = n := ⟨_, rfl⟩
  rw [hna, hmx] at sx
  rw [hnb, hmy] at sy
  rw [hmx] at hs' hlx
  rw [hmy] at ht' hly
  rw [hna, hnb]
  obtain ⟨a1, c1, rfl, -⟩ := id hs'
  obtain ⟨a2, c2, rfl, -⟩ := id ht'
  obtain ⟨nr, lr, hm5⟩ : ∃ nb lb, mkW (x + y) = (nb, lb) := ⟨_, _, rfl⟩
  rw [hm5]
  have HXY : Hid (x + y = (if na = true then -(mx : Int) else (mx : Int)) + (if nb = true then -(my : Int) else (my : Int))) := by show _ = _; rw [sx, sy]
  have HM : Hid (mkW (x + y) = (nr, lr)) := hm5
  clear hs ht hna hnb hmx hmy sx sy hm5
  have kc := fun W (h : Below w.heap.size w W) => sCmp _ _ (limbs mx) (limbs my) W (hs'.below h (Nat.le_refl _)) (ht'.below h (Nat.le_refl _)) (limbs_inR _) (limbs_inR _) (by omega) (by omega)
  simp only [num_limbs] at kc
  have kp := fun W (h : Below w.heap.size w W) => sPlus _ _ (limbs mx) (limbs my) W (hs'.below h (Nat.le_refl _)) (ht'.below h (Nat.le_refl _)) (limbs_inR _) (limbs_inR _) (by omega) (by omega)
  simp only [num_limbs] at kp
  -- the boxes
  have s1 : (w.alloc (.cells #[.bool na, .slice a1 (limbs mx).length c1] 24)).heap.size = w.heap.size + 1 := by simp
  have s2 : ((w.alloc (.cells #[.bool na, .slice a1 (limbs mx).length c1] 24)).alloc (.cells #[.bool nb, .slice a2 (limbs my).length c2] 24)).heap.size = w.heap.size + 1 + 1 := by simp
  have A1 := ((BoxW.made w (.bool na) (.slice a1 (limbs mx).length c1) 24).below (below1 _ (.cells #[.bool nb, .slice a2 (limbs my).length c2] 24)) (Nat.le_refl _)).below (below1 _ (.cells #[.bool false, .slice none 0 0] 24)) (Nat.le_refl _)
  have C1 := (BoxW.made (w.alloc (.cells #[.bool na, .slice a1 (limbs mx).length c1] 24)) (.bool nb) (.slice a2 (limbs my).length c2) 24).below (below1 _ (.cells #[.bool false, .slice none 0 0] 24)) (Nat.le_refl _)
  rw [s1] at C1
  have R1 := BoxW.made ((w.alloc (.cells #[.bool na, .slice a1 (limbs mx).length c1] 24)).alloc (.cells #[.bool nb, .slice a2 (limbs my).length c2] 24)) (.bool false) (.slice none 0 0) 24
  rw [s2] at R1
  have B := below3 w (.cells #[.bool na, .slice a1 (limbs mx).length c1] 24) (.cells #[.bool nb, .slice a2 (limbs my).length c2] 24) (.cells #[.bool false, .slice none 0 0] 24)
  clear s1 s2
  by_cases hsg : na = nb
  · have kM := fun v4 w4 base (h : ownsI w4 base v4 (limbs (mx + my))) => sMake na v4 (mx + my) base w4 h (by have := add_limbs mx my 1000000 hlx hly; omega)
    have hz : (if na = true then -((mx + my : Nat) : Int) else ((mx + my : Nat) : Int)) = x + y := by rw [HXY.out, ← hsg]; cases na <;> simp <;> omega
    rw [hz, HM.out] at kM
    have ebb : (na == nb) = true := by rw [hsg]; simp
    clear HXY HM kc hz hsg
    · go_enter Try.func48, Try.ntmps48
      go_wp2_with fail
      generalize ((w.alloc (.cells #[.bool na, .slice a1 (limbs mx).length c1] 24)).alloc (.cells #[.bool nb, .slice a2 (limbs my).length c2] 24)).alloc (.cells #[.bool false, .slice none 0 0] 24) = w2 at *
      have b2 := (Below.refl w2.heap.size w2).drew
      have A2 := A1.below b2 (Nat.le_refl _)
      have C2 := C1.below b2 (Nat.le_refl _)
      have R2 := R1.below b2 (Nat.le_refl _)
      have B2 := B.trans (b2.mono B.size)
      have a0 := A2.c0
      have a1' := A2.c1
      have e0 := C2.c0
      have e1' := C2.c1
      have n1 : ¬ (w.heap.size = w.heap.size + 1 + 1) := by omega
      have n2 : ¬ (w.heap.size + 1 + 1 = w.heap.size) := by omega
      have n3 : ¬ (w.heap.size + 1 = w.heap.size + 1 + 1) := by omega
      have n4 : ¬ (w.heap.size + 1 + 1 = w.heap.size + 1) := by omega
      go_region_held (fun w' => w'.cell? ⟨w.heap.size, 0, none⟩ = some (.bool na) ∧ w'.cell? ⟨w.heap.size, 1, none⟩ = some (.slice a1 (limbs mx).length c1) ∧ w'.cell? ⟨w.heap.size + 1, 0, none⟩ = some (.bool nb) ∧ w'.cell? ⟨w.heap.size + 1, 1, none⟩ = some (.slice a2 (limbs my).length c2)) (go_keep)
        (first
          | (go_at_call 73
             refine (kp _ B2).mono ?_
             rintro e w4 ⟨v4, rfl, o4, b4⟩
             have A4 := A2.below b4 (Nat.le_refl _)
             have C4 := C2.below b4 (Nat.le_refl _)
             have R4 := R2.below b4 (Nat.le_refl _)
             have B4 := B2.trans (b4.mono B2.size)
             have a04 := A4.c0
             have a14 := A4.c1
             have e04 := C4.c0
             have e14 := C4.c1)
          | (go_at_call 35
             refine (kM v4 w4 _ o4).mono ?_
             rintro e w5 ⟨v5, rfl, o5, b5⟩
             have A5 := A4.below b5 (Nat.le_refl _)
             have C5 := C4.below b5 (Nat.le_refl _)
             have R5 := R4.below b5 (Nat.le_refl _)
             have B5 := B4.trans (b5.mono B4.size)
             have a05 := A5.c0
             have a15 := A5.c1
             have e05 := C5.c0
             have e15 := C5.c1
             obtain ⟨s5, rfl, q5⟩ := o5
             obtain ⟨ad5, cp5, rfl, -⟩ := q5.row
             have r05 := R5.c0
             have r15 := R5.c1
             have f05 := R5.f0
             have f15 := R5.f1))
      have hi1 := R2.hi
      have o6 := ownsRow_setCell_below (a := ⟨w.heap.size + 1 + 1, 0, none⟩) q5 (by exact hi1) (.bool nr)
      have o7 := ownsRow_setCell_below (a := ⟨w.heap.size + 1 + 1, 1, none⟩) o6 (by exact hi1) (.slice ad5 lr.length cp5)
      have HO : Hid (World.ownsRow _ w.heap.size 3 1 (.slice ad5 lr.length cp5) lr.length (lr.map (Value.int .i64))) := ownsRow_mono o7 B2.size
      have HB : Hid (Below w.heap.size w _) := (B5.setCell (p := ⟨w.heap.size + 1 + 1, 0, none⟩) (by show w.heap.size ≤ w.heap.size + 1 + 1; omega) (.bool nr)).setCell (p := ⟨w.heap.size + 1 + 1, 1, none⟩) (by show w.heap.size ≤ w.heap.size + 1 + 1; omega) (.slice ad5 lr.length cp5)
      clear o6 o7 q5
      go_wp2
      (try simp only [Exit.inBlock, Exit.then])
      refine bodyPost_ret (v := .agg #[.bool nr, .slice ad5 lr.length cp5]) ?_ rfl ⟨_, rfl, ⟨_, rfl, HO.out⟩, HB.out⟩
      rw [results_cell1 rfl]
      go_simp

  · have ebb : (na == nb) = false := by cases na <;> cases nb <;> simp_all
    have hop : nb = !na := by cases na <;> cases nb <;> simp_all
    by_cases hge : my ≤ mx
    · have hc := cmpI_ge hge
      have hcb := cmpI_bd mx my
      have hlm := @limbs_len_mono (mx - my) mx (by omega)
      have hlg := limbs_len_mono hge
      have kl := fun W (h : Below w.heap.size w W) => sLess _ _ (limbs mx) (limbs my) W (hs'.below h (Nat.le_refl _)) (ht'.below h (Nat.le_refl _)) (limbs_inR _) (limbs_inR _) (by omega) hlg (by rw [num_limbs, num_limbs]; exact hge)
      simp only [num_limbs] at kl
      have kM := fun v4 w4 base (h : ownsI w4 base v4 (limbs (mx - my))) => sMake na v4 (mx - my) base w4 h (by omega)
      have hz : (if na = true then -((mx - my : Nat) : Int) else ((mx - my : Nat) : Int)) = x + y := by rw [HXY.out, hop]; cases na <;> simp <;> omega
      rw [hz, HM.out] at kM
      obtain ⟨c, hcc⟩ : ∃ c, cmpI mx my = c := ⟨_, rfl⟩
      rw [hcc] at kc hc hcb
      clear HXY HM kp hz hsg hop hcc
      · go_enter Try.func48, Try.ntmps48
        go_wp2_with fail
        refine (kc _ B).mono ?_
        rintro e w9 ⟨rfl, rfl⟩
        go_wp2_with fail
        generalize ((w.alloc (.cells #[.bool na, .slice a1 (limbs mx).length c1] 24)).alloc (.cells #[.bool nb, .slice a2 (limbs my).length c2] 24)).alloc (.cells #[.bool false, .slice none 0 0] 24) = w2 at *
        have b2 := (Below.refl w2.heap.size w2).drew
        have A2 := A1.below b2 (Nat.le_refl _)
        have C2 := C1.below b2 (Nat.le_refl _)
        have R2 := R1.below b2 (Nat.le_refl _)
        have B2 := B.trans (b2.mono B.size)
        have a0 := A2.c0
        have a1' := A2.c1
        have e0 := C2.c0
        have e1' := C2.c1
        have n1 : ¬ (w.heap.size = w.heap.size + 1 + 1) := by omega
        have n2 : ¬ (w.heap.size + 1 + 1 = w.heap.size) := by omega
        have n3 : ¬ (w.heap.size + 1 = w.heap.size + 1 + 1) := by omega
        have n4 : ¬ (w.heap.size + 1 + 1 = w.heap.size + 1) := by omega
        go_region_held (fun w' => w'.cell? ⟨w.heap.size, 0, none⟩ = some (.bool na) ∧ w'.cell? ⟨w.heap.size, 1, none⟩ = some (.slice a1 (limbs mx).length c1) ∧ w'.cell? ⟨w.heap.size + 1, 0, none⟩ = some (.bool nb) ∧ w'.cell? ⟨w.heap.size + 1, 1, none⟩ = some (.slice a2 (limbs my).length c2)) (go_keep)
          (first
            | (go_at_call 75
               refine (kl _ B2).mono ?_
               rintro e w4 ⟨v4, rfl, o4, b4⟩
               have A4 := A2.below b4 (Nat.le_refl _)
               have C4 := C2.below b4 (Nat.le_refl _)
               have R4 := R2.below b4 (Nat.le_refl _)
               have B4 := B2.trans (b4.mono B2.size)
               have a04 := A4.c0
               have a14 := A4.c1
               have e04 := C4.c0
               have e14 := C4.c1)
            | (go_at_call 35
               refine (kM v4 w4 _ o4).mono ?_
               rintro e w5 ⟨v5, rfl, o5, b5⟩
               have A5 := A4.below b5 (Nat.le_refl _)
               have C5 := C4.below b5 (Nat.le_refl _)
               have R5 := R4.below b5 (Nat.le_refl _)
               have B5 := B4.trans (b5.mono B4.size)
               have a05 := A5.c0
               have a15 := A5.c1
               have e05 := C5.c0
               have e15 := C5.c1
               obtain ⟨s5, rfl, q5⟩ := o5
               obtain ⟨ad5, cp5, rfl, -⟩ := q5.row
               have r05 := R5.c0
               have r15 := R5.c1
               have f05 := R5.f0
               have f15 := R5.f1))
        have hi1 := R2.hi
        have o6 := ownsRow_setCell_below (a := ⟨w.heap.size + 1 + 1, 0, none⟩) q5 (by exact hi1) (.bool nr)
        have o7 := ownsRow_setCell_below (a := ⟨w.heap.size + 1 + 1, 1, none⟩) o6 (by exact hi1) (.slice ad5 lr.length cp5)
        have HO : Hid (World.ownsRow _ w.heap.size 3 1 (.slice ad5 lr.length cp5) lr.length (lr.map (Value.int .i64))) := ownsRow_mono o7 B2.size
        have HB : Hid (Below w.heap.size w _) := (B5.setCell (p := ⟨w.heap.size + 1 + 1, 0, none⟩) (by show w.heap.size ≤ w.heap.size + 1 + 1; omega) (.bool nr)).setCell (p := ⟨w.heap.size + 1 + 1, 1, none⟩) (by show w.heap.size ≤ w.heap.size + 1 + 1; omega) (.slice ad5 lr.length cp5)
        clear o6 o7 q5
        go_wp2
        (try simp only [Exit.inBlock, Exit.then])
        refine bodyPost_ret (v := .agg #[.bool nr, .slice ad5 lr.length cp5]) ?_ rfl ⟨_, rfl, ⟨_, rfl, HO.out⟩, HB.out⟩
        rw [results_cell1 rfl]
        go_simp
    · have hc := cmpI_lt (Nat.lt_of_not_le hge)
      have hcb := cmpI_bd mx my
      have hlm := @limbs_len_mono (my - mx) my (by omega)
      have hlg := @limbs_len_mono mx my (by omega)
      have kl := fun W (h : Below w.heap.size w W) => sLess _ _ (limbs my) (limbs mx) W (ht'.below h (Nat.le_refl _)) (hs'.below h (Nat.le_refl _)) (limbs_inR _) (limbs_inR _) (by omega) hlg (by rw [num_limbs, num_limbs]; omega)
      simp only [num_limbs] at kl
      have kM := fun v4 w4 base (h : ownsI w4 base v4 (limbs (my - mx))) => sMake nb v4 (my - mx) base w4 h (by omega)
      have hz : (if nb = true then -((my - mx : Nat) : Int) else ((my - mx : Nat) : Int)) = x + y := by rw [HXY.out, hop]; cases na <;> simp <;> omega
      rw [hz, HM.out] at kM
      obtain ⟨c, hcc⟩ : ∃ c, cmpI mx my = c := ⟨_, rfl⟩
      rw [hcc] at kc hc hcb
      clear HXY HM kp hz hsg hop hcc
      · go_enter Try.func48, Try.ntmps48
        go_wp2_with fail
        refine (kc _ B).mono ?_
        rintro e w9 ⟨rfl, rfl⟩
        go_wp2_with fail
        generalize ((w.alloc (.cells #[.bool na, .slice a1 (limbs mx).length c1] 24)).alloc (.cells #[.bool nb, .slice a2 (limbs my).length c2] 24)).alloc (.cells #[.bool false, .slice none 0 0] 24) = w2 at *
        have b2 := (Below.refl w2.heap.size w2).drew
        have A2 := A1.below b2 (Nat.le_refl _)
        have C2 := C1.below b2 (Nat.le_refl _)
        have R2 := R1.below b2 (Nat.le_refl _)
        have B2 := B.trans (b2.mono B.size)
        have a0 := A2.c0
        have a1' := A2.c1
        have e0 := C2.c0
        have e1' := C2.c1
        have n1 : ¬ (w.heap.size = w.heap.size + 1 + 1) := by omega
        have n2 : ¬ (w.heap.size + 1 + 1 = w.heap.size) := by omega
        have n3 : ¬ (w.heap.size + 1 = w.heap.size + 1 + 1) := by omega
        have n4 : ¬ (w.heap.size + 1 + 1 = w.heap.size + 1) := by omega
        go_region_held (fun w' => w'.cell? ⟨w.heap.size, 0, none⟩ = some (.bool na) ∧ w'.cell? ⟨w.heap.size, 1, none⟩ = some (.slice a1 (limbs mx).length c1) ∧ w'.cell? ⟨w.heap.size + 1, 0, none⟩ = some (.bool nb) ∧ w'.cell? ⟨w.heap.size + 1, 1, none⟩ = some (.slice a2 (limbs my).length c2)) (go_keep)
          (first
            | (go_at_call 75
               refine (kl _ B2).mono ?_
               rintro e w4 ⟨v4, rfl, o4, b4⟩
               have A4 := A2.below b4 (Nat.le_refl _)
               have C4 := C2.below b4 (Nat.le_refl _)
               have R4 := R2.below b4 (Nat.le_refl _)
               have B4 := B2.trans (b4.mono B2.size)
               have a04 := A4.c0
               have a14 := A4.c1
               have e04 := C4.c0
               have e14 := C4.c1)
            | (go_at_call 35
               refine (kM v4 w4 _ o4).mono ?_
               rintro e w5 ⟨v5, rfl, o5, b5⟩
               have A5 := A4.below b5 (Nat.le_refl _)
               have C5 := C4.below b5 (Nat.le_refl _)
               have R5 := R4.below b5 (Nat.le_refl _)
               have B5 := B4.trans (b5.mono B4.size)
               have a05 := A5.c0
               have a15 := A5.c1
               have e05 := C5.c0
               have e15 := C5.c1
               obtain ⟨s5, rfl, q5⟩ := o5
               obtain ⟨ad5, cp5, rfl, -⟩ := q5.row
               have r05 := R5.c0
               have r15 := R5.c1
               have f05 := R5.f0
               have f15 := R5.f1))
        have hi1 := R2.hi
        have o6 := ownsRow_setCell_below (a := ⟨w.heap.size + 1 + 1, 0, none⟩) q5 (by exact hi1) (.bool nr)
        have o7 := ownsRow_setCell_below (a := ⟨w.heap.size + 1 + 1, 1, none⟩) o6 (by exact hi1) (.slice ad5 lr.length cp5)
        have HO : Hid (World.ownsRow _ w.heap.size 3 1 (.slice ad5 lr.length cp5) lr.length (lr.map (Value.int .i64))) := ownsRow_mono o7 B2.size
        have HB : Hid (Below w.heap.size w _) := (B5.setCell (p := ⟨w.heap.size + 1 + 1, 0, none⟩) (by show w.heap.size ≤ w.heap.size + 1 + 1; omega) (.bool nr)).setCell (p := ⟨w.heap.size + 1 + 1, 1, none⟩) (by show w.heap.size ≤ w.heap.size + 1 + 1; omega) (.slice ad5 lr.length cp5)
        clear o6 o7 q5
        go_wp2
        (try simp only [Exit.inBlock, Exit.then])
        refine bodyPost_ret (v := .agg #[.bool nr, .slice ad5 lr.length cp5]) ?_ rfl ⟨_, rfl, ⟨_, rfl, HO.out⟩, HB.out⟩
        rw [results_cell1 rfl]
        go_simp

end Go.Proofs.Ytmjejnhbmhehdaa

/- A region that draws its order, with a call and the box of its answer: what stands behind it, in whichever order (no walk). -/
namespace Go.Proofs.Ytmjejnhbmhehdaa
open Go.RowKit

/-- What stands behind a region that is left at its end alone. -/
def atEnd (M : Act → World → Prop) : Exit → Act → World → Prop
  | .normal, a, w => M a w
  | _, _, _ => False
theorem atEnd_out {M : Act → World → Prop} {Q : Exit → Act → World → Prop} (h : ∀ a w, M a w → Q .normal a w) : ∀ e a w, atEnd M e a w → Q e a w := by
  intro e a w hm
  cases e
  case normal => exact h a w hm
  all_goals exact hm.elim
theorem BoxW.mono {w : World} {base base' b : Nat} {x y : Value} (h : BoxW w base b x y) (hb : base' ≤ base) : BoxW w base' b x y := ⟨Nat.le_trans hb h.lo, h.hi, h.c0, h.c1, h.f0, h.f1⟩
theorem tn_pair (w : World) (b : Nat) (x y : Value) : Tn [b] w ((w.setCell ⟨b, 0, none⟩ x).setCell ⟨b, 1, none⟩ y) :=
  ⟨rfl, rfl, rfl, by simp [World.setCell], fun k _ hn => by
    have h1 : k ≠ b := fun e => hn (by simp [e])
    rw [Below.heap_setCell _ _ _ _ h1, Below.heap_setCell _ _ _ _ h1]⟩
theorem BoxW.pair {w : World} {base b : Nat} {x y : Value} (h : BoxW w base b x y) (x' y' : Value) : BoxW ((w.setCell ⟨b, 0, none⟩ x').setCell ⟨b, 1, none⟩ y') base b x' y' := by
  have c0 := h.c0
  have c1 := h.c1
  have f0 := h.f0
  have f1 := h.f1
  refine ⟨h.lo, ?_, ?_, ?_, ?_, ?_⟩
  · have := h.hi; simpa [World.setCell] using this
  · exact (World.cell?_setCell_other _ _ _ _ (by simp)).trans (World.cell?_setCell_same _ _ _ c0)
  · exact World.cell?_setCell_same _ _ _ ((World.cell?_setCell_other _ _ _ _ (by simp)).trans c1)
  · simp [*]
  · simp [*]
theorem cut_old {w3 W : World} {B base bx : Nat} {x y v : Value} {a : Wh} (ob : BoxW w3 base bx x y) (ow : ownsW w3 B v a) (hb : base ≤ B) (hx : bx < B) (C : Below base W w3) (x' y' : Value) :
    ownsW ((w3.setCell ⟨bx, 0, none⟩ x').setCell ⟨bx, 1, none⟩ y') base v a ∧ BoxW ((w3.setCell ⟨bx, 0, none⟩ x').setCell ⟨bx, 1, none⟩ y') base bx x' y' ∧ Apart (blkW v) [bx] ∧ Below base W ((w3.setCell ⟨bx, 0, none⟩ x').setCell ⟨bx, 1, none⟩ y') := by
  have hap : Apart (blkW v) [bx] := fun k hk hs => by
    have h1 := (ow.ltb k hk).1
    simp at hs
    omega
  exact ⟨ownsW_mono (ow.tn (tn_pair w3 bx x' y') hap) hb, ob.pair x' y', hap, (C.setCell (p := ⟨bx, 0, none⟩) ob.lo x').setCell (p := ⟨bx, 1, none⟩) ob.lo y'⟩
theorem cut_new {w3 W : World} {B base : Nat} {v : Value} {a : Wh} (ow : ownsW w3 B v a) (hb : base ≤ B) (hw : base ≤ w3.heap.size) (C : Below base W w3) (t : TypeId) (x' y' : Value) :
    ownsW (w3.alloc (.cells #[x', y'] t)) base v a ∧ BoxW (w3.alloc (.cells #[x', y'] t)) base w3.heap.size x' y' ∧ Apart (blkW v) [w3.heap.size] ∧ Below base W (w3.alloc (.cells #[x', y'] t)) :=
  ⟨ownsW_mono (ow.below (below1 w3 _) (Nat.le_refl _)) hb, (BoxW.made w3 x' y' t).mono hw, fun k hk hs => by
    have h1 := (ow.ltb k hk).2
    simp at hs
    omega, C.alloc hw _⟩

def CutM (A : Value → Value → Option Addr → Nat → Nat → Act) (r : Wh) (base : Nat) (W : World) (a' : Act) (w' : World) : Prop :=
  ∃ (vs0 vs1 : Value) (ad : Option Addr) (cp bx : Nat), a' = A vs0 vs1 ad cp bx ∧ ownsW w' base (.agg #[.bool r.1, .slice ad r.2.length cp]) r ∧ BoxW w' base bx (.bool r.1) (.slice ad r.2.length cp) ∧ Apart (blkW (.agg #[.bool r.1, .slice ad r.2.length cp])) [bx] ∧ Below base W w'
theorem cutM_in {A : Value → Value → Option Addr → Nat → Nat → Act} {r : Wh} {base : Nat} {W : World} {a' : Act} {w' : World} (vs0 vs1 : Value) (ad : Option Addr) (cp bx : Nat) (ha : a' = A vs0 vs1 ad cp bx)
    (h : ownsW w' base (.agg #[.bool r.1, .slice ad r.2.length cp]) r ∧ BoxW w' base bx (.bool r.1) (.slice ad r.2.length cp) ∧ Apart (blkW (.agg #[.bool r.1, .slice ad r.2.length cp])) [bx] ∧ Below base W w') : atEnd (CutM A r base W) .normal a' w' :=
  ⟨vs0, vs1, ad, cp, bx, ha, h⟩
theorem wp_cutW {P : Program} {c : Code} {Q : Exit → Act → World → Prop} {a : Act} {w : World} (A : Value → Value → Option Addr → Nat → Nat → Act) (r : Wh) (base : Nat) (W : World) (hA : c.wp P (atEnd (CutM A r base W)) a w)
    (hB : ∀ vs0 vs1 ad cp bx w', ownsW w' base (.agg #[.bool r.1, .slice ad r.2.length cp]) r → BoxW w' base bx (.bool r.1) (.slice ad r.2.length cp) → Apart (blkW (.agg #[.bool r.1, .slice ad r.2.length cp])) [bx] → Below base W w' → Q .normal (A vs0 vs1 ad cp bx) w') : c.wp P Q a w :=
  wp_mono hA (atEnd_out fun a' w' ⟨vs0, vs1, ad, cp, bx, ha, h1, h2, h3, h4⟩ => by subst ha; exact hB vs0 vs1 ad cp bx w' h1 h2 h3 h4)

end Go.Proofs.Ytmjejnhbmhehdaa

/- What rounding answers; the facts of numbers behind it (no program). -/
namespace Go.Proofs.Ytmjejnhbmhehdaa
open Go.RowKit
set_option linter.unusedSimpArgs false

def cmpJ (x y : Int) : Int := if x < y then -1 else if y < x then 1 else 0
/-- The floor or one more. -/
def pickI (fl : Int) (whole : Bool) (half mode : Int) : Int :=
  if whole = true then fl
  else if mode = 1 then fl + 1
  else if mode = 2 then (if fl < 0 then fl + 1 else fl)
  else if mode = 3 then (if 0 < half ∨ (half = 0 ∧ fl % 2 = 1) then fl + 1 else fl)
  else if mode = 4 then (if 0 < half ∨ (half = 0 ∧ ¬ fl < 0) then fl + 1 else fl)
  else fl
/-- A fraction, rounded. -/
def fracI (x y mode : Int) : Int := pickI (x / y) (decide (x - x / y * y = 0)) (cmpJ ((x - x / y * y) * 2) y) mode
/-- The root of a number by 2^k, rounded. -/
def rootI (x : Int) (k : Nat) (mode : Int) : Int :=
  pickI (isqrt (x.natAbs / 2 ^ k) : Nat) (decide (isqrt (x.natAbs / 2 ^ k) * isqrt (x.natAbs / 2 ^ k) * 2 ^ k = x.natAbs)) (cmpJ ((x.natAbs * 4 : Nat) : Int) (((2 * isqrt (x.natAbs / 2 ^ k) + 1) * (2 * isqrt (x.natAbs / 2 ^ k) + 1) * 2 ^ k : Nat) : Int)) mode

def turnI (mode : Int) : Int := if mode = 0 then 1 else if mode = 1 then 0 else mode
def risesI (q : Nat) (half mode : Int) : Bool :=
  if mode = 1 then true else if mode = 3 then (if half = 0 then decide (q % 2 = 1) else decide (0 ≤ half)) else if mode = 4 then decide (0 ≤ half) else false
/-- What the program makes of a size: below nought it is rounded the other way round. -/
def roundN (q : Nat) (whole : Bool) (half : Int) (neg : Bool) (mode : Int) : Nat :=
  if whole = false ∧ risesI q half (if neg = true then turnI mode else mode) = true then q + 1 else q

theorem roundN_le (q : Nat) (whole : Bool) (half : Int) (neg : Bool) (mode : Int) : roundN q whole half neg mode ≤ q + 1 := by
  unfold roundN
  generalize (if neg = true then turnI mode else mode) = m
  split <;> omega

theorem ediv_isR {x z P : Int} (hP : 0 < P) (h1 : z * P ≤ x) (h2 : x < z * P + P) : x / P = z := by
  have h3 := (Int.le_ediv_iff_mul_le hP).2 h1
  have h4 : x / P < z + 1 := (Int.ediv_lt_iff_lt_mul hP).2 (by rw [Int.add_mul, Int.one_mul]; exact h2)
  omega

theorem frac_round (x : Int) (d : Nat) (hd : 0 < d) (mode : Int) (h0 : 0 ≤ mode) (h4 : mode ≤ 4) :
    fracI x d mode = (if decide (x < 0) = true then -((roundN (x.natAbs / d) (decide (x.natAbs % d = 0)) (cmpJ ((x.natAbs % d * 2 : Nat) : Int) d) (decide (x < 0)) mode : Nat) : Int) else ((roundN (x.natAbs / d) (decide (x.natAbs % d = 0)) (cmpJ ((x.natAbs % d * 2 : Nat) : Int) d) (decide (x < 0)) mode : Nat) : Int)) := by
  have hdm := Nat.div_add_mod x.natAbs d
  have hlt := Nat.mod_lt x.natAbs hd
  have hm : ((x.natAbs / d : Nat) : Int) * (d : Int) + ((x.natAbs % d : Nat) : Int) = (x.natAbs : Int) := by
    rw [Nat.mul_comm] at hdm
    exact_mod_cast hdm
  have hdp : (0 : Int) < (d : Int) := by omega
  obtain ⟨q, hq⟩ : ∃ q, x.natAbs / d = q := ⟨_, rfl⟩
  obtain ⟨r, hr⟩ : ∃ r, x.natAbs % d = r := ⟨_, rfl⟩
  rw [hq, hr] at hm
  rw [hr] at hlt
  rw [hq, hr]
  clear hq hr hdm
  by_cases hx : x < 0
  · have hxa : x = -(x.natAbs : Int) := by omega
    by_cases hr0 : r = 0
    · subst hr0
      have hfl : x / (d : Int) = -(q : Int) := by
        apply ediv_isR hdp
        · rw [Int.neg_mul]; omega
        · rw [Int.neg_mul]; omega
      have hrest : x - x / (d : Int) * (d : Int) = 0 := by rw [hfl, Int.neg_mul]; omega
      unfold fracI roundN
      rw [hrest, hfl]
      simp [pickI, hx]
    · have hfl : x / (d : Int) = -(q : Int) - 1 := by
        apply ediv_isR hdp
        · rw [Int.sub_mul, Int.neg_mul]; omega
        · rw [Int.sub_mul, Int.neg_mul]; omega
      have hrest : x - x / (d : Int) * (d : Int) = (d : Int) - (r : Int) := by rw [hfl, Int.sub_mul, Int.neg_mul]; omega
      unfold fracI roundN
      rw [hrest, hfl]
      have w1 : decide ((d : Int) - (r : Int) = 0) = false := decide_eq_false (by omega)
      have w2 : decide (r = 0) = false := decide_eq_false hr0
      have w3 : decide (x < 0) = true := decide_eq_true hx
      rw [w1, w2, w3]
      have hq0 : -(q : Int) - 1 < 0 := by omega
      have hc : cmpJ (((d : Int) - (r : Int)) * 2) (d : Int) = -(cmpJ ((r * 2 : Nat) : Int) (d : Int)) := by
        unfold cmpJ
        split <;> split <;> (try split) <;> (try split) <;> omega
      rw [hc]
      generalize cmpJ ((r * 2 : Nat) : Int) (d : Int) = c
      have hodd : ((-(q : Int) - 1) % 2 = 1) ↔ ¬ (q % 2 = 1) := by omega
      have hm5 : mode = 0 ∨ mode = 1 ∨ mode = 2 ∨ mode = 3 ∨ mode = 4 := by omega
      rcases hm5 with rfl | rfl | rfl | rfl | rfl
      · simp [pickI, risesI, turnI]; omega
      · simp [pickI, risesI, turnI]
      · simp [pickI, risesI, turnI, hq0]
      · simp only [pickI, risesI, turnI, hodd]
        by_cases c0 : c = 0
        · subst c0
          by_cases hq2 : q % 2 = 1
          · simp [hq2]; omega
          · simp [hq2]
        · by_cases c1 : 0 ≤ c
          · have : ¬ (0 < -c) := by omega
            have k2 : ¬ (-c = 0) := by omega
            simp [c0, c1, this, k2]; omega
          · have : 0 < -c := by omega
            simp [c0, c1, this]
      · simp only [pickI, risesI, turnI]
        by_cases c1 : 0 ≤ c
        · have : ¬ (0 < -c) := by omega
          simp [c1, this, hq0]; omega
        · have : 0 < -c := by omega
          simp [c1, this]
  · have hxa : x = (x.natAbs : Int) := by omega
    have hfl : x / (d : Int) = (q : Int) := by
      apply ediv_isR hdp
      · omega
      · omega
    have hrest : x - x / (d : Int) * (d : Int) = (r : Int) := by rw [hfl]; omega
    unfold fracI roundN
    rw [hrest, hfl]
    have w3 : decide (x < 0) = false := decide_eq_false hx
    have w1 : decide ((r : Int) = 0) = decide (r = 0) := by by_cases h : r = 0 <;> simp [h]
    have e2 : (r : Int) * 2 = ((r * 2 : Nat) : Int) := by omega
    rw [w3, w1, e2]
    generalize cmpJ ((r * 2 : Nat) : Int) (d : Int) = c
    have hq0 : ¬ ((q : Int) < 0) := by omega
    have hodd : ((q : Int) % 2 = 1) ↔ (q % 2 = 1) := by omega
    have hm5 : mode = 0 ∨ mode = 1 ∨ mode = 2 ∨ mode = 3 ∨ mode = 4 := by omega
    by_cases hr0 : r = 0
    · simp [pickI, hr0]
    · rcases hm5 with rfl | rfl | rfl | rfl | rfl
      · simp [pickI, risesI, turnI, hr0]
      · simp [pickI, risesI, turnI, hr0]
      · simp [pickI, risesI, turnI, hr0, hq0]
      · simp only [pickI, risesI, turnI, hodd]
        by_cases c0 : c = 0
        · subst c0
          by_cases hq2 : q % 2 = 1
          · simp [hr0, hq2]
          · simp [hr0, hq2]
        · by_cases c1 : 0 ≤ c
          · have : 0 < c := by omega
            simp [hr0, c0, c1, this]
          · have : ¬ (0 < c) := by omega
            simp [hr0, c0, c1, this]
      · simp only [pickI, risesI, turnI]
        by_cases c1 : 0 ≤ c
        · have : 0 < c ∨ c = 0 := by omega
          simp [hr0, c1, this, hq0]
        · have k1 : ¬ (0 < c) := by omega
          have k2 : ¬ (c = 0) := by omega
          simp [hr0, c1, k1, k2]

def rfracR (a b : Wh) (mode : Int) : Wh × Bool := if okW a = true ∧ okW b = true ∧ 0 < valW b ∧ 0 ≤ mode ∧ mode ≤ 4 then fitW (fracI (valW a) (valW b) mode) else ((false, []), false)
def ratR (a : Wh) (k mode : Int) : Wh × Bool := if okW a = true ∧ 0 ≤ k ∧ k ≤ 600 ∧ 0 ≤ mode ∧ mode ≤ 4 then fitW (fracI (valW a) (2 ^ k.toNat) mode) else ((false, []), false)
def rrootR (a : Wh) (k mode : Int) : Wh × Bool := if okW a = true ∧ 0 ≤ valW a ∧ 0 ≤ k ∧ k ≤ 600 ∧ 0 ≤ mode ∧ mode ≤ 4 then fitW (rootI (valW a) k.toNat mode) else ((false, []), false)
theorem rfracR_len (a b : Wh) (mode : Int) : (rfracR a b mode).1.2.length ≤ 1048576 := by
  unfold rfracR; split
  · exact fitW_len _
  · simp
theorem ratR_len (a : Wh) (k mode : Int) : (ratR a k mode).1.2.length ≤ 1048576 := by
  unfold ratR; split
  · exact fitW_len _
  · simp
theorem rrootR_len (a : Wh) (k mode : Int) : (rrootR a k mode).1.2.length ≤ 1048576 := by
  unfold rrootR; split
  · exact fitW_len _
  · simp

end Go.Proofs.Ytmjejnhbmhehdaa

/- A box lies in the world (no walk). -/
namespace Go.Proofs.Ytmjejnhbmhehdaa
open Go.RowKit

theorem BoxW.lt4 {w : World} {base b : Nat} {x y : Value} (h : BoxW w base b x y) : b < w.heap.size := block_lt_of_cell h.c0

end Go.Proofs.Ytmjejnhbmhehdaa

/- The specification's l4One, l5Odd and l5Pick, each by its contract. -/
namespace Go.Proofs.Ytmjejnhbmhehdaa
open Go.RowKit
set_option linter.unusedSimpArgs false

theorem mkW_one : mkW 1 = (false, [1]) := by
  rw [mkW_pos 1 (by omega)]
  have : limbs (1 : Int).natAbs = [1] := by
    show limbs 1 = [1]
    rw [limbs_pos 1 (by omega)]
    simp [limbs_zero]
  rw [this]

set_option maxHeartbeats 1600000 in
theorem sOne (w : World) : Calls Try.prog 93 #[] w fun e w' => ∃ v, e = .returned v ∧ ownsW w' w.heap.size v (mkW 1) ∧ Below w.heap.size w w' := by
  rw [mkW_one]
  have s1 : (w.alloc (.cells #[.bool false, .slice (some ⟨w.heap.size + 1, 0, none⟩) 1 1] 24)).heap.size = w.heap.size + 1 := by simp
  have O1 := one_own (w.alloc (.cells #[.bool false, .slice (some ⟨w.heap.size + 1, 0, none⟩) 1 1] 24))
  rw [s1] at O1
  have HO : Hid (ownsI _ w.heap.size (.slice (some ⟨w.heap.size + 1, 0, none⟩) 1 1) [1]) := ownsI_mono O1 (by omega)
  have HB : Hid (Below w.heap.size w _) := below2 w (.cells #[.bool false, .slice (some ⟨w.heap.size + 1, 0, none⟩) 1 1] 24) (.cells #[.int .i64 1] 3)
  clear O1 s1
  go_enter Try.func93, Try.ntmps93
  go_wp2
  (try simp only [Exit.inBlock, Exit.then])
  refine bodyPost_ret (v := .agg #[.bool false, .slice (some ⟨w.heap.size + 1, 0, none⟩) 1 1]) ?_ rfl ⟨_, rfl, ⟨_, rfl, HO.out⟩, HB.out⟩
  rw [results_cell1 rfl]
  go_simp

theorem low_limb (m : Nat) (h : 0 < m) : (limbs m).getD 0 0 = ((m % 16777216 : Nat) : Int) := by
  rw [limbs_pos m h]
  simp
set_option maxHeartbeats 1600000 in
theorem sOdd (va : Value) (x : Int) (w : World) (ha : rowW w va (mkW x)) (hl : (limbs x.natAbs).length ≤ 1048576) :
    Calls Try.prog 109 #[va] w fun e w' => e = .returned (.bool (decide (x % 2 = 1))) ∧ Below w.heap.size w w' := by
  obtain ⟨s, rfl, hs⟩ := ha
  have hs' : rowI w s (limbs x.natAbs) := hs
  have B0 := fun c => below1 w (.cells #[.bool (mkW x).1, c] 24)
  by_cases h0 : x = 0
  · have hl0 : ((limbs x.natAbs).length : Int) = 0 := by rw [h0]; show ((limbs 0).length : Int) = 0; rw [limbs_zero]; rfl
    have hd : decide (x % 2 = 1) = false := decide_eq_false (by omega)
    rw [hd]
    obtain ⟨a1, c1, rfl, -⟩ := id hs'
    generalize (limbs x.natAbs).length = L at *
    have hl0' : ¬ ((0 : Int) < (L : Int)) := by omega
    have hl1 : decide ((0 : Int) < (L : Int)) = false := decide_eq_false hl0'
    generalize (mkW x).1 = na at *
    have B1 := B0 (.slice a1 L c1)
    clear B0 hd hs hs' h0
    go_enter Try.func109, Try.ntmps109
    go_wp2
    go_ret
    exact ⟨rfl, B1⟩
  · have hp : 0 < (limbs x.natAbs).length := by rw [limbs_pos _ (by omega)]; simp
    have hr := hs'.below (B0 s) (Nat.le_refl _)
    obtain ⟨a1, c1, rfl, -⟩ := id hs'
    obtain ⟨g, off, rfl, hc⟩ := hr.at 0 hp
    rw [low_limb _ (by omega), Nat.add_zero] at hc
    have hb1 : x.natAbs % 16777216 < 16777216 := Nat.mod_lt _ (by omega)
    obtain ⟨d, hd⟩ : ∃ d : Nat, x.natAbs % 16777216 = d := ⟨_, rfl⟩
    have e1 : decide (x % 2 = 1) = (((d : Int) % 2) == 1) := by
      by_cases h : x % 2 = 1
      · have h2 : ((d : Int) % 2 = 1) := by omega
        simp [h, h2]
      · have h2 : ¬ ((d : Int) % 2 = 1) := by omega
        simp [h, h2]
    have e2 : (d : Int).tmod 2 = (d : Int) % 2 := by rw [Int.tmod_eq_emod_of_nonneg (by omega)]
    rw [hd] at hc hb1
    rw [e1]
    clear e1 hd hs hs' hr
    generalize (limbs x.natAbs).length = L at *
    have hl0' : (0 : Int) < (L : Int) := by omega
    have hl1 : decide ((0 : Int) < (L : Int)) = true := decide_eq_true hl0'
    generalize (mkW x).1 = na at *
    have B1 := B0 (.slice (some ⟨g, off, none⟩) L c1)
    clear B0 h0
    go_enter Try.func109, Try.ntmps109
    go_wp2
    go_ret
    exact ⟨rfl, B1⟩

set_option maxRecDepth 20000 in
set_option maxHeartbeats 6400000 in
theorem sPick (va : Value) (x : Int) (whole : Bool) (half mode : Int) (base : Nat) (w : World) (ha : ownsW w base va (mkW x)) (hlx : (limbs x.natAbs).length ≤ 10000) (hm0 : 0 ≤ mode) (hm4 : mode ≤ 4) :
    Calls Try.prog 87 #[va, .bool whole, .int .i64 half, .int .i64 mode] w fun e w' => ∃ v, e = .returned v ∧ ownsW w' (min base w.heap.size) v (mkW (pickI x whole half mode)) ∧ Below w.heap.size w w' := by
  have k1 := fun W => sOne W
  have hl1 : (limbs (1 : Int).natAbs).length ≤ 1000000 := by show (limbs 1).length ≤ 1000000; have := limbs_len_le 1 1 (by decide); omega
  have kA := fun v W (h : Below w.heap.size w W) (q : rowW W v (mkW 1)) => sWAdd va v x 1 W (ha.row.below h (Nat.le_refl _)) q (by omega) hl1
  have kO := fun W (h : Below w.heap.size w W) => sOdd va x W (ha.row.below h (Nat.le_refl _)) (by omega)
  have hxn : (mkW x).1 = decide (x < 0) := rfl
  obtain ⟨pz, hpz⟩ : ∃ z, pickI x whole half mode = z := ⟨_, rfl⟩
  rw [hpz]
  obtain ⟨s, rfl, hs⟩ := ha
  have hs' : ownsI w base s (mkW x).2 := hs
  obtain ⟨a1, c1, rfl, -⟩ := id hs'.row
  obtain ⟨nx, lx, hmx⟩ : ∃ nb lb, mkW x = (nb, lb) := ⟨_, _, rfl⟩
  obtain ⟨nr, lr, hm5⟩ : ∃ nb lb, mkW (x + 1) = (nb, lb) := ⟨_, _, rfl⟩
  have hpz' : mkW pz = (nx, lx) ∨ mkW pz = (nr, lr) := by
    rw [← hpz, ← hmx, ← hm5]
    unfold pickI
    split
    · exact .inl rfl
    · split
      · exact .inr rfl
      · split
        · split
          · exact .inr rfl
          · exact .inl rfl
        · split
          · split
            · exact .inr rfl
            · exact .inl rfl
          · split
            · split
              · exact .inr rfl
              · exact .inl rfl
            · exact .inl rfl
  clear hpz'
  have hz0 : pz = x → mkW pz = (nx, lx) := fun h => by rw [h, hmx]
  have hz1 : pz = x + 1 → mkW pz = (nr, lr) := fun h => by rw [h, hm5]
  rw [hm5] at kA
  rw [hmx] at hs' hs hxn kA kO ⊢
  simp only at hxn hs' hs
  have HXN : Hid (nx = decide (x < 0)) := hxn
  clear hxn
  have s1 : (w.alloc (.cells #[.bool nx, .slice a1 lx.length c1] 24)).heap.size = w.heap.size + 1 := by simp
  have A1 := (BoxW.made w (.bool nx) (.slice a1 lx.length c1) 24).below (below1 _ (.cells #[.bool false, .slice none 0 0] 24)) (Nat.le_refl _)
  have R1 := BoxW.made (w.alloc (.cells #[.bool nx, .slice a1 lx.length c1] 24)) (.bool false) (.slice none 0 0) 24
  rw [s1] at R1
  have B := below2 w (.cells #[.bool nx, .slice a1 lx.length c1] 24) (.cells #[.bool false, .slice none 0 0] 24)
  clear s1 hmx hm5
  go_enter Try.func87, Try.ntmps87
  go_wp2_with fail
  generalize (w.alloc (.cells #[.bool nx, .slice a1 lx.length c1] 24)).alloc (.cells #[.bool false, .slice none 0 0] 24) = w2 at *
  have oAx := A1
  obtain ⟨r, hr⟩ : ∃ r : Wh, (nr, lr) = r := ⟨_, rfl⟩
  rw [hr] at kA hz1
  apply wp_cutW (r := r) (base := w2.heap.size) (W := w2)
  case hA =>
    obtain ⟨vs1, -⟩ : ∃ v : Value, v = v := ⟨undef, rfl⟩
    have C0 : Below w2.heap.size w2 w2.drew := (Below.refl w2.heap.size w2).drew
    have hC0 : w2.heap.size ≤ w2.drew.heap.size := C0.size
    have kAx := oAx.below C0 (Nat.le_refl _)
    have kAx0 := kAx.c0
    have kAx1 := kAx.c1
    have CZ : Below w2.heap.size w2 (w2.alloc (.cells #[.bool false, .slice none 0 0] 24)).drew := (below1 w2 (.cells #[.bool false, .slice none 0 0] 24)).drew
    have hCZ : w2.heap.size ≤ (w2.alloc (.cells #[.bool false, .slice none 0 0] 24)).drew.heap.size := CZ.size
    have obz := (BoxW.made w2 (.bool false) (.slice none 0 0) 24).below ((Below.refl (w2.alloc (.cells #[.bool false, .slice none 0 0] 24)).heap.size (w2.alloc (.cells #[.bool false, .slice none 0 0] 24))).drew) (Nat.le_refl _)
    have hbz : w2.heap.size < (w2.alloc (.cells #[.bool false, .slice none 0 0] 24)).drew.heap.size := obz.hi
    have kzAx := oAx.below CZ (Nat.le_refl _)
    have kzAx0 := kzAx.c0
    have kzAx1 := kzAx.c1
    have hiAx := oAx.hi
    have nzAx : ¬ (w2.heap.size = w.heap.size) := by omega
    have nyAx : ¬ (w.heap.size = w2.heap.size) := by omega
    go_region_held (fun w' => w'.cell? ⟨w.heap.size, 0, none⟩ = some (.bool nx) ∧ w'.cell? ⟨w.heap.size, 1, none⟩ = some (.slice a1 lx.length c1)) (go_keep) (first
      | (go_at_call 93
         (first
           | (refine (k1 (w2.drew)).mono ?_; rintro e wc1 ⟨vs0, rfl, os0, bb1⟩; have C1 := C0.trans (bb1.mono hC0); have hC1 := Nat.le_trans hC0 bb1.size)
           | (refine (k1 ((w2.alloc (.cells #[.bool false, .slice none 0 0] 24)).drew)).mono ?_; rintro e wc1 ⟨vs0, rfl, os0, bb1⟩; have C1 := CZ.trans (bb1.mono hCZ); have hC1 := Nat.le_trans hCZ bb1.size; have obx := obz.below bb1 (Nat.le_refl _); have hbx := Nat.lt_of_lt_of_le hbz bb1.size)
           )
         have kAx := oAx.below C1 (Nat.le_refl _)
         have kAx0 := kAx.c0
         have kAx1 := kAx.c1)
      | (go_at_call 48
         (first
           | (have qx := obx; refine (kA vs0 (wc1) (B.trans (C1.mono B.size)) os0.row).mono ?_; rintro e wc2 ⟨vF, rfl, oF, bb2⟩; have os0 := os0.below bb2 (Nat.le_refl _); have hBF := hC1; have hXF := qx.hi; have C2 := C1.trans (bb2.mono hC1); have hC2 := Nat.le_trans hC1 bb2.size; have obx := qx.below bb2 (Nat.le_refl _); clear qx)
           | (refine (kA vs0 (wc1) (B.trans (C1.mono B.size)) os0.row).mono ?_; rintro e wc2 ⟨vF, rfl, oF, bb2⟩; have os0 := os0.below bb2 (Nat.le_refl _); have hBF := hC1; have C2 := C1.trans (bb2.mono hC1); have hC2 := Nat.le_trans hC1 bb2.size)
           | (have CA := C1.alloc hC1 (.cells #[.bool false, .slice none 0 0] 24); refine (kA vs0 ((wc1.alloc (.cells #[.bool false, .slice none 0 0] 24))) (B.trans (CA.mono B.size)) (os0.below (below1 wc1 (.cells #[.bool false, .slice none 0 0] 24)) (Nat.le_refl _)).row).mono ?_; rintro e wc2 ⟨vF, rfl, oF, bb2⟩; have os0 := (os0.below (below1 wc1 (.cells #[.bool false, .slice none 0 0] 24)) (Nat.le_refl _)).below bb2 (Nat.le_refl _); have hBF : w2.heap.size ≤ (wc1.alloc (.cells #[.bool false, .slice none 0 0] 24)).heap.size := Nat.le_trans hC1 (below1 wc1 (.cells #[.bool false, .slice none 0 0] 24)).size; have hXF : wc1.heap.size < (wc1.alloc (.cells #[.bool false, .slice none 0 0] 24)).heap.size := (by simp); have C2 := CA.trans (bb2.mono (Nat.le_trans hC1 (below1 wc1 (.cells #[.bool false, .slice none 0 0] 24)).size)); have hC2 := Nat.le_trans (Nat.le_trans hC1 (below1 wc1 (.cells #[.bool false, .slice none 0 0] 24)).size) bb2.size; have obx := ((BoxW.made wc1 (.bool false) (.slice none 0 0) 24).mono hC1).below bb2 (Nat.le_refl _); have hbx : wc1.heap.size < (wc1.alloc (.cells #[.bool false, .slice none 0 0] 24)).heap.size := (by simp); have naAx : ¬ (wc1.heap.size = w.heap.size) := (by omega); have nbAx : ¬ (w.heap.size = wc1.heap.size) := (by omega))
           )
         have kAx := oAx.below C2 (Nat.le_refl _)
         have kAx0 := kAx.c0
         have kAx1 := kAx.c1
         obtain ⟨sF, rfl, hqF⟩ := id oF
         obtain ⟨ad, cp, rfl, -⟩ := hqF.row
         clear hqF
         have nuAx : ¬ (wc2.heap.size = w.heap.size) := by omega
         have nvAx : ¬ (w.heap.size = wc2.heap.size) := by omega
         (try have ox0 := obx.c0)
         (try have ox1 := obx.c1)
         (try have ox2 := obx.f0)
         (try have ox3 := obx.f1))
      )
    all_goals first
      | (have hcut := cut_old obx oF hBF hXF C2 (.bool r.1) (.slice ad r.2.length cp); exact cutM_in vs0 vs1 ad cp _ rfl hcut)
      | (have hcut := cut_new oF hBF hC2 C2 24 (.bool r.1) (.slice ad r.2.length cp); generalize wc2.heap.size = bx at *; exact cutM_in vs0 vs1 ad cp bx rfl hcut)
  intro vs0 vs1 ad2 cp2 bk w3 oN oX dX b3
  have hbk : w2.heap.size ≤ bk := oX.lo
  have hR1 := R1.hi
  have A3 := A1.below b3 (Nat.le_refl _)
  have R3 := R1.below b3 (Nat.le_refl _)
  have B3 := B.trans (b3.mono B.size)
  have X3 : ownsI w3 base (.slice a1 lx.length c1) lx := ownsI.below hs' B3 (Nat.le_refl _)
  obtain ⟨nr2, lr2⟩ := r
  simp only at oN oX dX hz1 ⊢
  have r0 := A3.c0
  have r1 := A3.c1
  have x0 := oX.c0
  have x1 := oX.c1
  have y0 := R3.c0
  have y1 := R3.c1
  have yf0 := R3.f0
  have yf1 := R3.f1
  have hne1 : ¬ (bk = w.heap.size + 1) := by omega
  have hne2 : ¬ (w.heap.size + 1 = bk) := by omega
  -- what is answered: the floor, or the next
  have HF : Hid (∀ W, Below w3.heap.size w3 W → ownsW ((W.setCell ⟨w.heap.size + 1, 0, none⟩ (.bool nx)).setCell ⟨w.heap.size + 1, 1, none⟩ (.slice a1 lx.length c1)) (min base w.heap.size) (.agg #[.bool nx, .slice a1 lx.length c1]) (nx, lx) ∧ Below w.heap.size w ((W.setCell ⟨w.heap.size + 1, 0, none⟩ (.bool nx)).setCell ⟨w.heap.size + 1, 1, none⟩ (.slice a1 lx.length c1))) := by
    intro W bW
    have B4 := B3.trans (bW.mono B3.size)
    refine ⟨⟨_, rfl, ownsI_mono ((ownsI.below X3 bW (Nat.le_refl _)).tn (tn_pair W (w.heap.size + 1) (.bool nx) (.slice a1 lx.length c1)) (fun k hk hs2 => ?_)) (Nat.min_le_left _ _)⟩, (B4.setCell (p := ⟨w.heap.size + 1, 0, none⟩) (by show w.heap.size ≤ w.heap.size + 1; omega) _).setCell (p := ⟨w.heap.size + 1, 1, none⟩) (by show w.heap.size ≤ w.heap.size + 1; omega) _⟩
    have h1 := (hs'.ltb k hk).2
    simp at hs2
    omega
  have HN : Hid (∀ W, Below w3.heap.size w3 W → ownsW ((W.setCell ⟨w.heap.size + 1, 0, none⟩ (.bool nr2)).setCell ⟨w.heap.size + 1, 1, none⟩ (.slice ad2 lr2.length cp2)) (min base w.heap.size) (.agg #[.bool nr2, .slice ad2 lr2.length cp2]) (nr2, lr2) ∧ Below w.heap.size w ((W.setCell ⟨w.heap.size + 1, 0, none⟩ (.bool nr2)).setCell ⟨w.heap.size + 1, 1, none⟩ (.slice ad2 lr2.length cp2))) := by
    intro W bW
    have B4 := B3.trans (bW.mono B3.size)
    refine ⟨ownsW_mono ((oN.below bW (Nat.le_refl _)).tn (tn_pair W (w.heap.size + 1) (.bool nr2) (.slice ad2 lr2.length cp2)) (fun k hk hs2 => ?_)) (by have := Nat.min_le_right base w.heap.size; omega), (B4.setCell (p := ⟨w.heap.size + 1, 0, none⟩) (by show w.heap.size ≤ w.heap.size + 1; omega) _).setCell (p := ⟨w.heap.size + 1, 1, none⟩) (by show w.heap.size ≤ w.heap.size + 1; omega) _⟩
    have h1 := (oN.ltb k hk).1
    simp at hs2
    omega
  clear X3 oN dX hs hs' A1 oAx R1 k1 kA b3
  cases whole
  · have hm5 : mode = 0 ∨ mode = 1 ∨ mode = 2 ∨ mode = 3 ∨ mode = 4 := by omega
    rcases hm5 with rfl | rfl | rfl | rfl | rfl
    · clear kO
      have HZ : Hid (mkW pz = (nx, lx)) := hz0 (by rw [← hpz]; simp [pickI, *])
      clear hz0 hz1 hpz A3 R3 oX
      go_wp2
      (try simp only [Exit.inBlock, Exit.then])
      refine bodyPost_ret (v := .agg #[.bool nx, .slice a1 lx.length c1]) ?_ rfl ⟨_, rfl, by rw [HZ.out]; exact (HF.out _ (Below.refl _ _)).1, (HF.out _ (Below.refl _ _)).2⟩
      rw [results_cell1 rfl]
      go_simp
    · clear kO
      have HZ : Hid (mkW pz = (nr2, lr2)) := hz1 (by rw [← hpz]; simp [pickI, *])
      clear hz0 hz1 hpz A3 R3 oX
      go_wp2
      (try simp only [Exit.inBlock, Exit.then])
      refine bodyPost_ret (v := .agg #[.bool nr2, .slice ad2 lr2.length cp2]) ?_ rfl ⟨_, rfl, by rw [HZ.out]; exact (HN.out _ (Below.refl _ _)).1, (HN.out _ (Below.refl _ _)).2⟩
      rw [results_cell1 rfl]
      go_simp
    · clear kO
      by_cases hx : x < 0
      · have hxn := HXN.out
        rw [decide_eq_true hx] at hxn
        subst hxn
        have HZ : Hid (mkW pz = (nr2, lr2)) := hz1 (by rw [← hpz]; simp [pickI, *])
        clear hz0 hz1 hpz A3 R3 oX
        go_wp2
        (try simp only [Exit.inBlock, Exit.then])
        refine bodyPost_ret (v := .agg #[.bool nr2, .slice ad2 lr2.length cp2]) ?_ rfl ⟨_, rfl, by rw [HZ.out]; exact (HN.out _ (Below.refl _ _)).1, (HN.out _ (Below.refl _ _)).2⟩
        rw [results_cell1 rfl]
        go_simp
      · have hxn := HXN.out
        rw [decide_eq_false hx] at hxn
        subst hxn
        have HZ : Hid (mkW pz = (false, lx)) := hz0 (by rw [← hpz]; simp [pickI, *])
        clear hz0 hz1 hpz A3 R3 oX
        go_wp2
        (try simp only [Exit.inBlock, Exit.then])
        refine bodyPost_ret (v := .agg #[.bool false, .slice a1 lx.length c1]) ?_ rfl ⟨_, rfl, by rw [HZ.out]; exact (HF.out _ (Below.refl _ _)).1, (HF.out _ (Below.refl _ _)).2⟩
        rw [results_cell1 rfl]
        go_simp
    · by_cases hp : 0 < half
      · have hp' : decide (0 < half) = true := decide_eq_true hp
        clear kO
        have HZ : Hid (mkW pz = (nr2, lr2)) := hz1 (by rw [← hpz]; simp [pickI, *])
        clear hz0 hz1 hpz A3 R3 oX
        go_wp2
        (try simp only [Exit.inBlock, Exit.then])
        refine bodyPost_ret (v := .agg #[.bool nr2, .slice ad2 lr2.length cp2]) ?_ rfl ⟨_, rfl, by rw [HZ.out]; exact (HN.out _ (Below.refl _ _)).1, (HN.out _ (Below.refl _ _)).2⟩
        rw [results_cell1 rfl]
        go_simp
      · have hp' : decide (0 < half) = false := decide_eq_false hp
        by_cases h0 : half = 0
        · subst h0
          by_cases hod : x % 2 = 1
          · rw [decide_eq_true hod] at kO
            have HZ : Hid (mkW pz = (nr2, lr2)) := hz1 (by rw [← hpz]; simp [pickI, *])
            clear hz0 hz1 hpz hod
            go_wp2_with (go_at_call 109; refine (kO _ B3).mono ?_; rintro e w4 ⟨rfl, b4⟩; have A4 := A3.below b4 (Nat.le_refl _); have R4 := R3.below b4 (Nat.le_refl _); have X4 := oX.below b4 (Nat.le_refl _); have r04 := A4.c0; have r14 := A4.c1; have x04 := X4.c0; have x14 := X4.c1; have y04 := R4.c0; have y14 := R4.c1; have yf04 := R4.f0; have yf14 := R4.f1)
            (try simp only [Exit.inBlock, Exit.then])
            refine bodyPost_ret (v := .agg #[.bool nr2, .slice ad2 lr2.length cp2]) ?_ rfl ⟨_, rfl, by rw [HZ.out]; exact (HN.out _ b4).1, (HN.out _ b4).2⟩
            rw [results_cell1 rfl]
            go_simp
          · rw [decide_eq_false hod] at kO
            have HZ : Hid (mkW pz = (nx, lx)) := hz0 (by rw [← hpz]; simp [pickI, *])
            clear hz0 hz1 hpz hod
            go_wp2_with (go_at_call 109; refine (kO _ B3).mono ?_; rintro e w4 ⟨rfl, b4⟩; have A4 := A3.below b4 (Nat.le_refl _); have R4 := R3.below b4 (Nat.le_refl _); have X4 := oX.below b4 (Nat.le_refl _); have r04 := A4.c0; have r14 := A4.c1; have x04 := X4.c0; have x14 := X4.c1; have y04 := R4.c0; have y14 := R4.c1; have yf04 := R4.f0; have yf14 := R4.f1)
            (try simp only [Exit.inBlock, Exit.then])
            refine bodyPost_ret (v := .agg #[.bool nx, .slice a1 lx.length c1]) ?_ rfl ⟨_, rfl, by rw [HZ.out]; exact (HF.out _ b4).1, (HF.out _ b4).2⟩
            rw [results_cell1 rfl]
            go_simp
        · have h0' : (half == 0) = false := by rw [beq_eq_false_iff_ne]; exact h0
          clear kO
          have HZ : Hid (mkW pz = (nx, lx)) := hz0 (by rw [← hpz]; simp [pickI, *])
          clear hz0 hz1 hpz A3 R3 oX
          go_wp2
          (try simp only [Exit.inBlock, Exit.then])
          refine bodyPost_ret (v := .agg #[.bool nx, .slice a1 lx.length c1]) ?_ rfl ⟨_, rfl, by rw [HZ.out]; exact (HF.out _ (Below.refl _ _)).1, (HF.out _ (Below.refl _ _)).2⟩
          rw [results_cell1 rfl]
          go_simp
    · clear kO
      by_cases hp : 0 < half
      · have hp' : decide (0 < half) = true := decide_eq_true hp
        have HZ : Hid (mkW pz = (nr2, lr2)) := hz1 (by rw [← hpz]; simp [pickI, *])
        clear hz0 hz1 hpz A3 R3 oX
        go_wp2
        (try simp only [Exit.inBlock, Exit.then])
        refine bodyPost_ret (v := .agg #[.bool nr2, .slice ad2 lr2.length cp2]) ?_ rfl ⟨_, rfl, by rw [HZ.out]; exact (HN.out _ (Below.refl _ _)).1, (HN.out _ (Below.refl _ _)).2⟩
        rw [results_cell1 rfl]
        go_simp
      · have hp' : decide (0 < half) = false := decide_eq_false hp
        by_cases h0 : half = 0
        · subst h0
          by_cases hx : x < 0
          · have hxn := HXN.out
            rw [decide_eq_true hx] at hxn
            subst hxn
            have HZ : Hid (mkW pz = (true, lx)) := hz0 (by rw [← hpz]; simp [pickI, *])
            clear hz0 hz1 hpz A3 R3 oX
            go_wp2
            (try simp only [Exit.inBlock, Exit.then])
            refine bodyPost_ret (v := .agg #[.bool true, .slice a1 lx.length c1]) ?_ rfl ⟨_, rfl, by rw [HZ.out]; exact (HF.out _ (Below.refl _ _)).1, (HF.out _ (Below.refl _ _)).2⟩
            rw [results_cell1 rfl]
            go_simp
          · have hxn := HXN.out
            rw [decide_eq_false hx] at hxn
            subst hxn
            have HZ : Hid (mkW pz = (nr2, lr2)) := hz1 (by rw [← hpz]; simp [pickI, *])
            clear hz0 hz1 hpz A3 R3 oX
            go_wp2
            (try simp only [Exit.inBlock, Exit.then])
            refine bodyPost_ret (v := .agg #[.bool nr2, .slice ad2 lr2.length cp2]) ?_ rfl ⟨_, rfl, by rw [HZ.out]; exact (HN.out _ (Below.refl _ _)).1, (HN.out _ (Below.refl _ _)).2⟩
            rw [results_cell1 rfl]
            go_simp
        · have h0' : (half == 0) = false := by rw [beq_eq_false_iff_ne]; exact h0
          have HZ : Hid (mkW pz = (nx, lx)) := hz0 (by rw [← hpz]; simp [pickI, *])
          clear hz0 hz1 hpz A3 R3 oX
          go_wp2
          (try simp only [Exit.inBlock, Exit.then])
          refine bodyPost_ret (v := .agg #[.bool nx, .slice a1 lx.length c1]) ?_ rfl ⟨_, rfl, by rw [HZ.out]; exact (HF.out _ (Below.refl _ _)).1, (HF.out _ (Below.refl _ _)).2⟩
          rw [results_cell1 rfl]
          go_simp
  · clear kO
    have HZ : Hid (mkW pz = (nx, lx)) := hz0 (by rw [← hpz]; simp [pickI, *])
    clear hz0 hz1 hpz A3 R3 oX
    go_wp2
    (try simp only [Exit.inBlock, Exit.then])
    refine bodyPost_ret (v := .agg #[.bool nx, .slice a1 lx.length c1]) ?_ rfl ⟨_, rfl, by rw [HZ.out]; exact (HF.out _ (Below.refl _ _)).1, (HF.out _ (Below.refl _ _)).2⟩
    rw [results_cell1 rfl]
    go_simp

end Go.Proofs.Ytmjejnhbmhehdaa
