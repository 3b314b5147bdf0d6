/- Several small texts in one: SLimb, SMax, STrim, SPlus, SLess, SCmp, SPow0, SPow, TimesM, SBits. -/
import Derived.Test.YtlpfjpbnedankaaBase
import Derived.Deep.QuietTactic
import Derived.BigQuiet
/- The specification's l2Limb, by its contract. -/
namespace Go.Proofs.Ytlpfjpbnedankaa
open Go.RowKit

theorem sLimb (v : Value) (xs : List Int) (i : Nat) (w : World) (h : rowI w v xs) :
    Calls Try.prog 106 #[v, .int .i64 i] w fun e w' => e = .returned (.int .i64 (xs.getD i 0)) ∧ w' = w := by
  obtain ⟨a, cap, rfl, h2, h3, h4, h5, h6⟩ := h
  by_cases hi : i < xs.length
  · obtain ⟨g, off, rfl, hg, hc⟩ := h6 i hi
    obtain ⟨d, hd⟩ : ∃ d, xs.getD i 0 = d := ⟨_, rfl⟩
    rw [hd] at hc ⊢
    clear hd h6 h4 h5
    go_enter Try.func106, Try.ntmps106
    go_wp2
    go_ret
    exact ⟨rfl, rfl⟩
  · have e : xs.getD i 0 = 0 := by rw [List.getD_eq_getElem?_getD, List.getElem?_eq_none (by omega)]; rfl
    rw [e]
    clear e h6 h4 h5
    go_enter Try.func106, Try.ntmps106
    go_wp2
    go_ret
    exact ⟨rfl, rfl⟩

end Go.Proofs.Ytlpfjpbnedankaa

/- The specification's l1Max, by its contract. -/
namespace Go.Proofs.Ytlpfjpbnedankaa
open Go.RowKit

theorem sMax (m n : Nat) (w : World) : Calls Try.prog 108 #[.int .i64 m, .int .i64 n] w fun e w' => e = .returned (.int .i64 (max m n : Nat)) ∧ w' = w := by
  by_cases h : (n : Int) < (m : Int)
  · have e : max m n = m := by omega
    rw [e]
    clear e
    go_enter Try.func108, Try.ntmps108
    go_wp2
    go_ret
    exact ⟨rfl, rfl⟩
  · have e : max m n = n := by omega
    rw [e]
    clear e
    go_enter Try.func108, Try.ntmps108
    go_wp2
    go_ret
    exact ⟨rfl, rfl⟩

end Go.Proofs.Ytlpfjpbnedankaa

/- The specification's l2Trim, by its contract. -/
namespace Go.Proofs.Ytlpfjpbnedankaa
open Go.RowKit

set_option maxHeartbeats 1600000 in
/-- l2Trim: the right list, in new memory. -/
theorem sTrim (v : Value) (xs : List Int) (w : World) (h : rowI w v xs) (hr : inR xs) (hl : xs.length ≤ 1073741824) :
    Calls Try.prog 107 #[v] w fun e w' => ∃ v', e = .returned v' ∧ ownsI w' w.heap.size v' (limbs (num xs)) ∧ Below w.heap.size w w' := by
  have hrow := h
  obtain ⟨a, cap, rfl, h2, h3, h4, h5, h6⟩ := h
  have H6 : Hid (∀ j, j < xs.length → ∃ g off, a = some ⟨g, off, none⟩ ∧ g < w.heap.size ∧ w.cell? ⟨g, off + j, none⟩ = some (.int .i64 (xs.getD j 0))) := h6
  clear h6 h4 h5
  have hbm : Below w.heap.size w (w.alloc (.cells #[] 3)) := (Below.refl _ _).alloc (Nat.le_refl _) _
  have hrow' : rowI (w.alloc (.cells #[] 3)) (.slice a xs.length cap) xs := hrow.below hbm (Nat.le_refl _)
  clear hrow
  go_enter Try.func107, Try.ntmps107
  go_wp2
  go_loop [3] (fun i => ∃ n : Nat, n ≤ xs.length ∧ i = .int .i64 n ∧ ∀ j, n ≤ j → j < xs.length → xs.getD j 0 = 0) (fun i => (intOf i).toNat)
  case atStart => exact ⟨xs.length, Nat.le_refl _, rfl, fun j h1 h2 => by omega⟩
  case round =>
    obtain ⟨n, hn, rfl, hz⟩ := hrel
    have HZ : Hid (∀ j, n ≤ j → j < xs.length → xs.getD j 0 = 0) := hz
    clear hz
    by_cases hn0 : n = 0
    · subst hn0
      have hn' : ¬ (0 : Int) < ((0 : Nat) : Int) := by omega
      have hfin := trim_limbs xs 0 hr (by omega) HZ.out (fun h => absurd h (by omega))
      have HF : Hid (xs.take 0 = limbs (num xs)) := hfin
      clear hfin
      go_wp2_with (at_builtin; refine wpI_all w _ rfl (.tmp 18) (.tmp 21) rfl w.heap.size _ _ [] (xs.take 0) rfl (made_own w) rfl (hrow'.take 0 (by omega)) hbm (by rw [List.length_take, List.length_nil]; omega) (by simp) ?_; intro v1 w1 o1 b1)
      go_ret
      exact ⟨_, rfl, by rw [← HF.out]; exact o1, b1⟩
    · obtain ⟨m, rfl⟩ : ∃ m, n = m + 1 := ⟨n - 1, by omega⟩
      obtain ⟨g, off, rfl, hg, hc⟩ := H6.out m (by omega)
      have hnp : (0 : Int) < ((m + 1 : Nat) : Int) := by omega
      by_cases hd : xs.getD m 0 = 0
      · rw [hd] at hc
        have HN : Hid (∀ j, m ≤ j → j < xs.length → xs.getD j 0 = 0) := fun j h1 h2 => by
          by_cases e : j = m
          · subst e; exact hd
          · exact HZ.out j (by omega) h2
        clear hd
        go_wp2
        go_round
        case rel => exact ⟨m, by omega, by go_num, HN.out⟩
        case measure => simp [intOf]
      · have HF : Hid (xs.take (m + 1) = limbs (num xs)) := trim_limbs xs (m + 1) hr hn HZ.out (fun _ => hd)
        obtain ⟨d, hdd⟩ : ∃ d, xs.getD m 0 = d := ⟨_, rfl⟩
        rw [hdd] at hc hd
        have ed : (d == 0) = false := by rw [beq_eq_false_iff_ne]; exact hd
        clear hdd hd
        go_wp2_with (at_builtin; refine wpI_all w _ rfl (.tmp 18) (.tmp 21) rfl w.heap.size _ _ [] (xs.take (m + 1)) rfl (made_own w) rfl (hrow'.take (m + 1) hn) hbm (by rw [List.length_take, List.length_nil]; omega) (by simp) ?_; intro v1 w1 o1 b1)
        go_ret
        exact ⟨_, rfl, by rw [← HF.out]; exact o1, b1⟩

end Go.Proofs.Ytlpfjpbnedankaa

/- The specification's l2Plus, by its contract. -/
namespace Go.Proofs.Ytlpfjpbnedankaa
open Go.RowKit

set_option maxHeartbeats 1600000 in
/-- l2Plus: the sum. -/
theorem sPlus (va vb : Value) (xs ys : List Int) (w : World) (ha : rowI w va xs) (hb : rowI w vb ys) (hxr : inR xs) (hyr : inR ys) (hlx : xs.length ≤ 1048576) (hly : ys.length ≤ 1048576) :
    Calls Try.prog 86 #[va, vb] w fun e w' => ∃ v', e = .returned v' ∧ ownsI w' w.heap.size v' (limbs (num xs + num ys)) ∧ Below w.heap.size w w' := by
  obtain ⟨a1, cap1, rfl, -⟩ := id ha
  obtain ⟨a2, cap2, rfl, -⟩ := id hb
  go_enter Try.func86, Try.ntmps86
  go_wp2
  go_loopw [5, 6, 7, 8] (fun v c i x wr => ∃ (k : Nat) (cc : Int) (out : List Int), k ≤ max xs.length ys.length + 1 ∧ i = .int .i64 k ∧ c = .int .i64 cc ∧ 0 ≤ cc ∧ cc ≤ 1 ∧ (max xs.length ys.length < k → cc = 0) ∧ out.length = k ∧ inR out ∧ Hid (lval out + 16777216 ^ k * cc = lval (xs.take k) + lval (ys.take k)) ∧ ownsI wr w.heap.size v out ∧ Below w.heap.size w wr) (fun _ _ i _ _ => max xs.length ys.length + 1 - (intOf i).toNat)
  case atStart => exact ⟨0, 0, [], by omega, rfl, rfl, by omega, by omega, fun _ => rfl, rfl, inR_nil, by show _ = _; simp [lval], made_own w, (Below.refl _ _).alloc (Nat.le_refl _) _⟩
  case round =>
    obtain ⟨k, cc, out, hk, rfl, rfl, c0, c1, cz, hol, hoR, HL, hown, hbw⟩ := hrel
    have hsz := hbw.size
    have ha' := ha.below hbw (Nat.le_refl _)
    have hb' := hb.below hbw (Nat.le_refl _)
    have gx := inR_getD hxr k
    have gy := inR_getD hyr k
    by_cases hlt : k ≤ max xs.length ys.length
    · have HT : Hid (lval (xs.take (k + 1)) = lval (xs.take k) + 16777216 ^ k * xs.getD k 0 ∧ lval (ys.take (k + 1)) = lval (ys.take k) + 16777216 ^ k * ys.getD k 0) := ⟨lval_take_succ xs k, lval_take_succ ys k⟩
      have hxz : xs.length ≤ k → xs.getD k 0 = 0 := fun h => by rw [List.getD_eq_getElem?_getD, List.getElem?_eq_none (by omega)]; rfl
      have hyz : ys.length ≤ k → ys.getD k 0 = 0 := fun h => by rw [List.getD_eq_getElem?_getD, List.getElem?_eq_none (by omega)]; rfl
      have cx := sLimb _ xs k wr ha'
      have cy := sLimb _ ys k wr hb'
      obtain ⟨xk, hxk⟩ : ∃ xk, xs.getD k 0 = xk := ⟨_, rfl⟩
      obtain ⟨yk, hyk⟩ : ∃ yk, ys.getD k 0 = yk := ⟨_, rfl⟩
      rw [hxk] at gx HT hxz cx
      rw [hyk] at gy HT hyz cy
      obtain ⟨gx0, gx1⟩ := gx
      obtain ⟨gy0, gy1⟩ := gy
      have HZ : Hid ((xs.length ≤ k → xk = 0) ∧ (ys.length ≤ k → yk = 0)) := ⟨hxz, hyz⟩
      clear hxk hyk ha' hb' hxz hyz
      have hlt' : (k : Int) ≤ ((max xs.length ys.length : Nat) : Int) := by omega
      go_wp2_with fail
      refine (sMax xs.length ys.length wr).mono ?_
      rintro e wr ⟨rfl, rfl⟩
      go_wp2_with fail
      refine cx.mono ?_
      rintro e wr ⟨rfl, rfl⟩
      go_wp2_with fail
      refine cy.mono ?_
      rintro e wr ⟨rfl, rfl⟩
      clear cx cy
      go_wp2_with (at_builtin; refine wpI_app w wr rfl (.tmp 28) (.tmp 31) rfl w.heap.size _ out _ rfl hown hbw rfl (by omega) hsz ?_; intro v1 w1 o1 b1)
      go_roundw
      case rel =>
        refine ⟨k + 1, (xk + yk + cc) / 16777216, out ++ [(xk + yk + cc) % 16777216], by omega, by go_num, rfl, by omega, by omega, fun h => ?_, by rw [List.length_append, List.length_singleton, hol], inR_append.2 ⟨hoR, inR_cons.2 ⟨by omega, inR_nil⟩⟩, ?_, o1, b1⟩
        · have z1 := HZ.out.1 (by omega)
          have z2 := HZ.out.2 (by omega)
          omega
        · show _ = _
          rw [HT.out.1, HT.out.2]
          exact plus_step k cc _ _ _ out hol HL.out xk yk rfl
      case measure => simp [intOf]; omega
    · have hke : k = max xs.length ys.length + 1 := by omega
      have hlt' : ¬ (k : Int) ≤ ((max xs.length ys.length : Nat) : Int) := by omega
      have hcz := cz (by omega)
      have hval : lval out = lval xs + lval ys := by
        have := HL.out
        rw [hcz, Int.mul_zero, Int.add_zero, List.take_of_length_le (by omega), List.take_of_length_le (by omega)] at this
        exact this
      have hnum : num out = num xs + num ys := by
        have h1 := num_val hoR
        have h2 := num_val hxr
        have h3 := num_val hyr
        omega
      have hrow := hown.row
      have hlo : out.length ≤ 1073741824 := by omega
      clear hval HL hcz ha' hb' gx gy
      go_wp2_with fail
      refine (sMax xs.length ys.length wr).mono ?_
      rintro e wr ⟨rfl, rfl⟩
      go_wp2_with fail
      refine (sTrim _ out wr hrow hoR hlo).mono ?_
      rintro e w1 ⟨v1, rfl, o1, b1⟩
      rw [hnum] at o1
      go_wp2
      go_ret
      exact ⟨_, rfl, ownsI_mono o1 hsz, hbw.trans (b1.mono hsz)⟩

end Go.Proofs.Ytlpfjpbnedankaa

/- The specification's l2Less, by its contract. -/
namespace Go.Proofs.Ytlpfjpbnedankaa
open Go.RowKit

set_option maxHeartbeats 1600000 in
/-- l2Less: the difference, a being no smaller. -/
theorem sLess (va vb : Value) (xs ys : List Int) (w : World) (ha : rowI w va xs) (hb : rowI w vb ys) (hxr : inR xs) (hyr : inR ys) (hlx : xs.length ≤ 1048576) (hly : ys.length ≤ xs.length) (hge : num ys ≤ num xs) :
    Calls Try.prog 88 #[va, vb] w fun e w' => ∃ v', e = .returned v' ∧ ownsI w' w.heap.size v' (limbs (num xs - num ys)) ∧ Below w.heap.size w w' := by
  obtain ⟨a1, cap1, rfl, -, -, -, -, h6⟩ := id ha
  obtain ⟨a2, cap2, rfl, -⟩ := id hb
  have H6 : Hid (∀ j, j < xs.length → ∃ g off, a1 = some ⟨g, off, none⟩ ∧ g < w.heap.size ∧ w.cell? ⟨g, off + j, none⟩ = some (.int .i64 (xs.getD j 0))) := h6
  clear h6
  go_enter Try.func88, Try.ntmps88
  go_wp2
  go_loopw [5, 6, 7, 8] (fun v c i x wr => ∃ (k : Nat) (bb : Int) (out : List Int), k ≤ xs.length ∧ i = .int .i64 k ∧ c = .int .i64 bb ∧ 0 ≤ bb ∧ bb ≤ 1 ∧ out.length = k ∧ inR out ∧ Hid (lval out - 16777216 ^ k * bb = lval (xs.take k) - lval (ys.take k)) ∧ ownsI wr w.heap.size v out ∧ Below w.heap.size w wr) (fun _ _ i _ _ => xs.length - (intOf i).toNat)
  case atStart => exact ⟨0, 0, [], by omega, rfl, rfl, by omega, by omega, rfl, inR_nil, by show _ = _; simp [lval], made_own w, (Below.refl _ _).alloc (Nat.le_refl _) _⟩
  case round =>
    obtain ⟨k, bb, out, hk, rfl, rfl, c0, c1, hol, hoR, HL, hown, hbw⟩ := hrel
    have hsz := hbw.size
    have hb' := hb.below hbw (Nat.le_refl _)
    have gx := inR_getD hxr k
    have gy := inR_getD hyr k
    by_cases hlt : k < xs.length
    · obtain ⟨g, off, rfl, hg, hc0⟩ := H6.out k hlt
      have hc : wr.cell? ⟨g, off + k, none⟩ = some (.int .i64 (xs.getD k 0)) := (hbw.cell (p := ⟨g, off + k, none⟩) hg).trans hc0
      have HT : Hid (lval (xs.take (k + 1)) = lval (xs.take k) + 16777216 ^ k * xs.getD k 0 ∧ lval (ys.take (k + 1)) = lval (ys.take k) + 16777216 ^ k * ys.getD k 0) := ⟨lval_take_succ xs k, lval_take_succ ys k⟩
      have cy := fun W (h : rowI W (.slice a2 ys.length cap2) ys) => sLimb _ ys k W h
      obtain ⟨xk, hxk⟩ : ∃ xk, xs.getD k 0 = xk := ⟨_, rfl⟩
      obtain ⟨yk, hyk⟩ : ∃ yk, ys.getD k 0 = yk := ⟨_, rfl⟩
      rw [hxk] at gx HT hc
      rw [hyk] at gy HT
      simp only [hyk] at cy
      obtain ⟨gx0, gx1⟩ := gx
      obtain ⟨gy0, gy1⟩ := gy
      clear hxk hyk hc0 ha
      go_wp2_with fail
      go_quiet ((go_at_call 106; exact Calls.quiet_of_same (cy _ hb')))
      clear cy hb'
      have hown' : ownsI (wr.drewN nq) w.heap.size u5 out := hown
      have hbw' : Below w.heap.size w (wr.drewN nq) := hbw.trans ⟨rfl, rfl, rfl, Nat.le_refl _, fun _ _ => rfl⟩
      have hsz' := hbw'.size
      clear hown hbw hc
      by_cases hneg : xk - yk - bb < 0
      · go_wp2_with (at_builtin; refine wpI_app w (wr.drewN nq) rfl (.tmp 30) (.tmp 32) rfl w.heap.size _ out _ rfl hown' hbw' rfl (by omega) hsz' ?_; intro v1 w1 o1 b1)
        go_roundw
        case rel => exact ⟨k + 1, 1, out ++ [xk - yk - bb + 16777216], by omega, by go_num, rfl, by omega, by omega, by rw [List.length_append, List.length_singleton, hol], inR_append.2 ⟨hoR, inR_cons.2 ⟨by omega, inR_nil⟩⟩, by show _ = _; rw [HT.out.1, HT.out.2]; exact less_step k bb _ _ _ out hol HL.out xk yk 1 _ rfl (by omega), o1, b1⟩
        case measure => simp [intOf]; omega
      · go_wp2_with (at_builtin; refine wpI_app w (wr.drewN nq) rfl (.tmp 30) (.tmp 32) rfl w.heap.size _ out _ rfl hown' hbw' rfl (by omega) hsz' ?_; intro v1 w1 o1 b1)
        go_roundw
        case rel => exact ⟨k + 1, 0, out ++ [xk - yk - bb], by omega, by go_num, rfl, by omega, by omega, by rw [List.length_append, List.length_singleton, hol], inR_append.2 ⟨hoR, inR_cons.2 ⟨by omega, inR_nil⟩⟩, by show _ = _; rw [HT.out.1, HT.out.2]; exact less_step k bb _ _ _ out hol HL.out xk yk 0 _ rfl (by omega), o1, b1⟩
        case measure => simp [intOf]; omega
    · have hke : k = xs.length := by omega
      subst hke
      have hnum : num out = num xs - num ys := by
        have h1 := num_val hoR
        have h2 := num_val hxr
        have h3 := num_val hyr
        have h4 := lval_lt hoR
        rw [hol] at h4
        have h5 := HL.out
        rw [List.take_of_length_le (Nat.le_refl _), List.take_of_length_le hly] at h5
        have h6 := pow_pos xs.length
        have hb0 : bb = 0 := by
          apply Classical.byContradiction; intro hn
          have hb1 : bb = 1 := by omega
          rw [hb1, Int.mul_one] at h5
          omega
        rw [hb0, Int.mul_zero] at h5
        omega
      have hrow := hown.row
      have hlo : out.length ≤ 1073741824 := by omega
      clear HL ha hb' gx gy
      go_wp2_with fail
      refine (sTrim _ out wr hrow hoR hlo).mono ?_
      rintro e w1 ⟨v1, rfl, o1, b1⟩
      rw [hnum] at o1
      go_wp2
      go_ret
      exact ⟨_, rfl, ownsI_mono o1 hsz, hbw.trans (b1.mono hsz)⟩

end Go.Proofs.Ytlpfjpbnedankaa

/- The specification's l2Cmp, by its contract. -/
namespace Go.Proofs.Ytlpfjpbnedankaa
open Go.RowKit

set_option maxHeartbeats 1600000 in
/-- l2Cmp. -/
theorem sCmp (va vb : Value) (xs ys : List Int) (w : World) (ha : rowI w va xs) (hb : rowI w vb ys) (hxr : inR xs) (hyr : inR ys) (hlx : xs.length ≤ 1048576) (hly : ys.length ≤ 1048576) :
    Calls Try.prog 87 #[va, vb] w fun e w' => e = .returned (.int .i64 (cmpI (num xs) (num ys))) ∧ w' = w := by
  obtain ⟨a1, cap1, rfl, -⟩ := id ha
  obtain ⟨a2, cap2, rfl, -⟩ := id hb
  go_enter Try.func87, Try.ntmps87
  go_wp2_with (go_at_call 108; refine (sMax xs.length ys.length w).mono ?_; rintro e w ⟨rfl, rfl⟩)
  go_loop [5, 6, 7] (fun i p q => ∃ k : Nat, k ≤ max xs.length ys.length ∧ i = .int .i64 ((k : Int) - 1) ∧ lval (xs.drop k) = lval (ys.drop k)) (fun i _ _ => (intOf i + 1).toNat)
  case atStart => exact ⟨max xs.length ys.length, Nat.le_refl _, by go_num, by rw [List.drop_of_length_le (by omega), List.drop_of_length_le (by omega)]⟩
  case round =>
    obtain ⟨k, hk, rfl, hd⟩ := hrel
    have HD : Hid (lval (xs.drop k) = lval (ys.drop k)) := hd
    clear hd
    by_cases hk0 : k = 0
    · subst hk0
      have HE : Hid (cmpI (num xs) (num ys) = 0) := by
        have h1 := num_val hxr
        have h2 := num_val hyr
        have h3 := HD.out
        rw [List.drop_zero, List.drop_zero] at h3
        show _ = _
        rw [cmpI, if_neg (by omega), if_neg (by omega)]
      go_wp2
      go_ret
      exact ⟨by rw [HE.out]; rfl, rfl⟩
    · obtain ⟨m, rfl⟩ : ∃ m, k = m + 1 := ⟨k - 1, by omega⟩
      have hm : ((m + 1 : Nat) : Int) - 1 = (m : Int) := by omega
      have dx := lval_drop xs m
      have dy := lval_drop ys m
      have cx := sLimb _ xs m w ha
      have cy := sLimb _ ys m w hb
      have gx := inR_getD hxr m
      have gy := inR_getD hyr m
      obtain ⟨xk, hxk⟩ : ∃ xk, xs.getD m 0 = xk := ⟨_, rfl⟩
      obtain ⟨yk, hyk⟩ : ∃ yk, ys.getD m 0 = yk := ⟨_, rfl⟩
      rw [hxk] at gx dx cx
      rw [hyk] at gy dy cy
      have hdd := HD.out
      rw [hm]
      clear hxk hyk HD hm
      by_cases h1 : xk < yk
      · have HE : Hid (cmpI (num xs) (num ys) = -1) := by
          show _ = _
          rw [cmpI, if_pos (cmp_lt hxr hyr m (by omega))]
        clear dx dy hdd gx gy
        go_wp2_with fail
        refine cx.mono ?_
        rintro e w ⟨rfl, rfl⟩
        go_wp2_with fail
        refine cy.mono ?_
        rintro e w ⟨rfl, rfl⟩
        go_wp2
        go_ret
        exact ⟨by rw [HE.out]; rfl, rfl⟩
      · by_cases h2 : yk < xk
        · have HE : Hid (cmpI (num xs) (num ys) = 1) := by
            have h3 := cmp_lt hyr hxr m (by omega)
            show _ = _
            rw [cmpI, if_neg (by omega), if_pos h3]
          clear dx dy hdd gx gy
          go_wp2_with fail
          refine cx.mono ?_
          rintro e w ⟨rfl, rfl⟩
          go_wp2_with fail
          refine cy.mono ?_
          rintro e w ⟨rfl, rfl⟩
          go_wp2
          go_ret
          exact ⟨by rw [HE.out]; rfl, rfl⟩
        · have hnext : Hid (lval (xs.drop m) = lval (ys.drop m)) := by show _ = _; omega
          clear dx dy hdd gx gy
          go_wp2_with fail
          refine cx.mono ?_
          rintro e w ⟨rfl, rfl⟩
          go_wp2_with fail
          refine cy.mono ?_
          rintro e w ⟨rfl, rfl⟩
          go_wp2
          go_round
          case rel => exact ⟨m, by omega, rfl, hnext.out⟩
          case measure => simp [intOf]

end Go.Proofs.Ytlpfjpbnedankaa

/- The specification's l2Pow, by its contract. -/
namespace Go.Proofs.Ytlpfjpbnedankaa
open Go.RowKit

theorem two_pow_le {k m : Nat} (h : k ≤ m) : (2 : Int) ^ k ≤ 2 ^ m := by
  have h1 := Nat.pow_le_pow_right (by omega : 0 < 2) h
  have e1 : ((2 ^ k : Nat) : Int) = (2 : Int) ^ k := by simp
  have e2 : ((2 ^ m : Nat) : Int) = (2 : Int) ^ m := by simp
  omega
theorem two_pow_pos (k : Nat) : (0 : Int) < 2 ^ k := Int.pow_pos (by omega)

set_option maxHeartbeats 800000 in
theorem sPow (k : Nat) (w : World) (hk : k ≤ 61) : Calls Try.prog 105 #[.int .i64 k] w fun e w' => e = .returned (.int .i64 ((2 : Int) ^ k)) ∧ w' = w := by
  go_enter Try.func105, Try.ntmps105
  go_wp2
  go_loop [3, 4] (fun t i => ∃ (j : Nat) (p : Int), j ≤ k ∧ i = .int .i64 j ∧ t = .int .i64 p ∧ Hid (p = (2 : Int) ^ j) ∧ 0 ≤ p ∧ p ≤ 2305843009213693952) (fun _ i => k - (intOf i).toNat)
  case atStart => exact ⟨0, 1, Nat.zero_le _, rfl, rfl, rfl, by omega, by omega⟩
  case round =>
    obtain ⟨j, p, hj, rfl, rfl, HP, p0, p1⟩ := hrel
    by_cases hlt : j < k
    · have hlt' : (j : Int) < (k : Int) := by omega
      have hb : p * 2 ≤ 2305843009213693952 := by
        have h1 := two_pow_le (show j + 1 ≤ 61 by omega)
        rw [Int.pow_succ, ← HP.out] at h1
        omega
      go_wp2
      go_round
      case rel => exact ⟨j + 1, p * 2, by omega, by go_num, rfl, by show _ = _; rw [HP.out, Int.pow_succ], by omega, hb⟩
      case measure => simp [intOf]; omega
    · have hjk : j = k := by omega
      subst hjk
      go_wp2
      go_ret
      exact ⟨by rw [← HP.out]; rfl, rfl⟩

end Go.Proofs.Ytlpfjpbnedankaa

/- The specification's l2Pow, by its contract, and what is said of limbs. -/

/- Products of limbs, step by step (plain facts). -/
namespace Go.Proofs.Ytlpfjpbnedankaa
open Go.RowKit

theorem lval_set (zs : List Int) (k : Nat) (y : Int) (h : k < zs.length) : lval (zs.set k y) = lval zs + 16777216 ^ k * (y - zs.getD k 0) := by
  induction zs generalizing k with
  | nil => simp at h
  | cons z r ih =>
    cases k with
    | zero => simp [lval]; omega
    | succ k =>
      have h' : k < r.length := by simpa using h
      simp only [List.set_cons_succ, lval, List.getD_cons_succ]
      rw [ih k h', Int.pow_succ]
      have : (16777216 : Int) ^ k * 16777216 * (y - r.getD k 0) = 16777216 * (16777216 ^ k * (y - r.getD k 0)) := by rw [Int.mul_comm ((16777216 : Int) ^ k) 16777216, Int.mul_assoc]
      rw [this]
      omega

theorem inR_set {zs : List Int} (h : inR zs) (k : Nat) {y : Int} (h0 : 0 ≤ y) (h1 : y < 16777216) : inR (zs.set k y) := fun x hx => by
  rcases List.mem_or_eq_of_mem_set hx with h' | rfl
  · exact h x h'
  · exact ⟨h0, h1⟩

theorem getD_set_ne (zs : List Int) (k m : Nat) (y : Int) (h : k ≠ m) : (zs.set k y).getD m 0 = zs.getD m 0 := by
  simp only [List.getD_eq_getElem?_getD, List.getElem?_set]
  rw [if_neg h]


theorem times_step (i j : Nat) (c x z xi yj A T : Int) (zs : List Int) (hl : i + j < zs.length) (hz : zs.getD (i + j) 0 = z) (h : lval zs + 16777216 ^ (i + j) * c = A + 16777216 ^ i * (xi * T)) (hx : x = z + xi * yj + c) :
    lval (zs.set (i + j) (x % 16777216)) + 16777216 ^ (i + (j + 1)) * (x / 16777216) = A + 16777216 ^ i * (xi * (T + 16777216 ^ j * yj)) := by
  rw [lval_set zs _ _ hl, hz, ← Nat.add_assoc, Int.pow_succ, Int.pow_add]
  rw [Int.pow_add] at h
  have e : x = 16777216 * (x / 16777216) + x % 16777216 := by omega
  obtain ⟨P, hP⟩ : ∃ P, (16777216 : Int) ^ i = P := ⟨_, rfl⟩
  obtain ⟨R, hR⟩ : ∃ R, (16777216 : Int) ^ j = R := ⟨_, rfl⟩
  obtain ⟨q, hq⟩ : ∃ q, x / 16777216 = q := ⟨_, rfl⟩
  obtain ⟨r, hr⟩ : ∃ r, x % 16777216 = r := ⟨_, rfl⟩
  rw [hq, hr] at e
  rw [hP, hR] at h
  rw [hP, hR, hq, hr]
  have e2 : r = z + xi * yj + c - 16777216 * q := by omega
  subst e2
  clear e hx hq hr
  grind

theorem mul_lim {a b : Int} (a0 : 0 ≤ a) (a1 : a < 16777216) (b0 : 0 ≤ b) (b1 : b < 16777216) : 0 ≤ a * b ∧ a * b ≤ 281474943156225 := by
  refine ⟨Int.mul_nonneg a0 b0, ?_⟩
  have := Int.mul_le_mul (show a ≤ 16777215 by omega) (show b ≤ 16777215 by omega) b0 (by omega)
  omega

end Go.Proofs.Ytlpfjpbnedankaa

/- The specification's l2Bits and NatBits, by their contracts. -/
namespace Go.Proofs.Ytlpfjpbnedankaa
open Go.RowKit

/-- How many bits a number has. -/
def nbits (n : Nat) : Nat := if n = 0 then 0 else nbits (n / 2) + 1
  termination_by n
  decreasing_by omega
theorem nbits_zero : nbits 0 = 0 := by rw [nbits]; simp
theorem nbits_pos (n : Nat) (h : 0 < n) : nbits n = nbits (n / 2) + 1 := by
  conv => lhs; rw [nbits]
  rw [if_neg (by omega)]
theorem nbits_high (p : Nat) : ∀ (a b : Nat), a < 2 ^ p → 0 < b → nbits (a + 2 ^ p * b) = p + nbits b := by
  induction p with
  | zero => intro a b h hb; have : a = 0 := by simpa using h
            subst this; simp
  | succ p ih =>
    intro a b h hb
    have h2 : 2 ^ (p + 1) * b = 2 * (2 ^ p * b) := by rw [Nat.pow_succ, Nat.mul_comm (2 ^ p) 2, Nat.mul_assoc]
    have hp : 0 < 2 ^ p * b := Nat.mul_pos (Nat.pow_pos (by omega)) hb
    rw [Nat.pow_succ] at h
    rw [h2, nbits_pos _ (by omega), show (a + 2 * (2 ^ p * b)) / 2 = a / 2 + 2 ^ p * b by omega, ih (a / 2) b (by omega) hb]
    omega
theorem base_pow (k : Nat) : 16777216 ^ k = 2 ^ (24 * k) := by rw [Nat.pow_mul]
/-- Bits of a list of limbs: by its last one. -/
theorem nbits_limbs {xs : List Int} (h : inR xs) (m : Nat) (hm : xs.length = m + 1) (hz : xs.getD m 0 ≠ 0) : nbits (num xs) = 24 * m + nbits (xs.getD m 0).toNat := by
  have hd := inR_getD h m
  have h1 := lval_split xs m
  have h2 := lval_drop xs m
  rw [List.drop_of_length_le (by omega : xs.length ≤ m + 1)] at h2
  simp only [lval, Int.mul_zero, Int.add_zero] at h2
  rw [h2] at h1
  have h3 := lval_take_lt h m
  have h4 := lval_nonneg (inR_take h m)
  have h5 := num_val h
  obtain ⟨t, ht⟩ := Int.eq_ofNat_of_zero_le h4
  obtain ⟨d, hdd⟩ := Int.eq_ofNat_of_zero_le hd.1
  rw [hdd] at h1 hz hd ⊢
  rw [ht] at h1 h3
  have e1 : ((16777216 ^ m : Nat) : Int) = (16777216 : Int) ^ m := by simp
  have h6 : num xs = t + 16777216 ^ m * d := by
    have : ((t + 16777216 ^ m * d : Nat) : Int) = (num xs : Int) := by
      rw [h5, h1]; simp
    omega
  rw [h6, base_pow, nbits_high (24 * m) t d (by rw [← base_pow]; omega) (by omega)]
  simp

def bitsR (xs : List Int) : Int := if okB xs = true then (nbits (num xs) : Int) else -1

theorem nbits_le (n : Nat) : nbits n ≤ n := by
  induction n using Nat.strongRecOn with
  | ind n ih =>
    by_cases h : n = 0
    · subst h; rw [nbits_zero]; omega
    · rw [nbits_pos n (by omega)]
      have := ih (n / 2) (by omega)
      omega

theorem nbits_le_pow (p : Nat) : ∀ n, n < 2 ^ p → nbits n ≤ p := by
  induction p with
  | zero => intro n h; have : n = 0 := by simpa using h
            subst this; rw [nbits_zero]; omega
  | succ p ih =>
    intro n h
    by_cases h0 : n = 0
    · subst h0; rw [nbits_zero]; omega
    · rw [nbits_pos n (by omega)]
      have := ih (n / 2) (by rw [Nat.pow_succ] at h; omega)
      omega
theorem lt_nbits (n : Nat) : n < 2 ^ nbits n := by
  induction n using Nat.strongRecOn with
  | ind n ih =>
    by_cases h : n = 0
    · subst h; rw [nbits_zero]; simp
    · rw [nbits_pos n (by omega), Nat.pow_succ]
      have := ih (n / 2) (by omega)
      omega
theorem num_lt {xs : List Int} (h : inR xs) : num xs < 2 ^ (24 * xs.length) := by
  have h1 := lval_lt h
  have h2 := num_val h
  have e : (((2 : Nat) ^ (24 * xs.length) : Nat) : Int) = (16777216 : Int) ^ xs.length := by
    rw [Nat.pow_mul]; simp
  omega
theorem nbits_len {xs : List Int} (h : inR xs) : nbits (num xs) ≤ 24 * xs.length := nbits_le_pow _ _ (num_lt h)

end Go.Proofs.Ytlpfjpbnedankaa
