/- Several small texts in one: StepI, STrim, SPlus, SLess, SWAdd, SWNeg, BoxLt, SWSub. -/
import Derived.Test.YtmbmnfphgcjhdaaRowI
import Derived.Deep.RegionHeldLaw
import Derived.Test.YtmbmnfphgcjhdaaLimbMore
import Derived.Test.YtmbmnfphgcjhdaaSLimb
import Derived.Test.YtmbmnfphgcjhdaaSMax
import Derived.Deep.QuietTactic
import Derived.BigQuiet
import Derived.Test.YtmbmnfphgcjhdaaSMake
import Derived.Test.YtmbmnfphgcjhdaaSCmp
import Derived.Deep.RegionHeld
import Derived.Test.YtmbmnfphgcjhdaaToW0
/- 'append(row of the call's own, row...)' as one step of a region that draws its order. -/
namespace Go.Proofs.Ytmbmnfphgcjhdaa
open Go.RowKit

theorem stepI_all (w0 w : World) {ops : Array Oper} {o : Oper} {a : Act} {K : Act → World → Prop} {Q : Exit → Act → World → Prop} {E : Prop} (hgd : o.guard = none) (s x : Operand)
    (ho : o.op = Op.call { callee := Callee.builtin Builtin.append, args := #[s, x], argTypes := #[22, 22] }) (base : Nat) (v v2 : Value) (xs ys : List Int)
    (hs : a.eval s = v) (hown : ownsI w base v xs) (hx : a.eval x = v2) (hy : rowI w v2 ys) (hb : Below base w0 w) (hlen : xs.length + ys.length ≤ 1099511627776) (hbase : base ≤ w.heap.size)
    (h : ∀ v' w', ownsI w' base v' (xs ++ ys) → Below base w0 w' → K (a.put o.dst v') w') :
    if Region.wanted o (yielded ops a.tmps) = true then Oper.wp Try.prog o a w K Q else E := by
  have hw : Region.wanted o (yielded ops a.tmps) = true := by simp [Region.wanted, hgd]
  rw [if_pos hw]
  obtain ⟨i0, hi, hz0, hz1, hz2⟩ := info_parts Try.info3
  obtain ⟨ad, cap, rfl, h2, h3, h4, h5, h6⟩ := hy
  cases ad with
  | none =>
    have hc := h4 rfl
    have hy0 : ys.length = 0 := by omega
    obtain rfl := List.eq_nil_of_length_eq_zero hy0
    subst hc
    have hx' : a.eval x = .slice none 0 0 := hx
    have hrun := run_append_owned_none (P := Try.prog) (w := w) base 22 o.type 3 i0 1 Try.underlying22 hi v xs.length (xs.map (Value.int .i64)) hown
    unfold Oper.wp
    simp [execOp, ho, resolve, invoke, builtin, hs, hx', hrun, Result.andThen]
    exact h v w (by rw [List.append_nil]; exact hown) hb
  | some ad =>
    obtain ⟨g0, off0, spot⟩ := ad
    have hsp : spot = none := h5 _ rfl
    subst hsp
    refine wp_append_own _ s x 22 ho base 3 i0 (.int .i64 0) 1 8 Try.underlying22 hi hz0 hz1 hz2 rfl (by decide) v xs.length (xs.map (Value.int .i64)) hs hown ⟨g0, off0, none⟩ ys.length cap (ys.map (Value.int .i64)) hx (by simp) ?_ ?_ ?_ ?_ hbase ?_
    · intro j u hj
      rw [List.getElem?_map] at hj
      have hjl : j < ys.length := by
        apply Classical.byContradiction; intro hn
        rw [List.getElem?_eq_none (by omega)] at hj; cases hj
      obtain ⟨g, off, e, hg, hc⟩ := h6 j hjl
      cases e
      rw [List.getElem?_eq_getElem hjl] at hj
      simp only [Option.map_some, Option.some.injEq] at hj
      subst hj
      have hgd : ys.getD j 0 = ys[j] := by rw [List.getD_eq_getElem?_getD, List.getElem?_eq_getElem hjl]; rfl
      rw [hgd] at hc
      unfold Addr.add
      by_cases hj0 : j = 0
      · subst hj0; simpa using hc
      · simpa [hj0] using hc
    · intro u hu; obtain ⟨z, _, rfl⟩ := List.mem_map.1 hu; rfl
    · unfold maxLen; omega
    · omega
    · intro v' w' ho' hg _
      refine h v' w' ?_ (hb.grown hg hbase fun k hk => (World.ownsRow.lt hown k hk).1)
      unfold ownsI
      rw [List.length_append, List.map_append]
      exact ho'

end Go.Proofs.Ytmbmnfphgcjhdaa

/- The specification's l2Trim, by its contract. -/
namespace Go.Proofs.Ytmbmnfphgcjhdaa
open Go.RowKit

set_option maxHeartbeats 1600000 in
/-- l2Trim: the right list, in new memory. -/
theorem sTrim (v : Value) (xs : List Int) (w : World) (h : rowI w v xs) (hr : inR xs) (hl : xs.length ≤ 1073741824) :
    Calls Try.prog 105 #[v] w fun e w' => ∃ v', e = .returned v' ∧ ownsI w' w.heap.size v' (limbs (num xs)) ∧ Below w.heap.size w w' := by
  have hrow := h
  obtain ⟨a, cap, rfl, h2, h3, h4, h5, h6⟩ := h
  have H6 : Hid (∀ j, j < xs.length → ∃ g off, a = some ⟨g, off, none⟩ ∧ g < w.heap.size ∧ w.cell? ⟨g, off + j, none⟩ = some (.int .i64 (xs.getD j 0))) := h6
  clear h6 h4 h5
  have hbm : Below w.heap.size w (w.alloc (.cells #[] 3)) := (Below.refl _ _).alloc (Nat.le_refl _) _
  have hrow' : rowI (w.alloc (.cells #[] 3)) (.slice a xs.length cap) xs := hrow.below hbm (Nat.le_refl _)
  clear hrow
  go_enter Try.func105, Try.ntmps105
  go_wp2
  go_loop [3] (fun i => ∃ n : Nat, n ≤ xs.length ∧ i = .int .i64 n ∧ ∀ j, n ≤ j → j < xs.length → xs.getD j 0 = 0) (fun i => (intOf i).toNat)
  case atStart => exact ⟨xs.length, Nat.le_refl _, rfl, fun j h1 h2 => by omega⟩
  case round =>
    obtain ⟨n, hn, rfl, hz⟩ := hrel
    have HZ : Hid (∀ j, n ≤ j → j < xs.length → xs.getD j 0 = 0) := hz
    clear hz
    by_cases hn0 : n = 0
    · subst hn0
      have hn' : ¬ (0 : Int) < ((0 : Nat) : Int) := by omega
      have hfin := trim_limbs xs 0 hr (by omega) HZ.out (fun h => absurd h (by omega))
      have HF : Hid (xs.take 0 = limbs (num xs)) := hfin
      clear hfin
      go_wp2_with (at_builtin; refine wpI_all w _ rfl (.tmp 18) (.tmp 21) rfl w.heap.size _ _ [] (xs.take 0) rfl (made_own w) rfl (hrow'.take 0 (by omega)) hbm (by rw [List.length_take, List.length_nil]; omega) (by simp) ?_; intro v1 w1 o1 b1)
      go_ret
      exact ⟨_, rfl, by rw [← HF.out]; exact o1, b1⟩
    · obtain ⟨m, rfl⟩ : ∃ m, n = m + 1 := ⟨n - 1, by omega⟩
      obtain ⟨g, off, rfl, hg, hc⟩ := H6.out m (by omega)
      have hnp : (0 : Int) < ((m + 1 : Nat) : Int) := by omega
      by_cases hd : xs.getD m 0 = 0
      · rw [hd] at hc
        have HN : Hid (∀ j, m ≤ j → j < xs.length → xs.getD j 0 = 0) := fun j h1 h2 => by
          by_cases e : j = m
          · subst e; exact hd
          · exact HZ.out j (by omega) h2
        clear hd
        go_wp2
        go_round
        case rel => exact ⟨m, by omega, by go_num, HN.out⟩
        case measure => simp [intOf]
      · have HF : Hid (xs.take (m + 1) = limbs (num xs)) := trim_limbs xs (m + 1) hr hn HZ.out (fun _ => hd)
        obtain ⟨d, hdd⟩ : ∃ d, xs.getD m 0 = d := ⟨_, rfl⟩
        rw [hdd] at hc hd
        have ed : (d == 0) = false := by rw [beq_eq_false_iff_ne]; exact hd
        clear hdd hd
        go_wp2_with (at_builtin; refine wpI_all w _ rfl (.tmp 18) (.tmp 21) rfl w.heap.size _ _ [] (xs.take (m + 1)) rfl (made_own w) rfl (hrow'.take (m + 1) hn) hbm (by rw [List.length_take, List.length_nil]; omega) (by simp) ?_; intro v1 w1 o1 b1)
        go_ret
        exact ⟨_, rfl, by rw [← HF.out]; exact o1, b1⟩

end Go.Proofs.Ytmbmnfphgcjhdaa

/- The specification's l2Plus, by its contract. -/
namespace Go.Proofs.Ytmbmnfphgcjhdaa
open Go.RowKit

set_option maxHeartbeats 1600000 in
/-- l2Plus: the sum. -/
theorem sPlus (va vb : Value) (xs ys : List Int) (w : World) (ha : rowI w va xs) (hb : rowI w vb ys) (hxr : inR xs) (hyr : inR ys) (hlx : xs.length ≤ 1048576) (hly : ys.length ≤ 1048576) :
    Calls Try.prog 95 #[va, vb] w fun e w' => ∃ v', e = .returned v' ∧ ownsI w' w.heap.size v' (limbs (num xs + num ys)) ∧ Below w.heap.size w w' := by
  obtain ⟨a1, cap1, rfl, -⟩ := id ha
  obtain ⟨a2, cap2, rfl, -⟩ := id hb
  go_enter Try.func95, Try.ntmps95
  go_wp2
  go_loopw [5, 6, 7, 8] (fun v c i x wr => ∃ (k : Nat) (cc : Int) (out : List Int), k ≤ max xs.length ys.length + 1 ∧ i = .int .i64 k ∧ c = .int .i64 cc ∧ 0 ≤ cc ∧ cc ≤ 1 ∧ (max xs.length ys.length < k → cc = 0) ∧ out.length = k ∧ inR out ∧ Hid (lval out + 16777216 ^ k * cc = lval (xs.take k) + lval (ys.take k)) ∧ ownsI wr w.heap.size v out ∧ Below w.heap.size w wr) (fun _ _ i _ _ => max xs.length ys.length + 1 - (intOf i).toNat)
  case atStart => exact ⟨0, 0, [], by omega, rfl, rfl, by omega, by omega, fun _ => rfl, rfl, inR_nil, by show _ = _; simp [lval], made_own w, (Below.refl _ _).alloc (Nat.le_refl _) _⟩
  case round =>
    obtain ⟨k, cc, out, hk, rfl, rfl, c0, c1, cz, hol, hoR, HL, hown, hbw⟩ := hrel
    have hsz := hbw.size
    have ha' := ha.below hbw (Nat.le_refl _)
    have hb' := hb.below hbw (Nat.le_refl _)
    have gx := inR_getD hxr k
    have gy := inR_getD hyr k
    by_cases hlt : k ≤ max xs.length ys.length
    · have HT : Hid (lval (xs.take (k + 1)) = lval (xs.take k) + 16777216 ^ k * xs.getD k 0 ∧ lval (ys.take (k + 1)) = lval (ys.take k) + 16777216 ^ k * ys.getD k 0) := ⟨lval_take_succ xs k, lval_take_succ ys k⟩
      have hxz : xs.length ≤ k → xs.getD k 0 = 0 := fun h => by rw [List.getD_eq_getElem?_getD, List.getElem?_eq_none (by omega)]; rfl
      have hyz : ys.length ≤ k → ys.getD k 0 = 0 := fun h => by rw [List.getD_eq_getElem?_getD, List.getElem?_eq_none (by omega)]; rfl
      have cx := sLimb _ xs k wr ha'
      have cy := sLimb _ ys k wr hb'
      obtain ⟨xk, hxk⟩ : ∃ xk, xs.getD k 0 = xk := ⟨_, rfl⟩
      obtain ⟨yk, hyk⟩ : ∃ yk, ys.getD k 0 = yk := ⟨_, rfl⟩
      rw [hxk] at gx HT hxz cx
      rw [hyk] at gy HT hyz cy
      obtain ⟨gx0, gx1⟩ := gx
      obtain ⟨gy0, gy1⟩ := gy
      have HZ : Hid ((xs.length ≤ k → xk = 0) ∧ (ys.length ≤ k → yk = 0)) := ⟨hxz, hyz⟩
      clear hxk hyk ha' hb' hxz hyz
      have hlt' : (k : Int) ≤ ((max xs.length ys.length : Nat) : Int) := by omega
      go_wp2_with fail
      refine (sMax xs.length ys.length wr).mono ?_
      rintro e wr ⟨rfl, rfl⟩
      go_wp2_with fail
      refine cx.mono ?_
      rintro e wr ⟨rfl, rfl⟩
      go_wp2_with fail
      refine cy.mono ?_
      rintro e wr ⟨rfl, rfl⟩
      clear cx cy
      go_wp2_with (at_builtin; refine wpI_app w wr rfl (.tmp 28) (.tmp 31) rfl w.heap.size _ out _ rfl hown hbw rfl (by omega) hsz ?_; intro v1 w1 o1 b1)
      go_roundw
      case rel =>
        refine ⟨k + 1, (xk + yk + cc) / 16777216, out ++ [(xk + yk + cc) % 16777216], by omega, by go_num, rfl, by omega, by omega, fun h => ?_, by rw [List.length_append, List.length_singleton, hol], inR_append.2 ⟨hoR, inR_cons.2 ⟨by omega, inR_nil⟩⟩, ?_, o1, b1⟩
        · have z1 := HZ.out.1 (by omega)
          have z2 := HZ.out.2 (by omega)
          omega
        · show _ = _
          rw [HT.out.1, HT.out.2]
          exact plus_step k cc _ _ _ out hol HL.out xk yk rfl
      case measure => simp [intOf]; omega
    · have hke : k = max xs.length ys.length + 1 := by omega
      have hlt' : ¬ (k : Int) ≤ ((max xs.length ys.length : Nat) : Int) := by omega
      have hcz := cz (by omega)
      have hval : lval out = lval xs + lval ys := by
        have := HL.out
        rw [hcz, Int.mul_zero, Int.add_zero, List.take_of_length_le (by omega), List.take_of_length_le (by omega)] at this
        exact this
      have hnum : num out = num xs + num ys := by
        have h1 := num_val hoR
        have h2 := num_val hxr
        have h3 := num_val hyr
        omega
      have hrow := hown.row
      have hlo : out.length ≤ 1073741824 := by omega
      clear hval HL hcz ha' hb' gx gy
      go_wp2_with fail
      refine (sMax xs.length ys.length wr).mono ?_
      rintro e wr ⟨rfl, rfl⟩
      go_wp2_with fail
      refine (sTrim _ out wr hrow hoR hlo).mono ?_
      rintro e w1 ⟨v1, rfl, o1, b1⟩
      rw [hnum] at o1
      go_wp2
      go_ret
      exact ⟨_, rfl, ownsI_mono o1 hsz, hbw.trans (b1.mono hsz)⟩

end Go.Proofs.Ytmbmnfphgcjhdaa

/- The specification's l2Less, by its contract. -/
namespace Go.Proofs.Ytmbmnfphgcjhdaa
open Go.RowKit

set_option maxHeartbeats 1600000 in
/-- l2Less: the difference, a being no smaller. -/
theorem sLess (va vb : Value) (xs ys : List Int) (w : World) (ha : rowI w va xs) (hb : rowI w vb ys) (hxr : inR xs) (hyr : inR ys) (hlx : xs.length ≤ 1048576) (hly : ys.length ≤ xs.length) (hge : num ys ≤ num xs) :
    Calls Try.prog 96 #[va, vb] w fun e w' => ∃ v', e = .returned v' ∧ ownsI w' w.heap.size v' (limbs (num xs - num ys)) ∧ Below w.heap.size w w' := by
  obtain ⟨a1, cap1, rfl, -, -, -, -, h6⟩ := id ha
  obtain ⟨a2, cap2, rfl, -⟩ := id hb
  have H6 : Hid (∀ j, j < xs.length → ∃ g off, a1 = some ⟨g, off, none⟩ ∧ g < w.heap.size ∧ w.cell? ⟨g, off + j, none⟩ = some (.int .i64 (xs.getD j 0))) := h6
  clear h6
  go_enter Try.func96, Try.ntmps96
  go_wp2
  go_loopw [5, 6, 7, 8] (fun v c i x wr => ∃ (k : Nat) (bb : Int) (out : List Int), k ≤ xs.length ∧ i = .int .i64 k ∧ c = .int .i64 bb ∧ 0 ≤ bb ∧ bb ≤ 1 ∧ out.length = k ∧ inR out ∧ Hid (lval out - 16777216 ^ k * bb = lval (xs.take k) - lval (ys.take k)) ∧ ownsI wr w.heap.size v out ∧ Below w.heap.size w wr) (fun _ _ i _ _ => xs.length - (intOf i).toNat)
  case atStart => exact ⟨0, 0, [], by omega, rfl, rfl, by omega, by omega, rfl, inR_nil, by show _ = _; simp [lval], made_own w, (Below.refl _ _).alloc (Nat.le_refl _) _⟩
  case round =>
    obtain ⟨k, bb, out, hk, rfl, rfl, c0, c1, hol, hoR, HL, hown, hbw⟩ := hrel
    have hsz := hbw.size
    have hb' := hb.below hbw (Nat.le_refl _)
    have gx := inR_getD hxr k
    have gy := inR_getD hyr k
    by_cases hlt : k < xs.length
    · obtain ⟨g, off, rfl, hg, hc0⟩ := H6.out k hlt
      have hc : wr.cell? ⟨g, off + k, none⟩ = some (.int .i64 (xs.getD k 0)) := (hbw.cell (p := ⟨g, off + k, none⟩) hg).trans hc0
      have HT : Hid (lval (xs.take (k + 1)) = lval (xs.take k) + 16777216 ^ k * xs.getD k 0 ∧ lval (ys.take (k + 1)) = lval (ys.take k) + 16777216 ^ k * ys.getD k 0) := ⟨lval_take_succ xs k, lval_take_succ ys k⟩
      have cy := fun W (h : rowI W (.slice a2 ys.length cap2) ys) => sLimb _ ys k W h
      obtain ⟨xk, hxk⟩ : ∃ xk, xs.getD k 0 = xk := ⟨_, rfl⟩
      obtain ⟨yk, hyk⟩ : ∃ yk, ys.getD k 0 = yk := ⟨_, rfl⟩
      rw [hxk] at gx HT hc
      rw [hyk] at gy HT
      simp only [hyk] at cy
      obtain ⟨gx0, gx1⟩ := gx
      obtain ⟨gy0, gy1⟩ := gy
      clear hxk hyk hc0 ha
      go_wp2_with fail
      go_quiet ((go_at_call 100; exact Calls.quiet_of_same (cy _ hb')))
      clear cy hb'
      have hown' : ownsI (wr.drewN nq) w.heap.size u5 out := hown
      have hbw' : Below w.heap.size w (wr.drewN nq) := hbw.trans ⟨rfl, rfl, rfl, Nat.le_refl _, fun _ _ => rfl⟩
      have hsz' := hbw'.size
      clear hown hbw hc
      by_cases hneg : xk - yk - bb < 0
      · go_wp2_with (at_builtin; refine wpI_app w (wr.drewN nq) rfl (.tmp 30) (.tmp 32) rfl w.heap.size _ out _ rfl hown' hbw' rfl (by omega) hsz' ?_; intro v1 w1 o1 b1)
        go_roundw
        case rel => exact ⟨k + 1, 1, out ++ [xk - yk - bb + 16777216], by omega, by go_num, rfl, by omega, by omega, by rw [List.length_append, List.length_singleton, hol], inR_append.2 ⟨hoR, inR_cons.2 ⟨by omega, inR_nil⟩⟩, by show _ = _; rw [HT.out.1, HT.out.2]; exact less_step k bb _ _ _ out hol HL.out xk yk 1 _ rfl (by omega), o1, b1⟩
        case measure => simp [intOf]; omega
      · go_wp2_with (at_builtin; refine wpI_app w (wr.drewN nq) rfl (.tmp 30) (.tmp 32) rfl w.heap.size _ out _ rfl hown' hbw' rfl (by omega) hsz' ?_; intro v1 w1 o1 b1)
        go_roundw
        case rel => exact ⟨k + 1, 0, out ++ [xk - yk - bb], by omega, by go_num, rfl, by omega, by omega, by rw [List.length_append, List.length_singleton, hol], inR_append.2 ⟨hoR, inR_cons.2 ⟨by omega, inR_nil⟩⟩, by show _ = _; rw [HT.out.1, HT.out.2]; exact less_step k bb _ _ _ out hol HL.out xk yk 0 _ rfl (by omega), o1, b1⟩
        case measure => simp [intOf]; omega
    · have hke : k = xs.length := by omega
      subst hke
      have hnum : num out = num xs - num ys := by
        have h1 := num_val hoR
        have h2 := num_val hxr
        have h3 := num_val hyr
        have h4 := lval_lt hoR
        rw [hol] at h4
        have h5 := HL.out
        rw [List.take_of_length_le (Nat.le_refl _), List.take_of_length_le hly] at h5
        have h6 := pow_pos xs.length
        have hb0 : bb = 0 := by
          apply Classical.byContradiction; intro hn
          have hb1 : bb = 1 := by omega
          rw [hb1, Int.mul_one] at h5
          omega
        rw [hb0, Int.mul_zero] at h5
        omega
      have hrow := hown.row
      have hlo : out.length ≤ 1073741824 := by omega
      clear HL ha hb' gx gy
      go_wp2_with fail
      refine (sTrim _ out wr hrow hoR hlo).mono ?_
      rintro e w1 ⟨v1, rfl, o1, b1⟩
      rw [hnum] at o1
      go_wp2
      go_ret
      exact ⟨_, rfl, ownsI_mono o1 hsz, hbw.trans (b1.mono hsz)⟩

end Go.Proofs.Ytmbmnfphgcjhdaa

/- The specification's l4Add, by its contract. -/
namespace Go.Proofs.Ytmbmnfphgcjhdaa
open Go.RowKit

theorem signed (x : Int) : (if (mkW x).1 = true then -(x.natAbs : Int) else (x.natAbs : Int)) = x := by
  unfold mkW
  by_cases h : x < 0
  · simp [h]; omega
  · simp [h]; omega

set_option maxHeartbeats 1600000 in
theorem sWAdd (va vb : Value) (x y : Int) (w : World) (ha : rowW w va (mkW x)) (hb : rowW w vb (mkW y)) (hlx : (limbs x.natAbs).length ≤ 1000000) (hly : (limbs y.natAbs).length ≤ 1000000) :
    Calls Try.prog 81 #[va, vb] w fun e w' => ∃ v, e = .returned v ∧ ownsW w' w.heap.size v (mkW (x + y)) ∧ Below w.heap.size w w' := by
  obtain ⟨s, rfl, hs⟩ := ha
  obtain ⟨t, rfl, ht⟩ := hb
  have hs' : rowI w s (limbs x.natAbs) := hs
  have ht' : rowI w t (limbs y.natAbs) := ht
  have sx := signed x
  have sy := signed y
  obtain ⟨na, hna⟩ : ∃ n, (mkW x).1 = n := ⟨_, rfl⟩
  obtain ⟨nb, hnb⟩ : ∃ n, (mkW y).1 = n := ⟨_, rfl⟩
  obtain ⟨mx, hmx⟩ : ∃ n, x.natAbs = n := ⟨_, rfl⟩
  obtain ⟨my, hmy⟩ : ∃ n, y.natAbs = n := ⟨_, rfl⟩
  rw [hna, hmx] at sx
  rw [hnb, hmy] at sy
  rw [hmx] at hs' hlx
  rw [hmy] at ht' hly
  rw [hna, hnb]
  obtain ⟨a1, c1, rfl, -⟩ := id hs'
  obtain ⟨a2, c2, rfl, -⟩ := id ht'
  obtain ⟨nr, lr, hm5⟩ : ∃ nb lb, mkW (x + y) = (nb, lb) := ⟨_, _, rfl⟩
  rw [hm5]
  have HXY : Hid (x + y = (if na = true then -(mx : Int) else (mx : Int)) + (if nb = true then -(my : Int) else (my : Int))) := by show _ = _; rw [sx, sy]
  have HM : Hid (mkW (x + y) = (nr, lr)) := hm5
  clear hs ht hna hnb hmx hmy sx sy hm5
  have kc := fun W (h : Below w.heap.size w W) => sCmp _ _ (limbs mx) (limbs my) W (hs'.below h (Nat.le_refl _)) (ht'.below h (Nat.le_refl _)) (limbs_inR _) (limbs_inR _) (by omega) (by omega)
  simp only [num_limbs] at kc
  have kp := fun W (h : Below w.heap.size w W) => sPlus _ _ (limbs mx) (limbs my) W (hs'.below h (Nat.le_refl _)) (ht'.below h (Nat.le_refl _)) (limbs_inR _) (limbs_inR _) (by omega) (by omega)
  simp only [num_limbs] at kp
  -- the boxes
  have s1 : (w.alloc (.cells #[.bool na, .slice a1 (limbs mx).length c1] 26)).heap.size = w.heap.size + 1 := by simp
  have s2 : ((w.alloc (.cells #[.bool na, .slice a1 (limbs mx).length c1] 26)).alloc (.cells #[.bool nb, .slice a2 (limbs my).length c2] 26)).heap.size = w.heap.size + 1 + 1 := by simp
  have A1 := ((BoxW.made w (.bool na) (.slice a1 (limbs mx).length c1) 26).below (below1 _ (.cells #[.bool nb, .slice a2 (limbs my).length c2] 26)) (Nat.le_refl _)).below (below1 _ (.cells #[.bool false, .slice none 0 0] 26)) (Nat.le_refl _)
  have C1 := (BoxW.made (w.alloc (.cells #[.bool na, .slice a1 (limbs mx).length c1] 26)) (.bool nb) (.slice a2 (limbs my).length c2) 26).below (below1 _ (.cells #[.bool false, .slice none 0 0] 26)) (Nat.le_refl _)
  rw [s1] at C1
  have R1 := BoxW.made ((w.alloc (.cells #[.bool na, .slice a1 (limbs mx).length c1] 26)).alloc (.cells #[.bool nb, .slice a2 (limbs my).length c2] 26)) (.bool false) (.slice none 0 0) 26
  rw [s2] at R1
  have B := below3 w (.cells #[.bool na, .slice a1 (limbs mx).length c1] 26) (.cells #[.bool nb, .slice a2 (limbs my).length c2] 26) (.cells #[.bool false, .slice none 0 0] 26)
  clear s1 s2
  by_cases hsg : na = nb
  · have kM := fun v4 w4 base (h : ownsI w4 base v4 (limbs (mx + my))) => sMake na v4 (mx + my) base w4 h (by have := add_limbs mx my 1000000 hlx hly; omega)
    have hz : (if na = true then -((mx + my : Nat) : Int) else ((mx + my : Nat) : Int)) = x + y := by rw [HXY.out, ← hsg]; cases na <;> simp <;> omega
    rw [hz, HM.out] at kM
    have ebb : (na == nb) = true := by rw [hsg]; simp
    clear HXY HM kc hz hsg
    · go_enter Try.func81, Try.ntmps81
      go_wp2_with fail
      generalize ((w.alloc (.cells #[.bool na, .slice a1 (limbs mx).length c1] 26)).alloc (.cells #[.bool nb, .slice a2 (limbs my).length c2] 26)).alloc (.cells #[.bool false, .slice none 0 0] 26) = w2 at *
      have b2 := (Below.refl w2.heap.size w2).drew
      have A2 := A1.below b2 (Nat.le_refl _)
      have C2 := C1.below b2 (Nat.le_refl _)
      have R2 := R1.below b2 (Nat.le_refl _)
      have B2 := B.trans (b2.mono B.size)
      have a0 := A2.c0
      have a1' := A2.c1
      have e0 := C2.c0
      have e1' := C2.c1
      have n1 : ¬ (w.heap.size = w.heap.size + 1 + 1) := by omega
      have n2 : ¬ (w.heap.size + 1 + 1 = w.heap.size) := by omega
      have n3 : ¬ (w.heap.size + 1 = w.heap.size + 1 + 1) := by omega
      have n4 : ¬ (w.heap.size + 1 + 1 = w.heap.size + 1) := by omega
      go_region_held (fun w' => w'.cell? ⟨w.heap.size, 0, none⟩ = some (.bool na) ∧ w'.cell? ⟨w.heap.size, 1, none⟩ = some (.slice a1 (limbs mx).length c1) ∧ w'.cell? ⟨w.heap.size + 1, 0, none⟩ = some (.bool nb) ∧ w'.cell? ⟨w.heap.size + 1, 1, none⟩ = some (.slice a2 (limbs my).length c2)) (go_keep)
        (first
          | (go_at_call 95
             refine (kp _ B2).mono ?_
             rintro e w4 ⟨v4, rfl, o4, b4⟩
             have A4 := A2.below b4 (Nat.le_refl _)
             have C4 := C2.below b4 (Nat.le_refl _)
             have R4 := R2.below b4 (Nat.le_refl _)
             have B4 := B2.trans (b4.mono B2.size)
             have a04 := A4.c0
             have a14 := A4.c1
             have e04 := C4.c0
             have e14 := C4.c1)
          | (go_at_call 75
             refine (kM v4 w4 _ o4).mono ?_
             rintro e w5 ⟨v5, rfl, o5, b5⟩
             have A5 := A4.below b5 (Nat.le_refl _)
             have C5 := C4.below b5 (Nat.le_refl _)
             have R5 := R4.below b5 (Nat.le_refl _)
             have B5 := B4.trans (b5.mono B4.size)
             have a05 := A5.c0
             have a15 := A5.c1
             have e05 := C5.c0
             have e15 := C5.c1
             obtain ⟨s5, rfl, q5⟩ := o5
             obtain ⟨ad5, cp5, rfl, -⟩ := q5.row
             have r05 := R5.c0
             have r15 := R5.c1
             have f05 := R5.f0
             have f15 := R5.f1))
      have hi1 := R2.hi
      have o6 := ownsRow_setCell_below (a := ⟨w.heap.size + 1 + 1, 0, none⟩) q5 (by exact hi1) (.bool nr)
      have o7 := ownsRow_setCell_below (a := ⟨w.heap.size + 1 + 1, 1, none⟩) o6 (by exact hi1) (.slice ad5 lr.length cp5)
      have HO : Hid (World.ownsRow _ w.heap.size 3 1 (.slice ad5 lr.length cp5) lr.length (lr.map (Value.int .i64))) := ownsRow_mono o7 B2.size
      have HB : Hid (Below w.heap.size w _) := (B5.setCell (p := ⟨w.heap.size + 1 + 1, 0, none⟩) (by show w.heap.size ≤ w.heap.size + 1 + 1; omega) (.bool nr)).setCell (p := ⟨w.heap.size + 1 + 1, 1, none⟩) (by show w.heap.size ≤ w.heap.size + 1 + 1; omega) (.slice ad5 lr.length cp5)
      clear o6 o7 q5
      go_wp2
      (try simp only [Exit.inBlock, Exit.then])
      refine bodyPost_ret (v := .agg #[.bool nr, .slice ad5 lr.length cp5]) ?_ rfl ⟨_, rfl, ⟨_, rfl, HO.out⟩, HB.out⟩
      rw [results_cell1 rfl]
      go_simp

  · have ebb : (na == nb) = false := by cases na <;> cases nb <;> simp_all
    have hop : nb = !na := by cases na <;> cases nb <;> simp_all
    by_cases hge : my ≤ mx
    · have hc := cmpI_ge hge
      have hcb := cmpI_bd mx my
      have hlm := @limbs_len_mono (mx - my) mx (by omega)
      have hlg := limbs_len_mono hge
      have kl := fun W (h : Below w.heap.size w W) => sLess _ _ (limbs mx) (limbs my) W (hs'.below h (Nat.le_refl _)) (ht'.below h (Nat.le_refl _)) (limbs_inR _) (limbs_inR _) (by omega) hlg (by rw [num_limbs, num_limbs]; exact hge)
      simp only [num_limbs] at kl
      have kM := fun v4 w4 base (h : ownsI w4 base v4 (limbs (mx - my))) => sMake na v4 (mx - my) base w4 h (by omega)
      have hz : (if na = true then -((mx - my : Nat) : Int) else ((mx - my : Nat) : Int)) = x + y := by rw [HXY.out, hop]; cases na <;> simp <;> omega
      rw [hz, HM.out] at kM
      obtain ⟨c, hcc⟩ : ∃ c, cmpI mx my = c := ⟨_, rfl⟩
      rw [hcc] at kc hc hcb
      clear HXY HM kp hz hsg hop hcc
      · go_enter Try.func81, Try.ntmps81
        go_wp2_with fail
        refine (kc _ B).mono ?_
        rintro e w9 ⟨rfl, rfl⟩
        go_wp2_with fail
        generalize ((w.alloc (.cells #[.bool na, .slice a1 (limbs mx).length c1] 26)).alloc (.cells #[.bool nb, .slice a2 (limbs my).length c2] 26)).alloc (.cells #[.bool false, .slice none 0 0] 26) = w2 at *
        have b2 := (Below.refl w2.heap.size w2).drew
        have A2 := A1.below b2 (Nat.le_refl _)
        have C2 := C1.below b2 (Nat.le_refl _)
        have R2 := R1.below b2 (Nat.le_refl _)
        have B2 := B.trans (b2.mono B.size)
        have a0 := A2.c0
        have a1' := A2.c1
        have e0 := C2.c0
        have e1' := C2.c1
        have n1 : ¬ (w.heap.size = w.heap.size + 1 + 1) := by omega
        have n2 : ¬ (w.heap.size + 1 + 1 = w.heap.size) := by omega
        have n3 : ¬ (w.heap.size + 1 = w.heap.size + 1 + 1) := by omega
        have n4 : ¬ (w.heap.size + 1 + 1 = w.heap.size + 1) := by omega
        go_region_held (fun w' => w'.cell? ⟨w.heap.size, 0, none⟩ = some (.bool na) ∧ w'.cell? ⟨w.heap.size, 1, none⟩ = some (.slice a1 (limbs mx).length c1) ∧ w'.cell? ⟨w.heap.size + 1, 0, none⟩ = some (.bool nb) ∧ w'.cell? ⟨w.heap.size + 1, 1, none⟩ = some (.slice a2 (limbs my).length c2)) (go_keep)
          (first
            | (go_at_call 96
               refine (kl _ B2).mono ?_
               rintro e w4 ⟨v4, rfl, o4, b4⟩
               have A4 := A2.below b4 (Nat.le_refl _)
               have C4 := C2.below b4 (Nat.le_refl _)
               have R4 := R2.below b4 (Nat.le_refl _)
               have B4 := B2.trans (b4.mono B2.size)
               have a04 := A4.c0
               have a14 := A4.c1
               have e04 := C4.c0
               have e14 := C4.c1)
            | (go_at_call 75
               refine (kM v4 w4 _ o4).mono ?_
               rintro e w5 ⟨v5, rfl, o5, b5⟩
               have A5 := A4.below b5 (Nat.le_refl _)
               have C5 := C4.below b5 (Nat.le_refl _)
               have R5 := R4.below b5 (Nat.le_refl _)
               have B5 := B4.trans (b5.mono B4.size)
               have a05 := A5.c0
               have a15 := A5.c1
               have e05 := C5.c0
               have e15 := C5.c1
               obtain ⟨s5, rfl, q5⟩ := o5
               obtain ⟨ad5, cp5, rfl, -⟩ := q5.row
               have r05 := R5.c0
               have r15 := R5.c1
               have f05 := R5.f0
               have f15 := R5.f1))
        have hi1 := R2.hi
        have o6 := ownsRow_setCell_below (a := ⟨w.heap.size + 1 + 1, 0, none⟩) q5 (by exact hi1) (.bool nr)
        have o7 := ownsRow_setCell_below (a := ⟨w.heap.size + 1 + 1, 1, none⟩) o6 (by exact hi1) (.slice ad5 lr.length cp5)
        have HO : Hid (World.ownsRow _ w.heap.size 3 1 (.slice ad5 lr.length cp5) lr.length (lr.map (Value.int .i64))) := ownsRow_mono o7 B2.size
        have HB : Hid (Below w.heap.size w _) := (B5.setCell (p := ⟨w.heap.size + 1 + 1, 0, none⟩) (by show w.heap.size ≤ w.heap.size + 1 + 1; omega) (.bool nr)).setCell (p := ⟨w.heap.size + 1 + 1, 1, none⟩) (by show w.heap.size ≤ w.heap.size + 1 + 1; omega) (.slice ad5 lr.length cp5)
        clear o6 o7 q5
        go_wp2
        (try simp only [Exit.inBlock, Exit.then])
        refine bodyPost_ret (v := .agg #[.bool nr, .slice ad5 lr.length cp5]) ?_ rfl ⟨_, rfl, ⟨_, rfl, HO.out⟩, HB.out⟩
        rw [results_cell1 rfl]
        go_simp
    · have hc := cmpI_lt (Nat.lt_of_not_le hge)
      have hcb := cmpI_bd mx my
      have hlm := @limbs_len_mono (my - mx) my (by omega)
      have hlg := @limbs_len_mono mx my (by omega)
      have kl := fun W (h : Below w.heap.size w W) => sLess _ _ (limbs my) (limbs mx) W (ht'.below h (Nat.le_refl _)) (hs'.below h (Nat.le_refl _)) (limbs_inR _) (limbs_inR _) (by omega) hlg (by rw [num_limbs, num_limbs]; omega)
      simp only [num_limbs] at kl
      have kM := fun v4 w4 base (h : ownsI w4 base v4 (limbs (my - mx))) => sMake nb v4 (my - mx) base w4 h (by omega)
      have hz : (if nb = true then -((my - mx : Nat) : Int) else ((my - mx : Nat) : Int)) = x + y := by rw [HXY.out, hop]; cases na <;> simp <;> omega
      rw [hz, HM.out] at kM
      obtain ⟨c, hcc⟩ : ∃ c, cmpI mx my = c := ⟨_, rfl⟩
      rw [hcc] at kc hc hcb
      clear HXY HM kp hz hsg hop hcc
      · go_enter Try.func81, Try.ntmps81
        go_wp2_with fail
        refine (kc _ B).mono ?_
        rintro e w9 ⟨rfl, rfl⟩
        go_wp2_with fail
        generalize ((w.alloc (.cells #[.bool na, .slice a1 (limbs mx).length c1] 26)).alloc (.cells #[.bool nb, .slice a2 (limbs my).length c2] 26)).alloc (.cells #[.bool false, .slice none 0 0] 26) = w2 at *
        have b2 := (Below.refl w2.heap.size w2).drew
        have A2 := A1.below b2 (Nat.le_refl _)
        have C2 := C1.below b2 (Nat.le_refl _)
        have R2 := R1.below b2 (Nat.le_refl _)
        have B2 := B.trans (b2.mono B.size)
        have a0 := A2.c0
        have a1' := A2.c1
        have e0 := C2.c0
        have e1' := C2.c1
        have n1 : ¬ (w.heap.size = w.heap.size + 1 + 1) := by omega
        have n2 : ¬ (w.heap.size + 1 + 1 = w.heap.size) := by omega
        have n3 : ¬ (w.heap.size + 1 = w.heap.size + 1 + 1) := by omega
        have n4 : ¬ (w.heap.size + 1 + 1 = w.heap.size + 1) := by omega
        go_region_held (fun w' => w'.cell? ⟨w.heap.size, 0, none⟩ = some (.bool na) ∧ w'.cell? ⟨w.heap.size, 1, none⟩ = some (.slice a1 (limbs mx).length c1) ∧ w'.cell? ⟨w.heap.size + 1, 0, none⟩ = some (.bool nb) ∧ w'.cell? ⟨w.heap.size + 1, 1, none⟩ = some (.slice a2 (limbs my).length c2)) (go_keep)
          (first
            | (go_at_call 96
               refine (kl _ B2).mono ?_
               rintro e w4 ⟨v4, rfl, o4, b4⟩
               have A4 := A2.below b4 (Nat.le_refl _)
               have C4 := C2.below b4 (Nat.le_refl _)
               have R4 := R2.below b4 (Nat.le_refl _)
               have B4 := B2.trans (b4.mono B2.size)
               have a04 := A4.c0
               have a14 := A4.c1
               have e04 := C4.c0
               have e14 := C4.c1)
            | (go_at_call 75
               refine (kM v4 w4 _ o4).mono ?_
               rintro e w5 ⟨v5, rfl, o5, b5⟩
               have A5 := A4.below b5 (Nat.le_refl _)
               have C5 := C4.below b5 (Nat.le_refl _)
               have R5 := R4.below b5 (Nat.le_refl _)
               have B5 := B4.trans (b5.mono B4.size)
               have a05 := A5.c0
               have a15 := A5.c1
               have e05 := C5.c0
               have e15 := C5.c1
               obtain ⟨s5, rfl, q5⟩ := o5
               obtain ⟨ad5, cp5, rfl, -⟩ := q5.row
               have r05 := R5.c0
               have r15 := R5.c1
               have f05 := R5.f0
               have f15 := R5.f1))
        have hi1 := R2.hi
        have o6 := ownsRow_setCell_below (a := ⟨w.heap.size + 1 + 1, 0, none⟩) q5 (by exact hi1) (.bool nr)
        have o7 := ownsRow_setCell_below (a := ⟨w.heap.size + 1 + 1, 1, none⟩) o6 (by exact hi1) (.slice ad5 lr.length cp5)
        have HO : Hid (World.ownsRow _ w.heap.size 3 1 (.slice ad5 lr.length cp5) lr.length (lr.map (Value.int .i64))) := ownsRow_mono o7 B2.size
        have HB : Hid (Below w.heap.size w _) := (B5.setCell (p := ⟨w.heap.size + 1 + 1, 0, none⟩) (by show w.heap.size ≤ w.heap.size + 1 + 1; omega) (.bool nr)).setCell (p := ⟨w.heap.size + 1 + 1, 1, none⟩) (by show w.heap.size ≤ w.heap.size + 1 + 1; omega) (.slice ad5 lr.length cp5)
        clear o6 o7 q5
        go_wp2
        (try simp only [Exit.inBlock, Exit.then])
        refine bodyPost_ret (v := .agg #[.bool nr, .slice ad5 lr.length cp5]) ?_ rfl ⟨_, rfl, ⟨_, rfl, HO.out⟩, HB.out⟩
        rw [results_cell1 rfl]
        go_simp

end Go.Proofs.Ytmbmnfphgcjhdaa

/- The specification's l4Neg, by its contract. -/
namespace Go.Proofs.Ytmbmnfphgcjhdaa
open Go.RowKit

set_option maxRecDepth 20000 in
set_option maxHeartbeats 400000 in
theorem sWNeg (va : Value) (x : Int) (w : World) (ha : rowW w va (mkW x)) (hlx : (limbs x.natAbs).length ≤ 1048576) :
    Calls Try.prog 83 #[va] w fun e w' => ∃ v, e = .returned v ∧ ownsW w' w.heap.size v (mkW (-x)) ∧ Below w.heap.size w w' := by
  obtain ⟨s, rfl, hs⟩ := ha
  have hs' : rowI w s (limbs x.natAbs) := hs
  obtain ⟨n, hn⟩ : ∃ n, (mkW x).1 = n := ⟨_, rfl⟩
  have hz : (if (!n) = true then -(x.natAbs : Int) else (x.natAbs : Int)) = -x := by
    rw [← hn]
    unfold mkW
    by_cases h : x < 0
    · simp [h]; omega
    · simp [h]; omega
  rw [hn]
  obtain ⟨a1, c1, rfl, -⟩ := id hs'
  obtain ⟨m, hm⟩ : ∃ m, x.natAbs = m := ⟨_, rfl⟩
  rw [hm] at hs' hlx hz
  rw [hm]
  have HZ : Hid ((if (!n) = true then -(m : Int) else (m : Int)) = -x) := hz
  have kM := fun v4 base w4 (h : ownsI w4 base v4 (limbs m)) => sMake (!n) v4 m base w4 h (by omega)
  rw [hz] at kM
  obtain ⟨nb, lb, hm5⟩ : ∃ nb lb, mkW (-x) = (nb, lb) := ⟨_, _, rfl⟩
  rw [hm5] at kM
  rw [hm5]
  clear hs hz hn hm hm5 HZ
  -- the boxes
  have s1 : (w.alloc (.cells #[.bool n, .slice a1 (limbs m).length c1] 26)).heap.size = w.heap.size + 1 := by simp
  have A0 := BoxW.made w (.bool n) (.slice a1 (limbs m).length c1) 26
  have A1 := A0.below (below1 _ (.cells #[.bool false, .slice none 0 0] 26)) (Nat.le_refl _)
  have R1 := BoxW.made (w.alloc (.cells #[.bool n, .slice a1 (limbs m).length c1] 26)) (.bool false) (.slice none 0 0) 26
  rw [s1] at R1
  have B := below2 w (.cells #[.bool n, .slice a1 (limbs m).length c1] 26) (.cells #[.bool false, .slice none 0 0] 26)
  have hsz : ((w.alloc (.cells #[.bool n, .slice a1 (limbs m).length c1] 26)).alloc (.cells #[.bool false, .slice none 0 0] 26)).heap.size = w.heap.size + 2 := by simp
  go_enter Try.func83, Try.ntmps83
  go_wp2_with fail
  clear A0 s1
  generalize (w.alloc (.cells #[.bool n, .slice a1 (limbs m).length c1] 26)).alloc (.cells #[.bool false, .slice none 0 0] 26) = w2 at *
  have b2 := (Below.refl w2.heap.size w2).drew
  have A2 := A1.below b2 (Nat.le_refl _)
  have R2 := R1.below b2 (Nat.le_refl _)
  have B2 := B.trans (b2.mono B.size)
  have ho : ownsI (w2.alloc (.cells #[] 3)).drew w2.heap.size (.slice (some ⟨w2.heap.size, 0, none⟩) 0 0) [] := made_own w2
  have b3 : Below w2.heap.size w2 (w2.alloc (.cells #[] 3)).drew := (below1 w2 (.cells #[] 3)).drew
  have A3 := A1.below b3 (Nat.le_refl _)
  have hr3 := hs'.below (B.trans (b3.mono B.size)) (Nat.le_refl _)
  have hb3 : w2.heap.size ≤ (w2.alloc (.cells #[] 3)).drew.heap.size := b3.size
  clear hsz
  have a0 := A2.c0
  have a1' := A2.c1
  have a03 := A3.c0
  have a13 := A3.c1
  go_region_held_law (fun w' => w'.cell? ⟨w.heap.size, 0, none⟩ = some (.bool n) ∧ w'.cell? ⟨w.heap.size, 1, none⟩ = some (.slice a1 (limbs m).length c1)) (go_keep)
    (first
      | (go_at_call 75
         refine (kM v4 w2.heap.size w4 o4).mono ?_
         rintro e w5 ⟨v5, rfl, o5, b5⟩
         have A5 := A4.below b5 (Nat.le_refl _)
         have R5 := R4.below b5 (Nat.le_refl _)
         have B5 := B4.trans (b5.mono B4.size)
         have a05 := A5.c0
         have a15 := A5.c1
         obtain ⟨s5, rfl, q5⟩ := o5
         obtain ⟨ad5, cp5, rfl, -⟩ := q5.row
         have r05 := R5.c0
         have r15 := R5.c1
         have f05 := R5.f0
         have f15 := R5.f1)
      | (refine stepI_all w2 _ rfl (.tmp 6) (.tmp 8) rfl w2.heap.size _ _ [] (limbs m) rfl ho rfl hr3 b3 (by simp; omega) hb3 ?_
         intro v4 w4 o4 b4
         rw [List.nil_append] at o4
         have A4 := A1.below b4 (Nat.le_refl _)
         have R4 := R1.below b4 (Nat.le_refl _)
         have B4 := B.trans (b4.mono B.size)
         have a04 := A4.c0
         have a14 := A4.c1))
  have hi1 := R1.hi
  have o6 := ownsRow_setCell_below (a := ⟨w.heap.size + 1, 0, none⟩) q5 (by exact hi1) (.bool nb)
  have o7 := ownsRow_setCell_below (a := ⟨w.heap.size + 1, 1, none⟩) o6 (by exact hi1) (.slice ad5 lb.length cp5)
  have B7 := (B5.setCell (p := ⟨w.heap.size + 1, 0, none⟩) (by show w.heap.size ≤ w.heap.size + 1; omega) (.bool nb)).setCell (p := ⟨w.heap.size + 1, 1, none⟩) (by show w.heap.size ≤ w.heap.size + 1; omega) (.slice ad5 lb.length cp5)
  have HO : Hid (World.ownsRow _ w.heap.size 3 1 (.slice ad5 lb.length cp5) lb.length (lb.map (Value.int .i64))) := ownsRow_mono o7 (by omega)
  have HB : Hid (Below w.heap.size w _) := B7
  clear o6 o7 B7 q5
  go_wp2
  (try simp only [Exit.inBlock, Exit.then])
  refine bodyPost_ret (v := .agg #[.bool nb, .slice ad5 lb.length cp5]) ?_ rfl ⟨_, rfl, ⟨_, rfl, HO.out⟩, HB.out⟩
  rw [results_cell1 rfl]
  go_simp

end Go.Proofs.Ytmbmnfphgcjhdaa

/- A box lies in the world (no walk). -/
namespace Go.Proofs.Ytmbmnfphgcjhdaa
open Go.RowKit

theorem BoxW.lt4 {w : World} {base b : Nat} {x y : Value} (h : BoxW w base b x y) : b < w.heap.size := block_lt_of_cell h.c0

end Go.Proofs.Ytmbmnfphgcjhdaa

/- The specification's l4Sub, by its contract. -/
namespace Go.Proofs.Ytmbmnfphgcjhdaa
open Go.RowKit

set_option maxHeartbeats 1600000 in
theorem sWSub (va vb : Value) (x y : Int) (w : World) (ha : rowW w va (mkW x)) (hb : rowW w vb (mkW y)) (hlx : (limbs x.natAbs).length ≤ 1000000) (hly : (limbs y.natAbs).length ≤ 1000000) :
    Calls Try.prog 87 #[va, vb] w fun e w' => ∃ v, e = .returned v ∧ ownsW w' w.heap.size v (mkW (x - y)) ∧ Below w.heap.size w w' := by
  have hxn : (limbs (-y).natAbs).length ≤ 1000000 := by rw [Int.natAbs_neg]; exact hly
  have kn := fun W (h : Below w.heap.size w W) => sWNeg vb y W (hb.below h (Nat.le_refl _)) (by omega)
  have ka := fun v4 W (h : Below w.heap.size w W) (o : rowW W v4 (mkW (-y))) => sWAdd va v4 x (-y) W (ha.below h (Nat.le_refl _)) o hlx hxn
  rw [← Int.sub_eq_add_neg] at ka
  obtain ⟨nr, lr, hm5⟩ : ∃ nb lb, mkW (x - y) = (nb, lb) := ⟨_, _, rfl⟩
  rw [hm5] at ka
  rw [hm5]
  clear hm5 hxn
  obtain ⟨s, rfl, hs⟩ := ha
  obtain ⟨t, rfl, ht⟩ := hb
  have hs' : rowI w s (limbs x.natAbs) := hs
  have ht' : rowI w t (limbs y.natAbs) := ht
  obtain ⟨a1, c1, rfl, -⟩ := id hs'
  obtain ⟨a2, c2, rfl, -⟩ := id ht'
  clear hs ht hs' ht' hlx hly
  generalize (mkW x).1 = na at *
  generalize (mkW y).1 = nb at *
  generalize x.natAbs = mx at *
  generalize y.natAbs = my at *
  have s1 : (w.alloc (.cells #[.bool na, .slice a1 (limbs mx).length c1] 26)).heap.size = w.heap.size + 1 := by simp
  have s2 : ((w.alloc (.cells #[.bool na, .slice a1 (limbs mx).length c1] 26)).alloc (.cells #[.bool nb, .slice a2 (limbs my).length c2] 26)).heap.size = w.heap.size + 1 + 1 := by simp
  have A1 := ((BoxW.made w (.bool na) (.slice a1 (limbs mx).length c1) 26).below (below1 _ (.cells #[.bool nb, .slice a2 (limbs my).length c2] 26)) (Nat.le_refl _)).below (below1 _ (.cells #[.bool false, .slice none 0 0] 26)) (Nat.le_refl _)
  have C1 := (BoxW.made (w.alloc (.cells #[.bool na, .slice a1 (limbs mx).length c1] 26)) (.bool nb) (.slice a2 (limbs my).length c2) 26).below (below1 _ (.cells #[.bool false, .slice none 0 0] 26)) (Nat.le_refl _)
  rw [s1] at C1
  have R1 := BoxW.made ((w.alloc (.cells #[.bool na, .slice a1 (limbs mx).length c1] 26)).alloc (.cells #[.bool nb, .slice a2 (limbs my).length c2] 26)) (.bool false) (.slice none 0 0) 26
  rw [s2] at R1
  have B := below3 w (.cells #[.bool na, .slice a1 (limbs mx).length c1] 26) (.cells #[.bool nb, .slice a2 (limbs my).length c2] 26) (.cells #[.bool false, .slice none 0 0] 26)
  clear s1 s2
  go_enter Try.func87, Try.ntmps87
  go_wp2_with fail
  generalize ((w.alloc (.cells #[.bool na, .slice a1 (limbs mx).length c1] 26)).alloc (.cells #[.bool nb, .slice a2 (limbs my).length c2] 26)).alloc (.cells #[.bool false, .slice none 0 0] 26) = w2 at *
  have b2 := (Below.refl w2.heap.size w2).drew
  have A2 := A1.below b2 (Nat.le_refl _)
  have C2 := C1.below b2 (Nat.le_refl _)
  have R2 := R1.below b2 (Nat.le_refl _)
  have B2 := B.trans (b2.mono B.size)
  have a02 := A2.c0
  have a12 := A2.c1
  have e02 := C2.c0
  have e12 := C2.c1
  have n1 : ¬ (w.heap.size = w.heap.size + 1 + 1) := by omega
  have n2 : ¬ (w.heap.size + 1 + 1 = w.heap.size) := by omega
  have n3 : ¬ (w.heap.size + 1 = w.heap.size + 1 + 1) := by omega
  have n4 : ¬ (w.heap.size + 1 + 1 = w.heap.size + 1) := by omega
  go_region_held (fun w' => w'.cell? ⟨w.heap.size, 0, none⟩ = some (.bool na) ∧ w'.cell? ⟨w.heap.size, 1, none⟩ = some (.slice a1 (limbs mx).length c1) ∧ w'.cell? ⟨w.heap.size + 1, 0, none⟩ = some (.bool nb) ∧ w'.cell? ⟨w.heap.size + 1, 1, none⟩ = some (.slice a2 (limbs my).length c2)) (go_keep)
    (first
      | (go_at_call 83
         refine (kn _ B2).mono ?_
         rintro e w4 ⟨v4, rfl, o4, b4⟩
         have A4 := A2.below b4 (Nat.le_refl _)
         have C4 := C2.below b4 (Nat.le_refl _)
         have R4 := R2.below b4 (Nat.le_refl _)
         have B4 := B2.trans (b4.mono B2.size)
         have a04 := A4.c0
         have a14 := A4.c1
         have e04 := C4.c0
         have e14 := C4.c1)
      | (go_at_call 81
         refine (ka v4 w4 B4 o4.row).mono ?_
         rintro e w5 ⟨v5, rfl, o5, b5⟩
         have A5 := A4.below b5 (Nat.le_refl _)
         have C5 := C4.below b5 (Nat.le_refl _)
         have R5 := R4.below b5 (Nat.le_refl _)
         have B5 := B4.trans (b5.mono B4.size)
         have a05 := A5.c0
         have a15 := A5.c1
         have e05 := C5.c0
         have e15 := C5.c1
         obtain ⟨s5, rfl, q5⟩ := o5
         obtain ⟨ad5, cp5, rfl, -⟩ := q5.row
         have r05 := R5.c0
         have r15 := R5.c1
         have f05 := R5.f0
         have f15 := R5.f1))
  have hi1 : w.heap.size + 1 + 1 < w4.heap.size := R4.lt4
  have o6 := ownsRow_setCell_below (a := ⟨w.heap.size + 1 + 1, 0, none⟩) q5 (by exact hi1) (.bool nr)
  have o7 := ownsRow_setCell_below (a := ⟨w.heap.size + 1 + 1, 1, none⟩) o6 (by exact hi1) (.slice ad5 lr.length cp5)
  have HO : Hid (World.ownsRow _ w.heap.size 3 1 (.slice ad5 lr.length cp5) lr.length (lr.map (Value.int .i64))) := ownsRow_mono o7 B4.size
  have HB : Hid (Below w.heap.size w _) := (B5.setCell (p := ⟨w.heap.size + 1 + 1, 0, none⟩) (by show w.heap.size ≤ w.heap.size + 1 + 1; omega) (.bool nr)).setCell (p := ⟨w.heap.size + 1 + 1, 1, none⟩) (by show w.heap.size ≤ w.heap.size + 1 + 1; omega) (.slice ad5 lr.length cp5)
  clear o6 o7 q5
  go_wp2
  (try simp only [Exit.inBlock, Exit.then])
  refine bodyPost_ret (v := .agg #[.bool nr, .slice ad5 lr.length cp5]) ?_ rfl ⟨_, rfl, ⟨_, rfl, HO.out⟩, HB.out⟩
  rw [results_cell1 rfl]
  go_simp

end Go.Proofs.Ytmbmnfphgcjhdaa
