/- The program's plus, by its contract. -/
import Derived.Test.YtlpfjpbnedankaaGSettle
import Derived.Test.YtlpfjpbnedankaaGB
namespace Go.Proofs.Ytlpfjpbnedankaa
open Go.RowKit

theorem GB.drewN {w : World} {b : Nat} {ws : List Int} {k : Int} (h : GB w b ws k) (q : Nat) : GB (w.drewN q) b ws k := ⟨h.blk, h.len⟩
theorem Below.drewN {B : Nat} {a w : World} (h : Below B a w) (q : Nat) : Below B a (w.drewN q) := h.trans ⟨rfl, rfl, rfl, Nat.le_refl _, fun _ _ => rfl⟩
theorem take_set_succ {ws : List Int} {k : Nat} (h : k < ws.length) (v : Int) : (ws.set k v).take (k + 1) = ws.take k ++ [v] := by
  rw [List.take_succ_eq_append_getElem (by rw [List.length_set]; exact h), List.take_set_of_le (Nat.le_refl _), List.getElem_set_self]
theorem gset_ne {ws : List Int} {k j : Nat} (v : Int) (h : k ≠ j) : (ws.set k v).getD j 0 = ws.getD j 0 := by
  rw [List.getD_eq_getElem?_getD, List.getElem?_set_ne h, ← List.getD_eq_getElem?_getD]
theorem getD_far {xs : List Int} {j : Nat} (h : xs.length ≤ j) : xs.getD j 0 = 0 := by
  rw [List.getD_eq_getElem?_getD, List.getElem?_eq_none h]; rfl
/-- A great number's block among the new ones is not one of what was there. -/
theorem GA.ne {w : World} {b o n : Nat} (h : GA w b o n) : b ≠ w.heap.size := Nat.ne_of_lt h.lt
/-- behind the sum -/
theorem sum_fin {ws : List Int} {m n k : Nat} (hr : inR (ws.take k)) (h : lval (ws.take k) = lval ((limbs m).take k) + lval ((limbs n).take k)) (h1 : (limbs m).length ≤ k) (h2 : (limbs n).length ≤ k) : num (ws.take k) = m + n := by
  rw [List.take_of_length_le h1, List.take_of_length_le h2, limbs_val, limbs_val] at h
  have := num_val hr
  omega

set_option maxHeartbeats 3200000 in
/-- plus: the sum. -/
theorem gPlus (b ob m n : Nat) (w : World) (hl1 : (limbs m).length ≤ 97) (hl2 : (limbs n).length ≤ 97) (hb : GA w b ob n) :
    Calls Try.prog 75 #[.agg (gC m), .pointer (some ⟨b, ob, none⟩)] w fun e w' => e = .returned (.agg (gC (m + n))) ∧ Below w.heap.size w w' := by
  have hl3 : (limbs (m + n)).length ≤ 98 := by
    have a1 := limbs_lt m
    have a2 := limbs_lt n
    have p1 := Nat.pow_le_pow_right (by omega : 0 < 16777216) hl1
    have p2 := Nat.pow_le_pow_right (by omega : 0 < 16777216) hl2
    refine limbs_len_le (m + n) 98 ?_
    have e : (16777216 : Nat) ^ 98 = 16777216 ^ 97 * 16777216 := rfl
    omega
  have hgc : gC m = gcell (pad (limbs m)) ((limbs m).length : Int) := rfl
  rw [hgc]
  have G0 := (GB.made w (pad (limbs m)) ((limbs m).length : Int) (pad_len (by omega))).alloc (.cells Try.zeroCells97 97)
  have R0 := GB.made0 (w.alloc (.cells (gcell (pad (limbs m)) ((limbs m).length : Int)) 97))
  have hs0 : (w.alloc (.cells (gcell (pad (limbs m)) ((limbs m).length : Int)) 97)).heap.size = w.heap.size + 1 := by simp
  have B0 : Below w.heap.size w ((w.alloc (.cells (gcell (pad (limbs m)) ((limbs m).length : Int)) 97)).alloc (.cells Try.zeroCells97 97)) := ((Below.refl w.heap.size w).alloc (Nat.le_refl _) _).alloc (by simp) _
  rw [hs0] at R0
  have hA := hb.below B0 hb.lt
  have hne : b < w.heap.size := hb.lt
  clear hs0 hgc
  obtain ⟨M, hM⟩ : ∃ M, max (limbs m).length (limbs n).length = M := ⟨_, rfl⟩
  have hM1 : (limbs m).length ≤ M := by omega
  have hM2 : (limbs n).length ≤ M := by omega
  have hM3 : M ≤ 97 := by omega
  have HM : Hid ((if (limbs m).length < (limbs n).length then ((limbs n).length : Int) else ((limbs m).length : Int)) = (M : Int)) := by
    show _ = _
    split <;> omega
  clear hM
  go_enter Try.func75, Try.ntmps75
  go_wp2_with fail
  generalize (w.alloc (.cells (gcell (pad (limbs m)) ((limbs m).length : Int)) 97)).alloc (.cells Try.zeroCells97 97) = w0 at *
  have c1 := G0.size
  have c2 := hA.size
  go_quiet (fail)
  rw [HM.out]
  have hA : GA (w0.drewN nq) b ob n := hA.drewN nq
  have G0 := G0.drewN nq
  have R0 := R0.drewN nq
  have B0 := Below.drewN B0 nq
  generalize w0.drewN nq = w1 at *
  clear HM c1 c2
  go_wp2
  go_loopw [6, 7] (fun c i wr => ∃ (k : Nat) (cc : Int) (ws : List Int), k ≤ M + 1 ∧ i = .int .i64 k ∧ c = .int .u32 cc ∧ 0 ≤ cc ∧ cc ≤ 1 ∧ (M < k → cc = 0) ∧ inR (ws.take k) ∧ (∀ j, k ≤ j → ws.getD j 0 = (limbs m).getD j 0) ∧ Hid (lval (ws.take k) + 16777216 ^ k * cc = lval ((limbs m).take k) + lval ((limbs n).take k)) ∧ GB wr w.heap.size ws ((limbs m).length : Int) ∧ GB wr (w.heap.size + 1) (List.replicate 98 0) 0 ∧ GA wr b ob n ∧ Below w.heap.size w wr) (fun _ i _ => M + 1 - (intOf i).toNat)
  case atStart => exact ⟨0, 0, pad (limbs m), by omega, rfl, rfl, by omega, by omega, fun _ => rfl, by rw [List.take_zero]; exact inR_nil, fun j _ => pad_getD _ _, by show _ = _; simp [lval], G0, R0, hA, B0⟩
  case round =>
    clear G0 R0 hA B0
    obtain ⟨k, cc, ws, hk, rfl, rfl, cc0, cc1, cz, hoR, hw, HL, hG, hR, hA, hB⟩ := hrel
    have hlen := hG.len
    by_cases hlt : k ≤ M
    · have HT : Hid (lval ((limbs m).take (k + 1)) = lval ((limbs m).take k) + 16777216 ^ k * (limbs m).getD k 0 ∧ lval ((limbs n).take (k + 1)) = lval ((limbs n).take k) + 16777216 ^ k * (limbs n).getD k 0) := ⟨lval_take_succ _ k, lval_take_succ _ k⟩
      have gx := inR_getD (limbs_inR m) k
      have gy := inR_getD (limbs_inR n) k
      have hxz : (limbs m).length ≤ k → (limbs m).getD k 0 = 0 := getD_far
      have hyz : (limbs n).length ≤ k → (limbs n).getD k 0 = 0 := getD_far
      have cx := hG.word k (by omega)
      rw [hw k (Nat.le_refl _)] at cx
      have cy := hA.word k (by omega)
      have fx := hG.free k
      have HW : Hid (∀ j, k + 1 ≤ j → ∀ v, (ws.set k v).getD j 0 = (limbs m).getD j 0) := fun j hj v => by rw [gset_ne v (by omega)]; exact hw j (by omega)
      obtain ⟨xk, hxk⟩ : ∃ xk, (limbs m).getD k 0 = xk := ⟨_, rfl⟩
      obtain ⟨yk, hyk⟩ : ∃ yk, (limbs n).getD k 0 = yk := ⟨_, rfl⟩
      rw [hxk] at gx HT hxz cx
      rw [hyk] at gy HT hyz cy
      obtain ⟨gx0, gx1⟩ := gx
      obtain ⟨gy0, gy1⟩ := gy
      have HZ : Hid (((limbs m).length ≤ k → xk = 0) ∧ ((limbs n).length ≤ k → yk = 0)) := ⟨hxz, hyz⟩
      have HG : Hid (GB wr w.heap.size ws ((limbs m).length : Int) ∧ GB wr (w.heap.size + 1) (List.replicate 98 0) 0 ∧ GA wr b ob n ∧ Below w.heap.size w wr) := ⟨hG, hR, hA, hB⟩
      have hk98 : (k : Int) < 98 := by omega
      have hk98' : k < 98 := by omega
      have hlt' : (k : Int) < (M : Int) + 1 := by omega
      clear hxk hyk hxz hyz hG hR hA hB hw
      go_wp2_with fail
      go_quiet (fail)
      have HG2 : Hid (GB (wr.drewN nq) w.heap.size ws ((limbs m).length : Int) ∧ GB (wr.drewN nq) (w.heap.size + 1) (List.replicate 98 0) 0 ∧ GA (wr.drewN nq) b ob n ∧ Below w.heap.size w (wr.drewN nq)) := ⟨HG.out.1.drewN nq, HG.out.2.1.drewN nq, HG.out.2.2.1.drewN nq, Below.drewN HG.out.2.2.2 nq⟩
      clear HG
      go_wp2
      go_roundw
      case rel =>
        refine ⟨k + 1, (xk + yk + cc) / 16777216, ws.set k ((xk + yk + cc) % 16777216), by omega, by go_num, by go_num, by omega, by omega, fun h => ?_, ?_, fun j hj => HW.out j hj _, ?_, ?_, ?_, ?_, ?_⟩
        · have z1 := HZ.out.1 (by omega)
          have z2 := HZ.out.2 (by omega)
          omega
        · rw [take_set_succ (by omega)]
          exact inR_append.2 ⟨hoR, inR_cons.2 ⟨by omega, inR_nil⟩⟩
        · show _ = _
          rw [HT.out.1, HT.out.2, take_set_succ (by omega)]
          exact plus_step k cc _ _ _ (ws.take k) (by rw [List.length_take]; omega) HL.out xk yk rfl
        · exact HG2.out.1.setW k (by omega) _
        · exact HG2.out.2.1.other _ (by show w.heap.size + 1 ≠ w.heap.size; omega) _
        · exact HG2.out.2.2.1.tn ((Tn.refl [w.heap.size] _).cell _ (by simp) _) (by simp; omega)
        · exact HG2.out.2.2.2.setCell (by show w.heap.size ≤ w.heap.size; omega) _
      case measure => simp [intOf]; omega
    · have hke : k = M + 1 := by omega
      subst hke
      have hcz := cz (by omega)
      subst hcz
      have hval : lval (ws.take (M + 1)) = lval ((limbs m).take (M + 1)) + lval ((limbs n).take (M + 1)) := by
        have := HL.out
        rw [Int.mul_zero, Int.add_zero] at this
        exact this
      have hnum := sum_fin hoR hval (by omega) (by omega)
      have kS := gSettle w.heap.size ws ((limbs m).length : Int) (M + 1) wr hG (by omega) hoR (fun j hj => by rw [hw j hj]; exact getD_far (by omega))
      rw [hnum] at kS
      have hlt' : ¬ (((M + 1 : Nat) : Int) < (M : Int) + 1) := by omega
      have hcast : ((M + 1 : Nat) : Int) = (M : Int) + 1 := by omega
      rw [hcast] at kS hlt'
      rw [hcast]
      have HG : Hid (GB wr (w.heap.size + 1) (List.replicate 98 0) 0 ∧ Below w.heap.size w wr) := ⟨hR, hB⟩
      have hbs := hB.size
      clear hval hnum HL hG hR hA hB hw hcast hoR
      go_wp2_with fail
      refine kS.mono ?_
      rintro e w5 ⟨rfl, g5, t5, s5⟩
      have R5 := HG.out.1.tn t5 (by simp)
      have B5 := t5.below HG.out.2 hbs (by simp)
      have A5 := GN.ga g5 hl3
      go_wp2_with (first | (refine wpA_load rfl (.tmp 2) rfl w.heap.size 0 (m + n) rfl A5 ?_) | (refine wpN_store rfl (.tmp 4) (.tmp 44) rfl (w.heap.size + 1) _ _ (m + n) rfl rfl R5 hl3 ?_; intro w6 g6 t6 s6))
      (try simp only [Exit.inBlock, Exit.then])
      refine bodyPost_ret (v := .agg (gC (m + n))) ?_ rfl ⟨rfl, t6.below B5 B5.size (by simp)⟩
      exact results_great rfl _ _ (w.heap.size + 1) _ _ rfl g6

end Go.Proofs.Ytlpfjpbnedankaa
