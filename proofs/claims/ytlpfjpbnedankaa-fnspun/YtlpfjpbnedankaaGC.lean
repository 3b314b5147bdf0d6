/- Several small texts in one: GTimes, GUp, GDown, GNext. -/
import Derived.Test.YtlpfjpbnedankaaGB
import Derived.Test.YtlpfjpbnedankaaSB
import Derived.Test.YtlpfjpbnedankaaSDown
/- The program's times, by its contract. -/
namespace Go.Proofs.Ytlpfjpbnedankaa
open Go.RowKit

theorem lval_drop_zeros {zs : List Int} {k : Nat} (h : ∀ q, k ≤ q → zs.getD q 0 = 0) : lval (zs.drop k) = 0 := by
  have : zs.drop k = List.replicate (zs.length - k) 0 := by
    apply List.ext_getElem?
    intro i
    rw [List.getElem?_drop, List.getElem?_replicate]
    split
    · have := h (k + i) (by omega)
      rw [List.getD_eq_getElem?_getD, List.getElem?_eq_getElem (by omega)] at this
      rw [List.getElem?_eq_getElem (by omega)]
      simpa using this
    · rw [List.getElem?_eq_none (by omega)]
  rw [this, lval_zeros]
theorem num_take_zeros {zs : List Int} {k : Nat} (hr : inR zs) (h : ∀ q, k ≤ q → zs.getD q 0 = 0) : num (zs.take k) = num zs := by
  have h1 := lval_split zs k
  rw [lval_drop_zeros h] at h1
  have h2 := num_val hr
  have h3 := num_val (inR_take hr k)
  omega
theorem mul_limbs_len (m n : Nat) : (limbs (m * n)).length ≤ (limbs m).length + (limbs n).length := by
  refine limbs_len_le _ _ ?_
  have h1 := limbs_lt m
  have h2 := limbs_lt n
  rw [Nat.pow_add]
  exact Nat.mul_lt_mul'' h1 h2

set_option maxHeartbeats 3200000 in
/-- times: the product. -/
theorem gTimes (a oa b ob m n : Nat) (w : World) (hl : (limbs m).length + (limbs n).length ≤ 98) (ha : GA w a oa m) (hb : GA w b ob n) :
    Calls Try.prog 98 #[.pointer (some ⟨a, oa, none⟩), .pointer (some ⟨b, ob, none⟩)] w fun e w' => e = .returned (.agg (gC (m * n))) ∧ Below w.heap.size w w' := by
  have hl3 : (limbs (m * n)).length ≤ 98 := by have := mul_limbs_len m n; omega
  have R0 := (GB.made0 w).alloc (.cells Try.zeroCells97 97)
  have G0 := GB.made0 (w.alloc (.cells Try.zeroCells97 97))
  have hs0 : (w.alloc (.cells Try.zeroCells97 97)).heap.size = w.heap.size + 1 := by simp
  have B0 : Below w.heap.size w ((w.alloc (.cells Try.zeroCells97 97)).alloc (.cells Try.zeroCells97 97)) := ((Below.refl w.heap.size w).alloc (Nat.le_refl _) _).alloc (by simp) _
  rw [hs0] at G0
  have hna : a < w.heap.size := ha.lt
  have hnb : b < w.heap.size := hb.lt
  have hA := ha.below B0 hna
  have hC := hb.below B0 hnb
  clear hs0 ha hb
  have hxr := limbs_inR m
  have hyr := limbs_inR n
  have HP : Hid (lval (limbs m) = m ∧ lval (limbs n) = n) := ⟨limbs_val m, limbs_val n⟩
  obtain ⟨La, hLa⟩ : ∃ L, (limbs m).length = L := ⟨_, rfl⟩
  obtain ⟨Lb, hLb⟩ : ∃ L, (limbs n).length = L := ⟨_, rfl⟩
  have HLa : Hid ((limbs m).length = La) := hLa
  have HLb : Hid ((limbs n).length = Lb) := hLb
  have hsA : ∀ W, GA W a oa m → W.cell? ⟨a, oa + 98, none⟩ = some (.int .i64 (La : Int)) := fun W h => by rw [← hLa]; exact h.size
  have hsB : ∀ W, GA W b ob n → W.cell? ⟨b, ob + 98, none⟩ = some (.int .i64 (Lb : Int)) := fun W h => by rw [← hLb]; exact h.size
  have HSz : Hid ((∀ W, GA W a oa m → W.cell? ⟨a, oa + 98, none⟩ = some (.int .i64 (La : Int))) ∧ (∀ W, GA W b ob n → W.cell? ⟨b, ob + 98, none⟩ = some (.int .i64 (Lb : Int)))) := ⟨hsA, hsB⟩
  rw [hLa, hLb] at hl
  clear hLa hLb hsA hsB
  go_enter Try.func98, Try.ntmps98
  go_wp2
  generalize (w.alloc (.cells Try.zeroCells97 97)).alloc (.cells Try.zeroCells97 97) = w0 at *
  go_loopw [6] (fun i wr => ∃ (p : Nat) (zs : List Int), p ≤ La ∧ i = .int .i64 p ∧ inR zs ∧ (∀ q, p + Lb ≤ q → zs.getD q 0 = 0) ∧ Hid (lval zs = lval ((limbs m).take p) * lval (limbs n)) ∧ GB wr (w.heap.size + 1) zs 0 ∧ GB wr w.heap.size (List.replicate 98 0) 0 ∧ GA wr a oa m ∧ GA wr b ob n ∧ Below w.heap.size w wr) (fun i _ => La - (intOf i).toNat)
  case atStart => exact ⟨0, List.replicate 98 0, by omega, rfl, fun x hx => by rw [List.eq_of_mem_replicate hx]; omega, fun q _ => by rw [List.getD_eq_getElem?_getD, List.getElem?_replicate]; split <;> rfl, by show _ = _; rw [lval_zeros]; simp [lval], G0, R0, hA, hC, B0⟩
  case round =>
    clear G0 R0 hA hC B0
    obtain ⟨p, zs, hp, rfl, hzR, hzz, HL, hG, hR, hA, hC, hB⟩ := hrel
    have cA := HSz.out.1 wr hA
    by_cases hlt : p < La
    · have hlt' : (p : Int) < (La : Int) := by omega
      have gx := inR_getD hxr p
      have HT : Hid (lval ((limbs m).take (p + 1)) = lval ((limbs m).take p) + 16777216 ^ p * (limbs m).getD p 0) := lval_take_succ _ p
      have HX : Hid (∀ W, GA W a oa m → W.cell? ⟨a, oa + p, none⟩ = some (.int .u32 ((limbs m).getD p 0))) := fun W h => h.word p (by omega)
      obtain ⟨xi, hxi⟩ : ∃ xi, (limbs m).getD p 0 = xi := ⟨_, rfl⟩
      rw [hxi] at gx HT HX
      obtain ⟨gx0, gx1⟩ := gx
      clear hxi
      go_wp2
      clear cA
      go_loopw [7, 8] (fun c j wr => ∃ (q : Nat) (cc : Int) (zs : List Int), q ≤ Lb ∧ j = .int .i64 q ∧ c = .int .u64 cc ∧ 0 ≤ cc ∧ cc < 16777216 ∧ inR zs ∧ (∀ r, p + Lb ≤ r → zs.getD r 0 = 0) ∧ Hid (lval zs + 16777216 ^ (p + q) * cc = lval ((limbs m).take p) * lval (limbs n) + 16777216 ^ p * (xi * lval ((limbs n).take q))) ∧ GB wr (w.heap.size + 1) zs 0 ∧ GB wr w.heap.size (List.replicate 98 0) 0 ∧ GA wr a oa m ∧ GA wr b ob n ∧ Below w.heap.size w wr) (fun _ j _ => Lb - (intOf j).toNat)
      case atStart => exact ⟨0, 0, zs, by omega, rfl, rfl, by omega, by omega, hzR, hzz, by show _ = _; rw [HL.out]; simp [lval], hG, hR, hA, hC, hB⟩
      case round =>
        clear hG hR hA hC hB hzz hzR HL
        obtain ⟨q, cc, zs, hq, rfl, rfl, c0, c1, hzR, hzz, HL, hG, hR, hA, hC, hB⟩ := hrel
        have hlen := hG.len
        have cB := HSz.out.2 wr hC
        by_cases hlm : q < Lb
        · have hlm' : (q : Int) < (Lb : Int) := by omega
          have cx := HX.out wr hA
          have cy := hC.word q (by omega)
          have cz := hG.word (p + q) (by omega)
          have fz := hG.free (p + q)
          have gy := inR_getD hyr q
          have gz := inR_getD hzR (p + q)
          have HTy : Hid (lval ((limbs n).take (q + 1)) = lval ((limbs n).take q) + 16777216 ^ q * (limbs n).getD q 0) := lval_take_succ _ q
          obtain ⟨yj, hyj⟩ : ∃ yj, (limbs n).getD q 0 = yj := ⟨_, rfl⟩
          obtain ⟨z, hz⟩ : ∃ z, zs.getD (p + q) 0 = z := ⟨_, rfl⟩
          rw [hyj] at gy cy HTy
          rw [hz] at gz cz
          obtain ⟨gy0, gy1⟩ := gy
          obtain ⟨gz0, gz1⟩ := gz
          obtain ⟨p0, p1⟩ := mul_lim gx0 gx1 gy0 gy1
          have HZ : Hid (zs.getD (p + q) 0 = z) := hz
          have HZZ : Hid (∀ r, p + Lb ≤ r → zs.getD r 0 = 0) := hzz
          have HG : Hid (GB wr (w.heap.size + 1) zs 0 ∧ GB wr w.heap.size (List.replicate 98 0) 0 ∧ GA wr a oa m ∧ GA wr b ob n ∧ Below w.heap.size w wr) := ⟨hG, hR, hA, hC, hB⟩
          have hpq : (p : Int) + (q : Int) < 98 := by omega
          have hpq' : p + q < 98 := by omega
          have hp98 : (p : Int) < 98 := by omega
          have hq98 : (q : Int) < 98 := by omega
          clear hG hR hA hC hB hz hyj hzz
          go_wp2_with fail
          go_quiet (fail)
          have HG2 : Hid (GB (wr.drewN nq) (w.heap.size + 1) zs 0 ∧ GB (wr.drewN nq) w.heap.size (List.replicate 98 0) 0 ∧ GA (wr.drewN nq) a oa m ∧ GA (wr.drewN nq) b ob n ∧ Below w.heap.size w (wr.drewN nq)) := ⟨HG.out.1.drewN nq, HG.out.2.1.drewN nq, HG.out.2.2.1.drewN nq, HG.out.2.2.2.1.drewN nq, Below.drewN HG.out.2.2.2.2 nq⟩
          clear HG
          go_wp2
          go_roundw
          case rel =>
            refine ⟨q + 1, (z + xi * yj + cc) / 16777216, zs.set (p + q) ((z + xi * yj + cc) % 16777216), by omega, by go_num, by go_num, by omega, by omega, inR_set hzR _ (by omega) (by omega), fun r hr => by rw [gset_ne _ (by omega)]; exact HZZ.out r hr, ?_, ?_, ?_, ?_, ?_, ?_⟩
            · show _ = _
              rw [HTy.out]
              exact times_step p q cc _ z xi yj _ _ zs (by omega) HZ.out HL.out rfl
            · exact HG2.out.1.setW (p + q) (by omega) _
            · exact HG2.out.2.1.other _ (by show w.heap.size ≠ w.heap.size + 1; omega) _
            · exact HG2.out.2.2.1.tn ((Tn.refl [w.heap.size + 1] _).cell _ (by simp) _) (by simp; omega)
            · exact HG2.out.2.2.2.1.tn ((Tn.refl [w.heap.size + 1] _).cell _ (by simp) _) (by simp; omega)
            · exact HG2.out.2.2.2.2.setCell (by show w.heap.size ≤ w.heap.size + 1; omega) _
          case measure => simp [intOf]; omega
        · have hlm' : (Lb : Int) ≤ (q : Int) := by omega
          have hqe : q = Lb := by omega
          subst hqe
          have cz := hG.word (p + q) (by omega)
          have fz := hG.free (p + q)
          have HZ : Hid (zs.getD (p + q) 0 = 0) := hzz _ (Nat.le_refl _)
          rw [hzz _ (Nat.le_refl _)] at cz
          have HZZ : Hid (∀ r, p + q ≤ r → zs.getD r 0 = 0) := hzz
          have HG : Hid (GB wr (w.heap.size + 1) zs 0 ∧ GB wr w.heap.size (List.replicate 98 0) 0 ∧ GA wr a oa m ∧ GA wr b ob n ∧ Below w.heap.size w wr) := ⟨hG, hR, hA, hC, hB⟩
          have hpq : (p : Int) + (q : Int) < 98 := by omega
          have hpq' : p + q < 98 := by omega
          clear hG hR hA hC hB hzz
          go_wp2
          go_roundw
          case rel =>
            refine ⟨p + 1, zs.set (p + q) cc, by omega, by go_num, inR_set hzR _ c0 c1, fun r hr => by rw [gset_ne _ (by omega)]; exact HZZ.out r (by omega), ?_, ?_, ?_, ?_, ?_, ?_⟩
            · show _ = _
              rw [lval_set _ _ _ (by omega), HZ.out, HT.out, Int.add_mul]
              have h3 := HL.out
              rw [List.take_of_length_le (Nat.le_of_eq HLb.out)] at h3
              rw [Int.sub_zero, h3, Int.mul_assoc]
            · exact HG.out.1.setW (p + q) (by omega) _
            · exact HG.out.2.1.other _ (by show w.heap.size ≠ w.heap.size + 1; omega) _
            · exact HG.out.2.2.1.tn ((Tn.refl [w.heap.size + 1] _).cell _ (by simp) _) (by simp; omega)
            · exact HG.out.2.2.2.1.tn ((Tn.refl [w.heap.size + 1] _).cell _ (by simp) _) (by simp; omega)
            · exact HG.out.2.2.2.2.setCell (by show w.heap.size ≤ w.heap.size + 1; omega) _
          case measure => simp [intOf]; omega
    · have hlt' : (La : Int) ≤ (p : Int) := by omega
      have hpe : p = La := by omega
      subst hpe
      have hnum : num zs = m * n := by
        have h1 := num_val hzR
        have h4 := HL.out
        rw [List.take_of_length_le (Nat.le_of_eq HLa.out), HP.out.1, HP.out.2, ← h1] at h4
        exact_mod_cast h4
      have kS := gSettle (w.heap.size + 1) zs 0 (p + Lb) wr.drew hG.drew (by omega) (inR_take hzR _) hzz
      rw [num_take_zeros hzR hzz, hnum] at kS
      have hcast : ((p + Lb : Nat) : Int) = (p : Int) + (Lb : Int) := by omega
      rw [hcast] at kS
      have hwr : IntKind.i64.wrap ((p : Int) + (Lb : Int)) = (p : Int) + (Lb : Int) := by rw [IntKind.wrap_i64]; omega
      have cB := HSz.out.2 wr hC
      have HG : Hid (GB wr.drew w.heap.size (List.replicate 98 0) 0 ∧ GA wr.drew a oa m ∧ GA wr.drew b ob n ∧ Below w.heap.size w wr.drew) := ⟨hR.drew, hA.drew, hC.drew, hB.drew⟩
      have hbs := hB.size
      clear HL hnum hG hR hA hC hB hzz hzR hcast
      go_wp2_with fail
      go_region_held (fun w' => w'.cell? ⟨a, oa + 98, none⟩ = some (.int .i64 (p : Int)) ∧ w'.cell? ⟨b, ob + 98, none⟩ = some (.int .i64 (Lb : Int))) (go_keep)
        (first
          | (go_at_call 95
             (try rw [hwr])
             refine kS.mono ?_
             rintro e w5 ⟨rfl, g5, t5, s5⟩
             have d1 := HSz.out.1 w5 (HG.out.2.1.tn t5 (by simp; omega))
             have d2 := HSz.out.2 w5 (HG.out.2.2.1.tn t5 (by simp; omega))))
      have R5 := HG.out.1.tn t5 (by simp)
      have B5 := t5.below HG.out.2.2.2 hbs (by simp)
      have A5 := GN.ga g5 hl3
      go_wp2_with (first | (refine wpA_load rfl (.tmp 5) rfl (w.heap.size + 1) 0 (m * n) rfl A5 ?_) | (refine wpN_store rfl (.tmp 4) (.tmp 81) rfl w.heap.size _ _ (m * n) rfl rfl R5 hl3 ?_; intro w6 g6 t6 s6))
      (try simp only [Exit.inBlock, Exit.then])
      refine bodyPost_ret (v := .agg (gC (m * n))) ?_ rfl ⟨rfl, t6.below B5 B5.size (by simp)⟩
      exact results_great rfl _ _ w.heap.size _ _ rfl g6

end Go.Proofs.Ytlpfjpbnedankaa

/- The program's up, by its contract. -/
namespace Go.Proofs.Ytlpfjpbnedankaa
open Go.RowKit

theorem num_lt24 {zs : List Int} (h : inR zs) : num zs < 16777216 ^ zs.length := by
  have h1 := lval_lt h
  have h2 := num_val h
  have e : ((16777216 ^ zs.length : Nat) : Int) = (16777216 : Int) ^ zs.length := by simp
  omega
/-- The low part of a limb that is moved up, and the high one. -/
theorem low_part {x P Q : Int} (P0 : 0 < P) (Q0 : 0 < Q) (hPQ : P * Q = 16777216) : x * P % 4294967296 % 16777216 = P * (x % Q) := by
  have e := Int.mul_ediv_add_emod x Q
  have h1 := Int.emod_nonneg x (Int.ne_of_gt Q0)
  have h2 := Int.emod_lt_of_pos x Q0
  have h3 : 0 ≤ P * (x % Q) := Int.mul_nonneg (by omega) h1
  have h4 : P * (x % Q) ≤ P * (Q - 1) := Int.mul_le_mul_of_nonneg_left (by omega) (by omega)
  rw [Int.mul_sub, hPQ, Int.mul_one] at h4
  have h5 : x * P = P * (x % Q) + 16777216 * (x / Q) := by
    have : x * P = (Q * (x / Q) + x % Q) * P := by rw [e]
    rw [this, ← hPQ]
    grind
  obtain ⟨y, hy⟩ : ∃ y, x / Q = y := ⟨_, rfl⟩
  rw [hy] at h5
  omega
theorem part_bd {x P Q : Int} (x0 : 0 ≤ x) (x1 : x < 16777216) (P0 : 0 < P) (Q0 : 0 < Q) (hPQ : P * Q = 16777216) : 0 ≤ P * (x % Q) ∧ P * (x % Q) ≤ 16777216 - P ∧ 0 ≤ x / Q ∧ x / Q < P := by
  have h1 := Int.emod_nonneg x (Int.ne_of_gt Q0)
  have h2 := Int.emod_lt_of_pos x Q0
  have h3 : 0 ≤ P * (x % Q) := Int.mul_nonneg (by omega) h1
  have h4 : P * (x % Q) ≤ P * (Q - 1) := Int.mul_le_mul_of_nonneg_left (by omega) (by omega)
  rw [Int.mul_sub, hPQ, Int.mul_one] at h4
  exact ⟨h3, h4, Int.ediv_nonneg x0 (by omega), Int.ediv_lt_of_lt_mul Q0 (by omega)⟩
theorem up_word {zs : List Int} {q i : Nat} {top x P Q T : Int} (hl : q + i + 1 < zs.length) (ht : zs.getD (q + i) 0 = top) (hz : zs.getD (q + i + 1) 0 = 0) (hPQ : P * Q = 16777216) (h : lval zs = 16777216 ^ q * (T * P)) :
    lval ((zs.set (q + i) (top + P * (x % Q))).set (q + i + 1) (x / Q)) = 16777216 ^ q * ((T + 16777216 ^ i * x) * P) := by
  rw [lval_set _ _ _ (by rw [List.length_set]; omega), lval_set _ _ _ (by omega), gset_ne _ (by omega), hz, ht, h, Int.pow_succ, Int.pow_add]
  have e := Int.mul_ediv_add_emod x Q
  obtain ⟨A, hA⟩ : ∃ A, (16777216 : Int) ^ q = A := ⟨_, rfl⟩
  obtain ⟨B, hB⟩ : ∃ B, (16777216 : Int) ^ i = B := ⟨_, rfl⟩
  obtain ⟨y, hy⟩ : ∃ y, x / Q = y := ⟨_, rfl⟩
  obtain ⟨r, hr⟩ : ∃ r, x % Q = r := ⟨_, rfl⟩
  rw [hy, hr] at e
  rw [hA, hB, hy, hr, ← hPQ, ← e]
  grind
theorem up_fin {zs : List Int} {m k : Nat} (hr : inR zs) (h : lval zs = 16777216 ^ (k / 24) * ((m : Int) * 2 ^ (k % 24))) : num zs = m * 2 ^ k := by
  have h1 := num_val hr
  have h2 := pow24 k
  have h3 : lval zs = (m : Int) * 2 ^ k := by rw [h, ← h2]; grind
  have h4 : ((m * 2 ^ k : Nat) : Int) = (m : Int) * 2 ^ k := by simp
  omega

set_option maxHeartbeats 3200000 in
/-- up: the number times 2^k. -/
theorem gUp (a oa m k : Nat) (w : World) (hl : k / 24 + (limbs m).length + 1 ≤ 98) (hk : k ≤ 100000) (ha : GA w a oa m) :
    Calls Try.prog 68 #[.pointer (some ⟨a, oa, none⟩), .int .i64 k] w fun e w' => e = .returned (.agg (gC (m * 2 ^ k))) ∧ Below w.heap.size w w' := by
  have hU := fun zs h1 h2 => up_fin (zs := zs) (m := m) (k := k) h1 h2
  have R0 := (GB.made0 w).alloc (.cells Try.zeroCells97 97)
  have G0 := GB.made0 (w.alloc (.cells Try.zeroCells97 97))
  have hs0 : (w.alloc (.cells Try.zeroCells97 97)).heap.size = w.heap.size + 1 := by simp
  have B0 : Below w.heap.size w ((w.alloc (.cells Try.zeroCells97 97)).alloc (.cells Try.zeroCells97 97)) := ((Below.refl w.heap.size w).alloc (Nat.le_refl _) _).alloc (by simp) _
  rw [hs0] at G0
  have hna : a < w.heap.size := ha.lt
  have hA := ha.below B0 hna
  clear hs0 ha
  have hxr := limbs_inR m
  obtain ⟨La, hLa⟩ : ∃ L, (limbs m).length = L := ⟨_, rfl⟩
  have HLa : Hid ((limbs m).length = La) := hLa
  have HSz : Hid (∀ W, GA W a oa m → W.cell? ⟨a, oa + 98, none⟩ = some (.int .i64 (La : Int))) := fun W h => by rw [← hLa]; exact h.size
  rw [hLa] at hl
  have hm24 : ((k % 24 : Nat) : Int) = (k : Int) % 24 := by omega
  have hs24 : ((k / 24 : Nat) : Int) = (k : Int) / 24 := by omega
  have hs1 : k % 24 < 24 := by omega
  obtain ⟨N, hN⟩ : ∃ N, m * 2 ^ k = N := ⟨_, rfl⟩
  rw [hN]
  simp only [hN] at hU
  have HU : Hid (∀ zs, inR zs → lval zs = 16777216 ^ (k / 24) * ((m : Int) * 2 ^ (k % 24)) → num zs = N) := hU
  clear hLa hU hN
  go_enter Try.func68, Try.ntmps68
  go_wp2
  rw [← hs24, ← hm24]
  generalize (w.alloc (.cells Try.zeroCells97 97)).alloc (.cells Try.zeroCells97 97) = w0 at *
  clear hs24 hm24
  generalize k / 24 = q at *
  generalize k % 24 = s at *
  obtain ⟨t, ht⟩ : ∃ t, 24 - s = t := ⟨_, rfl⟩
  have hts : (24 - (s : Int)).toNat = t := by omega
  have P0 := two_pow_pos s
  have Q0 := two_pow_pos t
  have hPQ : (2 : Int) ^ s * 2 ^ t = 16777216 := by rw [← Int.pow_add, show s + t = 24 by omega]; rfl
  obtain ⟨P, hP⟩ : ∃ P, (2 : Int) ^ s = P := ⟨_, rfl⟩
  obtain ⟨Q, hQ⟩ : ∃ Q, (2 : Int) ^ t = Q := ⟨_, rfl⟩
  rw [hP] at P0 hPQ HU
  rw [hQ] at Q0 hPQ
  have P1 : P ≤ 8388608 := by rw [← hP]; exact two_pow_le (show s ≤ 23 by omega)
  have HPQ : Hid (P * Q = 16777216) := hPQ
  clear ht hPQ
  go_loopw [8] (fun i wr => ∃ (p : Nat) (zs : List Int), p ≤ La ∧ i = .int .i64 p ∧ inR zs ∧ (∀ j, q + p + 1 ≤ j → zs.getD j 0 = 0) ∧ zs.getD (q + p) 0 < P ∧ Hid (lval zs = 16777216 ^ q * (lval ((limbs m).take p) * P)) ∧ GB wr (w.heap.size + 1) zs 0 ∧ GB wr w.heap.size (List.replicate 98 0) 0 ∧ GA wr a oa m ∧ Below w.heap.size w wr) (fun i _ => La - (intOf i).toNat)
  case atStart => exact ⟨0, List.replicate 98 0, by omega, rfl, fun x hx => by rw [List.eq_of_mem_replicate hx]; omega, fun q _ => by rw [List.getD_eq_getElem?_getD, List.getElem?_replicate]; split <;> rfl, by rw [List.getD_eq_getElem?_getD, List.getElem?_replicate]; split <;> exact P0, by show _ = _; rw [lval_zeros]; simp [lval], G0, R0, hA, B0⟩
  case round =>
    clear G0 R0 hA B0
    obtain ⟨p, zs, hp, rfl, hzR, hzz, htop, HL, hG, hR, hA, hB⟩ := hrel
    have cA := HSz.out wr hA
    have hlen := hG.len
    by_cases hlt : p < La
    · have hlt' : (p : Int) < (La : Int) := by omega
      have gx := inR_getD hxr p
      have gz := inR_getD hzR (q + p)
      have HT : Hid (lval ((limbs m).take (p + 1)) = lval ((limbs m).take p) + 16777216 ^ p * (limbs m).getD p 0) := lval_take_succ _ p
      have cx := hA.word p (by omega)
      have cz := hG.word (q + p) (by omega)
      have cy := hG.word (q + p + 1) (by omega)
      have fz := hG.free (q + p)
      have fy := hG.free (q + p + 1)
      have hz0 := hzz (q + p + 1) (Nat.le_refl _)
      rw [hz0] at cy
      obtain ⟨x, hx⟩ : ∃ x, (limbs m).getD p 0 = x := ⟨_, rfl⟩
      have HXX : Hid ((limbs m).getD p 0 = x) := hx
      obtain ⟨top, htp⟩ : ∃ x, zs.getD (q + p) 0 = x := ⟨_, rfl⟩
      rw [hx] at gx HT cx
      rw [htp] at gz cz htop
      obtain ⟨gx0, gx1⟩ := gx
      obtain ⟨gz0, gz1⟩ := gz
      have hlow := low_part (x := x) P0 Q0 HPQ.out
      obtain ⟨b0, b1, b2, b3⟩ := part_bd gx0 gx1 P0 Q0 HPQ.out
      have HW := up_word (x := x) (T := lval ((limbs m).take p)) (by omega) htp hz0 HPQ.out HL.out
      obtain ⟨lo, hlo⟩ : ∃ lo, P * (x % Q) = lo := ⟨_, rfl⟩
      obtain ⟨hi, hhi⟩ : ∃ hi, x / Q = hi := ⟨_, rfl⟩
      rw [hlo] at hlow b0 b1 HW
      rw [hhi] at b2 b3 HW
      have HW2 : Hid (lval ((zs.set (q + p) (top + lo)).set (q + p + 1) hi) = 16777216 ^ q * ((lval ((limbs m).take p) + 16777216 ^ p * x) * P)) := HW
      have HG : Hid (GB wr (w.heap.size + 1) zs 0 ∧ GB wr w.heap.size (List.replicate 98 0) 0 ∧ GA wr a oa m ∧ Below w.heap.size w wr) := ⟨hG, hR, hA, hB⟩
      have HZZ : Hid (∀ j, q + p + 1 ≤ j → zs.getD j 0 = 0) := hzz
      have hqp : (q : Int) + (p : Int) < 98 := by omega
      have hqp1 : (q : Int) + (p : Int) + 1 < 98 := by omega
      have hp98 : (p : Int) < 98 := by omega
      have hwr : IntKind.i64.wrap ((q : Int) + (p : Int)) = (q : Int) + (p : Int) := by rw [IntKind.wrap_i64]; omega
      have hw2 : (IntKind.u32.wrap (x * P)).tmod 16777216 = lo := by
        rw [IntKind.wrap_u32, Int.tmod_eq_emod_of_nonneg (by omega), hlow]
      have hw3 : IntKind.u32.wrap (top + lo) = top + lo := by rw [IntKind.wrap_u32]; omega
      have hqn : (0 : Int) ≤ (q : Int) + (p : Int) := by omega
      have htn : ((q : Int) + (p : Int)).toNat = q + p := by omega
      clear hx htp HW hlo hG hR hA hB hzz hz0 HL
      go_wp2_with fail
      go_region
      have T1 : Tn [w.heap.size + 1] wr (wr.setCell ⟨w.heap.size + 1, q + p, none⟩ (.int .u32 (top + lo))).drew := ((Tn.refl [w.heap.size + 1] wr).cell _ (by simp) _).trans ⟨rfl, rfl, rfl, Nat.le_refl _, fun _ _ _ => rfl⟩
      have G1 := (HG.out.1.setW (q + p) (by omega) (top + lo)).drew
      have R1 := HG.out.2.1.tn T1 (by simp)
      have A1 := HG.out.2.2.1.tn T1 (by simp; omega)
      have B1 : Below w.heap.size w (wr.setCell ⟨w.heap.size + 1, q + p, none⟩ (.int .u32 (top + lo))).drew := (HG.out.2.2.2.setCell (by show w.heap.size ≤ w.heap.size + 1; omega) _).drew
      have cA1 := HSz.out _ A1
      have cx1 : (wr.setCell ⟨w.heap.size + 1, q + p, none⟩ (.int .u32 (top + lo))).drew.cell? ⟨a, oa + p, none⟩ = some (.int .u32 x) := by have := A1.word p (by omega); rw [HXX.out] at this; exact this
      have cy1 := G1.word (q + p + 1) (by omega)
      rw [gset_ne _ (by omega), HZZ.out _ (Nat.le_refl _)] at cy1
      have fy1 := G1.free (q + p + 1)
      generalize (wr.setCell ⟨w.heap.size + 1, q + p, none⟩ (.int .u32 (top + lo))).drew = w1 at *
      have HG1 : Hid (GB w1 (w.heap.size + 1) (zs.set (q + p) (top + lo)) 0 ∧ GB w1 w.heap.size (List.replicate 98 0) 0 ∧ GA w1 a oa m ∧ Below w.heap.size w w1) := ⟨G1, R1, A1, B1⟩
      clear HG G1 R1 A1 B1 T1 cx cz cy fz fy cA hw2 hw3
      go_wp2
      go_roundw
      case rel =>
        refine ⟨p + 1, (zs.set (q + p) (top + lo)).set (q + p + 1) hi, by omega, by go_num, inR_set (inR_set hzR _ (by omega) (by omega)) _ (by omega) (by omega), fun j hj => by rw [gset_ne _ (by omega), gset_ne _ (by omega)]; exact HZZ.out j (by omega), ?_, ?_, ?_, ?_, ?_, ?_⟩
        · have e : q + (p + 1) = q + p + 1 := by omega
          rw [e, List.getD_eq_getElem?_getD, List.getElem?_set_self (by rw [List.length_set]; omega)]
          exact b3
        · show _ = _
          rw [HT.out]
          exact HW2.out
        · exact HG1.out.1.setW (q + p + 1) (by omega) _
        · exact HG1.out.2.1.other _ (by show w.heap.size ≠ w.heap.size + 1; omega) _
        · exact HG1.out.2.2.1.tn ((Tn.refl [w.heap.size + 1] _).cell _ (by simp) _) (by simp; omega)
        · exact HG1.out.2.2.2.setCell (by show w.heap.size ≤ w.heap.size + 1; omega) _
      case measure => simp [intOf]; omega
    · have hlt' : ¬ (p : Int) < (La : Int) := by omega
      have hpe : p = La := by omega
      subst hpe
      have hnum : num zs = N := by
        refine HU.out zs hzR ?_
        have h4 := HL.out
        rw [List.take_of_length_le (Nat.le_of_eq HLa.out), limbs_val] at h4
        exact h4
      have hl3 : (limbs N).length ≤ 98 := by
        have h1 := limbs_len_le (num zs) zs.length (by have := num_lt24 hzR; exact this)
        rw [hnum, hlen] at h1
        exact h1
      have kS := gSettle (w.heap.size + 1) zs 0 (q + p + 1) wr hG (by omega) (inR_take hzR _) hzz
      rw [num_take_zeros hzR hzz, hnum] at kS
      have hcast : ((q + p + 1 : Nat) : Int) = (q : Int) + (p : Int) + 1 := by omega
      rw [hcast] at kS
      have HG : Hid (GB wr w.heap.size (List.replicate 98 0) 0 ∧ Below w.heap.size w wr) := ⟨hR, hB⟩
      have hbs := hB.size
      clear HL hnum hG hR hA hB hzz hzR hcast
      go_wp2_with fail
      refine kS.mono ?_
      rintro e w5 ⟨rfl, g5, t5, s5⟩
      have R5 := HG.out.1.tn t5 (by simp)
      have B5 := t5.below HG.out.2 hbs (by simp)
      have A5 := GN.ga g5 hl3
      go_wp2_with (first | (refine wpA_load rfl (.tmp 5) rfl (w.heap.size + 1) 0 N rfl A5 ?_) | (refine wpN_store rfl (.tmp 4) (.tmp 62) rfl w.heap.size _ _ N rfl rfl R5 hl3 ?_; intro w6 g6 t6 s6))
      (try simp only [Exit.inBlock, Exit.then])
      refine bodyPost_ret (v := .agg (gC N)) ?_ rfl ⟨rfl, t6.below B5 B5.size (by simp)⟩
      exact results_great rfl _ _ w.heap.size _ _ rfl g6

end Go.Proofs.Ytlpfjpbnedankaa

/- The program's down, by its contract. -/
namespace Go.Proofs.Ytlpfjpbnedankaa
open Go.RowKit

theorem downed {m k : Nat} {done : List Int} (hr : inR done) (h : 16777216 ^ (k / 24) * (2 ^ (k % 24) * lval done) + (lval ((limbs m).take (k / 24)) + 16777216 ^ (k / 24) * ((limbs m).getD (k / 24) 0 % 2 ^ (k % 24))) = (m : Int)) : num done = m / 2 ^ k := by
  have f0 := two_pow_pos (k % 24)
  have t0 := lval_nonneg (inR_take (limbs_inR m) (k / 24))
  have t1 := lval_take_lt (limbs_inR m) (k / 24)
  have e := down_fin h (pow_pos _) f0 t0 t1 (Int.emod_nonneg _ (Int.ne_of_gt f0)) (Int.emod_lt_of_pos _ f0)
  rw [pow24 k] at e
  have h1 := num_val hr
  have h2 : ((m / 2 ^ k : Nat) : Int) = (m : Int) / 2 ^ k := by simp
  omega

set_option maxHeartbeats 3200000 in
/-- down: the number by 2^k. -/
theorem gDown (a oa m k : Nat) (w : World) (hl : (limbs m).length ≤ 97) (hk : k ≤ 100000) (ha : GA w a oa m) :
    Calls Try.prog 69 #[.pointer (some ⟨a, oa, none⟩), .int .i64 k] w fun e w' => e = .returned (.agg (gC (m / 2 ^ k))) ∧ Below w.heap.size w w' := by
  have hU := fun done h1 h2 => downed (done := done) (m := m) (k := k) h1 h2
  have hl3 : (limbs (m / 2 ^ k)).length ≤ 98 := by have := limbs_mono (m := m) (n := m / 2 ^ k) (Nat.div_le_self _ _); omega
  have R0 := (GB.made0 w).alloc (.cells Try.zeroCells97 97)
  have G0 := GB.made0 (w.alloc (.cells Try.zeroCells97 97))
  have hs0 : (w.alloc (.cells Try.zeroCells97 97)).heap.size = w.heap.size + 1 := by simp
  have B0 : Below w.heap.size w ((w.alloc (.cells Try.zeroCells97 97)).alloc (.cells Try.zeroCells97 97)) := ((Below.refl w.heap.size w).alloc (Nat.le_refl _) _).alloc (by simp) _
  rw [hs0] at G0
  have hna : a < w.heap.size := ha.lt
  have hA := ha.below B0 hna
  clear hs0 ha
  have hxr := limbs_inR m
  obtain ⟨La, hLa⟩ : ∃ L, (limbs m).length = L := ⟨_, rfl⟩
  have HLa : Hid ((limbs m).length = La) := hLa
  have HSz : Hid (∀ W, GA W a oa m → W.cell? ⟨a, oa + 98, none⟩ = some (.int .i64 (La : Int))) := fun W h => by rw [← hLa]; exact h.size
  rw [hLa] at hl
  have hm24 : ((k % 24 : Nat) : Int) = (k : Int) % 24 := by omega
  have hs24 : ((k / 24 : Nat) : Int) = (k : Int) / 24 := by omega
  have hs1 : k % 24 < 24 := by omega
  have hq1 : k / 24 ≤ 100000 := by omega
  obtain ⟨N, hN⟩ : ∃ N, m / 2 ^ k = N := ⟨_, rfl⟩
  rw [hN] at hl3 ⊢
  simp only [hN] at hU
  have HU : Hid (∀ done, inR done → 16777216 ^ (k / 24) * (2 ^ (k % 24) * lval done) + (lval ((limbs m).take (k / 24)) + 16777216 ^ (k / 24) * ((limbs m).getD (k / 24) 0 % 2 ^ (k % 24))) = (m : Int) → num done = N) := hU
  clear hLa hU hN
  go_enter Try.func69, Try.ntmps69
  go_wp2
  rw [← hs24, ← hm24]
  generalize (w.alloc (.cells Try.zeroCells97 97)).alloc (.cells Try.zeroCells97 97) = w0 at *
  clear hs24 hm24
  generalize k / 24 = q at *
  generalize k % 24 = s at *
  obtain ⟨t, ht⟩ : ∃ t, 24 - s = t := ⟨_, rfl⟩
  have hts : (24 - (s : Int)).toNat = t := by omega
  have P0 := two_pow_pos s
  have Q0 := two_pow_pos t
  have hPQ : (2 : Int) ^ s * 2 ^ t = 16777216 := by rw [← Int.pow_add, show s + t = 24 by omega]; rfl
  obtain ⟨P, hP⟩ : ∃ P, (2 : Int) ^ s = P := ⟨_, rfl⟩
  obtain ⟨Q, hQ⟩ : ∃ Q, (2 : Int) ^ t = Q := ⟨_, rfl⟩
  rw [hP] at P0 hPQ HU
  rw [hQ] at Q0 hPQ
  have HPQ : Hid (P * Q = 16777216) := hPQ
  obtain ⟨TT, hTT⟩ : ∃ T, lval ((limbs m).take q) + 16777216 ^ q * ((limbs m).getD q 0 % P) = T := ⟨_, rfl⟩
  rw [hTT] at HU
  have HTT : Hid (lval ((limbs m).take q) + 16777216 ^ q * ((limbs m).getD q 0 % P) = TT) := hTT
  clear ht hPQ hTT
  go_loopw [8] (fun i wr => ∃ (p : Nat) (zs : List Int), q ≤ p ∧ (p ≤ q ∨ p ≤ La) ∧ i = .int .i64 p ∧ inR (zs.take (p - q)) ∧ (∀ j, p - q ≤ j → zs.getD j 0 = 0) ∧ Hid (16777216 ^ q * (P * lval (zs.take (p - q))) + TT = lval ((limbs m).take p) + 16777216 ^ p * ((limbs m).getD p 0 % P)) ∧ GB wr (w.heap.size + 1) zs 0 ∧ GB wr w.heap.size (List.replicate 98 0) 0 ∧ GA wr a oa m ∧ Below w.heap.size w wr) (fun i _ => La - (intOf i).toNat)
  case atStart => exact ⟨q, List.replicate 98 0, Nat.le_refl _, .inl (Nat.le_refl _), rfl, by rw [Nat.sub_self, List.take_zero]; exact inR_nil, fun q _ => by rw [List.getD_eq_getElem?_getD, List.getElem?_replicate]; split <;> rfl, by show _ = _; rw [Nat.sub_self, List.take_zero, HTT.out]; simp [lval], G0, R0, hA, B0⟩
  case round =>
    clear G0 R0 hA B0
    obtain ⟨p, zs, hp, hp2, rfl, hzR, hzz, HL, hG, hR, hA, hB⟩ := hrel
    have cA := HSz.out wr hA
    have hlen := hG.len
    by_cases hlt : p < La
    · have hlt' : (p : Int) < (La : Int) := by omega
      have gx := inR_getD hxr p
      have gy := inR_getD hxr (p + 1)
      have HT : Hid (lval ((limbs m).take (p + 1)) = lval ((limbs m).take p) + 16777216 ^ p * (limbs m).getD p 0) := lval_take_succ _ p
      have cx := hA.word p (by omega)
      have cy := hA.word (p + 1) (by omega)
      obtain ⟨j, hj⟩ : ∃ j, p - q = j := ⟨_, rfl⟩
      have hpj : p = q + j := by omega
      rw [hj] at hzR hzz HL
      have cz := hG.word j (by omega)
      rw [hzz j (Nat.le_refl _)] at cz
      have fz := hG.free j
      obtain ⟨x, hx⟩ : ∃ x, (limbs m).getD p 0 = x := ⟨_, rfl⟩
      obtain ⟨y, hy⟩ : ∃ x, (limbs m).getD (p + 1) 0 = x := ⟨_, rfl⟩
      rw [hx] at gx HT cx HL
      rw [hy] at gy cy
      obtain ⟨gx0, gx1⟩ := gx
      obtain ⟨gy0, gy1⟩ := gy
      have hlow := low_part (x := y) Q0 P0 (by rw [Int.mul_comm]; exact HPQ.out)
      obtain ⟨b0, b1, b2, b3⟩ := down_bd (e := y) gx0 gx1 P0 Q0 HPQ.out
      have hds := down_step q p hp P Q x y _ TT (zs.take j) (by rw [List.length_take]; omega) HPQ.out HL.out
      rw [Int.mul_comm Q] at hlow
      obtain ⟨hi, hhi⟩ : ∃ lo, y % P * Q = lo := ⟨_, rfl⟩
      obtain ⟨lo, hlo⟩ : ∃ hi, x / P = hi := ⟨_, rfl⟩
      rw [hhi] at hlow b2 b3 hds
      rw [hlo] at b0 b1 hds
      have HDS : Hid (16777216 ^ q * (P * lval (zs.take j ++ [lo + hi])) + TT = (lval ((limbs m).take p) + 16777216 ^ p * x) + 16777216 ^ (p + 1) * (y % P)) := hds
      have HY : Hid ((limbs m).getD (p + 1) 0 = y) := hy
      have HG : Hid (GB wr (w.heap.size + 1) zs 0 ∧ GB wr w.heap.size (List.replicate 98 0) 0 ∧ GA wr a oa m ∧ Below w.heap.size w wr) := ⟨hG, hR, hA, hB⟩
      have HZZ : Hid (∀ i, j ≤ i → zs.getD i 0 = 0) := hzz
      have HJ : Hid (p - q = j ∧ p = q + j) := ⟨hj, hpj⟩
      have hp98 : (p : Int) < 98 := by omega
      have hp1 : (p : Int) + 1 < 98 := by omega
      have hj98 : (j : Int) < 98 := by omega
      have hj98' : j < 98 := by omega
      have cy2 : wr.cell? ⟨a, oa + p + 1, none⟩ = some (.int .u32 y) := cy
      have hp0 : (0 : Int) ≤ (p : Int) + 1 := by omega
      have hwr : IntKind.i64.wrap ((p : Int) - (q : Int)) = (j : Int) := by rw [IntKind.wrap_i64]; omega
      have hwp : IntKind.i64.wrap ((p : Int) + 1) = (p : Int) + 1 := by rw [IntKind.wrap_i64]; omega
      have hw2 : (IntKind.u32.wrap (y * Q)).tmod 16777216 = hi := by
        rw [IntKind.wrap_u32, Int.tmod_eq_emod_of_nonneg (by omega), hlow]
      have hw3 : IntKind.u32.wrap (lo + hi) = lo + hi := by rw [IntKind.wrap_u32]; omega
      have hw5 : y * Q % 16777216 = hi := by omega
      have hw4 : IntKind.i64.wrap (24 - (s : Int)) = 24 - (s : Int) := by rw [IntKind.wrap_i64]; omega
      have hs24 : (s : Int) < 24 := by omega
      clear hx hy hj hpj hds hhi hG hR hA hB hzz HL hlow
      go_wp2_with fail
      go_region
      go_wp2
      go_roundw
      case rel =>
        obtain ⟨j1, j2⟩ := HJ.out
        refine ⟨p + 1, zs.set j (lo + hi), by omega, by omega, by go_num, ?_, ?_, ?_, ?_, ?_, ?_, ?_⟩
        · rw [show p + 1 - q = j + 1 by omega, take_set_succ (by omega)]
          exact inR_append.2 ⟨hzR, inR_cons.2 ⟨by omega, inR_nil⟩⟩
        · intro i hi2
          rw [gset_ne _ (by omega)]
          exact HZZ.out i (by omega)
        · show _ = _
          rw [show p + 1 - q = j + 1 by omega, take_set_succ (by omega), HT.out, HY.out]
          exact HDS.out
        · exact (HG.out.1.setW j (by omega) _).drew
        · exact (HG.out.2.1.other _ (by show w.heap.size ≠ w.heap.size + 1; omega) _).drew
        · exact (HG.out.2.2.1.tn ((Tn.refl [w.heap.size + 1] _).cell _ (by simp) _) (by simp; omega)).drew
        · exact (HG.out.2.2.2.setCell (by show w.heap.size ≤ w.heap.size + 1; omega) _).drew
      case measure => simp [intOf]; omega
    · have hlt' : ¬ (p : Int) < (La : Int) := by omega
      have hnum : num (zs.take (p - q)) = N := by
        refine HU.out _ hzR ?_
        have h4 := HL.out
        rw [getD_far (xs := limbs m) (j := p) (by have := HLa.out; omega), List.take_of_length_le (l := limbs m) (by have := HLa.out; omega), limbs_val] at h4
        simpa using h4
      obtain ⟨j, hj⟩ : ∃ j, p - q = j := ⟨_, rfl⟩
      rw [hj] at hnum hzR hzz
      have kS := gSettle (w.heap.size + 1) zs 0 j wr hG (by omega) hzR hzz
      rw [hnum] at kS
      have HG : Hid (GB wr w.heap.size (List.replicate 98 0) 0 ∧ Below w.heap.size w wr) := ⟨hR, hB⟩
      have hbs := hB.size
      by_cases hqL : q ≤ La
      · have hc : (La : Int) - (q : Int) = (j : Int) := by omega
        have hc0 : (0 : Int) ≤ (j : Int) := by omega
        clear HL hnum hG hR hA hB hzz hzR hj
        go_wp2_with fail
        refine kS.mono ?_
        rintro e w5 ⟨rfl, g5, t5, s5⟩
        have R5 := HG.out.1.tn t5 (by simp)
        have B5 := t5.below HG.out.2 hbs (by simp)
        have A5 := GN.ga g5 hl3
        go_wp2_with (first | (refine wpA_load rfl (.tmp 5) rfl (w.heap.size + 1) 0 N rfl A5 ?_) | (refine wpN_store rfl (.tmp 4) (.tmp 55) rfl w.heap.size _ _ N rfl rfl R5 hl3 ?_; intro w6 g6 t6 s6))
        (try simp only [Exit.inBlock, Exit.then])
        refine bodyPost_ret (v := .agg (gC N)) ?_ rfl ⟨rfl, t6.below B5 B5.size (by simp)⟩
        exact results_great rfl _ _ w.heap.size _ _ rfl g6
      · have hj0 : j = 0 := by omega
        subst hj0
        have hc0 : (La : Int) - (q : Int) < 0 := by omega
        clear HL hnum hG hR hA hB hzz hzR hj
        go_wp2_with fail
        refine kS.mono ?_
        rintro e w5 ⟨rfl, g5, t5, s5⟩
        have R5 := HG.out.1.tn t5 (by simp)
        have B5 := t5.below HG.out.2 hbs (by simp)
        have A5 := GN.ga g5 hl3
        go_wp2_with (first | (refine wpA_load rfl (.tmp 5) rfl (w.heap.size + 1) 0 N rfl A5 ?_) | (refine wpN_store rfl (.tmp 4) (.tmp 55) rfl w.heap.size _ _ N rfl rfl R5 hl3 ?_; intro w6 g6 t6 s6))
        (try simp only [Exit.inBlock, Exit.then])
        refine bodyPost_ret (v := .agg (gC N)) ?_ rfl ⟨rfl, t6.below B5 B5.size (by simp)⟩
        exact results_great rfl _ _ w.heap.size _ _ rfl g6

end Go.Proofs.Ytlpfjpbnedankaa

/- The program's next of a great number, by its contract. -/
namespace Go.Proofs.Ytlpfjpbnedankaa
open Go.RowKit

theorem succ_lenG (m : Nat) : (limbs (m + 1)).length ≤ (limbs m).length + 1 := by
  have h1 := limbs_lt m
  refine limbs_len_le _ _ ?_
  rw [Nat.pow_succ]
  have h2 : 0 < 16777216 ^ (limbs m).length := Nat.pow_pos (by omega)
  omega

set_option maxHeartbeats 1600000 in
/-- next: one more. -/
theorem gNext (m : Nat) (w : World) (hl : (limbs m).length ≤ 97) :
    Calls Try.prog 71 #[.agg (gC m)] w fun e w' => e = .returned (.agg (gC (m + 1))) ∧ Below w.heap.size w w' := by
  have M0 := (GN.made w m (by omega)).alloc (.cells Try.zeroCells97 97)
  have R0 := GB.made0 (w.alloc (.cells (gC m) 97))
  have s1 : (w.alloc (.cells (gC m) 97)).heap.size = w.heap.size + 1 := by simp
  rw [s1] at R0
  have B0 : Below w.heap.size w ((w.alloc (.cells (gC m) 97)).alloc (.cells Try.zeroCells97 97)) := ((Below.refl w.heap.size w).alloc (Nat.le_refl _) _).alloc (by simp) _
  have s2 : ((w.alloc (.cells (gC m) 97)).alloc (.cells Try.zeroCells97 97)).heap.size = w.heap.size + 1 + 1 := by simp
  obtain ⟨u, hu⟩ : ∃ u : Nat, u = 1 := ⟨1, rfl⟩
  have k2 : ∀ W, Calls Try.prog 64 #[.int .u64 1] W fun e w' => e = .returned (.agg (gC u)) ∧ Below W.heap.size W w' := fun W => by rw [hu]; exact gOf 1 W (by omega)
  have hl1 : (limbs u).length ≤ 1 := limbs_len_le u 1 (by omega)
  have hl3 : (limbs (m + u)).length ≤ 98 := by rw [hu]; have := succ_lenG m; omega
  have hgo : m + 1 = m + u := by rw [hu]
  rw [hgo]
  clear hu s1 hgo
  go_enter Try.func71, Try.ntmps71
  go_wp2_with fail
  refine (k2 _).mono ?_
  rintro e w1 ⟨rfl, b1⟩
  have B1 := B0.trans (b1.mono B0.size)
  have M1 := (GN.below M0 b1 (GN.lt M0)).alloc (.cells Try.zeroCells97 97)
  have R1 := (R0.below b1 R0.lt).alloc (.cells Try.zeroCells97 97)
  have P0 := GB.made0 w1
  have hs1 := b1.size
  have B2 := B1.alloc B1.size (.cells Try.zeroCells97 97)
  clear M0 R0 b1 k2
  go_wp2_with (first
    | (refine wpN_store rfl (.tmp 3) (.tmp 4) rfl w1.heap.size _ _ u rfl rfl P0 (by omega) ?_; intro w2 P2 t2 s3; have M2 := GN.tn M1 t2 (by simp; omega); have R2 := GB.tn R1 t2 (by simp; omega); have B3 := t2.below B2 B2.size (by simp; have := B1.size; omega); have A2 := GN.ga M2 (by omega); have C2 := GN.ga P2 (by omega))
    | (refine wpA_load rfl (.tmp 1) rfl w.heap.size 0 m rfl A2 ?_)
    | (go_at_call 75; refine (gPlus w1.heap.size 0 m u w2 (by omega) (by omega) C2).mono ?_; rintro e w4 ⟨rfl, b4⟩; have R4 := R2.below b4 R2.lt; have B5 := B3.trans (b4.mono B3.size))
    | (refine wpN_store rfl (.tmp 2) (.tmp 6) rfl (w.heap.size + 1) _ _ (m + u) rfl rfl R4 (by omega) ?_; intro w6 g6 t6 s6))
  (try simp only [Exit.inBlock, Exit.then])
  refine bodyPost_ret (v := .agg (gC (m + u))) ?_ rfl ⟨rfl, t6.below B5 B5.size (by simp)⟩
  exact results_great rfl _ _ (w.heap.size + 1) _ _ rfl g6

end Go.Proofs.Ytlpfjpbnedankaa
