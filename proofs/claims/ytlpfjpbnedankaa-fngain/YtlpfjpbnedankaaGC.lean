/- Several small texts in one: GTimes, GUp, GDown, GNext, GByWord, GEnter, GBits. -/
import Derived.Test.YtlpfjpbnedankaaGB
import Derived.Test.YtlpfjpbnedankaaSB
import Derived.Test.YtlpfjpbnedankaaUB
import Derived.Test.YtlpfjpbnedankaaBase
import Derived.Lib.BitFns
/- The program's times, by its contract. -/
namespace Go.Proofs.Ytlpfjpbnedankaa
open Go.RowKit

theorem lval_drop_zeros {zs : List Int} {k : Nat} (h : ∀ q, k ≤ q → zs.getD q 0 = 0) : lval (zs.drop k) = 0 := by
  have : zs.drop k = List.replicate (zs.length - k) 0 := by
    apply List.ext_getElem?
    intro i
    rw [List.getElem?_drop, List.getElem?_replicate]
    split
    · have := h (k + i) (by omega)
      rw [List.getD_eq_getElem?_getD, List.getElem?_eq_getElem (by omega)] at this
      rw [List.getElem?_eq_getElem (by omega)]
      simpa using this
    · rw [List.getElem?_eq_none (by omega)]
  rw [this, lval_zeros]
theorem num_take_zeros {zs : List Int} {k : Nat} (hr : inR zs) (h : ∀ q, k ≤ q → zs.getD q 0 = 0) : num (zs.take k) = num zs := by
  have h1 := lval_split zs k
  rw [lval_drop_zeros h] at h1
  have h2 := num_val hr
  have h3 := num_val (inR_take hr k)
  omega
theorem mul_limbs_len (m n : Nat) : (limbs (m * n)).length ≤ (limbs m).length + (limbs n).length := by
  refine limbs_len_le _ _ ?_
  have h1 := limbs_lt m
  have h2 := limbs_lt n
  rw [Nat.pow_add]
  exact Nat.mul_lt_mul'' h1 h2

set_option maxHeartbeats 3200000 in
/-- times: the product. -/
theorem gTimes (a oa b ob m n : Nat) (w : World) (hl : (limbs m).length + (limbs n).length ≤ 98) (ha : GA w a oa m) (hb : GA w b ob n) :
    Calls Try.prog 98 #[.pointer (some ⟨a, oa, none⟩), .pointer (some ⟨b, ob, none⟩)] w fun e w' => e = .returned (.agg (gC (m * n))) ∧ Below w.heap.size w w' := by
  have hl3 : (limbs (m * n)).length ≤ 98 := by have := mul_limbs_len m n; omega
  have R0 := (GB.made0 w).alloc (.cells Try.zeroCells97 97)
  have G0 := GB.made0 (w.alloc (.cells Try.zeroCells97 97))
  have hs0 : (w.alloc (.cells Try.zeroCells97 97)).heap.size = w.heap.size + 1 := by simp
  have B0 : Below w.heap.size w ((w.alloc (.cells Try.zeroCells97 97)).alloc (.cells Try.zeroCells97 97)) := ((Below.refl w.heap.size w).alloc (Nat.le_refl _) _).alloc (by simp) _
  rw [hs0] at G0
  have hna : a < w.heap.size := ha.lt
  have hnb : b < w.heap.size := hb.lt
  have hA := ha.below B0 hna
  have hC := hb.below B0 hnb
  clear hs0 ha hb
  have hxr := limbs_inR m
  have hyr := limbs_inR n
  have HP : Hid (lval (limbs m) = m ∧ lval (limbs n) = n) := ⟨limbs_val m, limbs_val n⟩
  obtain ⟨La, hLa⟩ : ∃ L, (limbs m).length = L := ⟨_, rfl⟩
  obtain ⟨Lb, hLb⟩ : ∃ L, (limbs n).length = L := ⟨_, rfl⟩
  have HLa : Hid ((limbs m).length = La) := hLa
  have HLb : Hid ((limbs n).length = Lb) := hLb
  have hsA : ∀ W, GA W a oa m → W.cell? ⟨a, oa + 98, none⟩ = some (.int .i64 (La : Int)) := fun W h => by rw [← hLa]; exact h.size
  have hsB : ∀ W, GA W b ob n → W.cell? ⟨b, ob + 98, none⟩ = some (.int .i64 (Lb : Int)) := fun W h => by rw [← hLb]; exact h.size
  have HSz : Hid ((∀ W, GA W a oa m → W.cell? ⟨a, oa + 98, none⟩ = some (.int .i64 (La : Int))) ∧ (∀ W, GA W b ob n → W.cell? ⟨b, ob + 98, none⟩ = some (.int .i64 (Lb : Int)))) := ⟨hsA, hsB⟩
  rw [hLa, hLb] at hl
  clear hLa hLb hsA hsB
  go_enter Try.func98, Try.ntmps98
  go_wp2
  generalize (w.alloc (.cells Try.zeroCells97 97)).alloc (.cells Try.zeroCells97 97) = w0 at *
  go_loopw [6] (fun i wr => ∃ (p : Nat) (zs : List Int), p ≤ La ∧ i = .int .i64 p ∧ inR zs ∧ (∀ q, p + Lb ≤ q → zs.getD q 0 = 0) ∧ Hid (lval zs = lval ((limbs m).take p) * lval (limbs n)) ∧ GB wr (w.heap.size + 1) zs 0 ∧ GB wr w.heap.size (List.replicate 98 0) 0 ∧ GA wr a oa m ∧ GA wr b ob n ∧ Below w.heap.size w wr) (fun i _ => La - (intOf i).toNat)
  case atStart => exact ⟨0, List.replicate 98 0, by omega, rfl, fun x hx => by rw [List.eq_of_mem_replicate hx]; omega, fun q _ => by rw [List.getD_eq_getElem?_getD, List.getElem?_replicate]; split <;> rfl, by show _ = _; rw [lval_zeros]; simp [lval], G0, R0, hA, hC, B0⟩
  case round =>
    clear G0 R0 hA hC B0
    obtain ⟨p, zs, hp, rfl, hzR, hzz, HL, hG, hR, hA, hC, hB⟩ := hrel
    have cA := HSz.out.1 wr hA
    by_cases hlt : p < La
    · have hlt' : (p : Int) < (La : Int) := by omega
      have gx := inR_getD hxr p
      have HT : Hid (lval ((limbs m).take (p + 1)) = lval ((limbs m).take p) + 16777216 ^ p * (limbs m).getD p 0) := lval_take_succ _ p
      have HX : Hid (∀ W, GA W a oa m → W.cell? ⟨a, oa + p, none⟩ = some (.int .u32 ((limbs m).getD p 0))) := fun W h => h.word p (by omega)
      obtain ⟨xi, hxi⟩ : ∃ xi, (limbs m).getD p 0 = xi := ⟨_, rfl⟩
      rw [hxi] at gx HT HX
      obtain ⟨gx0, gx1⟩ := gx
      clear hxi
      go_wp2
      clear cA
      go_loopw [7, 8] (fun c j wr => ∃ (q : Nat) (cc : Int) (zs : List Int), q ≤ Lb ∧ j = .int .i64 q ∧ c = .int .u64 cc ∧ 0 ≤ cc ∧ cc < 16777216 ∧ inR zs ∧ (∀ r, p + Lb ≤ r → zs.getD r 0 = 0) ∧ Hid (lval zs + 16777216 ^ (p + q) * cc = lval ((limbs m).take p) * lval (limbs n) + 16777216 ^ p * (xi * lval ((limbs n).take q))) ∧ GB wr (w.heap.size + 1) zs 0 ∧ GB wr w.heap.size (List.replicate 98 0) 0 ∧ GA wr a oa m ∧ GA wr b ob n ∧ Below w.heap.size w wr) (fun _ j _ => Lb - (intOf j).toNat)
      case atStart => exact ⟨0, 0, zs, by omega, rfl, rfl, by omega, by omega, hzR, hzz, by show _ = _; rw [HL.out]; simp [lval], hG, hR, hA, hC, hB⟩
      case round =>
        clear hG hR hA hC hB hzz hzR HL
        obtain ⟨q, cc, zs, hq, rfl, rfl, c0, c1, hzR, hzz, HL, hG, hR, hA, hC, hB⟩ := hrel
        have hlen := hG.len
        have cB := HSz.out.2 wr hC
        by_cases hlm : q < Lb
        · have hlm' : (q : Int) < (Lb : Int) := by omega
          have cx := HX.out wr hA
          have cy := hC.word q (by omega)
          have cz := hG.word (p + q) (by omega)
          have fz := hG.free (p + q)
          have gy := inR_getD hyr q
          have gz := inR_getD hzR (p + q)
          have HTy : Hid (lval ((limbs n).take (q + 1)) = lval ((limbs n).take q) + 16777216 ^ q * (limbs n).getD q 0) := lval_take_succ _ q
          obtain ⟨yj, hyj⟩ : ∃ yj, (limbs n).getD q 0 = yj := ⟨_, rfl⟩
          obtain ⟨z, hz⟩ : ∃ z, zs.getD (p + q) 0 = z := ⟨_, rfl⟩
          rw [hyj] at gy cy HTy
          rw [hz] at gz cz
          obtain ⟨gy0, gy1⟩ := gy
          obtain ⟨gz0, gz1⟩ := gz
          obtain ⟨p0, p1⟩ := mul_lim gx0 gx1 gy0 gy1
          have HZ : Hid (zs.getD (p + q) 0 = z) := hz
          have HZZ : Hid (∀ r, p + Lb ≤ r → zs.getD r 0 = 0) := hzz
          have HG : Hid (GB wr (w.heap.size + 1) zs 0 ∧ GB wr w.heap.size (List.replicate 98 0) 0 ∧ GA wr a oa m ∧ GA wr b ob n ∧ Below w.heap.size w wr) := ⟨hG, hR, hA, hC, hB⟩
          have hpq : (p : Int) + (q : Int) < 98 := by omega
          have hpq' : p + q < 98 := by omega
          have hp98 : (p : Int) < 98 := by omega
          have hq98 : (q : Int) < 98 := by omega
          clear hG hR hA hC hB hz hyj hzz
          go_wp2_with fail
          go_quiet (fail)
          have HG2 : Hid (GB (wr.drewN nq) (w.heap.size + 1) zs 0 ∧ GB (wr.drewN nq) w.heap.size (List.replicate 98 0) 0 ∧ GA (wr.drewN nq) a oa m ∧ GA (wr.drewN nq) b ob n ∧ Below w.heap.size w (wr.drewN nq)) := ⟨HG.out.1.drewN nq, HG.out.2.1.drewN nq, HG.out.2.2.1.drewN nq, HG.out.2.2.2.1.drewN nq, Below.drewN HG.out.2.2.2.2 nq⟩
          clear HG
          go_wp2
          go_roundw
          case rel =>
            refine ⟨q + 1, (z + xi * yj + cc) / 16777216, zs.set (p + q) ((z + xi * yj + cc) % 16777216), by omega, by go_num, by go_num, by omega, by omega, inR_set hzR _ (by omega) (by omega), fun r hr => by rw [gset_ne _ (by omega)]; exact HZZ.out r hr, ?_, ?_, ?_, ?_, ?_, ?_⟩
            · show _ = _
              rw [HTy.out]
              exact times_step p q cc _ z xi yj _ _ zs (by omega) HZ.out HL.out rfl
            · exact HG2.out.1.setW (p + q) (by omega) _
            · exact HG2.out.2.1.other _ (by show w.heap.size ≠ w.heap.size + 1; omega) _
            · exact HG2.out.2.2.1.tn ((Tn.refl [w.heap.size + 1] _).cell _ (by simp) _) (by simp; omega)
            · exact HG2.out.2.2.2.1.tn ((Tn.refl [w.heap.size + 1] _).cell _ (by simp) _) (by simp; omega)
            · exact HG2.out.2.2.2.2.setCell (by show w.heap.size ≤ w.heap.size + 1; omega) _
          case measure => simp [intOf]; omega
        · have hlm' : (Lb : Int) ≤ (q : Int) := by omega
          have hqe : q = Lb := by omega
          subst hqe
          have cz := hG.word (p + q) (by omega)
          have fz := hG.free (p + q)
          have HZ : Hid (zs.getD (p + q) 0 = 0) := hzz _ (Nat.le_refl _)
          rw [hzz _ (Nat.le_refl _)] at cz
          have HZZ : Hid (∀ r, p + q ≤ r → zs.getD r 0 = 0) := hzz
          have HG : Hid (GB wr (w.heap.size + 1) zs 0 ∧ GB wr w.heap.size (List.replicate 98 0) 0 ∧ GA wr a oa m ∧ GA wr b ob n ∧ Below w.heap.size w wr) := ⟨hG, hR, hA, hC, hB⟩
          have hpq : (p : Int) + (q : Int) < 98 := by omega
          have hpq' : p + q < 98 := by omega
          clear hG hR hA hC hB hzz
          go_wp2
          go_roundw
          case rel =>
            refine ⟨p + 1, zs.set (p + q) cc, by omega, by go_num, inR_set hzR _ c0 c1, fun r hr => by rw [gset_ne _ (by omega)]; exact HZZ.out r (by omega), ?_, ?_, ?_, ?_, ?_, ?_⟩
            · show _ = _
              rw [lval_set _ _ _ (by omega), HZ.out, HT.out, Int.add_mul]
              have h3 := HL.out
              rw [List.take_of_length_le (Nat.le_of_eq HLb.out)] at h3
              rw [Int.sub_zero, h3, Int.mul_assoc]
            · exact HG.out.1.setW (p + q) (by omega) _
            · exact HG.out.2.1.other _ (by show w.heap.size ≠ w.heap.size + 1; omega) _
            · exact HG.out.2.2.1.tn ((Tn.refl [w.heap.size + 1] _).cell _ (by simp) _) (by simp; omega)
            · exact HG.out.2.2.2.1.tn ((Tn.refl [w.heap.size + 1] _).cell _ (by simp) _) (by simp; omega)
            · exact HG.out.2.2.2.2.setCell (by show w.heap.size ≤ w.heap.size + 1; omega) _
          case measure => simp [intOf]; omega
    · have hlt' : (La : Int) ≤ (p : Int) := by omega
      have hpe : p = La := by omega
      subst hpe
      have hnum : num zs = m * n := by
        have h1 := num_val hzR
        have h4 := HL.out
        rw [List.take_of_length_le (Nat.le_of_eq HLa.out), HP.out.1, HP.out.2, ← h1] at h4
        exact_mod_cast h4
      have kS := gSettle (w.heap.size + 1) zs 0 (p + Lb) wr.drew hG.drew (by omega) (inR_take hzR _) hzz
      rw [num_take_zeros hzR hzz, hnum] at kS
      have hcast : ((p + Lb : Nat) : Int) = (p : Int) + (Lb : Int) := by omega
      rw [hcast] at kS
      have hwr : IntKind.i64.wrap ((p : Int) + (Lb : Int)) = (p : Int) + (Lb : Int) := by rw [IntKind.wrap_i64]; omega
      have cB := HSz.out.2 wr hC
      have HG : Hid (GB wr.drew w.heap.size (List.replicate 98 0) 0 ∧ GA wr.drew a oa m ∧ GA wr.drew b ob n ∧ Below w.heap.size w wr.drew) := ⟨hR.drew, hA.drew, hC.drew, hB.drew⟩
      have hbs := hB.size
      clear HL hnum hG hR hA hC hB hzz hzR hcast
      go_wp2_with fail
      go_region_held (fun w' => w'.cell? ⟨a, oa + 98, none⟩ = some (.int .i64 (p : Int)) ∧ w'.cell? ⟨b, ob + 98, none⟩ = some (.int .i64 (Lb : Int))) (go_keep)
        (first
          | (go_at_call 95
             (try rw [hwr])
             refine kS.mono ?_
             rintro e w5 ⟨rfl, g5, t5, s5⟩
             have d1 := HSz.out.1 w5 (HG.out.2.1.tn t5 (by simp; omega))
             have d2 := HSz.out.2 w5 (HG.out.2.2.1.tn t5 (by simp; omega))))
      have R5 := HG.out.1.tn t5 (by simp)
      have B5 := t5.below HG.out.2.2.2 hbs (by simp)
      have A5 := GN.ga g5 hl3
      go_wp2_with (first | (refine wpA_load rfl (.tmp 5) rfl (w.heap.size + 1) 0 (m * n) rfl A5 ?_) | (refine wpN_store rfl (.tmp 4) (.tmp 81) rfl w.heap.size _ _ (m * n) rfl rfl R5 hl3 ?_; intro w6 g6 t6 s6))
      (try simp only [Exit.inBlock, Exit.then])
      refine bodyPost_ret (v := .agg (gC (m * n))) ?_ rfl ⟨rfl, t6.below B5 B5.size (by simp)⟩
      exact results_great rfl _ _ w.heap.size _ _ rfl g6

end Go.Proofs.Ytlpfjpbnedankaa

/- The program's up, by its contract. -/
namespace Go.Proofs.Ytlpfjpbnedankaa
open Go.RowKit

theorem num_lt24 {zs : List Int} (h : inR zs) : num zs < 16777216 ^ zs.length := by
  have h1 := lval_lt h
  have h2 := num_val h
  have e : ((16777216 ^ zs.length : Nat) : Int) = (16777216 : Int) ^ zs.length := by simp
  omega
/-- The low part of a limb that is moved up, and the high one. -/
theorem low_part {x P Q : Int} (P0 : 0 < P) (Q0 : 0 < Q) (hPQ : P * Q = 16777216) : x * P % 4294967296 % 16777216 = P * (x % Q) := by
  have e := Int.mul_ediv_add_emod x Q
  have h1 := Int.emod_nonneg x (Int.ne_of_gt Q0)
  have h2 := Int.emod_lt_of_pos x Q0
  have h3 : 0 ≤ P * (x % Q) := Int.mul_nonneg (by omega) h1
  have h4 : P * (x % Q) ≤ P * (Q - 1) := Int.mul_le_mul_of_nonneg_left (by omega) (by omega)
  rw [Int.mul_sub, hPQ, Int.mul_one] at h4
  have h5 : x * P = P * (x % Q) + 16777216 * (x / Q) := by
    have : x * P = (Q * (x / Q) + x % Q) * P := by rw [e]
    rw [this, ← hPQ]
    grind
  obtain ⟨y, hy⟩ : ∃ y, x / Q = y := ⟨_, rfl⟩
  rw [hy] at h5
  omega
theorem part_bd {x P Q : Int} (x0 : 0 ≤ x) (x1 : x < 16777216) (P0 : 0 < P) (Q0 : 0 < Q) (hPQ : P * Q = 16777216) : 0 ≤ P * (x % Q) ∧ P * (x % Q) ≤ 16777216 - P ∧ 0 ≤ x / Q ∧ x / Q < P := by
  have h1 := Int.emod_nonneg x (Int.ne_of_gt Q0)
  have h2 := Int.emod_lt_of_pos x Q0
  have h3 : 0 ≤ P * (x % Q) := Int.mul_nonneg (by omega) h1
  have h4 : P * (x % Q) ≤ P * (Q - 1) := Int.mul_le_mul_of_nonneg_left (by omega) (by omega)
  rw [Int.mul_sub, hPQ, Int.mul_one] at h4
  exact ⟨h3, h4, Int.ediv_nonneg x0 (by omega), Int.ediv_lt_of_lt_mul Q0 (by omega)⟩
theorem up_word {zs : List Int} {q i : Nat} {top x P Q T : Int} (hl : q + i + 1 < zs.length) (ht : zs.getD (q + i) 0 = top) (hz : zs.getD (q + i + 1) 0 = 0) (hPQ : P * Q = 16777216) (h : lval zs = 16777216 ^ q * (T * P)) :
    lval ((zs.set (q + i) (top + P * (x % Q))).set (q + i + 1) (x / Q)) = 16777216 ^ q * ((T + 16777216 ^ i * x) * P) := by
  rw [lval_set _ _ _ (by rw [List.length_set]; omega), lval_set _ _ _ (by omega), gset_ne _ (by omega), hz, ht, h, Int.pow_succ, Int.pow_add]
  have e := Int.mul_ediv_add_emod x Q
  obtain ⟨A, hA⟩ : ∃ A, (16777216 : Int) ^ q = A := ⟨_, rfl⟩
  obtain ⟨B, hB⟩ : ∃ B, (16777216 : Int) ^ i = B := ⟨_, rfl⟩
  obtain ⟨y, hy⟩ : ∃ y, x / Q = y := ⟨_, rfl⟩
  obtain ⟨r, hr⟩ : ∃ r, x % Q = r := ⟨_, rfl⟩
  rw [hy, hr] at e
  rw [hA, hB, hy, hr, ← hPQ, ← e]
  grind
theorem up_fin {zs : List Int} {m k : Nat} (hr : inR zs) (h : lval zs = 16777216 ^ (k / 24) * ((m : Int) * 2 ^ (k % 24))) : num zs = m * 2 ^ k := by
  have h1 := num_val hr
  have h2 := pow24 k
  have h3 : lval zs = (m : Int) * 2 ^ k := by rw [h, ← h2]; grind
  have h4 : ((m * 2 ^ k : Nat) : Int) = (m : Int) * 2 ^ k := by simp
  omega

set_option maxHeartbeats 3200000 in
/-- up: the number times 2^k. -/
theorem gUp (a oa m k : Nat) (w : World) (hl : k / 24 + (limbs m).length + 1 ≤ 98) (hk : k ≤ 100000) (ha : GA w a oa m) :
    Calls Try.prog 68 #[.pointer (some ⟨a, oa, none⟩), .int .i64 k] w fun e w' => e = .returned (.agg (gC (m * 2 ^ k))) ∧ Below w.heap.size w w' := by
  have hU := fun zs h1 h2 => up_fin (zs := zs) (m := m) (k := k) h1 h2
  have R0 := (GB.made0 w).alloc (.cells Try.zeroCells97 97)
  have G0 := GB.made0 (w.alloc (.cells Try.zeroCells97 97))
  have hs0 : (w.alloc (.cells Try.zeroCells97 97)).heap.size = w.heap.size + 1 := by simp
  have B0 : Below w.heap.size w ((w.alloc (.cells Try.zeroCells97 97)).alloc (.cells Try.zeroCells97 97)) := ((Below.refl w.heap.size w).alloc (Nat.le_refl _) _).alloc (by simp) _
  rw [hs0] at G0
  have hna : a < w.heap.size := ha.lt
  have hA := ha.below B0 hna
  clear hs0 ha
  have hxr := limbs_inR m
  obtain ⟨La, hLa⟩ : ∃ L, (limbs m).length = L := ⟨_, rfl⟩
  have HLa : Hid ((limbs m).length = La) := hLa
  have HSz : Hid (∀ W, GA W a oa m → W.cell? ⟨a, oa + 98, none⟩ = some (.int .i64 (La : Int))) := fun W h => by rw [← hLa]; exact h.size
  rw [hLa] at hl
  have hm24 : ((k % 24 : Nat) : Int) = (k : Int) % 24 := by omega
  have hs24 : ((k / 24 : Nat) : Int) = (k : Int) / 24 := by omega
  have hs1 : k % 24 < 24 := by omega
  obtain ⟨N, hN⟩ : ∃ N, m * 2 ^ k = N := ⟨_, rfl⟩
  rw [hN]
  simp only [hN] at hU
  have HU : Hid (∀ zs, inR zs → lval zs = 16777216 ^ (k / 24) * ((m : Int) * 2 ^ (k % 24)) → num zs = N) := hU
  clear hLa hU hN
  go_enter Try.func68, Try.ntmps68
  go_wp2
  rw [← hs24, ← hm24]
  generalize (w.alloc (.cells Try.zeroCells97 97)).alloc (.cells Try.zeroCells97 97) = w0 at *
  clear hs24 hm24
  generalize k / 24 = q at *
  generalize k % 24 = s at *
  obtain ⟨t, ht⟩ : ∃ t, 24 - s = t := ⟨_, rfl⟩
  have hts : (24 - (s : Int)).toNat = t := by omega
  have P0 := two_pow_pos s
  have Q0 := two_pow_pos t
  have hPQ : (2 : Int) ^ s * 2 ^ t = 16777216 := by rw [← Int.pow_add, show s + t = 24 by omega]; rfl
  obtain ⟨P, hP⟩ : ∃ P, (2 : Int) ^ s = P := ⟨_, rfl⟩
  obtain ⟨Q, hQ⟩ : ∃ Q, (2 : Int) ^ t = Q := ⟨_, rfl⟩
  rw [hP] at P0 hPQ HU
  rw [hQ] at Q0 hPQ
  have P1 : P ≤ 8388608 := by rw [← hP]; exact two_pow_le (show s ≤ 23 by omega)
  have HPQ : Hid (P * Q = 16777216) := hPQ
  clear ht hPQ
  go_loopw [8] (fun i wr => ∃ (p : Nat) (zs : List Int), p ≤ La ∧ i = .int .i64 p ∧ inR zs ∧ (∀ j, q + p + 1 ≤ j → zs.getD j 0 = 0) ∧ zs.getD (q + p) 0 < P ∧ Hid (lval zs = 16777216 ^ q * (lval ((limbs m).take p) * P)) ∧ GB wr (w.heap.size + 1) zs 0 ∧ GB wr w.heap.size (List.replicate 98 0) 0 ∧ GA wr a oa m ∧ Below w.heap.size w wr) (fun i _ => La - (intOf i).toNat)
  case atStart => exact ⟨0, List.replicate 98 0, by omega, rfl, fun x hx => by rw [List.eq_of_mem_replicate hx]; omega, fun q _ => by rw [List.getD_eq_getElem?_getD, List.getElem?_replicate]; split <;> rfl, by rw [List.getD_eq_getElem?_getD, List.getElem?_replicate]; split <;> exact P0, by show _ = _; rw [lval_zeros]; simp [lval], G0, R0, hA, B0⟩
  case round =>
    clear G0 R0 hA B0
    obtain ⟨p, zs, hp, rfl, hzR, hzz, htop, HL, hG, hR, hA, hB⟩ := hrel
    have cA := HSz.out wr hA
    have hlen := hG.len
    by_cases hlt : p < La
    · have hlt' : (p : Int) < (La : Int) := by omega
      have gx := inR_getD hxr p
      have gz := inR_getD hzR (q + p)
      have HT : Hid (lval ((limbs m).take (p + 1)) = lval ((limbs m).take p) + 16777216 ^ p * (limbs m).getD p 0) := lval_take_succ _ p
      have cx := hA.word p (by omega)
      have cz := hG.word (q + p) (by omega)
      have cy := hG.word (q + p + 1) (by omega)
      have fz := hG.free (q + p)
      have fy := hG.free (q + p + 1)
      have hz0 := hzz (q + p + 1) (Nat.le_refl _)
      rw [hz0] at cy
      obtain ⟨x, hx⟩ : ∃ x, (limbs m).getD p 0 = x := ⟨_, rfl⟩
      have HXX : Hid ((limbs m).getD p 0 = x) := hx
      obtain ⟨top, htp⟩ : ∃ x, zs.getD (q + p) 0 = x := ⟨_, rfl⟩
      rw [hx] at gx HT cx
      rw [htp] at gz cz htop
      obtain ⟨gx0, gx1⟩ := gx
      obtain ⟨gz0, gz1⟩ := gz
      have hlow := low_part (x := x) P0 Q0 HPQ.out
      obtain ⟨b0, b1, b2, b3⟩ := part_bd gx0 gx1 P0 Q0 HPQ.out
      have HW := up_word (x := x) (T := lval ((limbs m).take p)) (by omega) htp hz0 HPQ.out HL.out
      obtain ⟨lo, hlo⟩ : ∃ lo, P * (x % Q) = lo := ⟨_, rfl⟩
      obtain ⟨hi, hhi⟩ : ∃ hi, x / Q = hi := ⟨_, rfl⟩
      rw [hlo] at hlow b0 b1 HW
      rw [hhi] at b2 b3 HW
      have HW2 : Hid (lval ((zs.set (q + p) (top + lo)).set (q + p + 1) hi) = 16777216 ^ q * ((lval ((limbs m).take p) + 16777216 ^ p * x) * P)) := HW
      have HG : Hid (GB wr (w.heap.size + 1) zs 0 ∧ GB wr w.heap.size (List.replicate 98 0) 0 ∧ GA wr a oa m ∧ Below w.heap.size w wr) := ⟨hG, hR, hA, hB⟩
      have HZZ : Hid (∀ j, q + p + 1 ≤ j → zs.getD j 0 = 0) := hzz
      have hqp : (q : Int) + (p : Int) < 98 := by omega
      have hqp1 : (q : Int) + (p : Int) + 1 < 98 := by omega
      have hp98 : (p : Int) < 98 := by omega
      have hwr : IntKind.i64.wrap ((q : Int) + (p : Int)) = (q : Int) + (p : Int) := by rw [IntKind.wrap_i64]; omega
      have hw2 : (IntKind.u32.wrap (x * P)).tmod 16777216 = lo := by
        rw [IntKind.wrap_u32, Int.tmod_eq_emod_of_nonneg (by omega), hlow]
      have hw3 : IntKind.u32.wrap (top + lo) = top + lo := by rw [IntKind.wrap_u32]; omega
      have hqn : (0 : Int) ≤ (q : Int) + (p : Int) := by omega
      have htn : ((q : Int) + (p : Int)).toNat = q + p := by omega
      clear hx htp HW hlo hG hR hA hB hzz hz0 HL
      go_wp2_with fail
      go_region
      have T1 : Tn [w.heap.size + 1] wr (wr.setCell ⟨w.heap.size + 1, q + p, none⟩ (.int .u32 (top + lo))).drew := ((Tn.refl [w.heap.size + 1] wr).cell _ (by simp) _).trans ⟨rfl, rfl, rfl, Nat.le_refl _, fun _ _ _ => rfl⟩
      have G1 := (HG.out.1.setW (q + p) (by omega) (top + lo)).drew
      have R1 := HG.out.2.1.tn T1 (by simp)
      have A1 := HG.out.2.2.1.tn T1 (by simp; omega)
      have B1 : Below w.heap.size w (wr.setCell ⟨w.heap.size + 1, q + p, none⟩ (.int .u32 (top + lo))).drew := (HG.out.2.2.2.setCell (by show w.heap.size ≤ w.heap.size + 1; omega) _).drew
      have cA1 := HSz.out _ A1
      have cx1 : (wr.setCell ⟨w.heap.size + 1, q + p, none⟩ (.int .u32 (top + lo))).drew.cell? ⟨a, oa + p, none⟩ = some (.int .u32 x) := by have := A1.word p (by omega); rw [HXX.out] at this; exact this
      have cy1 := G1.word (q + p + 1) (by omega)
      rw [gset_ne _ (by omega), HZZ.out _ (Nat.le_refl _)] at cy1
      have fy1 := G1.free (q + p + 1)
      generalize (wr.setCell ⟨w.heap.size + 1, q + p, none⟩ (.int .u32 (top + lo))).drew = w1 at *
      have HG1 : Hid (GB w1 (w.heap.size + 1) (zs.set (q + p) (top + lo)) 0 ∧ GB w1 w.heap.size (List.replicate 98 0) 0 ∧ GA w1 a oa m ∧ Below w.heap.size w w1) := ⟨G1, R1, A1, B1⟩
      clear HG G1 R1 A1 B1 T1 cx cz cy fz fy cA hw2 hw3
      go_wp2
      go_roundw
      case rel =>
        refine ⟨p + 1, (zs.set (q + p) (top + lo)).set (q + p + 1) hi, by omega, by go_num, inR_set (inR_set hzR _ (by omega) (by omega)) _ (by omega) (by omega), fun j hj => by rw [gset_ne _ (by omega), gset_ne _ (by omega)]; exact HZZ.out j (by omega), ?_, ?_, ?_, ?_, ?_, ?_⟩
        · have e : q + (p + 1) = q + p + 1 := by omega
          rw [e, List.getD_eq_getElem?_getD, List.getElem?_set_self (by rw [List.length_set]; omega)]
          exact b3
        · show _ = _
          rw [HT.out]
          exact HW2.out
        · exact HG1.out.1.setW (q + p + 1) (by omega) _
        · exact HG1.out.2.1.other _ (by show w.heap.size ≠ w.heap.size + 1; omega) _
        · exact HG1.out.2.2.1.tn ((Tn.refl [w.heap.size + 1] _).cell _ (by simp) _) (by simp; omega)
        · exact HG1.out.2.2.2.setCell (by show w.heap.size ≤ w.heap.size + 1; omega) _
      case measure => simp [intOf]; omega
    · have hlt' : ¬ (p : Int) < (La : Int) := by omega
      have hpe : p = La := by omega
      subst hpe
      have hnum : num zs = N := by
        refine HU.out zs hzR ?_
        have h4 := HL.out
        rw [List.take_of_length_le (Nat.le_of_eq HLa.out), limbs_val] at h4
        exact h4
      have hl3 : (limbs N).length ≤ 98 := by
        have h1 := limbs_len_le (num zs) zs.length (by have := num_lt24 hzR; exact this)
        rw [hnum, hlen] at h1
        exact h1
      have kS := gSettle (w.heap.size + 1) zs 0 (q + p + 1) wr hG (by omega) (inR_take hzR _) hzz
      rw [num_take_zeros hzR hzz, hnum] at kS
      have hcast : ((q + p + 1 : Nat) : Int) = (q : Int) + (p : Int) + 1 := by omega
      rw [hcast] at kS
      have HG : Hid (GB wr w.heap.size (List.replicate 98 0) 0 ∧ Below w.heap.size w wr) := ⟨hR, hB⟩
      have hbs := hB.size
      clear HL hnum hG hR hA hB hzz hzR hcast
      go_wp2_with fail
      refine kS.mono ?_
      rintro e w5 ⟨rfl, g5, t5, s5⟩
      have R5 := HG.out.1.tn t5 (by simp)
      have B5 := t5.below HG.out.2 hbs (by simp)
      have A5 := GN.ga g5 hl3
      go_wp2_with (first | (refine wpA_load rfl (.tmp 5) rfl (w.heap.size + 1) 0 N rfl A5 ?_) | (refine wpN_store rfl (.tmp 4) (.tmp 62) rfl w.heap.size _ _ N rfl rfl R5 hl3 ?_; intro w6 g6 t6 s6))
      (try simp only [Exit.inBlock, Exit.then])
      refine bodyPost_ret (v := .agg (gC N)) ?_ rfl ⟨rfl, t6.below B5 B5.size (by simp)⟩
      exact results_great rfl _ _ w.heap.size _ _ rfl g6

end Go.Proofs.Ytlpfjpbnedankaa

/- The program's down, by its contract. -/
namespace Go.Proofs.Ytlpfjpbnedankaa
open Go.RowKit

theorem downed {m k : Nat} {done : List Int} (hr : inR done) (h : 16777216 ^ (k / 24) * (2 ^ (k % 24) * lval done) + (lval ((limbs m).take (k / 24)) + 16777216 ^ (k / 24) * ((limbs m).getD (k / 24) 0 % 2 ^ (k % 24))) = (m : Int)) : num done = m / 2 ^ k := by
  have f0 := two_pow_pos (k % 24)
  have t0 := lval_nonneg (inR_take (limbs_inR m) (k / 24))
  have t1 := lval_take_lt (limbs_inR m) (k / 24)
  have e := down_fin h (pow_pos _) f0 t0 t1 (Int.emod_nonneg _ (Int.ne_of_gt f0)) (Int.emod_lt_of_pos _ f0)
  rw [pow24 k] at e
  have h1 := num_val hr
  have h2 : ((m / 2 ^ k : Nat) : Int) = (m : Int) / 2 ^ k := by simp
  omega

set_option maxHeartbeats 3200000 in
/-- down: the number by 2^k. -/
theorem gDown (a oa m k : Nat) (w : World) (hl : (limbs m).length ≤ 97) (hk : k ≤ 100000) (ha : GA w a oa m) :
    Calls Try.prog 69 #[.pointer (some ⟨a, oa, none⟩), .int .i64 k] w fun e w' => e = .returned (.agg (gC (m / 2 ^ k))) ∧ Below w.heap.size w w' := by
  have hU := fun done h1 h2 => downed (done := done) (m := m) (k := k) h1 h2
  have hl3 : (limbs (m / 2 ^ k)).length ≤ 98 := by have := limbs_mono (m := m) (n := m / 2 ^ k) (Nat.div_le_self _ _); omega
  have R0 := (GB.made0 w).alloc (.cells Try.zeroCells97 97)
  have G0 := GB.made0 (w.alloc (.cells Try.zeroCells97 97))
  have hs0 : (w.alloc (.cells Try.zeroCells97 97)).heap.size = w.heap.size + 1 := by simp
  have B0 : Below w.heap.size w ((w.alloc (.cells Try.zeroCells97 97)).alloc (.cells Try.zeroCells97 97)) := ((Below.refl w.heap.size w).alloc (Nat.le_refl _) _).alloc (by simp) _
  rw [hs0] at G0
  have hna : a < w.heap.size := ha.lt
  have hA := ha.below B0 hna
  clear hs0 ha
  have hxr := limbs_inR m
  obtain ⟨La, hLa⟩ : ∃ L, (limbs m).length = L := ⟨_, rfl⟩
  have HLa : Hid ((limbs m).length = La) := hLa
  have HSz : Hid (∀ W, GA W a oa m → W.cell? ⟨a, oa + 98, none⟩ = some (.int .i64 (La : Int))) := fun W h => by rw [← hLa]; exact h.size
  rw [hLa] at hl
  have hm24 : ((k % 24 : Nat) : Int) = (k : Int) % 24 := by omega
  have hs24 : ((k / 24 : Nat) : Int) = (k : Int) / 24 := by omega
  have hs1 : k % 24 < 24 := by omega
  have hq1 : k / 24 ≤ 100000 := by omega
  obtain ⟨N, hN⟩ : ∃ N, m / 2 ^ k = N := ⟨_, rfl⟩
  rw [hN] at hl3 ⊢
  simp only [hN] at hU
  have HU : Hid (∀ done, inR done → 16777216 ^ (k / 24) * (2 ^ (k % 24) * lval done) + (lval ((limbs m).take (k / 24)) + 16777216 ^ (k / 24) * ((limbs m).getD (k / 24) 0 % 2 ^ (k % 24))) = (m : Int) → num done = N) := hU
  clear hLa hU hN
  go_enter Try.func69, Try.ntmps69
  go_wp2
  rw [← hs24, ← hm24]
  generalize (w.alloc (.cells Try.zeroCells97 97)).alloc (.cells Try.zeroCells97 97) = w0 at *
  clear hs24 hm24
  generalize k / 24 = q at *
  generalize k % 24 = s at *
  obtain ⟨t, ht⟩ : ∃ t, 24 - s = t := ⟨_, rfl⟩
  have hts : (24 - (s : Int)).toNat = t := by omega
  have P0 := two_pow_pos s
  have Q0 := two_pow_pos t
  have hPQ : (2 : Int) ^ s * 2 ^ t = 16777216 := by rw [← Int.pow_add, show s + t = 24 by omega]; rfl
  obtain ⟨P, hP⟩ : ∃ P, (2 : Int) ^ s = P := ⟨_, rfl⟩
  obtain ⟨Q, hQ⟩ : ∃ Q, (2 : Int) ^ t = Q := ⟨_, rfl⟩
  rw [hP] at P0 hPQ HU
  rw [hQ] at Q0 hPQ
  have HPQ : Hid (P * Q = 16777216) := hPQ
  obtain ⟨TT, hTT⟩ : ∃ T, lval ((limbs m).take q) + 16777216 ^ q * ((limbs m).getD q 0 % P) = T := ⟨_, rfl⟩
  rw [hTT] at HU
  have HTT : Hid (lval ((limbs m).take q) + 16777216 ^ q * ((limbs m).getD q 0 % P) = TT) := hTT
  clear ht hPQ hTT
  go_loopw [8] (fun i wr => ∃ (p : Nat) (zs : List Int), q ≤ p ∧ (p ≤ q ∨ p ≤ La) ∧ i = .int .i64 p ∧ inR (zs.take (p - q)) ∧ (∀ j, p - q ≤ j → zs.getD j 0 = 0) ∧ Hid (16777216 ^ q * (P * lval (zs.take (p - q))) + TT = lval ((limbs m).take p) + 16777216 ^ p * ((limbs m).getD p 0 % P)) ∧ GB wr (w.heap.size + 1) zs 0 ∧ GB wr w.heap.size (List.replicate 98 0) 0 ∧ GA wr a oa m ∧ Below w.heap.size w wr) (fun i _ => La - (intOf i).toNat)
  case atStart => exact ⟨q, List.replicate 98 0, Nat.le_refl _, .inl (Nat.le_refl _), rfl, by rw [Nat.sub_self, List.take_zero]; exact inR_nil, fun q _ => by rw [List.getD_eq_getElem?_getD, List.getElem?_replicate]; split <;> rfl, by show _ = _; rw [Nat.sub_self, List.take_zero, HTT.out]; simp [lval], G0, R0, hA, B0⟩
  case round =>
    clear G0 R0 hA B0
    obtain ⟨p, zs, hp, hp2, rfl, hzR, hzz, HL, hG, hR, hA, hB⟩ := hrel
    have cA := HSz.out wr hA
    have hlen := hG.len
    by_cases hlt : p < La
    · have hlt' : (p : Int) < (La : Int) := by omega
      have gx := inR_getD hxr p
      have gy := inR_getD hxr (p + 1)
      have HT : Hid (lval ((limbs m).take (p + 1)) = lval ((limbs m).take p) + 16777216 ^ p * (limbs m).getD p 0) := lval_take_succ _ p
      have cx := hA.word p (by omega)
      have cy := hA.word (p + 1) (by omega)
      obtain ⟨j, hj⟩ : ∃ j, p - q = j := ⟨_, rfl⟩
      have hpj : p = q + j := by omega
      rw [hj] at hzR hzz HL
      have cz := hG.word j (by omega)
      rw [hzz j (Nat.le_refl _)] at cz
      have fz := hG.free j
      obtain ⟨x, hx⟩ : ∃ x, (limbs m).getD p 0 = x := ⟨_, rfl⟩
      obtain ⟨y, hy⟩ : ∃ x, (limbs m).getD (p + 1) 0 = x := ⟨_, rfl⟩
      rw [hx] at gx HT cx HL
      rw [hy] at gy cy
      obtain ⟨gx0, gx1⟩ := gx
      obtain ⟨gy0, gy1⟩ := gy
      have hlow := low_part (x := y) Q0 P0 (by rw [Int.mul_comm]; exact HPQ.out)
      obtain ⟨b0, b1, b2, b3⟩ := down_bd (e := y) gx0 gx1 P0 Q0 HPQ.out
      have hds := down_step q p hp P Q x y _ TT (zs.take j) (by rw [List.length_take]; omega) HPQ.out HL.out
      rw [Int.mul_comm Q] at hlow
      obtain ⟨hi, hhi⟩ : ∃ lo, y % P * Q = lo := ⟨_, rfl⟩
      obtain ⟨lo, hlo⟩ : ∃ hi, x / P = hi := ⟨_, rfl⟩
      rw [hhi] at hlow b2 b3 hds
      rw [hlo] at b0 b1 hds
      have HDS : Hid (16777216 ^ q * (P * lval (zs.take j ++ [lo + hi])) + TT = (lval ((limbs m).take p) + 16777216 ^ p * x) + 16777216 ^ (p + 1) * (y % P)) := hds
      have HY : Hid ((limbs m).getD (p + 1) 0 = y) := hy
      have HG : Hid (GB wr (w.heap.size + 1) zs 0 ∧ GB wr w.heap.size (List.replicate 98 0) 0 ∧ GA wr a oa m ∧ Below w.heap.size w wr) := ⟨hG, hR, hA, hB⟩
      have HZZ : Hid (∀ i, j ≤ i → zs.getD i 0 = 0) := hzz
      have HJ : Hid (p - q = j ∧ p = q + j) := ⟨hj, hpj⟩
      have hp98 : (p : Int) < 98 := by omega
      have hp1 : (p : Int) + 1 < 98 := by omega
      have hj98 : (j : Int) < 98 := by omega
      have hj98' : j < 98 := by omega
      have cy2 : wr.cell? ⟨a, oa + p + 1, none⟩ = some (.int .u32 y) := cy
      have hp0 : (0 : Int) ≤ (p : Int) + 1 := by omega
      have hwr : IntKind.i64.wrap ((p : Int) - (q : Int)) = (j : Int) := by rw [IntKind.wrap_i64]; omega
      have hwp : IntKind.i64.wrap ((p : Int) + 1) = (p : Int) + 1 := by rw [IntKind.wrap_i64]; omega
      have hw2 : (IntKind.u32.wrap (y * Q)).tmod 16777216 = hi := by
        rw [IntKind.wrap_u32, Int.tmod_eq_emod_of_nonneg (by omega), hlow]
      have hw3 : IntKind.u32.wrap (lo + hi) = lo + hi := by rw [IntKind.wrap_u32]; omega
      have hw5 : y * Q % 16777216 = hi := by omega
      have hw4 : IntKind.i64.wrap (24 - (s : Int)) = 24 - (s : Int) := by rw [IntKind.wrap_i64]; omega
      have hs24 : (s : Int) < 24 := by omega
      clear hx hy hj hpj hds hhi hG hR hA hB hzz HL hlow
      go_wp2_with fail
      go_region
      go_wp2
      go_roundw
      case rel =>
        obtain ⟨j1, j2⟩ := HJ.out
        refine ⟨p + 1, zs.set j (lo + hi), by omega, by omega, by go_num, ?_, ?_, ?_, ?_, ?_, ?_, ?_⟩
        · rw [show p + 1 - q = j + 1 by omega, take_set_succ (by omega)]
          exact inR_append.2 ⟨hzR, inR_cons.2 ⟨by omega, inR_nil⟩⟩
        · intro i hi2
          rw [gset_ne _ (by omega)]
          exact HZZ.out i (by omega)
        · show _ = _
          rw [show p + 1 - q = j + 1 by omega, take_set_succ (by omega), HT.out, HY.out]
          exact HDS.out
        · exact (HG.out.1.setW j (by omega) _).drew
        · exact (HG.out.2.1.other _ (by show w.heap.size ≠ w.heap.size + 1; omega) _).drew
        · exact (HG.out.2.2.1.tn ((Tn.refl [w.heap.size + 1] _).cell _ (by simp) _) (by simp; omega)).drew
        · exact (HG.out.2.2.2.setCell (by show w.heap.size ≤ w.heap.size + 1; omega) _).drew
      case measure => simp [intOf]; omega
    · have hlt' : ¬ (p : Int) < (La : Int) := by omega
      have hnum : num (zs.take (p - q)) = N := by
        refine HU.out _ hzR ?_
        have h4 := HL.out
        rw [getD_far (xs := limbs m) (j := p) (by have := HLa.out; omega), List.take_of_length_le (l := limbs m) (by have := HLa.out; omega), limbs_val] at h4
        simpa using h4
      obtain ⟨j, hj⟩ : ∃ j, p - q = j := ⟨_, rfl⟩
      rw [hj] at hnum hzR hzz
      have kS := gSettle (w.heap.size + 1) zs 0 j wr hG (by omega) hzR hzz
      rw [hnum] at kS
      have HG : Hid (GB wr w.heap.size (List.replicate 98 0) 0 ∧ Below w.heap.size w wr) := ⟨hR, hB⟩
      have hbs := hB.size
      by_cases hqL : q ≤ La
      · have hc : (La : Int) - (q : Int) = (j : Int) := by omega
        have hc0 : (0 : Int) ≤ (j : Int) := by omega
        clear HL hnum hG hR hA hB hzz hzR hj
        go_wp2_with fail
        refine kS.mono ?_
        rintro e w5 ⟨rfl, g5, t5, s5⟩
        have R5 := HG.out.1.tn t5 (by simp)
        have B5 := t5.below HG.out.2 hbs (by simp)
        have A5 := GN.ga g5 hl3
        go_wp2_with (first | (refine wpA_load rfl (.tmp 5) rfl (w.heap.size + 1) 0 N rfl A5 ?_) | (refine wpN_store rfl (.tmp 4) (.tmp 55) rfl w.heap.size _ _ N rfl rfl R5 hl3 ?_; intro w6 g6 t6 s6))
        (try simp only [Exit.inBlock, Exit.then])
        refine bodyPost_ret (v := .agg (gC N)) ?_ rfl ⟨rfl, t6.below B5 B5.size (by simp)⟩
        exact results_great rfl _ _ w.heap.size _ _ rfl g6
      · have hj0 : j = 0 := by omega
        subst hj0
        have hc0 : (La : Int) - (q : Int) < 0 := by omega
        clear HL hnum hG hR hA hB hzz hzR hj
        go_wp2_with fail
        refine kS.mono ?_
        rintro e w5 ⟨rfl, g5, t5, s5⟩
        have R5 := HG.out.1.tn t5 (by simp)
        have B5 := t5.below HG.out.2 hbs (by simp)
        have A5 := GN.ga g5 hl3
        go_wp2_with (first | (refine wpA_load rfl (.tmp 5) rfl (w.heap.size + 1) 0 N rfl A5 ?_) | (refine wpN_store rfl (.tmp 4) (.tmp 55) rfl w.heap.size _ _ N rfl rfl R5 hl3 ?_; intro w6 g6 t6 s6))
        (try simp only [Exit.inBlock, Exit.then])
        refine bodyPost_ret (v := .agg (gC N)) ?_ rfl ⟨rfl, t6.below B5 B5.size (by simp)⟩
        exact results_great rfl _ _ w.heap.size _ _ rfl g6

end Go.Proofs.Ytlpfjpbnedankaa

/- The program's next of a great number, by its contract. -/
namespace Go.Proofs.Ytlpfjpbnedankaa
open Go.RowKit

theorem succ_lenG (m : Nat) : (limbs (m + 1)).length ≤ (limbs m).length + 1 := by
  have h1 := limbs_lt m
  refine limbs_len_le _ _ ?_
  rw [Nat.pow_succ]
  have h2 : 0 < 16777216 ^ (limbs m).length := Nat.pow_pos (by omega)
  omega

set_option maxHeartbeats 1600000 in
/-- next: one more. -/
theorem gNext (m : Nat) (w : World) (hl : (limbs m).length ≤ 97) :
    Calls Try.prog 71 #[.agg (gC m)] w fun e w' => e = .returned (.agg (gC (m + 1))) ∧ Below w.heap.size w w' := by
  have M0 := (GN.made w m (by omega)).alloc (.cells Try.zeroCells97 97)
  have R0 := GB.made0 (w.alloc (.cells (gC m) 97))
  have s1 : (w.alloc (.cells (gC m) 97)).heap.size = w.heap.size + 1 := by simp
  rw [s1] at R0
  have B0 : Below w.heap.size w ((w.alloc (.cells (gC m) 97)).alloc (.cells Try.zeroCells97 97)) := ((Below.refl w.heap.size w).alloc (Nat.le_refl _) _).alloc (by simp) _
  have s2 : ((w.alloc (.cells (gC m) 97)).alloc (.cells Try.zeroCells97 97)).heap.size = w.heap.size + 1 + 1 := by simp
  obtain ⟨u, hu⟩ : ∃ u : Nat, u = 1 := ⟨1, rfl⟩
  have k2 : ∀ W, Calls Try.prog 64 #[.int .u64 1] W fun e w' => e = .returned (.agg (gC u)) ∧ Below W.heap.size W w' := fun W => by rw [hu]; exact gOf 1 W (by omega)
  have hl1 : (limbs u).length ≤ 1 := limbs_len_le u 1 (by omega)
  have hl3 : (limbs (m + u)).length ≤ 98 := by rw [hu]; have := succ_lenG m; omega
  have hgo : m + 1 = m + u := by rw [hu]
  rw [hgo]
  clear hu s1 hgo
  go_enter Try.func71, Try.ntmps71
  go_wp2_with fail
  refine (k2 _).mono ?_
  rintro e w1 ⟨rfl, b1⟩
  have B1 := B0.trans (b1.mono B0.size)
  have M1 := (GN.below M0 b1 (GN.lt M0)).alloc (.cells Try.zeroCells97 97)
  have R1 := (R0.below b1 R0.lt).alloc (.cells Try.zeroCells97 97)
  have P0 := GB.made0 w1
  have hs1 := b1.size
  have B2 := B1.alloc B1.size (.cells Try.zeroCells97 97)
  clear M0 R0 b1 k2
  go_wp2_with (first
    | (refine wpN_store rfl (.tmp 3) (.tmp 4) rfl w1.heap.size _ _ u rfl rfl P0 (by omega) ?_; intro w2 P2 t2 s3; have M2 := GN.tn M1 t2 (by simp; omega); have R2 := GB.tn R1 t2 (by simp; omega); have B3 := t2.below B2 B2.size (by simp; have := B1.size; omega); have A2 := GN.ga M2 (by omega); have C2 := GN.ga P2 (by omega))
    | (refine wpA_load rfl (.tmp 1) rfl w.heap.size 0 m rfl A2 ?_)
    | (go_at_call 75; refine (gPlus w1.heap.size 0 m u w2 (by omega) (by omega) C2).mono ?_; rintro e w4 ⟨rfl, b4⟩; have R4 := R2.below b4 R2.lt; have B5 := B3.trans (b4.mono B3.size))
    | (refine wpN_store rfl (.tmp 2) (.tmp 6) rfl (w.heap.size + 1) _ _ (m + u) rfl rfl R4 (by omega) ?_; intro w6 g6 t6 s6))
  (try simp only [Exit.inBlock, Exit.then])
  refine bodyPost_ret (v := .agg (gC (m + u))) ?_ rfl ⟨rfl, t6.below B5 B5.size (by simp)⟩
  exact results_great rfl _ _ (w.heap.size + 1) _ _ rfl g6

end Go.Proofs.Ytlpfjpbnedankaa

/- The program's byWord, by its contract. -/
namespace Go.Proofs.Ytlpfjpbnedankaa
open Go.RowKit

theorem bw_set (zs : List Int) (i : Nat) (y : Int) (h : i < zs.length) : lval ((zs.set i y).drop i) = y + 16777216 * lval (zs.drop (i + 1)) := by
  rw [lval_drop]
  have e1 : (zs.set i y).getD i 0 = y := by simp [List.getD_eq_getElem?_getD, h]
  have e2 : (zs.set i y).drop (i + 1) = zs.drop (i + 1) := List.drop_set_of_lt (by omega)
  rw [e1, e2]

theorem bw_step {a rest d x Z V : Int} (h : V = d * Z + rest) (hx : x = rest * 16777216 + a) : a + 16777216 * V = d * (x / d + 16777216 * Z) + x % d := by
  have := Int.mul_ediv_add_emod x d
  grind

theorem bw_bd {a rest d : Int} (a0 : 0 ≤ a) (a1 : a < 16777216) (r0 : 0 ≤ rest) (r1 : rest < d) : 0 ≤ (rest * 16777216 + a) / d ∧ (rest * 16777216 + a) / d < 16777216 ∧ 0 ≤ (rest * 16777216 + a) % d ∧ (rest * 16777216 + a) % d < d := by
  have hd : 0 < d := by omega
  refine ⟨Int.ediv_nonneg (by omega) (by omega), Int.ediv_lt_of_lt_mul hd ?_, Int.emod_nonneg _ (by omega), Int.emod_lt_of_pos _ hd⟩
  omega


end Go.Proofs.Ytlpfjpbnedankaa

/- The program's bit and enter, each by its contract. -/
namespace Go.Proofs.Ytlpfjpbnedankaa
open Go.RowKit

set_option maxRecDepth 20000 in
set_option maxHeartbeats 1600000 in
/-- bit: one bit of a number. -/
theorem gBit (a oa m k : Nat) (w : World) (hk : k / 24 < 98) (ha : GA w a oa m) :
    Calls Try.prog 121 #[.pointer (some ⟨a, oa, none⟩), .int .i64 k] w fun e w' => e = .returned (.int .u32 ((m / 2 ^ k % 2 : Nat) : Int)) ∧ w' = w := by
  have hb := bit_of (limbs_inR m) k
  rw [num_limbs] at hb
  have cw := ha.word (k / 24) hk
  have gx := inR_getD (limbs_inR m) (k / 24)
  have hq : (k : Int) / 24 = ((k / 24 : Nat) : Int) := by omega
  have hs : (k : Int) % 24 = ((k % 24 : Nat) : Int) := by omega
  have hs1 : k % 24 < 24 := by omega
  have hk2 : k ≤ 100000 := by omega
  obtain ⟨x, hx⟩ : ∃ x, (limbs m).getD (k / 24) 0 = x := ⟨_, rfl⟩
  rw [hx] at hb cw gx
  obtain ⟨z, hz⟩ : ∃ z, m / 2 ^ k % 2 = z := ⟨_, rfl⟩
  rw [hz] at hb ⊢
  clear hx hz ha
  generalize k / 24 = q at *
  generalize k % 24 = s at *
  have P0 := two_pow_pos s
  obtain ⟨P, hP⟩ : ∃ P, (2 : Int) ^ s = P := ⟨_, rfl⟩
  rw [hP] at hb P0
  have hq98 : (q : Int) < 98 := by omega
  have hy0 : 0 ≤ x / P := Int.ediv_nonneg gx.1 (by omega)
  have HB : Hid (x / P % 2 = (z : Int)) := hb
  clear hb
  go_enter Try.func121, Try.ntmps121
  go_wp2
  go_ret
  exact ⟨by rw [← HB.out]; rfl, rfl⟩

theorem enter_step (i : Nat) (c x f A xk lo : Int) (ys : List Int) (hi : ys.length = i) (h : lval ys + 16777216 ^ i * c = f * A + lo) (hx : x = xk * f + c) :
    lval (ys ++ [x % 16777216]) + 16777216 ^ (i + 1) * (x / 16777216) = f * (A + 16777216 ^ i * xk) + lo := by
  rw [lval_snoc, hi, Int.pow_succ]
  have e : x = 16777216 * (x / 16777216) + x % 16777216 := by omega
  have e3 : (16777216 : Int) ^ i * x = 16777216 ^ i * 16777216 * (x / 16777216) + 16777216 ^ i * (x % 16777216) := by
    conv => lhs; rw [e]
    rw [Int.mul_add, ← Int.mul_assoc]
  have e2 : (16777216 : Int) ^ i * x = 16777216 ^ i * (xk * f) + 16777216 ^ i * c := by rw [hx, Int.mul_add]
  have e4 : f * (A + 16777216 ^ i * xk) = f * A + 16777216 ^ i * (xk * f) := by
    rw [Int.mul_add, Int.mul_comm xk f, ← Int.mul_assoc, ← Int.mul_assoc, Int.mul_comm f (16777216 ^ i)]
  omega
theorem entered {ys : List Int} {c f : Int} {m lo L : Nat} (hr : inR ys) (hl : ys.length = L) (hL : (limbs m).length = L) (c0 : 0 ≤ c) (c1 : c < 16777216) (f1 : 1 ≤ f)
    (h : lval ys + 16777216 ^ L * c = f * lval ((limbs m).take L) + lo) (N : Nat) (hN : (N : Int) = m * f + lo) :
    (c = 0 → limbs N = ys) ∧ (0 < c → limbs N = ys ++ [c]) := by
  rw [List.take_of_length_le (Nat.le_of_eq hL), limbs_val] at h
  have hmf : f * (m : Int) = m * f := Int.mul_comm _ _
  rw [hmf, ← hN] at h
  constructor
  · intro hc
    subst hc
    rw [Int.mul_zero, Int.add_zero] at h
    have hnum : num ys = N := by have := num_val hr; omega
    have hz : noZ ys := by
      refine noZ_of ?_
      by_cases h0 : ys = []
      · exact .inl h0
      · refine .inr (fun hz => ?_)
        have hpos : 0 < ys.length := List.length_pos_iff.2 h0
        obtain ⟨t, ht⟩ : ∃ t, ys.length = t + 1 := ⟨ys.length - 1, by omega⟩
        have s1 := lval_split ys t
        have s2 := lval_drop ys t
        rw [show ys.length - 1 = t by omega] at hz
        rw [hz, List.drop_of_length_le (by omega : ys.length ≤ t + 1)] at s2
        simp only [lval, Int.mul_zero, Int.add_zero] at s2
        rw [s2, Int.mul_zero, Int.add_zero] at s1
        have s3 := lval_take_lt hr t
        have hm : (m : Int) ≤ N := by
          have : (m : Int) * 1 ≤ m * f := Int.mul_le_mul_of_nonneg_left f1 (by omega)
          omega
        have s4 : (limbs m).length ≤ t := limbs_len_le m t (by
          have e1 : ((16777216 ^ t : Nat) : Int) = (16777216 : Int) ^ t := by simp
          omega)
        omega
    have := eq_limbs ⟨hr, hz⟩
    rw [hnum] at this
    exact this.symm
  · intro hc
    have hr2 : inR (ys ++ [c]) := inR_append.2 ⟨hr, inR_cons.2 ⟨⟨c0, c1⟩, inR_nil⟩⟩
    have hz : noZ (ys ++ [c]) := fun hne => by simp; omega
    have hv : lval (ys ++ [c]) = N := by rw [lval_snoc, hl]; exact h
    have hnum : num (ys ++ [c]) = N := by have := num_val hr2; omega
    have := eq_limbs ⟨hr2, hz⟩
    rw [hnum] at this
    exact this.symm

set_option maxRecDepth 20000 in
set_option maxHeartbeats 3200000 in
/-- enter: up by one bit or two, with low in the place that is left, in place. -/
theorem gEnter (a m k lo N : Nat) (w : World) (hk : k = 1 ∨ k = 2) (hlo : lo < 4) (hN : N = m * 2 ^ k + lo) (hlm : (limbs m).length ≤ 97) (hG : GN w a m) :
    Calls Try.prog 124 #[.pointer (some ⟨a, 0, none⟩), .int .i64 k, .int .u32 lo] w fun e w' => e = .returned (.tuple #[]) ∧ GN w' a N ∧ Tn [a] w w' ∧ w'.heap.size = w.heap.size := by
  obtain ⟨L, hL⟩ : ∃ L, (limbs m).length = L := ⟨_, rfl⟩
  have hG0 : GB w a (pad (limbs m)) (L : Int) := by rw [← hL]; exact hG
  have HLL : Hid ((limbs m).length = L) := hL
  rw [hL] at hlm
  have hxr := limbs_inR m
  have f1 := two_pow_pos k
  have f2 : (2 : Int) ^ k ≤ 4 := two_pow_le (show k ≤ 2 by omega)
  have hNI : (N : Int) = m * (2 : Int) ^ k + lo := by rw [hN]; simp
  have hk0 : (0 : Int) ≤ (k : Int) := by omega
  have hk64 : (k : Int) ≤ 32 := by omega
  obtain ⟨f, hf⟩ : ∃ f, (2 : Int) ^ k = f := ⟨_, rfl⟩
  rw [hf] at f1 f2 hNI
  have HE : Hid (∀ (ys : List Int) (c : Int), inR ys → ys.length = L → 0 ≤ c → c < 16777216 → lval ys + 16777216 ^ L * c = f * lval ((limbs m).take L) + lo → (c = 0 → limbs N = ys) ∧ (0 < c → limbs N = ys ++ [c])) := fun ys c q1 q2 q3 q4 q5 => entered q1 q2 HLL.out q3 q4 (by omega) q5 N hNI
  clear hG hL hN hNI hk
  go_enter Try.func124, Try.ntmps124
  go_wp2
  go_loopw [6, 7] (fun c i wr => ∃ (p : Nat) (cc : Int) (ws : List Int), p ≤ L ∧ i = .int .i64 p ∧ c = .int .u32 cc ∧ 0 ≤ cc ∧ cc < 4 ∧ inR (ws.take p) ∧ (∀ j, p ≤ j → ws.getD j 0 = (limbs m).getD j 0) ∧ Hid (lval (ws.take p) + 16777216 ^ p * cc = f * lval ((limbs m).take p) + lo) ∧ GB wr a ws (L : Int) ∧ Tn [a] w wr ∧ wr.heap.size = w.heap.size) (fun _ i _ => L - (intOf i).toNat)
  case atStart => exact ⟨0, lo, pad (limbs m), by omega, rfl, rfl, by omega, by omega, by rw [List.take_zero]; exact inR_nil, fun j _ => pad_getD _ _, by show _ = _; simp [lval], hG0, Tn.refl _ _, rfl⟩
  case round =>
    clear hG0
    obtain ⟨p, cc, ws, hp, rfl, rfl, cc0, cc1, hoR, hw, HV, hG, hT, hs⟩ := hrel
    have hlen := hG.len
    have c98 := hG.size
    by_cases hlt : p < L
    · have HT : Hid (lval ((limbs m).take (p + 1)) = lval ((limbs m).take p) + 16777216 ^ p * (limbs m).getD p 0) := lval_take_succ _ p
      have gx := inR_getD hxr p
      have cx := hG.word p (by omega)
      rw [hw p (Nat.le_refl _)] at cx
      have fx := hG.free p
      have HW : Hid (∀ j, p + 1 ≤ j → ∀ v, (ws.set p v).getD j 0 = (limbs m).getD j 0) := fun j hj v => by rw [gset_ne v (by omega)]; exact hw j (by omega)
      obtain ⟨x, hx⟩ : ∃ x, (limbs m).getD p 0 = x := ⟨_, rfl⟩
      rw [hx] at gx HT cx
      obtain ⟨gx0, gx1⟩ := gx
      have m0 : 0 ≤ x * f := Int.mul_nonneg gx0 (by omega)
      have m1 : x * f ≤ 16777215 * 4 := Int.mul_le_mul (by omega) f2 (by omega) (by omega)
      have m2 : x * f + cc ≤ 67108863 := by omega
      have HG : Hid (GB wr a ws (L : Int) ∧ Tn [a] w wr ∧ wr.heap.size = w.heap.size) := ⟨hG, hT, hs⟩
      have hp98 : (p : Int) < 98 := by omega
      have hlt' : (p : Int) < (L : Int) := by omega
      have HX : Hid (lval (ws.take p ++ [(x * f + cc) % 16777216]) + 16777216 ^ (p + 1) * ((x * f + cc) / 16777216) = f * (lval ((limbs m).take p) + 16777216 ^ p * x) + lo) := enter_step p cc _ f _ x lo (ws.take p) (by rw [List.length_take]; omega) HV.out rfl
      obtain ⟨y, hy⟩ : ∃ y, x * f = y := ⟨_, rfl⟩
      rw [hy] at m0 m1 m2 HX
      clear hx hG hT hs hw HV
      go_wp2
      go_roundw
      case rel =>
        refine ⟨p + 1, (y + cc) / 16777216, ws.set p ((y + cc) % 16777216), by omega, by go_num, by go_num, by omega, by omega, ?_, fun j hj => HW.out j hj _, ?_, ?_, ?_, ?_⟩
        · rw [take_set_succ (by omega)]
          exact inR_append.2 ⟨hoR, inR_cons.2 ⟨by omega, inR_nil⟩⟩
        · show _ = _
          rw [HT.out, take_set_succ (by omega)]
          exact HX.out
        · exact HG.out.1.setW p (by omega) _
        · exact HG.out.2.1.cell _ (by simp) _
        · have := HG.out.2.2
          simpa [World.setCell] using this
      case measure => simp [intOf]; omega
    · have hpe : p = L := by omega
      subst hpe
      have hlt' : ¬ ((p : Int) < (p : Int)) := by omega
      have hlp : (ws.take p).length = p := by rw [List.length_take]; omega
      obtain ⟨E0, E1⟩ := HE.out (ws.take p) cc hoR hlp cc0 (by omega) HV.out
      have hzero : ∀ j, p ≤ j → ws.getD j 0 = 0 := fun j hj => by rw [hw j hj]; exact getD_far (by have := HLL.out; omega)
      have hws : ws = pad (ws.take p) := eq_pad hlen (by rw [hlp]) (by omega) (fun j hj => hzero j (by omega))
      by_cases hc0 : cc = 0
      · have HEN : Hid (limbs N = ws.take p) := E0 hc0
        have HG : Hid (GB wr a ws (p : Int) ∧ Tn [a] w wr ∧ wr.heap.size = w.heap.size ∧ ws = pad (ws.take p) ∧ (ws.take p).length = p) := ⟨hG, hT, hs, hws, hlp⟩
        subst hc0
        clear E0 E1 hG hT hs hw hws hlp HV hzero hoR
        go_wp2
        go_end0
        refine ⟨rfl, ?_, HG.out.2.1, HG.out.2.2.1⟩
        unfold GN
        rw [HEN.out, ← HG.out.2.2.2.1, HG.out.2.2.2.2]
        exact HG.out.1
      · have HEN : Hid (limbs N = ws.take p ++ [cc]) := E1 (by omega)
        have hcp : (0 : Int) < cc := by omega
        have hp98 : (p : Int) < 98 := by omega
        have cz := hG.word p (by omega)
        rw [hzero p (Nat.le_refl _)] at cz
        have fz := hG.free p
        have f98 := hG.free 98
        have HG : Hid (GB wr a ws (p : Int) ∧ Tn [a] w wr ∧ wr.heap.size = w.heap.size ∧ ws = pad (ws.take p) ∧ (ws.take p).length = p) := ⟨hG, hT, hs, hws, hlp⟩
        clear E0 E1 hG hT hs hw hws hlp HV hzero hoR hc0
        go_wp2_with fail
        go_region
        have G1 := (HG.out.1.setW p (by omega) cc).drew
        have T1 : Tn [a] w (wr.setCell ⟨a, p, none⟩ (.int .u32 cc)).drew := (HG.out.2.1.cell _ (by simp) _).trans ⟨rfl, rfl, rfl, Nat.le_refl _, fun _ _ _ => rfl⟩
        have s1 : (wr.setCell ⟨a, p, none⟩ (.int .u32 cc)).drew.heap.size = w.heap.size := by
          have := HG.out.2.2.1
          simpa [World.setCell] using this
        have d98 := G1.size
        have e98 := G1.free 98
        generalize (wr.setCell ⟨a, p, none⟩ (.int .u32 cc)).drew = w1 at *
        have HG1 : Hid (GB w1 a (ws.set p cc) (p : Int) ∧ Tn [a] w w1 ∧ w1.heap.size = w.heap.size) := ⟨G1, T1, s1⟩
        clear G1 T1 s1 cz fz c98 f98
        go_wp2
        go_end0
        refine ⟨rfl, ?_, HG1.out.2.1.cell _ (by simp) _, by have := HG1.out.2.2; simpa [World.setCell] using this⟩
        have g := HG1.out.1.setK ((p : Int) + 1)
        unfold GN
        rw [HEN.out]
        have e1 : ws.set p cc = pad (ws.take p ++ [cc]) := by
          have := pad_set (ws.take p) cc (by rw [HG.out.2.2.2.2]; omega)
          rw [HG.out.2.2.2.2, ← HG.out.2.2.2.1] at this
          exact this
        have e2 : (((ws.take p ++ [cc]).length : Nat) : Int) = (p : Int) + 1 := by rw [List.length_append, HG.out.2.2.2.2]; simp
        rw [← e1, e2]
        exact g

end Go.Proofs.Ytlpfjpbnedankaa

/- bits.Len32 and the program's bits of a great number, each by its contract. -/
namespace Go.Proofs.Ytlpfjpbnedankaa
open Go.RowKit

theorem nbits_eq : ∀ n, n < 18446744073709551616 → nbits n = Lib.bitLen n := by
  intro n
  induction n using Nat.strongRecOn with
  | ind n ih =>
    intro h
    by_cases h0 : n = 0
    · subst h0; rw [nbits_zero]; rfl
    · rw [nbits_pos n (by omega), Lib.bitLen_half n h0 h, ih (n / 2) (by omega) (by omega)]
      omega

set_option maxHeartbeats 4000000 in
set_option maxRecDepth 100000 in
theorem len32_c (x : Int) (w : World) (h0 : 0 ≤ x) (h1 : x < 16777216) :
    Calls Try.prog 125 #[.int .u32 x] w fun e w' => e = .returned (.int .i64 (nbits x.toNat : Int)) ∧ w' = w := by
  rw [nbits_eq x.toNat (by omega)]
  by_cases hA : 65536 ≤ x
  · have y0 : 0 ≤ x / 65536 := by omega
    have y1 : x / 65536 ≤ 255 := by omega
    have y2 : ¬ 256 ≤ x / 65536 := by omega
    have HV : Hid (16 + Lib.len8 (x / 65536) = (Lib.bitLen x.toNat : Int)) := by
      show _ = _
      rw [Lib.len8_of _ y0 y1]
      have e : (x / 65536).toNat = x.toNat / 65536 := by omega
      have l := Lib.bitLen_le8' (x / 65536) y0 y1
      have s := Lib.bitLen_shift16 x.toNat (by omega) (by omega)
      rw [e] at l ⊢
      omega
    have l8 := Lib.len8_of _ y0 y1
    have m8 := Lib.bitLen_le8' (x / 65536) y0 y1
    have z0 : 0 ≤ Lib.len8 (x / 65536) := by omega
    have z1 : Lib.len8 (x / 65536) ≤ 8 := by omega
    clear l8 m8
    go_enter Try.func125, Try.ntmps125
    go_wp2
    go_ret
    exact ⟨by rw [← HV.out]; rfl, rfl⟩
  · by_cases hB : 256 ≤ x
    · have y0 : 0 ≤ x / 256 := by omega
      have y1 : x / 256 ≤ 255 := by omega
      have HV : Hid (8 + Lib.len8 (x / 256) = (Lib.bitLen x.toNat : Int)) := by
        show _ = _
        rw [Lib.len8_of _ y0 y1]
        have e : (x / 256).toNat = x.toNat / 256 := by omega
        have l := Lib.bitLen_le8' (x / 256) y0 y1
        have s := Lib.bitLen_shift8 x.toNat (by omega) (by omega)
        rw [e] at l ⊢
        omega
      have l8 := Lib.len8_of _ y0 y1
      have m8 := Lib.bitLen_le8' (x / 256) y0 y1
      have z0 : 0 ≤ Lib.len8 (x / 256) := by omega
      have z1 : Lib.len8 (x / 256) ≤ 8 := by omega
      clear l8 m8
      go_enter Try.func125, Try.ntmps125
      go_wp2
      go_ret
      exact ⟨by rw [← HV.out]; rfl, rfl⟩
    · have y1 : x ≤ 255 := by omega
      have HV : Hid (Lib.len8 x = (Lib.bitLen x.toNat : Int)) := Lib.len8_of _ h0 y1
      have l8 := Lib.len8_of _ h0 y1
      have m8 := Lib.bitLen_le8' x h0 y1
      have z0 : 0 ≤ Lib.len8 x := by omega
      have z1 : Lib.len8 x ≤ 8 := by omega
      clear l8 m8
      go_enter Try.func125, Try.ntmps125
      go_wp2
      go_ret
      exact ⟨by rw [← HV.out]; (try simp), rfl⟩

theorem nbits_last {n s : Nat} (h : (limbs n).length = s + 1) : nbits n = 24 * s + nbits ((limbs n).getD s 0).toNat := by
  have hz : (limbs n).getD s 0 ≠ 0 := by
    have h1 := limbs_noZ n
    have hne : limbs n ≠ [] := by intro e; rw [e] at h; simp at h
    have h2 := h1 hne
    rw [last_getD hne, h] at h2
    exact h2
  have := nbits_limbs (limbs_inR n) s h hz
  rw [num_limbs] at this
  exact this
theorem limb_bits {x : Int} (h : x < 16777216) : nbits x.toNat ≤ 24 := nbits_le_pow 24 _ (by omega)

set_option maxHeartbeats 1600000 in
/-- bits: how many a number has. -/
theorem gBits (a oa n : Nat) (w : World) (ha : GA w a oa n) :
    Calls Try.prog 123 #[.pointer (some ⟨a, oa, none⟩)] w fun e w' => e = .returned (.int .i64 (nbits n : Int)) ∧ Below w.heap.size w w' := by
  have hl := ha.len
  have c98 := ha.size
  by_cases h0 : (limbs n).length = 0
  · have HB : Hid (nbits n = 0) := by
      show _ = _
      have e : limbs n = [] := List.eq_nil_of_length_eq_zero h0
      have := limbs_val n
      rw [e] at this
      have hn : n = 0 := by simp [lval] at this; omega
      rw [hn, nbits_zero]
    have e0 : (((limbs n).length : Int) == 0) = true := by rw [h0]; rfl
    go_enter Try.func123, Try.ntmps123
    go_wp2
    go_ret
    exact ⟨by rw [HB.out]; rfl, Below.refl _ _⟩
  · obtain ⟨s, hs⟩ : ∃ s, (limbs n).length = s + 1 := ⟨(limbs n).length - 1, by omega⟩
    have HB : Hid (nbits n = 24 * s + nbits ((limbs n).getD s 0).toNat) := nbits_last hs
    have cw := ha.word s (by omega)
    have gx := inR_getD (limbs_inR n) s
    have hcast : ((limbs n).length : Int) = (s : Int) + 1 := by omega
    have hs98 : (s : Int) < 98 := by omega
    rw [hcast] at c98
    obtain ⟨x, hx⟩ : ∃ x, (limbs n).getD s 0 = x := ⟨_, rfl⟩
    rw [hx] at cw gx HB
    have lb := limb_bits gx.2
    have kl := fun W => len32_c x W gx.1 gx.2
    obtain ⟨z, hz⟩ : ∃ z, nbits x.toNat = z := ⟨_, rfl⟩
    simp only [hz] at kl
    rw [hz] at HB lb
    clear hx hz hs hcast h0 hl ha gx
    have e0 : (((s : Int) + 1) == 0) = false := by rw [beq_eq_false_iff_ne]; omega
    go_enter Try.func123, Try.ntmps123
    go_wp2_with fail
    go_quiet ((go_at_call 125; exact (kl _).mono fun _ _ ⟨he, hm⟩ => ⟨he, _, hm⟩))
    go_wp2
    go_ret
    refine ⟨?_, ⟨rfl, rfl, rfl, Nat.le_refl _, fun _ _ => rfl⟩⟩
    rw [HB.out]
    simp
    omega

end Go.Proofs.Ytlpfjpbnedankaa
