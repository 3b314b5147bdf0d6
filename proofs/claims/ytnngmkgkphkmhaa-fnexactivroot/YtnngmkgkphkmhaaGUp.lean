/- The program's up, by its contract. -/
import Derived.Test.YtnngmkgkphkmhaaGTimes
import Derived.Test.YtnngmkgkphkmhaaSDown
namespace Go.Proofs.Ytnngmkgkphkmhaa
open Go.RowKit

theorem num_lt24 {zs : List Int} (h : inR zs) : num zs < 16777216 ^ zs.length := by
  have h1 := lval_lt h
  have h2 := num_val h
  have e : ((16777216 ^ zs.length : Nat) : Int) = (16777216 : Int) ^ zs.length := by simp
  omega
/-- The low part of a limb that is moved up, and the high one. -/
theorem low_part {x P Q : Int} (P0 : 0 < P) (Q0 : 0 < Q) (hPQ : P * Q = 16777216) : x * P % 4294967296 % 16777216 = P * (x % Q) := by
  have e := Int.mul_ediv_add_emod x Q
  have h1 := Int.emod_nonneg x (Int.ne_of_gt Q0)
  have h2 := Int.emod_lt_of_pos x Q0
  have h3 : 0 ≤ P * (x % Q) := Int.mul_nonneg (by omega) h1
  have h4 : P * (x % Q) ≤ P * (Q - 1) := Int.mul_le_mul_of_nonneg_left (by omega) (by omega)
  rw [Int.mul_sub, hPQ, Int.mul_one] at h4
  have h5 : x * P = P * (x % Q) + 16777216 * (x / Q) := by
    have : x * P = (Q * (x / Q) + x % Q) * P := by rw [e]
    rw [this, ← hPQ]
    grind
  obtain ⟨y, hy⟩ : ∃ y, x / Q = y := ⟨_, rfl⟩
  rw [hy] at h5
  omega
theorem part_bd {x P Q : Int} (x0 : 0 ≤ x) (x1 : x < 16777216) (P0 : 0 < P) (Q0 : 0 < Q) (hPQ : P * Q = 16777216) : 0 ≤ P * (x % Q) ∧ P * (x % Q) ≤ 16777216 - P ∧ 0 ≤ x / Q ∧ x / Q < P := by
  have h1 := Int.emod_nonneg x (Int.ne_of_gt Q0)
  have h2 := Int.emod_lt_of_pos x Q0
  have h3 : 0 ≤ P * (x % Q) := Int.mul_nonneg (by omega) h1
  have h4 : P * (x % Q) ≤ P * (Q - 1) := Int.mul_le_mul_of_nonneg_left (by omega) (by omega)
  rw [Int.mul_sub, hPQ, Int.mul_one] at h4
  exact ⟨h3, h4, Int.ediv_nonneg x0 (by omega), Int.ediv_lt_of_lt_mul Q0 (by omega)⟩
theorem up_word {zs : List Int} {q i : Nat} {top x P Q T : Int} (hl : q + i + 1 < zs.length) (ht : zs.getD (q + i) 0 = top) (hz : zs.getD (q + i + 1) 0 = 0) (hPQ : P * Q = 16777216) (h : lval zs = 16777216 ^ q * (T * P)) :
    lval ((zs.set (q + i) (top + P * (x % Q))).set (q + i + 1) (x / Q)) = 16777216 ^ q * ((T + 16777216 ^ i * x) * P) := by
  rw [lval_set _ _ _ (by rw [List.length_set]; omega), lval_set _ _ _ (by omega), gset_ne _ (by omega), hz, ht, h, Int.pow_succ, Int.pow_add]
  have e := Int.mul_ediv_add_emod x Q
  obtain ⟨A, hA⟩ : ∃ A, (16777216 : Int) ^ q = A := ⟨_, rfl⟩
  obtain ⟨B, hB⟩ : ∃ B, (16777216 : Int) ^ i = B := ⟨_, rfl⟩
  obtain ⟨y, hy⟩ : ∃ y, x / Q = y := ⟨_, rfl⟩
  obtain ⟨r, hr⟩ : ∃ r, x % Q = r := ⟨_, rfl⟩
  rw [hy, hr] at e
  rw [hA, hB, hy, hr, ← hPQ, ← e]
  grind
theorem up_fin {zs : List Int} {m k : Nat} (hr : inR zs) (h : lval zs = 16777216 ^ (k / 24) * ((m : Int) * 2 ^ (k % 24))) : num zs = m * 2 ^ k := by
  have h1 := num_val hr
  have h2 := pow24 k
  have h3 : lval zs = (m : Int) * 2 ^ k := by rw [h, ← h2]; grind
  have h4 : ((m * 2 ^ k : Nat) : Int) = (m : Int) * 2 ^ k := by simp
  omega

set_option maxHeartbeats 3200000 in
/-- up: the number times 2^k. -/
theorem gUp (a oa m k : Nat) (w : World) (hl : k / 24 + (limbs m).length + 1 ≤ 98) (hk : k ≤ 100000) (ha : GA w a oa m) :
    Calls Try.prog 76 #[.pointer (some ⟨a, oa, none⟩), .int .i64 k] w fun e w' => e = .returned (.agg (gC (m * 2 ^ k))) ∧ Below w.heap.size w w' := by
  have hU := fun zs h1 h2 => up_fin (zs := zs) (m := m) (k := k) h1 h2
  have R0 := (GB.made0 w).alloc (.cells Try.zeroCells62 62)
  have G0 := GB.made0 (w.alloc (.cells Try.zeroCells62 62))
  have hs0 : (w.alloc (.cells Try.zeroCells62 62)).heap.size = w.heap.size + 1 := by simp
  have B0 : Below w.heap.size w ((w.alloc (.cells Try.zeroCells62 62)).alloc (.cells Try.zeroCells62 62)) := ((Below.refl w.heap.size w).alloc (Nat.le_refl _) _).alloc (by simp) _
  rw [hs0] at G0
  have hna : a < w.heap.size := ha.lt
  have hA := ha.below B0 hna
  clear hs0 ha
  have hxr := limbs_inR m
  obtain ⟨La, hLa⟩ : ∃ L, (limbs m).length = L := ⟨_, rfl⟩
  have HLa : Hid ((limbs m).length = La) := hLa
  have HSz : Hid (∀ W, GA W a oa m → W.cell? ⟨a, oa + 98, none⟩ = some (.int .i64 (La : Int))) := fun W h => by rw [← hLa]; exact h.size
  rw [hLa] at hl
  have hm24 : ((k % 24 : Nat) : Int) = (k : Int) % 24 := by omega
  have hs24 : ((k / 24 : Nat) : Int) = (k : Int) / 24 := by omega
  have hs1 : k % 24 < 24 := by omega
  obtain ⟨N, hN⟩ : ∃ N, m * 2 ^ k = N := ⟨_, rfl⟩
  rw [hN]
  simp only [hN] at hU
  have HU : Hid (∀ zs, inR zs → lval zs = 16777216 ^ (k / 24) * ((m : Int) * 2 ^ (k % 24)) → num zs = N) := hU
  clear hLa hU hN
  go_enter Try.func76, Try.ntmps76
  go_wp2
  rw [← hs24, ← hm24]
  generalize (w.alloc (.cells Try.zeroCells62 62)).alloc (.cells Try.zeroCells62 62) = w0 at *
  clear hs24 hm24
  generalize k / 24 = q at *
  generalize k % 24 = s at *
  obtain ⟨t, ht⟩ : ∃ t, 24 - s = t := ⟨_, rfl⟩
  have hts : (24 - (s : Int)).toNat = t := by omega
  have P0 := two_pow_pos s
  have Q0 := two_pow_pos t
  have hPQ : (2 : Int) ^ s * 2 ^ t = 16777216 := by rw [← Int.pow_add, show s + t = 24 by omega]; rfl
  obtain ⟨P, hP⟩ : ∃ P, (2 : Int) ^ s = P := ⟨_, rfl⟩
  obtain ⟨Q, hQ⟩ : ∃ Q, (2 : Int) ^ t = Q := ⟨_, rfl⟩
  rw [hP] at P0 hPQ HU
  rw [hQ] at Q0 hPQ
  have P1 : P ≤ 8388608 := by rw [← hP]; exact two_pow_le (show s ≤ 23 by omega)
  have HPQ : Hid (P * Q = 16777216) := hPQ
  clear ht hPQ
  go_loopw [8] (fun i wr => ∃ (p : Nat) (zs : List Int), p ≤ La ∧ i = .int .i64 p ∧ inR zs ∧ (∀ j, q + p + 1 ≤ j → zs.getD j 0 = 0) ∧ zs.getD (q + p) 0 < P ∧ Hid (lval zs = 16777216 ^ q * (lval ((limbs m).take p) * P)) ∧ GB wr (w.heap.size + 1) zs 0 ∧ GB wr w.heap.size (List.replicate 98 0) 0 ∧ GA wr a oa m ∧ Below w.heap.size w wr) (fun i _ => La - (intOf i).toNat)
  case atStart => exact ⟨0, List.replicate 98 0, by omega, rfl, fun x hx => by rw [List.eq_of_mem_replicate hx]; omega, fun q _ => by rw [List.getD_eq_getElem?_getD, List.getElem?_replicate]; split <;> rfl, by rw [List.getD_eq_getElem?_getD, List.getElem?_replicate]; split <;> exact P0, by show _ = _; rw [lval_zeros]; simp [lval], G0, R0, hA, B0⟩
  case round =>
    clear G0 R0 hA B0
    obtain ⟨p, zs, hp, rfl, hzR, hzz, htop, HL, hG, hR, hA, hB⟩ := hrel
    have cA := HSz.out wr hA
    have hlen := hG.len
    by_cases hlt : p < La
    · have hlt' : (p : Int) < (La : Int) := by omega
      have gx := inR_getD hxr p
      have gz := inR_getD hzR (q + p)
      have HT : Hid (lval ((limbs m).take (p + 1)) = lval ((limbs m).take p) + 16777216 ^ p * (limbs m).getD p 0) := lval_take_succ _ p
      have cx := hA.word p (by omega)
      have cz := hG.word (q + p) (by omega)
      have cy := hG.word (q + p + 1) (by omega)
      have fz := hG.free (q + p)
      have fy := hG.free (q + p + 1)
      have hz0 := hzz (q + p + 1) (Nat.le_refl _)
      rw [hz0] at cy
      obtain ⟨x, hx⟩ : ∃ x, (limbs m).getD p 0 = x := ⟨_, rfl⟩
      have HXX : Hid ((limbs m).getD p 0 = x) := hx
      obtain ⟨top, htp⟩ : ∃ x, zs.getD (q + p) 0 = x := ⟨_, rfl⟩
      rw [hx] at gx HT cx
      rw [htp] at gz cz htop
      obtain ⟨gx0, gx1⟩ := gx
      obtain ⟨gz0, gz1⟩ := gz
      have hlow := low_part (x := x) P0 Q0 HPQ.out
      obtain ⟨b0, b1, b2, b3⟩ := part_bd gx0 gx1 P0 Q0 HPQ.out
      have HW := up_word (x := x) (T := lval ((limbs m).take p)) (by omega) htp hz0 HPQ.out HL.out
      obtain ⟨lo, hlo⟩ : ∃ lo, P * (x % Q) = lo := ⟨_, rfl⟩
      obtain ⟨hi, hhi⟩ : ∃ hi, x / Q = hi := ⟨_, rfl⟩
      rw [hlo] at hlow b0 b1 HW
      rw [hhi] at b2 b3 HW
      have HW2 : Hid (lval ((zs.set (q + p) (top + lo)).set (q + p + 1) hi) = 16777216 ^ q * ((lval ((limbs m).take p) + 16777216 ^ p * x) * P)) := HW
      have HG : Hid (GB wr (w.heap.size + 1) zs 0 ∧ GB wr w.heap.size (List.replicate 98 0) 0 ∧ GA wr a oa m ∧ Below w.heap.size w wr) := ⟨hG, hR, hA, hB⟩
      have HZZ : Hid (∀ j, q + p + 1 ≤ j → zs.getD j 0 = 0) := hzz
      have hqp : (q : Int) + (p : Int) < 98 := by omega
      have hqp1 : (q : Int) + (p : Int) + 1 < 98 := by omega
      have hp98 : (p : Int) < 98 := by omega
      have hwr : IntKind.i64.wrap ((q : Int) + (p : Int)) = (q : Int) + (p : Int) := by rw [IntKind.wrap_i64]; omega
      have hw2 : (IntKind.u32.wrap (x * P)).tmod 16777216 = lo := by
        rw [IntKind.wrap_u32, Int.tmod_eq_emod_of_nonneg (by omega), hlow]
      have hw3 : IntKind.u32.wrap (top + lo) = top + lo := by rw [IntKind.wrap_u32]; omega
      have hqn : (0 : Int) ≤ (q : Int) + (p : Int) := by omega
      have htn : ((q : Int) + (p : Int)).toNat = q + p := by omega
      clear hx htp HW hlo hG hR hA hB hzz hz0 HL
      go_wp2_with fail
      go_region
      have T1 : Tn [w.heap.size + 1] wr (wr.setCell ⟨w.heap.size + 1, q + p, none⟩ (.int .u32 (top + lo))).drew := ((Tn.refl [w.heap.size + 1] wr).cell _ (by simp) _).trans ⟨rfl, rfl, rfl, Nat.le_refl _, fun _ _ _ => rfl⟩
      have G1 := (HG.out.1.setW (q + p) (by omega) (top + lo)).drew
      have R1 := HG.out.2.1.tn T1 (by simp)
      have A1 := HG.out.2.2.1.tn T1 (by simp; omega)
      have B1 : Below w.heap.size w (wr.setCell ⟨w.heap.size + 1, q + p, none⟩ (.int .u32 (top + lo))).drew := (HG.out.2.2.2.setCell (by show w.heap.size ≤ w.heap.size + 1; omega) _).drew
      have cA1 := HSz.out _ A1
      have cx1 : (wr.setCell ⟨w.heap.size + 1, q + p, none⟩ (.int .u32 (top + lo))).drew.cell? ⟨a, oa + p, none⟩ = some (.int .u32 x) := by have := A1.word p (by omega); rw [HXX.out] at this; exact this
      have cy1 := G1.word (q + p + 1) (by omega)
      rw [gset_ne _ (by omega), HZZ.out _ (Nat.le_refl _)] at cy1
      have fy1 := G1.free (q + p + 1)
      generalize (wr.setCell ⟨w.heap.size + 1, q + p, none⟩ (.int .u32 (top + lo))).drew = w1 at *
      have HG1 : Hid (GB w1 (w.heap.size + 1) (zs.set (q + p) (top + lo)) 0 ∧ GB w1 w.heap.size (List.replicate 98 0) 0 ∧ GA w1 a oa m ∧ Below w.heap.size w w1) := ⟨G1, R1, A1, B1⟩
      clear HG G1 R1 A1 B1 T1 cx cz cy fz fy cA hw2 hw3
      go_wp2
      go_roundw
      case rel =>
        refine ⟨p + 1, (zs.set (q + p) (top + lo)).set (q + p + 1) hi, by omega, by go_num, inR_set (inR_set hzR _ (by omega) (by omega)) _ (by omega) (by omega), fun j hj => by rw [gset_ne _ (by omega), gset_ne _ (by omega)]; exact HZZ.out j (by omega), ?_, ?_, ?_, ?_, ?_, ?_⟩
        · have e : q + (p + 1) = q + p + 1 := by omega
          rw [e, List.getD_eq_getElem?_getD, List.getElem?_set_self (by rw [List.length_set]; omega)]
          exact b3
        · show _ = _
          rw [HT.out]
          exact HW2.out
        · exact HG1.out.1.setW (q + p + 1) (by omega) _
        · exact HG1.out.2.1.other _ (by show w.heap.size ≠ w.heap.size + 1; omega) _
        · exact HG1.out.2.2.1.tn ((Tn.refl [w.heap.size + 1] _).cell _ (by simp) _) (by simp; omega)
        · exact HG1.out.2.2.2.setCell (by show w.heap.size ≤ w.heap.size + 1; omega) _
      case measure => simp [intOf]; omega
    · have hlt' : ¬ (p : Int) < (La : Int) := by omega
      have hpe : p = La := by omega
      subst hpe
      have hnum : num zs = N := by
        refine HU.out zs hzR ?_
        have h4 := HL.out
        rw [List.take_of_length_le (Nat.le_of_eq HLa.out), limbs_val] at h4
        exact h4
      have hl3 : (limbs N).length ≤ 98 := by
        have h1 := limbs_len_le (num zs) zs.length (by have := num_lt24 hzR; exact this)
        rw [hnum, hlen] at h1
        exact h1
      have kS := gSettle (w.heap.size + 1) zs 0 (q + p + 1) wr hG (by omega) (inR_take hzR _) hzz
      rw [num_take_zeros hzR hzz, hnum] at kS
      have hcast : ((q + p + 1 : Nat) : Int) = (q : Int) + (p : Int) + 1 := by omega
      rw [hcast] at kS
      have HG : Hid (GB wr w.heap.size (List.replicate 98 0) 0 ∧ Below w.heap.size w wr) := ⟨hR, hB⟩
      have hbs := hB.size
      clear HL hnum hG hR hA hB hzz hzR hcast
      go_wp2_with fail
      refine kS.mono ?_
      rintro e w5 ⟨rfl, g5, t5, s5⟩
      have R5 := HG.out.1.tn t5 (by simp)
      have B5 := t5.below HG.out.2 hbs (by simp)
      have A5 := GN.ga g5 hl3
      go_wp2_with (first | (refine wpA_load rfl (.tmp 5) rfl (w.heap.size + 1) 0 N rfl A5 ?_) | (refine wpN_store rfl (.tmp 4) (.tmp 62) rfl w.heap.size _ _ N rfl rfl R5 hl3 ?_; intro w6 g6 t6 s6))
      (try simp only [Exit.inBlock, Exit.then])
      refine bodyPost_ret (v := .agg (gC N)) ?_ rfl ⟨rfl, t6.below B5 B5.size (by simp)⟩
      exact results_great rfl _ _ w.heap.size _ _ rfl g6

end Go.Proofs.Ytnngmkgkphkmhaa
