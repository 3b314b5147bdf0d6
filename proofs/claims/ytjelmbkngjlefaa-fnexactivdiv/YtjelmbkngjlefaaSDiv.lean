/- The specification's l3Div, by its contract. -/
import Derived.Test.YtjelmbkngjlefaaBase
import Derived.Test.YtjelmbkngjlefaaOne
import Derived.Test.YtjelmbkngjlefaaSB
import Derived.Deep.RegionLaw
namespace Go.Proofs.Ytjelmbkngjlefaa
open Go.RowKit

set_option maxRecDepth 20000 in
set_option maxHeartbeats 3200000 in
/-- l3Div: quotient and rest. -/
theorem sDiv (va vb : Value) (xs ys : List Int) (w : World) (ha : rowI w va xs) (hb : rowI w vb ys) (hx : inR xs ∧ noZ xs) (hy : inR ys ∧ noZ ys) (hlx : xs.length ≤ 1000000) (hly : ys.length ≤ 1000000) (hd : 0 < num ys) :
    Calls Try.prog 67 #[va, vb] w fun e w' => ∃ v1 v2, e = .returned (.tuple #[v1, v2]) ∧ ownsI w' w.heap.size v1 (limbs (num xs / num ys)) ∧ ownsI w' w.heap.size v2 (limbs (num xs % num ys)) ∧ (v1.ownBlock = none ∨ v1.ownBlock ≠ v2.ownBlock) ∧ Below w.heap.size w w' := by
  obtain ⟨a1, cap1, rfl, -⟩ := id ha
  obtain ⟨a2, cap2, rfl, -⟩ := id hb
  obtain ⟨i0, hi, hz0, hz1, hz2⟩ := info_parts Try.info3
  obtain ⟨w1, hmk, hown1, hg1⟩ := run_make_full (P := Try.prog) w w.heap.size 22 3 i0 (.int .i64 0) 1 Try.underlying22 hi hz0 hz1 .i64 .i64 xs.length (by rw [hz2]; omega) (by unfold maxLen; omega) (Nat.le_refl _)
  have hb1 : Below w.heap.size w w1 := (Below.refl _ _).grown hg1 (Nat.le_refl _) (fun k hk => by cases hk)
  have hz : (madeCells (Value.int .i64 0).cells (xs.length * 1)).toList = (List.replicate xs.length (0 : Int)).map (Value.int .i64) := by
    rw [Nat.mul_one]
    have := toList_madeCells_one (Value.int .i64 0) xs.length
    rw [List.map_replicate]
    exact this
  rw [hz] at hown1
  have hlt1 : w.heap.size < w1.heap.size := (World.ownsRow.lt hown1 _ rfl).2
  have ho2 := made_own w1
  have hn0 := sBits _ xs (w1.alloc (.cells #[] 3)) (ha.below (hb1.alloc hb1.size _) (Nat.le_refl _)) hx (by omega)
  clear hg1 hi hz0 hz1 hz2 hz
  have hbl := nbits_len hx.1
  obtain ⟨N, hN⟩ : ∃ N, nbits (num xs) = N := ⟨_, rfl⟩
  have hNx : num xs < 2 ^ N := by rw [← hN]; exact lt_nbits _
  rw [hN] at hn0 hbl
  have HY : Hid (ys = limbs (num ys)) := eq_limbs hy
  have HNX : Hid (num xs < 2 ^ N) := hNx
  clear hN hNx
  go_enter Try.func67, Try.ntmps67
  go_wp2_with fail
  refine hn0.mono ?_
  rintro e w2 ⟨rfl, rfl⟩
  clear hn0
  go_wp2
  go_loopw [7, 8] (fun v i wr => ∃ (m : Nat) (zs : List Int), m ≤ N ∧ i = .int .i64 ((m : Int) - 1) ∧ zs.length = xs.length ∧ inR zs ∧ Hid (num zs = num xs / 2 ^ m / num ys * 2 ^ m) ∧ wr.ownsRow w.heap.size 3 1 (.slice (some ⟨w.heap.size, 0, none⟩) xs.length xs.length) xs.length (zs.map (Value.int .i64)) ∧ ownsI wr w1.heap.size v (limbs (num xs / 2 ^ m % num ys)) ∧ w1.heap.size ≤ wr.heap.size ∧ Below w.heap.size w wr) (fun _ i _ => (intOf i + 1).toNat)
  case atStart =>
    refine ⟨N, List.replicate xs.length 0, Nat.le_refl _, by go_num, List.length_replicate, fun x hx => by rw [List.eq_of_mem_replicate hx]; omega, ?_, hown1.alloc _, ?_, by simp, hb1.alloc hb1.size _⟩
    · show _ = _
      have h1 : inR (List.replicate xs.length 0) := fun x hx => by rw [List.eq_of_mem_replicate hx]; omega
      have h2 := num_val h1
      rw [lval_zeros] at h2
      rw [Nat.div_eq_of_lt HNX.out, Nat.zero_div, Nat.zero_mul]
      omega
    · rw [Nat.div_eq_of_lt HNX.out, Nat.zero_mod, limbs_zero]
      exact ho2
  case round =>
    obtain ⟨m, zs, hm, rfl, hzl, hzR, HL, hown, hrest, hsz1, hbw⟩ := hrel
    cases m with
    | zero =>
      have hL := HL.out
      rw [Nat.pow_zero, Nat.div_one, Nat.mul_one] at hL
      rw [Nat.pow_zero, Nat.div_one] at hrest
      have hownI : ownsI wr w.heap.size (.slice (some ⟨w.heap.size, 0, none⟩) xs.length xs.length) zs := by
        unfold ownsI
        rw [hzl]
        exact hown
      have kt := sTrim _ zs wr hownI.row hzR (by omega)
      rw [hL] at kt
      have hsz := hbw.size
      have hm1 : ((0 : Nat) : Int) - 1 = -1 := rfl
      rw [hm1]
      clear HL hL hownI hown hm1
      go_wp2_with fail
      refine kt.mono ?_
      rintro e w4 ⟨v4, rfl, o4, b4⟩
      have d4 := apart_symm (apart_rowsI hrest o4)
      have r4 := hrest.below b4 (Nat.le_refl _)
      go_wp2
      go_ret2
      exact ⟨_, _, rfl, ownsI_mono o4 hsz, ownsI_mono r4 (Nat.le_of_lt hlt1), d4, hbw.trans (b4.mono hsz)⟩
    | succ k =>
      have hk1 : ((k + 1 : Nat) : Int) - 1 = (k : Int) := by omega
      rw [hk1]
      clear hk1
      have hki : k / 24 < xs.length := by omega
      have hbit := bit_of hx.1 k
      obtain ⟨b1, o1, rfl, ca⟩ := (ha.below hbw (Nat.le_refl _)).at (k / 24) hki
      have gx := inR_getD hx.1 (k / 24)
      obtain ⟨xi, hxi⟩ : ∃ xi, xs.getD (k / 24) 0 = xi := ⟨_, rfl⟩
      rw [hxi] at ca gx hbit
      have hf0 := two_pow_pos (k % 24)
      have hf1 : (2 : Int) ^ (k % 24) ≤ 8388608 := two_pow_le (show k % 24 ≤ 23 by omega)
      have kp := fun W => sPow (k % 24) W (by omega)
      have hm24 : ((k % 24 : Nat) : Int) = (k : Int) % 24 := by omega
      have hroom := limb_room hzR k _ HL.out
      have hpw := pow24N k
      have hpI : ((2 ^ (k % 24) : Nat) : Int) = (2 : Int) ^ (k % 24) := by simp
      obtain ⟨f, hf⟩ : ∃ f, (2 : Int) ^ (k % 24) = f := ⟨_, rfl⟩
      rw [hm24] at kp
      rw [hf] at kp hf0 hf1 hroom hbit hpI
      have hle : num xs / 2 ^ k % 2 ≤ 1 := by omega
      obtain ⟨b, hbb⟩ : ∃ b, num xs / 2 ^ k % 2 = b := ⟨_, rfl⟩
      rw [hbb] at hbit hle
      have hw2 : IntKind.i64.wrap (xi.tdiv f) = xi / f := by rw [Int.tdiv_eq_ediv_of_nonneg gx.1, IntKind.wrap_i64]; have := Int.ediv_le_self f gx.1; have := Int.ediv_nonneg gx.1 (Int.le_of_lt hf0); omega
      have hw3 : (xi / f).tmod 2 = b := by rw [Int.tmod_eq_emod_of_nonneg (Int.ediv_nonneg gx.1 (Int.le_of_lt hf0)), hbit]
      have hfn : f ≠ 0 := by omega
      have HN : Hid (num xs / 2 ^ k = 2 * (num xs / 2 ^ (k + 1)) + b) := by show _ = _; rw [← hbb]; exact bit_next _ _
      obtain ⟨hi, hhi⟩ : ∃ hi, num xs / 2 ^ (k + 1) = hi := ⟨_, rfl⟩
      rw [hhi] at HL hrest HN
      have HV : Hid (if num ys ≤ 2 * (hi % num ys) + b then (2 * hi + b) % num ys = 2 * (hi % num ys) + b - num ys ∧ (2 * hi + b) / num ys = 2 * (hi / num ys) + 1 else (2 * hi + b) % num ys = 2 * (hi % num ys) + b ∧ (2 * hi + b) / num ys = 2 * (hi / num ys)) := div_bit hd hle rfl
      have hrl := Nat.mod_lt hi hd
      obtain ⟨r, hr⟩ : ∃ r, hi % num ys = r := ⟨_, rfl⟩
      rw [hr] at hrest HV hrl
      have hlen : (limbs (num ys)).length = ys.length := congrArg List.length HY.out.symm
      have hlr : (limbs r).length ≤ ys.length := by rw [← hlen]; exact limbs_len_mono (by omega)
      have hlb : (limbs (2 * r + b)).length ≤ ys.length + 1 := by
        apply limbs_len_le
        have := limbs_lt (num ys)
        rw [hlen] at this
        rw [Nat.pow_succ]
        omega
      obtain ⟨n2, hn2⟩ : ∃ n2, 2 * r + b = n2 := ⟨_, rfl⟩
      obtain ⟨h2, hh2⟩ : ∃ h2, 2 * hi + b = h2 := ⟨_, rfl⟩
      rw [hn2] at HV hlb
      rw [hh2] at HV HN
      have HN2 : Hid (2 * r + b = n2) := hn2
      clear hn2 hh2
      have hsz := hbw.size
      have gz := inR_getD hzR (k / 24)
      have HZ : Hid (zs.getD (k / 24) 0 + f < 16777216) := hroom
      clear hroom
      have ku := fun n => sUp u7 (limbs r) 1 (wr.drewN n) hrest.row (limbs_inR r) (by omega) (by omega)
      rw [num_limbs, show r * 2 ^ 1 = 2 * r by omega] at ku
      have HHI : Hid (num xs / 2 ^ (k + 1) = hi ∧ num xs / 2 ^ k % 2 = b) := ⟨hhi, hbb⟩
      have HR : Hid (hi % num ys = r) := hr
      have HW : Hid (IntKind.i64.wrap (xi.tdiv f) = xi / f ∧ hi % num ys = r) := ⟨hw2, hr⟩
      have HF : Hid (16777216 ^ (k / 24) * 2 ^ (k % 24) = 2 ^ k ∧ ((2 ^ (k % 24) : Nat) : Int) = f) := ⟨hpw, hpI⟩
      clear hhi hbb hr hpw hpI hlen hf
      go_wp2
      go_quiet ((go_at_call 78; exact Calls.quiet_of_same (kp _)))
      have hB0 := below_drewN wr.heap.size wr nq
      go_wp2_with fail
      refine (ku nq).mono ?_
      rintro e w3 ⟨v3, rfl, o3, b3⟩
      have B3 := hB0.trans b3
      clear ku b3 hw2 hw3
      have hb01 : b = 0 ∨ b = 1 := by omega
      rcases hb01 with rfl | rfl
      -- the bit is nought: nothing is added
      · go_wp2_with fail
        have o5 : ownsI w3 wr.heap.size v3 (limbs n2) := by rw [← HN2.out]; exact o3
        have B5 := B3
        clear o3 B3
        have hrowy := hb.below (hbw.trans (B5.mono hsz)) (Nat.le_refl _)
        have kc := sCmp v3 _ (limbs n2) ys w3 o5.row hrowy (limbs_inR _) hy.1 (by omega) (by omega)
        rw [num_limbs] at kc
        by_cases hge : num ys ≤ n2
        · have hc := cmpI_ge hge
          have hcb := cmpI_bd n2 (num ys)
          obtain ⟨c, hcc⟩ : ∃ c, cmpI n2 (num ys) = c := ⟨_, rfl⟩
          rw [hcc] at kc hc hcb
          have HV2 : Hid (h2 % num ys = n2 - num ys ∧ h2 / num ys = 2 * (hi / num ys) + 1) := by have := HV.out; rw [if_pos hge] at this; exact this
          have kl := sLess v3 _ (limbs n2) ys w3 o5.row hrowy (limbs_inR _) hy.1 (by omega) (by have := limbs_len_mono hge; rw [← HY.out] at this; exact this) (by rw [num_limbs]; exact hge)
          rw [num_limbs, ← HV2.out.1] at kl
          clear HV hcc hrowy
          refine kc.mono ?_
          rintro e w3 ⟨rfl, rfl⟩
          go_wp2_with fail
          refine kl.mono ?_
          rintro e w6 ⟨v6, rfl, o6, b6⟩
          have B6 : Below wr.heap.size wr w6 := B5.trans (b6.mono B5.size)
          have q6 := own_below hown B6 (Nat.le_refl _)
          have cq := cellsI_of q6 hzl (k / 24) hki
          have fq := q6.frozenAt (k / 24)
          have r6 : ownsI w6 w1.heap.size v6 (limbs (h2 % num ys)) := ownsI_mono o6 (Nat.le_trans hsz1 B5.size)
          obtain ⟨z, hz⟩ : ∃ z, zs.getD (k / 24) 0 = z := ⟨_, rfl⟩
          rw [hz] at cq gz
          have HZ2 : Hid (zs.getD (k / 24) 0 = z ∧ z + f < 16777216) := ⟨hz, by rw [← hz]; exact HZ.out⟩
          have hwz : IntKind.i64.wrap (z + f) = z + f := by rw [IntKind.wrap_i64]; omega
          have hs := (show (w6.drew).ownsRow w.heap.size 3 1 (.slice (some ⟨w.heap.size, 0, none⟩) xs.length xs.length) xs.length (zs.map (Value.int .i64)) from q6).stored (k / 24) (.int .i64 (z + f))
          have s6 := B5.size
          have s7 := b6.size
          have cqd : w6.drew.cell? ⟨w.heap.size, k / 24, none⟩ = some (.int .i64 z) := cq
          have fqd : w6.drew.frozen? ⟨w.heap.size, k / 24, none⟩ = false := fq
          clear o5 o6 b6 q6 kc kl B5 hz
          have hk0 : (0 : Int) ≤ (k : Int) / 24 := by omega
          have hk1 : (k : Int) / 24 < (xs.length : Int) := by omega
          have hk2 : ((k : Int) / 24).toNat = k / 24 := by omega
          have hk3 : IntKind.i64.wrap ((k : Int) / 24) = (k : Int) / 24 := by rw [IntKind.wrap_i64]; omega
          have hk4 : (k : Int).tmod 24 = (k : Int) % 24 := Int.tmod_eq_emod_of_nonneg (by omega)
          go_wp2
          go_region_law (go_simp; go_wp2_with (go_at_call 78; refine (kp _).mono ?_; rintro e w9 ⟨rfl, rfl⟩))
          all_goals
            go_wp2
            go_roundw
            case rel =>
              refine ⟨k, zs.set (k / 24) (z + f), by omega, by go_num, by rw [List.length_set, hzl], inR_set hzR _ (by omega) HZ2.out.2, ?_, by rw [List.map_set]; exact hs.1, ?_, ?_, ?_⟩
              · show _ = _
                rw [HN.out, HV2.out.2]
                have e1 := lval_set zs (k / 24) (z + f) (by omega)
                rw [HZ2.out.1, show z + f - z = f by omega] at e1
                have e2 := num_val (inR_set hzR (k / 24) (show 0 ≤ z + f by omega) HZ2.out.2)
                have e3 := num_val hzR
                have e4 := HL.out
                have e5 : (16777216 : Int) ^ (k / 24) * f = ((2 ^ k : Nat) : Int) := by rw [← HF.out.1, ← HF.out.2]; simp
                rw [Nat.pow_succ, ← Nat.mul_assoc, Nat.mul_right_comm] at e4
                rw [Nat.add_mul, Nat.one_mul, Nat.mul_comm 2]
                omega
              · rw [HN.out]
                exact ownsRow_setCell_below (w := w6.drew) r6 (by exact hlt1) _
              · show w1.heap.size ≤ (w6.drew.setCell _ _).heap.size
                simp [World.setCell]
                omega
              · exact Below.setCell (p := ⟨w.heap.size, k / 24, none⟩) (hbw.trans (B6.mono hsz)).drew (Nat.le_refl _) _
            case measure => simp [intOf] <;> omega
        · have hc := cmpI_lt (Nat.lt_of_not_le hge)
          have hcb := cmpI_bd n2 (num ys)
          obtain ⟨c, hcc⟩ : ∃ c, cmpI n2 (num ys) = c := ⟨_, rfl⟩
          rw [hcc] at kc hc hcb
          have HV2 : Hid (h2 % num ys = n2 ∧ h2 / num ys = 2 * (hi / num ys)) := by have := HV.out; rw [if_neg hge] at this; exact this
          have q5 := own_below hown B5 (Nat.le_refl _)
          have r5 : ownsI w3 w1.heap.size v3 (limbs n2) := ownsI_mono o5 hsz1
          have s6 := B5.size
          clear HV hcc hrowy
          refine kc.mono ?_
          rintro e w3 ⟨rfl, rfl⟩
          go_wp2
          go_roundw
          case rel =>
            refine ⟨k, zs, by omega, by go_num, hzl, hzR, ?_, q5, by rw [HN.out, HV2.out.1]; exact r5, Nat.le_trans hsz1 s6, hbw.trans (B5.mono hsz)⟩
            show _ = _
            rw [HL.out, HN.out, HV2.out.2, Nat.pow_succ, ← Nat.mul_assoc, Nat.mul_right_comm, Nat.mul_comm 2]
          case measure => simp [intOf] <;> omega
      · have kq := sPlus v3 _ (limbs (2 * r)) [1] _ (o3.row.below ((Below.refl w3.heap.size w3).alloc (Nat.le_refl _) (.cells #[.int .i64 1] 3)) (Nat.le_refl _)) (one_row w3) (limbs_inR _) inR_one (by have := @limbs_len_mono (2 * r) n2 (by have := HN2.out; omega); omega) (by simp)
        rw [num_limbs, num_one, HN2.out] at kq
        go_wp2_with fail
        refine kq.mono ?_
        rintro e w5 ⟨v5, rfl, o5', b5⟩
        have B5 : Below wr.heap.size wr w5 := (B3.alloc B3.size _).trans (b5.mono (by simp; exact Nat.le_succ_of_le B3.size))
        have o5 : ownsI w5 wr.heap.size v5 (limbs n2) := ownsI_mono o5' (by simp; exact Nat.le_succ_of_le B3.size)
        clear o5' b5 o3 B3 kq
        go_wp2_with fail
        have hrowy := hb.below (hbw.trans (B5.mono hsz)) (Nat.le_refl _)
        have kc := sCmp v5 _ (limbs n2) ys w5 o5.row hrowy (limbs_inR _) hy.1 (by omega) (by omega)
        rw [num_limbs] at kc
        by_cases hge : num ys ≤ n2
        · have hc := cmpI_ge hge
          have hcb := cmpI_bd n2 (num ys)
          obtain ⟨c, hcc⟩ : ∃ c, cmpI n2 (num ys) = c := ⟨_, rfl⟩
          rw [hcc] at kc hc hcb
          have HV2 : Hid (h2 % num ys = n2 - num ys ∧ h2 / num ys = 2 * (hi / num ys) + 1) := by have := HV.out; rw [if_pos hge] at this; exact this
          have kl := sLess v5 _ (limbs n2) ys w5 o5.row hrowy (limbs_inR _) hy.1 (by omega) (by have := limbs_len_mono hge; rw [← HY.out] at this; exact this) (by rw [num_limbs]; exact hge)
          rw [num_limbs, ← HV2.out.1] at kl
          clear HV hcc hrowy
          refine kc.mono ?_
          rintro e w5 ⟨rfl, rfl⟩
          go_wp2_with fail
          refine kl.mono ?_
          rintro e w6 ⟨v6, rfl, o6, b6⟩
          have B6 : Below wr.heap.size wr w6 := B5.trans (b6.mono B5.size)
          have q6 := own_below hown B6 (Nat.le_refl _)
          have cq := cellsI_of q6 hzl (k / 24) hki
          have fq := q6.frozenAt (k / 24)
          have r6 : ownsI w6 w1.heap.size v6 (limbs (h2 % num ys)) := ownsI_mono o6 (Nat.le_trans hsz1 B5.size)
          obtain ⟨z, hz⟩ : ∃ z, zs.getD (k / 24) 0 = z := ⟨_, rfl⟩
          rw [hz] at cq gz
          have HZ2 : Hid (zs.getD (k / 24) 0 = z ∧ z + f < 16777216) := ⟨hz, by rw [← hz]; exact HZ.out⟩
          have hwz : IntKind.i64.wrap (z + f) = z + f := by rw [IntKind.wrap_i64]; omega
          have hs := (show (w6.drew).ownsRow w.heap.size 3 1 (.slice (some ⟨w.heap.size, 0, none⟩) xs.length xs.length) xs.length (zs.map (Value.int .i64)) from q6).stored (k / 24) (.int .i64 (z + f))
          have s6 := B5.size
          have s7 := b6.size
          have cqd : w6.drew.cell? ⟨w.heap.size, k / 24, none⟩ = some (.int .i64 z) := cq
          have fqd : w6.drew.frozen? ⟨w.heap.size, k / 24, none⟩ = false := fq
          clear o5 o6 b6 q6 kc kl B5 hz
          have hk0 : (0 : Int) ≤ (k : Int) / 24 := by omega
          have hk1 : (k : Int) / 24 < (xs.length : Int) := by omega
          have hk2 : ((k : Int) / 24).toNat = k / 24 := by omega
          have hk3 : IntKind.i64.wrap ((k : Int) / 24) = (k : Int) / 24 := by rw [IntKind.wrap_i64]; omega
          have hk4 : (k : Int).tmod 24 = (k : Int) % 24 := Int.tmod_eq_emod_of_nonneg (by omega)
          go_wp2
          go_region_law (go_simp; go_wp2_with (go_at_call 78; refine (kp _).mono ?_; rintro e w9 ⟨rfl, rfl⟩))
          all_goals
            go_wp2
            go_roundw
            case rel =>
              refine ⟨k, zs.set (k / 24) (z + f), by omega, by go_num, by rw [List.length_set, hzl], inR_set hzR _ (by omega) HZ2.out.2, ?_, by rw [List.map_set]; exact hs.1, ?_, ?_, ?_⟩
              · show _ = _
                rw [HN.out, HV2.out.2]
                have e1 := lval_set zs (k / 24) (z + f) (by omega)
                rw [HZ2.out.1, show z + f - z = f by omega] at e1
                have e2 := num_val (inR_set hzR (k / 24) (show 0 ≤ z + f by omega) HZ2.out.2)
                have e3 := num_val hzR
                have e4 := HL.out
                have e5 : (16777216 : Int) ^ (k / 24) * f = ((2 ^ k : Nat) : Int) := by rw [← HF.out.1, ← HF.out.2]; simp
                rw [Nat.pow_succ, ← Nat.mul_assoc, Nat.mul_right_comm] at e4
                rw [Nat.add_mul, Nat.one_mul, Nat.mul_comm 2]
                omega
              · rw [HN.out]
                exact ownsRow_setCell_below (w := w6.drew) r6 (by exact hlt1) _
              · show w1.heap.size ≤ (w6.drew.setCell _ _).heap.size
                simp [World.setCell]
                omega
              · exact Below.setCell (p := ⟨w.heap.size, k / 24, none⟩) (hbw.trans (B6.mono hsz)).drew (Nat.le_refl _) _
            case measure => simp [intOf] <;> omega
        · have hc := cmpI_lt (Nat.lt_of_not_le hge)
          have hcb := cmpI_bd n2 (num ys)
          obtain ⟨c, hcc⟩ : ∃ c, cmpI n2 (num ys) = c := ⟨_, rfl⟩
          rw [hcc] at kc hc hcb
          have HV2 : Hid (h2 % num ys = n2 ∧ h2 / num ys = 2 * (hi / num ys)) := by have := HV.out; rw [if_neg hge] at this; exact this
          have q5 := own_below hown B5 (Nat.le_refl _)
          have r5 : ownsI w5 w1.heap.size v5 (limbs n2) := ownsI_mono o5 hsz1
          have s6 := B5.size
          clear HV hcc hrowy
          refine kc.mono ?_
          rintro e w5 ⟨rfl, rfl⟩
          go_wp2
          go_roundw
          case rel =>
            refine ⟨k, zs, by omega, by go_num, hzl, hzR, ?_, q5, by rw [HN.out, HV2.out.1]; exact r5, Nat.le_trans hsz1 s6, hbw.trans (B5.mono hsz)⟩
            show _ = _
            rw [HL.out, HN.out, HV2.out.2, Nat.pow_succ, ← Nat.mul_assoc, Nat.mul_right_comm, Nat.mul_comm 2]
          case measure => simp [intOf] <;> omega

end Go.Proofs.Ytjelmbkngjlefaa
