/- The program's down, by its contract. -/
import Derived.Test.YtnngmkgkphkmhaaGB
import Derived.Test.YtnngmkgkphkmhaaGUp
namespace Go.Proofs.Ytnngmkgkphkmhaa
open Go.RowKit

theorem downed {m k : Nat} {done : List Int} (hr : inR done) (h : 16777216 ^ (k / 24) * (2 ^ (k % 24) * lval done) + (lval ((limbs m).take (k / 24)) + 16777216 ^ (k / 24) * ((limbs m).getD (k / 24) 0 % 2 ^ (k % 24))) = (m : Int)) : num done = m / 2 ^ k := by
  have f0 := two_pow_pos (k % 24)
  have t0 := lval_nonneg (inR_take (limbs_inR m) (k / 24))
  have t1 := lval_take_lt (limbs_inR m) (k / 24)
  have e := down_fin h (pow_pos _) f0 t0 t1 (Int.emod_nonneg _ (Int.ne_of_gt f0)) (Int.emod_lt_of_pos _ f0)
  rw [pow24 k] at e
  have h1 := num_val hr
  have h2 : ((m / 2 ^ k : Nat) : Int) = (m : Int) / 2 ^ k := by simp
  omega

set_option maxHeartbeats 3200000 in
/-- down: the number by 2^k. -/
theorem gDown (a oa m k : Nat) (w : World) (hl : (limbs m).length ≤ 97) (hk : k ≤ 100000) (ha : GA w a oa m) :
    Calls Try.prog 77 #[.pointer (some ⟨a, oa, none⟩), .int .i64 k] w fun e w' => e = .returned (.agg (gC (m / 2 ^ k))) ∧ Below w.heap.size w w' := by
  have hU := fun done h1 h2 => downed (done := done) (m := m) (k := k) h1 h2
  have hl3 : (limbs (m / 2 ^ k)).length ≤ 98 := by have := limbs_mono (m := m) (n := m / 2 ^ k) (Nat.div_le_self _ _); omega
  have R0 := (GB.made0 w).alloc (.cells Try.zeroCells62 62)
  have G0 := GB.made0 (w.alloc (.cells Try.zeroCells62 62))
  have hs0 : (w.alloc (.cells Try.zeroCells62 62)).heap.size = w.heap.size + 1 := by simp
  have B0 : Below w.heap.size w ((w.alloc (.cells Try.zeroCells62 62)).alloc (.cells Try.zeroCells62 62)) := ((Below.refl w.heap.size w).alloc (Nat.le_refl _) _).alloc (by simp) _
  rw [hs0] at G0
  have hna : a < w.heap.size := ha.lt
  have hA := ha.below B0 hna
  clear hs0 ha
  have hxr := limbs_inR m
  obtain ⟨La, hLa⟩ : ∃ L, (limbs m).length = L := ⟨_, rfl⟩
  have HLa : Hid ((limbs m).length = La) := hLa
  have HSz : Hid (∀ W, GA W a oa m → W.cell? ⟨a, oa + 98, none⟩ = some (.int .i64 (La : Int))) := fun W h => by rw [← hLa]; exact h.size
  rw [hLa] at hl
  have hm24 : ((k % 24 : Nat) : Int) = (k : Int) % 24 := by omega
  have hs24 : ((k / 24 : Nat) : Int) = (k : Int) / 24 := by omega
  have hs1 : k % 24 < 24 := by omega
  have hq1 : k / 24 ≤ 100000 := by omega
  obtain ⟨N, hN⟩ : ∃ N, m / 2 ^ k = N := ⟨_, rfl⟩
  rw [hN] at hl3 ⊢
  simp only [hN] at hU
  have HU : Hid (∀ done, inR done → 16777216 ^ (k / 24) * (2 ^ (k % 24) * lval done) + (lval ((limbs m).take (k / 24)) + 16777216 ^ (k / 24) * ((limbs m).getD (k / 24) 0 % 2 ^ (k % 24))) = (m : Int) → num done = N) := hU
  clear hLa hU hN
  go_enter Try.func77, Try.ntmps77
  go_wp2
  rw [← hs24, ← hm24]
  generalize (w.alloc (.cells Try.zeroCells62 62)).alloc (.cells Try.zeroCells62 62) = w0 at *
  clear hs24 hm24
  generalize k / 24 = q at *
  generalize k % 24 = s at *
  obtain ⟨t, ht⟩ : ∃ t, 24 - s = t := ⟨_, rfl⟩
  have hts : (24 - (s : Int)).toNat = t := by omega
  have P0 := two_pow_pos s
  have Q0 := two_pow_pos t
  have hPQ : (2 : Int) ^ s * 2 ^ t = 16777216 := by rw [← Int.pow_add, show s + t = 24 by omega]; rfl
  obtain ⟨P, hP⟩ : ∃ P, (2 : Int) ^ s = P := ⟨_, rfl⟩
  obtain ⟨Q, hQ⟩ : ∃ Q, (2 : Int) ^ t = Q := ⟨_, rfl⟩
  rw [hP] at P0 hPQ HU
  rw [hQ] at Q0 hPQ
  have HPQ : Hid (P * Q = 16777216) := hPQ
  obtain ⟨TT, hTT⟩ : ∃ T, lval ((limbs m).take q) + 16777216 ^ q * ((limbs m).getD q 0 % P) = T := ⟨_, rfl⟩
  rw [hTT] at HU
  have HTT : Hid (lval ((limbs m).take q) + 16777216 ^ q * ((limbs m).getD q 0 % P) = TT) := hTT
  clear ht hPQ hTT
  go_loopw [8] (fun i wr => ∃ (p : Nat) (zs : List Int), q ≤ p ∧ (p ≤ q ∨ p ≤ La) ∧ i = .int .i64 p ∧ inR (zs.take (p - q)) ∧ (∀ j, p - q ≤ j → zs.getD j 0 = 0) ∧ Hid (16777216 ^ q * (P * lval (zs.take (p - q))) + TT = lval ((limbs m).take p) + 16777216 ^ p * ((limbs m).getD p 0 % P)) ∧ GB wr (w.heap.size + 1) zs 0 ∧ GB wr w.heap.size (List.replicate 98 0) 0 ∧ GA wr a oa m ∧ Below w.heap.size w wr) (fun i _ => La - (intOf i).toNat)
  case atStart => exact ⟨q, List.replicate 98 0, Nat.le_refl _, .inl (Nat.le_refl _), rfl, by rw [Nat.sub_self, List.take_zero]; exact inR_nil, fun q _ => by rw [List.getD_eq_getElem?_getD, List.getElem?_replicate]; split <;> rfl, by show _ = _; rw [Nat.sub_self, List.take_zero, HTT.out]; simp [lval], G0, R0, hA, B0⟩
  case round =>
    clear G0 R0 hA B0
    obtain ⟨p, zs, hp, hp2, rfl, hzR, hzz, HL, hG, hR, hA, hB⟩ := hrel
    have cA := HSz.out wr hA
    have hlen := hG.len
    by_cases hlt : p < La
    · have hlt' : (p : Int) < (La : Int) := by omega
      have gx := inR_getD hxr p
      have gy := inR_getD hxr (p + 1)
      have HT : Hid (lval ((limbs m).take (p + 1)) = lval ((limbs m).take p) + 16777216 ^ p * (limbs m).getD p 0) := lval_take_succ _ p
      have cx := hA.word p (by omega)
      have cy := hA.word (p + 1) (by omega)
      obtain ⟨j, hj⟩ : ∃ j, p - q = j := ⟨_, rfl⟩
      have hpj : p = q + j := by omega
      rw [hj] at hzR hzz HL
      have cz := hG.word j (by omega)
      rw [hzz j (Nat.le_refl _)] at cz
      have fz := hG.free j
      obtain ⟨x, hx⟩ : ∃ x, (limbs m).getD p 0 = x := ⟨_, rfl⟩
      obtain ⟨y, hy⟩ : ∃ x, (limbs m).getD (p + 1) 0 = x := ⟨_, rfl⟩
      rw [hx] at gx HT cx HL
      rw [hy] at gy cy
      obtain ⟨gx0, gx1⟩ := gx
      obtain ⟨gy0, gy1⟩ := gy
      have hlow := low_part (x := y) Q0 P0 (by rw [Int.mul_comm]; exact HPQ.out)
      obtain ⟨b0, b1, b2, b3⟩ := down_bd (e := y) gx0 gx1 P0 Q0 HPQ.out
      have hds := down_step q p hp P Q x y _ TT (zs.take j) (by rw [List.length_take]; omega) HPQ.out HL.out
      rw [Int.mul_comm Q] at hlow
      obtain ⟨hi, hhi⟩ : ∃ lo, y % P * Q = lo := ⟨_, rfl⟩
      obtain ⟨lo, hlo⟩ : ∃ hi, x / P = hi := ⟨_, rfl⟩
      rw [hhi] at hlow b2 b3 hds
      rw [hlo] at b0 b1 hds
      have HDS : Hid (16777216 ^ q * (P * lval (zs.take j ++ [lo + hi])) + TT = (lval ((limbs m).take p) + 16777216 ^ p * x) + 16777216 ^ (p + 1) * (y % P)) := hds
      have HY : Hid ((limbs m).getD (p + 1) 0 = y) := hy
      have HG : Hid (GB wr (w.heap.size + 1) zs 0 ∧ GB wr w.heap.size (List.replicate 98 0) 0 ∧ GA wr a oa m ∧ Below w.heap.size w wr) := ⟨hG, hR, hA, hB⟩
      have HZZ : Hid (∀ i, j ≤ i → zs.getD i 0 = 0) := hzz
      have HJ : Hid (p - q = j ∧ p = q + j) := ⟨hj, hpj⟩
      have hp98 : (p : Int) < 98 := by omega
      have hp1 : (p : Int) + 1 < 98 := by omega
      have hj98 : (j : Int) < 98 := by omega
      have hj98' : j < 98 := by omega
      have cy2 : wr.cell? ⟨a, oa + p + 1, none⟩ = some (.int .u32 y) := cy
      have hp0 : (0 : Int) ≤ (p : Int) + 1 := by omega
      have hwr : IntKind.i64.wrap ((p : Int) - (q : Int)) = (j : Int) := by rw [IntKind.wrap_i64]; omega
      have hwp : IntKind.i64.wrap ((p : Int) + 1) = (p : Int) + 1 := by rw [IntKind.wrap_i64]; omega
      have hw2 : (IntKind.u32.wrap (y * Q)).tmod 16777216 = hi := by
        rw [IntKind.wrap_u32, Int.tmod_eq_emod_of_nonneg (by omega), hlow]
      have hw3 : IntKind.u32.wrap (lo + hi) = lo + hi := by rw [IntKind.wrap_u32]; omega
      have hw5 : y * Q % 16777216 = hi := by omega
      have hw4 : IntKind.i64.wrap (24 - (s : Int)) = 24 - (s : Int) := by rw [IntKind.wrap_i64]; omega
      have hs24 : (s : Int) < 24 := by omega
      clear hx hy hj hpj hds hhi hG hR hA hB hzz HL hlow
      go_wp2_with fail
      go_region
      go_wp2
      go_roundw
      case rel =>
        obtain ⟨j1, j2⟩ := HJ.out
        refine ⟨p + 1, zs.set j (lo + hi), by omega, by omega, by go_num, ?_, ?_, ?_, ?_, ?_, ?_, ?_⟩
        · rw [show p + 1 - q = j + 1 by omega, take_set_succ (by omega)]
          exact inR_append.2 ⟨hzR, inR_cons.2 ⟨by omega, inR_nil⟩⟩
        · intro i hi2
          rw [gset_ne _ (by omega)]
          exact HZZ.out i (by omega)
        · show _ = _
          rw [show p + 1 - q = j + 1 by omega, take_set_succ (by omega), HT.out, HY.out]
          exact HDS.out
        · exact (HG.out.1.setW j (by omega) _).drew
        · exact (HG.out.2.1.other _ (by show w.heap.size ≠ w.heap.size + 1; omega) _).drew
        · exact (HG.out.2.2.1.tn ((Tn.refl [w.heap.size + 1] _).cell _ (by simp) _) (by simp; omega)).drew
        · exact (HG.out.2.2.2.setCell (by show w.heap.size ≤ w.heap.size + 1; omega) _).drew
      case measure => simp [intOf]; omega
    · have hlt' : ¬ (p : Int) < (La : Int) := by omega
      have hnum : num (zs.take (p - q)) = N := by
        refine HU.out _ hzR ?_
        have h4 := HL.out
        rw [getD_far (xs := limbs m) (j := p) (by have := HLa.out; omega), List.take_of_length_le (l := limbs m) (by have := HLa.out; omega), limbs_val] at h4
        simpa using h4
      obtain ⟨j, hj⟩ : ∃ j, p - q = j := ⟨_, rfl⟩
      rw [hj] at hnum hzR hzz
      have kS := gSettle (w.heap.size + 1) zs 0 j wr hG (by omega) hzR hzz
      rw [hnum] at kS
      have HG : Hid (GB wr w.heap.size (List.replicate 98 0) 0 ∧ Below w.heap.size w wr) := ⟨hR, hB⟩
      have hbs := hB.size
      by_cases hqL : q ≤ La
      · have hc : (La : Int) - (q : Int) = (j : Int) := by omega
        have hc0 : (0 : Int) ≤ (j : Int) := by omega
        clear HL hnum hG hR hA hB hzz hzR hj
        go_wp2_with fail
        refine kS.mono ?_
        rintro e w5 ⟨rfl, g5, t5, s5⟩
        have R5 := HG.out.1.tn t5 (by simp)
        have B5 := t5.below HG.out.2 hbs (by simp)
        have A5 := GN.ga g5 hl3
        go_wp2_with (first | (refine wpA_load rfl (.tmp 5) rfl (w.heap.size + 1) 0 N rfl A5 ?_) | (refine wpN_store rfl (.tmp 4) (.tmp 55) rfl w.heap.size _ _ N rfl rfl R5 hl3 ?_; intro w6 g6 t6 s6))
        (try simp only [Exit.inBlock, Exit.then])
        refine bodyPost_ret (v := .agg (gC N)) ?_ rfl ⟨rfl, t6.below B5 B5.size (by simp)⟩
        exact results_great rfl _ _ w.heap.size _ _ rfl g6
      · have hj0 : j = 0 := by omega
        subst hj0
        have hc0 : (La : Int) - (q : Int) < 0 := by omega
        clear HL hnum hG hR hA hB hzz hzR hj
        go_wp2_with fail
        refine kS.mono ?_
        rintro e w5 ⟨rfl, g5, t5, s5⟩
        have R5 := HG.out.1.tn t5 (by simp)
        have B5 := t5.below HG.out.2 hbs (by simp)
        have A5 := GN.ga g5 hl3
        go_wp2_with (first | (refine wpA_load rfl (.tmp 5) rfl (w.heap.size + 1) 0 N rfl A5 ?_) | (refine wpN_store rfl (.tmp 4) (.tmp 55) rfl w.heap.size _ _ N rfl rfl R5 hl3 ?_; intro w6 g6 t6 s6))
        (try simp only [Exit.inBlock, Exit.then])
        refine bodyPost_ret (v := .agg (gC N)) ?_ rfl ⟨rfl, t6.below B5 B5.size (by simp)⟩
        exact results_great rfl _ _ w.heap.size _ _ rfl g6

end Go.Proofs.Ytnngmkgkphkmhaa
