/- The program's times, by its contract. -/
import Derived.Test.YtnojigofojjopaaDoorGPlus
import Derived.Test.YtnojigofojjopaaDoorTimesM
namespace Go.Proofs.YtnojigofojjopaaDoor
open Go.RowKit

theorem lval_drop_zeros {zs : List Int} {k : Nat} (h : ∀ q, k ≤ q → zs.getD q 0 = 0) : lval (zs.drop k) = 0 := by
  have : zs.drop k = List.replicate (zs.length - k) 0 := by
    apply List.ext_getElem?
    intro i
    rw [List.getElem?_drop, List.getElem?_replicate]
    split
    · have := h (k + i) (by omega)
      rw [List.getD_eq_getElem?_getD, List.getElem?_eq_getElem (by omega)] at this
      rw [List.getElem?_eq_getElem (by omega)]
      simpa using this
    · rw [List.getElem?_eq_none (by omega)]
  rw [this, lval_zeros]
theorem num_take_zeros {zs : List Int} {k : Nat} (hr : inR zs) (h : ∀ q, k ≤ q → zs.getD q 0 = 0) : num (zs.take k) = num zs := by
  have h1 := lval_split zs k
  rw [lval_drop_zeros h] at h1
  have h2 := num_val hr
  have h3 := num_val (inR_take hr k)
  omega
theorem mul_limbs_len (m n : Nat) : (limbs (m * n)).length ≤ (limbs m).length + (limbs n).length := by
  refine limbs_len_le _ _ ?_
  have h1 := limbs_lt m
  have h2 := limbs_lt n
  rw [Nat.pow_add]
  exact Nat.mul_lt_mul'' h1 h2

set_option maxHeartbeats 3200000 in
/-- times: the product. -/
theorem gTimes (a oa b ob m n : Nat) (w : World) (hl : (limbs m).length + (limbs n).length ≤ 98) (ha : GA w a oa m) (hb : GA w b ob n) :
    Calls Tryd.prog 43 #[.pointer (some ⟨a, oa, none⟩), .pointer (some ⟨b, ob, none⟩)] w fun e w' => e = .returned (.agg (gC (m * n))) ∧ Below w.heap.size w w' := by
  have hl3 : (limbs (m * n)).length ≤ 98 := by have := mul_limbs_len m n; omega
  have R0 := (GB.made0 w).alloc (.cells Tryd.zeroCells50 50)
  have G0 := GB.made0 (w.alloc (.cells Tryd.zeroCells50 50))
  have hs0 : (w.alloc (.cells Tryd.zeroCells50 50)).heap.size = w.heap.size + 1 := by simp
  have B0 : Below w.heap.size w ((w.alloc (.cells Tryd.zeroCells50 50)).alloc (.cells Tryd.zeroCells50 50)) := ((Below.refl w.heap.size w).alloc (Nat.le_refl _) _).alloc (by simp) _
  rw [hs0] at G0
  have hna : a < w.heap.size := ha.lt
  have hnb : b < w.heap.size := hb.lt
  have hA := ha.below B0 hna
  have hC := hb.below B0 hnb
  clear hs0 ha hb
  have hxr := limbs_inR m
  have hyr := limbs_inR n
  have HP : Hid (lval (limbs m) = m ∧ lval (limbs n) = n) := ⟨limbs_val m, limbs_val n⟩
  obtain ⟨La, hLa⟩ : ∃ L, (limbs m).length = L := ⟨_, rfl⟩
  obtain ⟨Lb, hLb⟩ : ∃ L, (limbs n).length = L := ⟨_, rfl⟩
  have HLa : Hid ((limbs m).length = La) := hLa
  have HLb : Hid ((limbs n).length = Lb) := hLb
  have hsA : ∀ W, GA W a oa m → W.cell? ⟨a, oa + 98, none⟩ = some (.int .i64 (La : Int)) := fun W h => by rw [← hLa]; exact h.size
  have hsB : ∀ W, GA W b ob n → W.cell? ⟨b, ob + 98, none⟩ = some (.int .i64 (Lb : Int)) := fun W h => by rw [← hLb]; exact h.size
  have HSz : Hid ((∀ W, GA W a oa m → W.cell? ⟨a, oa + 98, none⟩ = some (.int .i64 (La : Int))) ∧ (∀ W, GA W b ob n → W.cell? ⟨b, ob + 98, none⟩ = some (.int .i64 (Lb : Int)))) := ⟨hsA, hsB⟩
  rw [hLa, hLb] at hl
  clear hLa hLb hsA hsB
  go_enter Tryd.func43, Tryd.ntmps43
  go_wp2
  generalize (w.alloc (.cells Tryd.zeroCells50 50)).alloc (.cells Tryd.zeroCells50 50) = w0 at *
  go_loopw [6] (fun i wr => ∃ (p : Nat) (zs : List Int), p ≤ La ∧ i = .int .i64 p ∧ inR zs ∧ (∀ q, p + Lb ≤ q → zs.getD q 0 = 0) ∧ Hid (lval zs = lval ((limbs m).take p) * lval (limbs n)) ∧ GB wr (w.heap.size + 1) zs 0 ∧ GB wr w.heap.size (List.replicate 98 0) 0 ∧ GA wr a oa m ∧ GA wr b ob n ∧ Below w.heap.size w wr) (fun i _ => La - (intOf i).toNat)
  case atStart => exact ⟨0, List.replicate 98 0, by omega, rfl, fun x hx => by rw [List.eq_of_mem_replicate hx]; omega, fun q _ => by rw [List.getD_eq_getElem?_getD, List.getElem?_replicate]; split <;> rfl, by show _ = _; rw [lval_zeros]; simp [lval], G0, R0, hA, hC, B0⟩
  case round =>
    clear G0 R0 hA hC B0
    obtain ⟨p, zs, hp, rfl, hzR, hzz, HL, hG, hR, hA, hC, hB⟩ := hrel
    have cA := HSz.out.1 wr hA
    by_cases hlt : p < La
    · have hlt' : (p : Int) < (La : Int) := by omega
      have gx := inR_getD hxr p
      have HT : Hid (lval ((limbs m).take (p + 1)) = lval ((limbs m).take p) + 16777216 ^ p * (limbs m).getD p 0) := lval_take_succ _ p
      have HX : Hid (∀ W, GA W a oa m → W.cell? ⟨a, oa + p, none⟩ = some (.int .u32 ((limbs m).getD p 0))) := fun W h => h.word p (by omega)
      obtain ⟨xi, hxi⟩ : ∃ xi, (limbs m).getD p 0 = xi := ⟨_, rfl⟩
      rw [hxi] at gx HT HX
      obtain ⟨gx0, gx1⟩ := gx
      clear hxi
      go_wp2
      clear cA
      go_loopw [7, 8] (fun c j wr => ∃ (q : Nat) (cc : Int) (zs : List Int), q ≤ Lb ∧ j = .int .i64 q ∧ c = .int .u64 cc ∧ 0 ≤ cc ∧ cc < 16777216 ∧ inR zs ∧ (∀ r, p + Lb ≤ r → zs.getD r 0 = 0) ∧ Hid (lval zs + 16777216 ^ (p + q) * cc = lval ((limbs m).take p) * lval (limbs n) + 16777216 ^ p * (xi * lval ((limbs n).take q))) ∧ GB wr (w.heap.size + 1) zs 0 ∧ GB wr w.heap.size (List.replicate 98 0) 0 ∧ GA wr a oa m ∧ GA wr b ob n ∧ Below w.heap.size w wr) (fun _ j _ => Lb - (intOf j).toNat)
      case atStart => exact ⟨0, 0, zs, by omega, rfl, rfl, by omega, by omega, hzR, hzz, by show _ = _; rw [HL.out]; simp [lval], hG, hR, hA, hC, hB⟩
      case round =>
        clear hG hR hA hC hB hzz hzR HL
        obtain ⟨q, cc, zs, hq, rfl, rfl, c0, c1, hzR, hzz, HL, hG, hR, hA, hC, hB⟩ := hrel
        have hlen := hG.len
        have cB := HSz.out.2 wr hC
        by_cases hlm : q < Lb
        · have hlm' : (q : Int) < (Lb : Int) := by omega
          have cx := HX.out wr hA
          have cy := hC.word q (by omega)
          have cz := hG.word (p + q) (by omega)
          have fz := hG.free (p + q)
          have gy := inR_getD hyr q
          have gz := inR_getD hzR (p + q)
          have HTy : Hid (lval ((limbs n).take (q + 1)) = lval ((limbs n).take q) + 16777216 ^ q * (limbs n).getD q 0) := lval_take_succ _ q
          obtain ⟨yj, hyj⟩ : ∃ yj, (limbs n).getD q 0 = yj := ⟨_, rfl⟩
          obtain ⟨z, hz⟩ : ∃ z, zs.getD (p + q) 0 = z := ⟨_, rfl⟩
          rw [hyj] at gy cy HTy
          rw [hz] at gz cz
          obtain ⟨gy0, gy1⟩ := gy
          obtain ⟨gz0, gz1⟩ := gz
          obtain ⟨p0, p1⟩ := mul_lim gx0 gx1 gy0 gy1
          have HZ : Hid (zs.getD (p + q) 0 = z) := hz
          have HZZ : Hid (∀ r, p + Lb ≤ r → zs.getD r 0 = 0) := hzz
          have HG : Hid (GB wr (w.heap.size + 1) zs 0 ∧ GB wr w.heap.size (List.replicate 98 0) 0 ∧ GA wr a oa m ∧ GA wr b ob n ∧ Below w.heap.size w wr) := ⟨hG, hR, hA, hC, hB⟩
          have hpq : (p : Int) + (q : Int) < 98 := by omega
          have hpq' : p + q < 98 := by omega
          have hp98 : (p : Int) < 98 := by omega
          have hq98 : (q : Int) < 98 := by omega
          clear hG hR hA hC hB hz hyj hzz
          go_wp2_with fail
          go_quiet (fail)
          have HG2 : Hid (GB (wr.drewN nq) (w.heap.size + 1) zs 0 ∧ GB (wr.drewN nq) w.heap.size (List.replicate 98 0) 0 ∧ GA (wr.drewN nq) a oa m ∧ GA (wr.drewN nq) b ob n ∧ Below w.heap.size w (wr.drewN nq)) := ⟨HG.out.1.drewN nq, HG.out.2.1.drewN nq, HG.out.2.2.1.drewN nq, HG.out.2.2.2.1.drewN nq, Below.drewN HG.out.2.2.2.2 nq⟩
          clear HG
          go_wp2
          go_roundw
          case rel =>
            refine ⟨q + 1, (z + xi * yj + cc) / 16777216, zs.set (p + q) ((z + xi * yj + cc) % 16777216), by omega, by go_num, by go_num, by omega, by omega, inR_set hzR _ (by omega) (by omega), fun r hr => by rw [gset_ne _ (by omega)]; exact HZZ.out r hr, ?_, ?_, ?_, ?_, ?_, ?_⟩
            · show _ = _
              rw [HTy.out]
              exact times_step p q cc _ z xi yj _ _ zs (by omega) HZ.out HL.out rfl
            · exact HG2.out.1.setW (p + q) (by omega) _
            · exact HG2.out.2.1.other _ (by show w.heap.size ≠ w.heap.size + 1; omega) _
            · exact HG2.out.2.2.1.tn ((Tn.refl [w.heap.size + 1] _).cell _ (by simp) _) (by simp; omega)
            · exact HG2.out.2.2.2.1.tn ((Tn.refl [w.heap.size + 1] _).cell _ (by simp) _) (by simp; omega)
            · exact HG2.out.2.2.2.2.setCell (by show w.heap.size ≤ w.heap.size + 1; omega) _
          case measure => simp [intOf]; omega
        · have hlm' : (Lb : Int) ≤ (q : Int) := by omega
          have hqe : q = Lb := by omega
          subst hqe
          have cz := hG.word (p + q) (by omega)
          have fz := hG.free (p + q)
          have HZ : Hid (zs.getD (p + q) 0 = 0) := hzz _ (Nat.le_refl _)
          rw [hzz _ (Nat.le_refl _)] at cz
          have HZZ : Hid (∀ r, p + q ≤ r → zs.getD r 0 = 0) := hzz
          have HG : Hid (GB wr (w.heap.size + 1) zs 0 ∧ GB wr w.heap.size (List.replicate 98 0) 0 ∧ GA wr a oa m ∧ GA wr b ob n ∧ Below w.heap.size w wr) := ⟨hG, hR, hA, hC, hB⟩
          have hpq : (p : Int) + (q : Int) < 98 := by omega
          have hpq' : p + q < 98 := by omega
          clear hG hR hA hC hB hzz
          go_wp2
          go_roundw
          case rel =>
            refine ⟨p + 1, zs.set (p + q) cc, by omega, by go_num, inR_set hzR _ c0 c1, fun r hr => by rw [gset_ne _ (by omega)]; exact HZZ.out r (by omega), ?_, ?_, ?_, ?_, ?_, ?_⟩
            · show _ = _
              rw [lval_set _ _ _ (by omega), HZ.out, HT.out, Int.add_mul]
              have h3 := HL.out
              rw [List.take_of_length_le (Nat.le_of_eq HLb.out)] at h3
              rw [Int.sub_zero, h3, Int.mul_assoc]
            · exact HG.out.1.setW (p + q) (by omega) _
            · exact HG.out.2.1.other _ (by show w.heap.size ≠ w.heap.size + 1; omega) _
            · exact HG.out.2.2.1.tn ((Tn.refl [w.heap.size + 1] _).cell _ (by simp) _) (by simp; omega)
            · exact HG.out.2.2.2.1.tn ((Tn.refl [w.heap.size + 1] _).cell _ (by simp) _) (by simp; omega)
            · exact HG.out.2.2.2.2.setCell (by show w.heap.size ≤ w.heap.size + 1; omega) _
          case measure => simp [intOf]; omega
    · have hlt' : (La : Int) ≤ (p : Int) := by omega
      have hpe : p = La := by omega
      subst hpe
      have hnum : num zs = m * n := by
        have h1 := num_val hzR
        have h4 := HL.out
        rw [List.take_of_length_le (Nat.le_of_eq HLa.out), HP.out.1, HP.out.2, ← h1] at h4
        exact_mod_cast h4
      have kS := gSettle (w.heap.size + 1) zs 0 (p + Lb) wr.drew hG.drew (by omega) (inR_take hzR _) hzz
      rw [num_take_zeros hzR hzz, hnum] at kS
      have hcast : ((p + Lb : Nat) : Int) = (p : Int) + (Lb : Int) := by omega
      rw [hcast] at kS
      have hwr : IntKind.i64.wrap ((p : Int) + (Lb : Int)) = (p : Int) + (Lb : Int) := by rw [IntKind.wrap_i64]; omega
      have cB := HSz.out.2 wr hC
      have HG : Hid (GB wr.drew w.heap.size (List.replicate 98 0) 0 ∧ GA wr.drew a oa m ∧ GA wr.drew b ob n ∧ Below w.heap.size w wr.drew) := ⟨hR.drew, hA.drew, hC.drew, hB.drew⟩
      have hbs := hB.size
      clear HL hnum hG hR hA hC hB hzz hzR hcast
      go_wp2_with fail
      go_region_held (fun w' => w'.cell? ⟨a, oa + 98, none⟩ = some (.int .i64 (p : Int)) ∧ w'.cell? ⟨b, ob + 98, none⟩ = some (.int .i64 (Lb : Int))) (go_keep)
        (first
          | (go_at_call 55
             (try rw [hwr])
             refine kS.mono ?_
             rintro e w5 ⟨rfl, g5, t5, s5⟩
             have d1 := HSz.out.1 w5 (HG.out.2.1.tn t5 (by simp; omega))
             have d2 := HSz.out.2 w5 (HG.out.2.2.1.tn t5 (by simp; omega))))
      have R5 := HG.out.1.tn t5 (by simp)
      have B5 := t5.below HG.out.2.2.2 hbs (by simp)
      have A5 := GN.ga g5 hl3
      go_wp2_with (first | (refine wpA_load rfl (.tmp 5) rfl (w.heap.size + 1) 0 (m * n) rfl A5 ?_) | (refine wpN_store rfl (.tmp 4) (.tmp 81) rfl w.heap.size _ _ (m * n) rfl rfl R5 hl3 ?_; intro w6 g6 t6 s6))
      (try simp only [Exit.inBlock, Exit.then])
      refine bodyPost_ret (v := .agg (gC (m * n))) ?_ rfl ⟨rfl, t6.below B5 B5.size (by simp)⟩
      exact results_great rfl _ _ w.heap.size _ _ rfl g6

end Go.Proofs.YtnojigofojjopaaDoor
