/- The program's by, with a divisor of many words, by its contract. -/
import Derived.Test.YtjelmbkngjlefaaGB
import Derived.WalkMore
import Derived.ScopeJumps
namespace Go.Proofs.Ytjelmbkngjlefaa
open Go.RowKit
set_option linter.unusedSimpArgs false

theorem results_pair {fn : Func} {p q : Tmp} (h : fn.results = #[.cell p 72, .cell q 72]) (tmps : Array Value) (w : World) (b c m n : Nat)
    (hp : tmps.getD p undef = .pointer (some ⟨b, 0, none⟩)) (hq : tmps.getD q undef = .pointer (some ⟨c, 0, none⟩)) (hg : GA w b 0 m) (hh : GA w c 0 n) : (results fn tmps).run Try.prog w = .ok (.tuple #[.agg (gC m), .agg (gC n)]) w := by
  have hp' : tmps[p]?.getD undef = .pointer (some ⟨b, 0, none⟩) := by simpa using hp
  have hq' : tmps[q]?.getD undef = .pointer (some ⟨c, 0, none⟩) := by simpa using hq
  simp [results, h, hp', hq', asAddr, hg.load, hh.load]
theorem nbits_low {d : Nat} (h : 0 < d) : 1 ≤ nbits d ∧ 2 ^ (nbits d - 1) ≤ d := by
  have h1 := nbits_pos d h
  refine ⟨by omega, ?_⟩
  apply Classical.byContradiction
  intro h2
  have := nbits_le_pow (nbits d - 1) d (by omega)
  omega
theorem by_start {m d p : Nat} (hd : 0 < d) (hp : nbits m + 1 ≤ p + nbits d) : m / 2 ^ p < d := by
  obtain ⟨h1, h2⟩ := nbits_low hd
  rw [Nat.div_lt_iff_lt_mul (Nat.pow_pos (by omega))]
  have h3 := lt_nbits m
  have h4 := Nat.pow_le_pow_right (by omega : 0 < 2) (show nbits m ≤ (nbits d - 1) + p by omega)
  rw [Nat.pow_add] at h4
  have h5 := Nat.mul_le_mul_right (2 ^ p) h2
  omega
theorem by_step {m d t : Nat} (hd : 0 < d) {zs : List Int} (hr : inR zs) (hl : zs.length = 98) (ht : t / 24 < 98) (hz : num zs = m / 2 ^ (t + 1) / d * 2 ^ (t + 1)) :
    (m / 2 ^ (t + 1) % d * 2 ^ 1 + m / 2 ^ t % 2 < d → m / 2 ^ t % d = m / 2 ^ (t + 1) % d * 2 ^ 1 + m / 2 ^ t % 2 ∧ num zs = m / 2 ^ t / d * 2 ^ t) ∧
    (d ≤ m / 2 ^ (t + 1) % d * 2 ^ 1 + m / 2 ^ t % 2 → m / 2 ^ t % d = m / 2 ^ (t + 1) % d * 2 ^ 1 + m / 2 ^ t % 2 - d ∧ inR (zs.set (t / 24) (zs.getD (t / 24) 0 + 2 ^ (t % 24))) ∧ num (zs.set (t / 24) (zs.getD (t / 24) 0 + 2 ^ (t % 24))) = m / 2 ^ t / d * 2 ^ t) := by
  have hb : m / 2 ^ t % 2 ≤ 1 := by omega
  have hn := bit_next m t
  have hdb := div_bit (h := m / 2 ^ (t + 1)) hd hb hn
  have hroom := limb_room hr t _ hz
  have e2 : (2 : Nat) ^ (t + 1) = 2 * 2 ^ t := by rw [Nat.pow_succ, Nat.mul_comm]
  constructor
  · intro h
    rw [if_neg (by omega)] at hdb
    refine ⟨by omega, ?_⟩
    rw [hz, hdb.2, e2]
    grind
  · intro h
    rw [if_pos (by omega)] at hdb
    have h0 := (inR_getD hr (t / 24)).1
    have p0 := two_pow_pos (t % 24)
    have hin := inR_set hr (t / 24) (y := zs.getD (t / 24) 0 + 2 ^ (t % 24)) (by omega) hroom
    refine ⟨by omega, hin, ?_⟩
    have e1 := lval_set zs (t / 24) (zs.getD (t / 24) 0 + 2 ^ (t % 24)) (by omega)
    have e3 : (16777216 : Int) ^ (t / 24) * 2 ^ (t % 24) = ((2 ^ t : Nat) : Int) := by rw [← pow24N t]; simp
    rw [show zs.getD (t / 24) 0 + 2 ^ (t % 24) - zs.getD (t / 24) 0 = 2 ^ (t % 24) by omega, e3, ← num_val hin, ← num_val hr] at e1
    have e4 : num (zs.set (t / 24) (zs.getD (t / 24) 0 + 2 ^ (t % 24))) = num zs + 2 ^ t := by omega
    rw [e4, hz, hdb.2, e2]
    grind

set_option maxRecDepth 200000 in
set_option maxHeartbeats 3200000 in
/-- by, with a divisor of more words than one. -/
theorem gBy2 (a oa b ob m d : Nat) (w : World) (hl : (limbs m).length ≤ 70) (hld : (limbs d).length ≤ 48) (hd1 : 1 < (limbs d).length) (ha : GA w a oa m) (hb : GA w b ob d) :
    Calls Try.prog 90 #[.pointer (some ⟨a, oa, none⟩), .pointer (some ⟨b, ob, none⟩)] w fun e w' => e = .returned (.tuple #[.agg (gC (m / d)), .agg (gC (m % d))]) ∧ Below w.heap.size w w' := by
  have hd0 : 0 < d := by
    apply Classical.byContradiction
    intro h
    obtain rfl : d = 0 := by omega
    rw [limbs_zero] at hd1
    simp at hd1
  have R0 := ((GB.made0 w).alloc (.cells Try.zeroCells72 72)).alloc (.cells Try.zeroCells72 72)
  have T0 := (GB.made0 (w.alloc (.cells Try.zeroCells72 72))).alloc (.cells Try.zeroCells72 72)
  have Q0 := GB.made0 ((w.alloc (.cells Try.zeroCells72 72)).alloc (.cells Try.zeroCells72 72))
  have s1 : (w.alloc (.cells Try.zeroCells72 72)).heap.size = w.heap.size + 1 := by simp
  have s2 : ((w.alloc (.cells Try.zeroCells72 72)).alloc (.cells Try.zeroCells72 72)).heap.size = w.heap.size + 1 + 1 := by simp
  have s3 : (((w.alloc (.cells Try.zeroCells72 72)).alloc (.cells Try.zeroCells72 72)).alloc (.cells Try.zeroCells72 72)).heap.size = w.heap.size + 1 + 1 + 1 := by simp
  have B1 : Below w.heap.size w ((w.alloc (.cells Try.zeroCells72 72)).alloc (.cells Try.zeroCells72 72)) := ((Below.refl w.heap.size w).alloc (Nat.le_refl _) _).alloc (by simp) _
  have B0 : Below w.heap.size w (((w.alloc (.cells Try.zeroCells72 72)).alloc (.cells Try.zeroCells72 72)).alloc (.cells Try.zeroCells72 72)) := B1.alloc (by simp; omega) _
  rw [s1] at T0
  rw [s2] at Q0
  have hna : a < w.heap.size := ha.lt
  have hnb : b < w.heap.size := hb.lt
  have hA := ha.below B0 hna
  have hD := hb.below B0 hnb
  have c98 := (hb.below B1 hnb).size
  have kB := fun W h => gBits a oa m W h
  have kD := fun W h => gBits b ob d W h
  have hbm : nbits m ≤ 24 * (limbs m).length := nbits_le_pow _ m (by rw [← base_pow]; exact limbs_lt m)
  have hbd := nbits_low hd0
  have hbd2 : nbits d ≤ 24 * (limbs d).length := nbits_le_pow _ d (by rw [← base_pow]; exact limbs_lt d)
  obtain ⟨L, hL⟩ : ∃ L, (limbs m).length = L := ⟨_, rfl⟩
  have HLL : Hid ((limbs m).length = L) := hL
  rw [hL] at hl hbm
  have ne1 : (((limbs d).length : Int) == 1) = false := by rw [beq_eq_false_iff_ne]; omega
  clear s1 s2 ha hb hL B1
  go_enter Try.func90, Try.ntmps90
  go_wp2
  refine wp_scope_jumps 0 (fun a' wr => ∃ (rb : Nat) (v9 u6 u7 u11 u12 u13 u14 u15 u16 u17 u18 u19 u20 u21 u22 u23 u24 u25 u26 u27 u28 u29 u30 u31 u32 u33 u34 u35 u36 u37 u38 u39 u40 u41 u42 u43 u44 u45 u46 u47 u48 u49 u50 u51 u52 u53 u54 u55 u56 u57 u58 u59 u60 u61 u62 u63 u64 u65 u66 u67 u68 u69 u70 u71 u72 : Value), a' = { tmps := #[.pointer (some ⟨a, oa, none⟩), .pointer (some ⟨b, ob, none⟩), undef, undef, .pointer (some ⟨w.heap.size, 0, none⟩), .pointer (some ⟨w.heap.size + 1, 0, none⟩), u6, u7, .pointer (some ⟨w.heap.size + 1 + 1, 0, none⟩), v9, .pointer (some ⟨rb, 0, none⟩), u11, u12, u13, u14, u15, u16, u17, u18, u19, u20, u21, u22, u23, u24, u25, u26, u27, u28, u29, u30, u31, u32, u33, u34, u35, u36, u37, u38, u39, u40, u41, u42, u43, u44, u45, u46, u47, u48, u49, u50, u51, u52, u53, u54, u55, u56, u57, u58, u59, u60, u61, u62, u63, u64, u65, u66, u67, u68, u69, u70, u71, u72], defers := [] } ∧ ∃ (p : Nat) (zs : List Int), p ≤ nbits m ∧ v9 = .int .i64 p ∧ w.heap.size + 1 + 1 < rb ∧ inR zs ∧ Hid (num zs = m / 2 ^ p / d * 2 ^ p) ∧ (∀ j, L ≤ j → zs.getD j 0 = 0) ∧ GB wr (w.heap.size + 1 + 1) zs 0 ∧ GN wr rb (m / 2 ^ p % d) ∧ GA wr a oa m ∧ GA wr b ob d ∧ GB wr w.heap.size (List.replicate 98 0) 0 ∧ GB wr (w.heap.size + 1) (List.replicate 98 0) 0 ∧ Below w.heap.size w wr) (fun a' _ => (intOf (a'.tmps.getD 9 undef)).toNat) rfl ?_ ?_
  · go_wp2_with fail
    refine (kB _ hA).mono ?_
    rintro e w1 ⟨rfl, b1⟩
    have hD1 := hD.below b1 hD.lt
    go_wp2_with fail
    refine (kD _ hD1).mono ?_
    rintro e w2 ⟨rfl, b2⟩
    obtain ⟨p0, hp0⟩ : ∃ p0 : Nat, nbits m + 1 - nbits d = p0 := ⟨_, rfl⟩
    have hp1 : p0 ≤ nbits m := by omega
    have hlt := by_start (m := m) (p := p0) hd0 (by omega)
    obtain ⟨z, hz⟩ : ∃ z : Int, z = (p0 : Int) := ⟨_, rfl⟩
    have hA2 := (hA.below b1 hA.lt).below b2 (by have := (hA.below b1 hA.lt).lt; omega)
    have kG := gDown a oa m p0 w2 (by have := HLL.out; omega) (by omega) hA2
    rw [← hz] at kG
    have hD2 := hD1.below b2 hD1.lt
    have R2 := (R0.below b1 R0.lt).below b2 (by have := (R0.below b1 R0.lt).lt; omega)
    have T2 := (T0.below b1 T0.lt).below b2 (by have := (T0.below b1 T0.lt).lt; omega)
    have Q2 := (Q0.below b1 Q0.lt).below b2 (by have := (Q0.below b1 Q0.lt).lt; omega)
    have B2 := (B0.trans (b1.mono B0.size)).trans (b2.mono (B0.trans (b1.mono B0.size)).size)
    have hlq : (limbs (m / 2 ^ p0)).length ≤ 98 := by have := limbs_mono (m := m) (n := m / 2 ^ p0) (Nat.div_le_self _ _); have := HLL.out; omega
    have hz1 : z = 0 ∨ z = (nbits m : Int) - nbits d + 1 := by omega
    have hz2 : z ≤ nbits m := by omega
    have hz3 : 0 ≤ z := by omega
    clear hA hD R0 T0 Q0 B0 b1 hD1 b2 kB kD s3 c98
    go_wp2_with fail
    all_goals (first | (rw [show (nbits m : Int) - (nbits d : Int) + 1 = z by omega]) | (obtain rfl : z = 0 := by omega))
    all_goals (
      refine kG.mono ?_
      rintro e w3 ⟨rfl, b3⟩
      have hA3 := (hA2.below b3 hA2.lt).below (alloc_below w3 (.cells Try.zeroCells72 72)) (hA2.below b3 hA2.lt).lt
      have hD3 := (hD2.below b3 hD2.lt).below (alloc_below w3 (.cells Try.zeroCells72 72)) (hD2.below b3 hD2.lt).lt
      have R3 := (R2.below b3 R2.lt).alloc (.cells Try.zeroCells72 72)
      have T3 := (T2.below b3 T2.lt).alloc (.cells Try.zeroCells72 72)
      have Q3 := (Q2.below b3 Q2.lt).alloc (.cells Try.zeroCells72 72)
      have B3 := (B2.trans (b3.mono B2.size)).alloc (B2.trans (b3.mono B2.size)).size (.cells Try.zeroCells72 72)
      have hbs3 := (B2.trans (b3.mono B2.size)).size
      have hq3 : w.heap.size + 1 + 1 < w3.heap.size := (Q2.below b3 Q2.lt).lt
      have X0 := GB.made0 w3
      clear hA2 hD2 R2 T2 Q2 B2 b3 kG
      go_wp2_with (first | ((with_reducible (refine wpL_id ?_)); refine wpN_store rfl (.tmp 10) (.tmp 41) rfl w3.heap.size _ _ (m / 2 ^ p0) rfl rfl X0 hlq ?_; intro w4 g4 t4 s4) | fail)
      have A4 := hA3.tn t4 (by simp; omega)
      have D4 := hD3.tn t4 (by simp; omega)
      have R4 := R3.tn t4 (by simp; omega)
      have T4 := T3.tn t4 (by simp; omega)
      have Q4 := Q3.tn t4 (by simp; omega)
      have B4 := t4.below B3 B3.size (by simp; omega)
      obtain ⟨zs0, hzs0⟩ : ∃ zs0, List.replicate 98 (0 : Int) = zs0 := ⟨_, rfl⟩
      have I0 : inR zs0 := fun x hx => by rw [← hzs0] at hx; rw [List.eq_of_mem_replicate hx]; omega
      have I1 : Hid (num zs0 = m / 2 ^ p0 / d * 2 ^ p0) := by
        show _ = _
        rw [Nat.div_eq_of_lt hlt, Nat.zero_mul, ← hzs0]
        unfold num
        rw [lval_zeros]
        rfl
      have I2 : ∀ j, L ≤ j → zs0.getD j 0 = 0 := fun j _ => by
        rw [← hzs0, List.getD_eq_getElem?_getD, List.getElem?_replicate]
        split <;> rfl
      have I3 : GN w4 w3.heap.size (m / 2 ^ p0 % d) := by rw [Nat.mod_eq_of_lt hlt]; exact g4
      have Q5 : GB w4 (w.heap.size + 1 + 1) zs0 0 := by rw [← hzs0]; exact Q4
      clear hA3 hD3 R3 T3 Q3 B3 X0 t4 s4 g4 hlq hlt hzs0 Q4 hbs3
      generalize w3.heap.size = rb at *
      (try simp only [Act.put])
      go_step3
      go_wp2
      go_loopw [9] (fun v9 wr => ∃ (p : Nat) (zs : List Int), p ≤ p0 ∧ v9 = .int .i64 p ∧ inR zs ∧ Hid (num zs = m / 2 ^ p / d * 2 ^ p) ∧ (∀ j, L ≤ j → zs.getD j 0 = 0) ∧ GB wr (w.heap.size + 1 + 1) zs 0 ∧ GN wr rb (m / 2 ^ p % d) ∧ GA wr a oa m ∧ GA wr b ob d ∧ GB wr w.heap.size (List.replicate 98 0) 0 ∧ GB wr (w.heap.size + 1) (List.replicate 98 0) 0 ∧ Below w.heap.size w wr) (fun v9 _ => (intOf v9).toNat)
      case atStart => exact ⟨p0, zs0, Nat.le_refl _, by first | rfl | go_num | exact congrArg _ hz, I0, I1, I2, Q5, I3, A4, D4, R4, T4, B4⟩
      case round =>
        clear I0 I1 I2 Q5 I3 A4 D4 R4 T4 B4
        obtain ⟨p, zs, hp, rfl, hzR, HZ, hzz, hQ, hX, hA, hD, hR, hT, hB⟩ := hrel
        have hbs := hB.size
        have hzl := hQ.len
        by_cases h0 : p = 0
        · subst h0
          have hnum : num zs = m / d := by have := HZ.out; simpa using this
          have hX0 : GN wr rb (m % d) := by have := hX; simpa using this
          have h2 := lval_trim zs L (fun j q _ => hzz j q)
          have h1 := num_val hzR
          have h3 := num_val (inR_take hzR L)
          have e1 : num (zs.take L) = m / d := by omega
          have kS := gSettle (w.heap.size + 1 + 1) zs 0 L wr hQ (by omega) (inR_take hzR L) hzz
          rw [e1] at kS
          have cA := hA.size
          rw [HLL.out] at cA
          have hlq : (limbs (m / d)).length ≤ 98 := by have := limbs_mono (m := m) (n := m / d) (Nat.div_le_self _ _); have := HLL.out; omega
          have hlr : (limbs (m % d)).length ≤ 98 := by have := limbs_mono (m := d) (n := m % d) (Nat.le_of_lt (Nat.mod_lt _ hd0)); omega
          have hrbl := GN.lt hX0
          clear hnum hX h1 h2 h3 e1 HZ hzR hzz
          obtain ⟨qq, hqq⟩ : ∃ q, m / d = q := ⟨_, rfl⟩
          obtain ⟨rr, hrr⟩ : ∃ q, m % d = q := ⟨_, rfl⟩
          have HQR : Hid (m / d = qq ∧ m % d = rr) := ⟨hqq, hrr⟩
          rw [hqq] at kS hlq
          rw [hrr] at hX0 hlr
          clear hqq hrr
          go_wp2_with fail
          refine kS.mono ?_
          rintro e w2 ⟨rfl, Q2, t2, -⟩
          have X2 := GN.tn hX0 t2 (by simp; omega)
          have R2 := hR.tn t2 (by simp; omega)
          have T2 := hT.tn t2 (by simp)
          have B2 := t2.below hB hbs (by simp; omega)
          have A1 : GA w2 (w.heap.size + 1 + 1) 0 qq := GN.ga Q2 hlq
          have A2 : GA w2 rb 0 rr := GN.ga X2 hlr
          clear kS cA hA hD hR hT hQ hB hX0 t2
          go_wp2_with fail
          refine wp_region_held_drew (S := fun W => GA W (w.heap.size + 1 + 1) 0 qq ∧ GA W rb 0 rr) (by kernel_rfl) ⟨A1.drew, A2.drew⟩ ?_
          intro hHeld
          refine takeH 0 (some 71) (.agg (gC qq)) rfl rfl (by kernel_rfl) (by kernel_rfl) (by kernel_rfl) (fun _ _ _ h => h) (yg_load rfl (.tmp 8) rfl (w.heap.size + 1 + 1) 0 qq rfl (fun W h => h.1)) (by assumption) ?_
          simp only [Act.put, List.setIfInBounds_toArray, List.set_cons_zero, List.set_cons_succ]
          refine takeH 1 (some 72) (.agg (gC rr)) rfl rfl (by kernel_rfl) (by kernel_rfl) (by kernel_rfl) (fun _ _ _ h => h) (yg_load rfl (.tmp 10) rfl rb 0 rr rfl (fun W h => h.2)) (by assumption) ?_
          simp only [Act.put, List.setIfInBounds_toArray, List.set_cons_zero, List.set_cons_succ]
          refine oneH 2 rfl (by kernel_rfl) (fun K' hK => ?_)
          refine sg_store rfl (.tmp 4) (.tmp 71) rfl w.heap.size _ _ qq rfl rfl (GB.drew R2) hlq rfl ?_
          intro w5 g5 t5 s5
          have S5 : GA w5 (w.heap.size + 1 + 1) 0 qq ∧ GA w5 rb 0 rr := ⟨hHeld.1.tn t5 (by simp <;> omega), hHeld.2.tn t5 (by simp <;> omega)⟩
          have T5 := GB.tn (GB.drew T2) t5 (by simp)
          have B5 := t5.below B2.drew B2.size (by simp)
          refine hK _ _ S5 ?_
          clear hK hHeld
          refine oneH 3 rfl (by kernel_rfl) (fun K' hK => ?_)
          refine sg_store rfl (.tmp 5) (.tmp 72) rfl (w.heap.size + 1) _ _ rr rfl rfl T5 hlr rfl ?_
          intro w6 g6 t6 s6
          have S6 : GA w6 (w.heap.size + 1 + 1) 0 qq ∧ GA w6 rb 0 rr := ⟨S5.1.tn t6 (by simp <;> omega), S5.2.tn t6 (by simp <;> omega)⟩
          have g5 := GN.tn g5 t6 (by simp)
          have B6 := t6.below B5 B5.size (by simp)
          refine hK _ _ S6 ?_
          clear hK S5
          refine wpAnyH_done (by kernel_rfl) ?_ _
          clear S6 A1 A2
          go_wp2
          (try simp only [Exit.inBlock, Exit.then, Exit.jump])
          (try rw [Exit.noGoto_ret])
          refine bodyPost_ret (v := .tuple #[.agg (gC qq), .agg (gC rr)]) ?_ rfl ⟨by rw [HQR.out.1, HQR.out.2], B6⟩
          exact results_pair rfl _ _ w.heap.size (w.heap.size + 1) qq rr rfl rfl (GN.ga g5 hlq) (GN.ga g6 hlr)
        · obtain ⟨t, rfl⟩ : ∃ t, p = t + 1 := ⟨p - 1, by omega⟩
          first | (exfalso; omega) | (
          have htm : t < nbits m := by omega
          have htL : t / 24 < L := by omega
          have hroom := limb_room hzR t _ HZ.out
          have ST := by_step (m := m) (t := t) hd0 hzR hzl (by omega) HZ.out
          have k0 := gBit a oa m t wr (by omega) hA
          have x0b : m / 2 ^ t % 2 < 2 := Nat.mod_lt _ (by omega)
          have hrd : m / 2 ^ (t + 1) % d < d := Nat.mod_lt _ hd0
          obtain ⟨N, hN⟩ : ∃ N, m / 2 ^ (t + 1) % d * 2 ^ 1 + m / 2 ^ t % 2 = N := ⟨_, rfl⟩
          rw [hN] at ST
          have hl1 : (limbs (m / 2 ^ (t + 1) % d)).length ≤ 97 := by have := limbs_mono (m := d) (n := m / 2 ^ (t + 1) % d) (by omega); omega
          have hlN : (limbs N).length ≤ 98 := by have q := add_limbs d d 48 hld hld; have := limbs_mono (m := d + d) (n := N) (by omega); omega
          have kE := gEnter rb (m / 2 ^ (t + 1) % d) 1 (m / 2 ^ t % 2) N wr (.inl rfl) (by omega) hN.symm hl1 hX
          rw [show ((1 : Nat) : Int) = 1 from rfl] at kE
          have HST : Hid ((N < d → m / 2 ^ t % d = N ∧ num zs = m / 2 ^ t / d * 2 ^ t) ∧ (d ≤ N → m / 2 ^ t % d = N - d ∧ inR (zs.set (t / 24) (zs.getD (t / 24) 0 + 2 ^ (t % 24))) ∧ num (zs.set (t / 24) (zs.getD (t / 24) 0 + 2 ^ (t % 24))) = m / 2 ^ t / d * 2 ^ t)) := ST
          have hpos : (0 : Int) < ((t + 1 : Nat) : Int) := by omega
          have hrbl := GN.lt hX
          clear ST hN hrd hl1 HZ
          generalize m / 2 ^ t % 2 = x0 at *
          go_wp2_with fail
          refine k0.mono ?_
          rintro e wr ⟨rfl, rfl⟩
          go_wp2_with fail
          refine kE.mono ?_
          rintro e w2 ⟨rfl, X2, t2, -⟩
          have A2 := hA.tn t2 (by simp; omega)
          have D2 := hD.tn t2 (by simp; omega)
          have R2 := hR.tn t2 (by simp; omega)
          have T2 := hT.tn t2 (by simp; omega)
          have Q2 := hQ.tn t2 (by simp; omega)
          have B2 := t2.below hB hbs (by simp; omega)
          have kO := gOrder rb 0 b ob N d w2 (GN.ga X2 hlN) D2
          obtain ⟨c, hc⟩ : ∃ c, cmpI N d = c := ⟨_, rfl⟩
          have hcl := @cmpI_lt N d
          have hcg := @cmpI_ge N d
          rw [hc] at kO hcl hcg
          have hbs2 := B2.size
          clear kE k0 hA hD hR hT hQ hB hX t2 hc
          by_cases hnd : N < d
          · have hc0 : c < 0 := hcl hnd
            have hcd : decide (c < 0) = true := decide_eq_true hc0
            obtain ⟨V1, V2⟩ := HST.out.1 hnd
            have HV : Hid (num zs = m / 2 ^ t / d * 2 ^ t) := V2
            have X3 : GN w2 rb (m / 2 ^ t % d) := by rw [V1]; exact X2
            clear V1 V2 hcl hcg hnd HST X2
            go_wp2_with fail
            refine kO.mono ?_
            rintro e w6 ⟨rfl, b6⟩
            have X6 := GN.below X3 b6 (GN.lt X3)
            have A6 := A2.below b6 A2.lt
            have D6 := D2.below b6 D2.lt
            have R6 := R2.below b6 R2.lt
            have T6 := T2.below b6 T2.lt
            have Q6 := Q2.below b6 Q2.lt
            have B6 := B2.trans (b6.mono hbs2)
            clear kO X3 A2 D2 R2 T2 Q2 B2 b6
            go_wp2
            go_step3
            (try simp only [Exit.inBlock, Exit.then, Exit.jump])
            exact ⟨rfl, rb, _, _, _, _, _, _, _, _, _, _, _, _, _, _, _, _, _, _, _, _, _, _, _, _, _, _, _, _, _, _, _, _, _, _, _, _, _, _, _, _, _, _, _, _, _, _, _, _, _, _, _, _, _, _, _, _, _, _, _, _, _, _, _, _, _, rfl, t, zs, by omega, rfl, hq3, hzR, HV, hzz, Q6, X6, A6, D6, R6, T6, B6⟩
          · have hc0 : ¬ c < 0 := by have := hcg (by omega); omega
            have hcd : decide (c < 0) = false := decide_eq_false hc0
            obtain ⟨V1, V2, V3⟩ := HST.out.2 (by omega)
            have hL := fun W (h1 : GN W rb N) (h2 : GA W b ob d) => gLower rb b ob N d W hlN (by omega) (by omega) h1 h2
            rw [← V1] at hL
            clear hcl hcg hnd HST
            go_wp2_with fail
            refine kO.mono ?_
            rintro e w6 ⟨rfl, b6⟩
            have X6 := GN.below X2 b6 (GN.lt X2)
            have A6 := A2.below b6 A2.lt
            have D6 := D2.below b6 D2.lt
            have R6 := R2.below b6 R2.lt
            have T6 := T2.below b6 T2.lt
            have Q6 := Q2.below b6 Q2.lt
            have B6 := B2.trans (b6.mono hbs2)
            have hbs6 := B6.size
            clear kO X2 A2 D2 R2 T2 Q2 B2 b6
            go_wp2_with fail
            refine (hL w6 X6 D6).mono ?_
            rintro e w7 ⟨rfl, X7, t7, -⟩
            have A7 := A6.tn t7 (by simp; omega)
            have D7 := D6.tn t7 (by simp; omega)
            have R7 := R6.tn t7 (by simp; omega)
            have T7 := T6.tn t7 (by simp; omega)
            have Q7 := Q6.tn t7 (by simp; omega)
            have B7 := t7.below B6 hbs6 (by simp; omega)
            have c0 := Q7.word (t / 24) (by omega)
            have f0 := Q7.free (t / 24)
            obtain ⟨x, hx⟩ : ∃ x, zs.getD (t / 24) 0 = x := ⟨_, rfl⟩
            have gx0 : 0 ≤ x := by rw [← hx]; exact (inR_getD hzR _).1
            have hq24 : (t : Int) / 24 = ((t / 24 : Nat) : Int) := by omega
            have hs24 : (t : Int) % 24 = ((t % 24 : Nat) : Int) := by omega
            have hs1 : t % 24 < 24 := by omega
            have ht0 : t ≤ 100000 := by omega
            rw [hx] at c0 V2 V3 hroom
            have P0 := two_pow_pos (t % 24)
            have HFX : Hid (∀ v, GB (w7.setCell ⟨w.heap.size + 1 + 1, t / 24, none⟩ (.int .u32 v)) (w.heap.size + 1 + 1) (zs.set (t / 24) v) 0) := fun v => Q7.setW (t / 24) (by omega) v
            have HFZ : Hid (∀ v j, L ≤ j → (zs.set (t / 24) v).getD j 0 = 0) := fun v j hj => by rw [gset_ne _ (by omega)]; exact hzz j hj
            have HALL : Hid (GN w7 rb (m / 2 ^ t % d) ∧ GA w7 a oa m ∧ GA w7 b ob d ∧ GB w7 w.heap.size (List.replicate 98 0) 0 ∧ GB w7 (w.heap.size + 1) (List.replicate 98 0) 0 ∧ Below w.heap.size w w7) := ⟨X7, A7, D7, R7, T7, B7⟩
            have HVV : Hid (inR (zs.set (t / 24) (x + 2 ^ (t % 24))) ∧ num (zs.set (t / 24) (x + 2 ^ (t % 24))) = m / 2 ^ t / d * 2 ^ t) := ⟨V2, V3⟩
            obtain ⟨q, hq⟩ : ∃ q, t / 24 = q := ⟨_, rfl⟩
            obtain ⟨P, hP⟩ : ∃ P, (2 : Int) ^ (t % 24) = P := ⟨_, rfl⟩
            rw [hq] at c0 f0 hq24 htL HFX HFZ HVV
            rw [hP] at P0 HVV hroom
            obtain ⟨sh, hsh⟩ : ∃ sh, t % 24 = sh := ⟨_, rfl⟩
            rw [hsh] at hs24 hs1 hP
            have hq98 : (q : Int) < 98 := by omega
            clear X7 A7 D7 R7 T7 B7 Q7 V1 V2 V3 hL X6 A6 D6 R6 T6 Q6 B6 t7 hx hq hsh hzz hzR
            have a1 : (t : Int).tdiv 24 = (q : Int) := by rw [Int.tdiv_eq_ediv_of_nonneg (by omega)]; exact hq24
            have a2 : (t : Int).tmod 24 = (sh : Int) := by rw [Int.tmod_eq_emod_of_nonneg (by omega)]; exact hs24
            have a3 : IntKind.i64.wrap (q : Int) = (q : Int) := by rw [IntKind.wrap_i64]; omega
            have a4 : IntKind.u32.wrap P = P := by rw [IntKind.wrap_u32]; omega
            have a5 : IntKind.u32.wrap (x + P) = x + P := by rw [IntKind.wrap_u32]; omega
            have a6 : IntKind.i64.wrap ((t : Int).tdiv 24) = (q : Int) := by rw [a1, a3]
            go_wp2_with fail
            go_region
            have T8 : Tn [w.heap.size + 1 + 1] w7 (w7.setCell ⟨w.heap.size + 1 + 1, q, none⟩ (.int .u32 (x + P))).drew := ((Tn.refl [w.heap.size + 1 + 1] w7).cell _ (by simp) _).trans ⟨rfl, rfl, rfl, Nat.le_refl _, fun _ _ _ => rfl⟩
            have Q8 := (HFX.out (x + P)).drew
            obtain ⟨y1, y2, y3, y4, y5, y6⟩ := HALL.out
            have X8 := GN.tn y1 T8 (by simp; omega)
            have A8 := y2.tn T8 (by simp; omega)
            have D8 := y3.tn T8 (by simp; omega)
            have R8 := y4.tn T8 (by simp; omega)
            have T9 := y5.tn T8 (by simp)
            have B8 := T8.below y6 y6.size (by simp; omega)
            clear y1 y2 y3 y4 y5 y6 T8
            generalize (w7.setCell ⟨w.heap.size + 1 + 1, q, none⟩ (.int .u32 (x + P))).drew = w8 at *
            go_wp2
            go_roundw
            case rel => exact ⟨t, zs.set q (x + P), by omega, rfl, HVV.out.1, HVV.out.2, HFZ.out _, Q8, X8, A8, D8, R8, T9, B8⟩
            case measure => simp [intOf]))
  · rintro a' wr ⟨rb, v9, u6, u7, u11, u12, u13, u14, u15, u16, u17, u18, u19, u20, u21, u22, u23, u24, u25, u26, u27, u28, u29, u30, u31, u32, u33, u34, u35, u36, u37, u38, u39, u40, u41, u42, u43, u44, u45, u46, u47, u48, u49, u50, u51, u52, u53, u54, u55, u56, u57, u58, u59, u60, u61, u62, u63, u64, u65, u66, u67, u68, u69, u70, u71, u72, rfl, p0, zs0, hp1, rfl, hq3, I0, I1, I2, Q5, I3, A4, D4, R4, T4, B4⟩
    clear hA hD R0 T0 Q0 B0 c98 kB kD s3
    go_wp2
    go_loopw [9] (fun v9 wr => ∃ (p : Nat) (zs : List Int), p ≤ p0 ∧ v9 = .int .i64 p ∧ inR zs ∧ Hid (num zs = m / 2 ^ p / d * 2 ^ p) ∧ (∀ j, L ≤ j → zs.getD j 0 = 0) ∧ GB wr (w.heap.size + 1 + 1) zs 0 ∧ GN wr rb (m / 2 ^ p % d) ∧ GA wr a oa m ∧ GA wr b ob d ∧ GB wr w.heap.size (List.replicate 98 0) 0 ∧ GB wr (w.heap.size + 1) (List.replicate 98 0) 0 ∧ Below w.heap.size w wr) (fun v9 _ => (intOf v9).toNat)
    case atStart => exact ⟨p0, zs0, Nat.le_refl _, by first | rfl | go_num | exact congrArg _ hz, I0, I1, I2, Q5, I3, A4, D4, R4, T4, B4⟩
    case round =>
      clear I0 I1 I2 Q5 I3 A4 D4 R4 T4 B4
      obtain ⟨p, zs, hp, rfl, hzR, HZ, hzz, hQ, hX, hA, hD, hR, hT, hB⟩ := hrel
      have hbs := hB.size
      have hzl := hQ.len
      by_cases h0 : p = 0
      · subst h0
        have hnum : num zs = m / d := by have := HZ.out; simpa using this
        have hX0 : GN wr rb (m % d) := by have := hX; simpa using this
        have h2 := lval_trim zs L (fun j q _ => hzz j q)
        have h1 := num_val hzR
        have h3 := num_val (inR_take hzR L)
        have e1 : num (zs.take L) = m / d := by omega
        have kS := gSettle (w.heap.size + 1 + 1) zs 0 L wr hQ (by omega) (inR_take hzR L) hzz
        rw [e1] at kS
        have cA := hA.size
        rw [HLL.out] at cA
        have hlq : (limbs (m / d)).length ≤ 98 := by have := limbs_mono (m := m) (n := m / d) (Nat.div_le_self _ _); have := HLL.out; omega
        have hlr : (limbs (m % d)).length ≤ 98 := by have := limbs_mono (m := d) (n := m % d) (Nat.le_of_lt (Nat.mod_lt _ hd0)); omega
        have hrbl := GN.lt hX0
        clear hnum hX h1 h2 h3 e1 HZ hzR hzz
        obtain ⟨qq, hqq⟩ : ∃ q, m / d = q := ⟨_, rfl⟩
        obtain ⟨rr, hrr⟩ : ∃ q, m % d = q := ⟨_, rfl⟩
        have HQR : Hid (m / d = qq ∧ m % d = rr) := ⟨hqq, hrr⟩
        rw [hqq] at kS hlq
        rw [hrr] at hX0 hlr
        clear hqq hrr
        go_wp2_with fail
        refine kS.mono ?_
        rintro e w2 ⟨rfl, Q2, t2, -⟩
        have X2 := GN.tn hX0 t2 (by simp; omega)
        have R2 := hR.tn t2 (by simp; omega)
        have T2 := hT.tn t2 (by simp)
        have B2 := t2.below hB hbs (by simp; omega)
        have A1 : GA w2 (w.heap.size + 1 + 1) 0 qq := GN.ga Q2 hlq
        have A2 : GA w2 rb 0 rr := GN.ga X2 hlr
        clear kS cA hA hD hR hT hQ hB hX0 t2
        go_wp2_with fail
        refine wp_region_held_drew (S := fun W => GA W (w.heap.size + 1 + 1) 0 qq ∧ GA W rb 0 rr) (by kernel_rfl) ⟨A1.drew, A2.drew⟩ ?_
        intro hHeld
        refine takeH 0 (some 71) (.agg (gC qq)) rfl rfl (by kernel_rfl) (by kernel_rfl) (by kernel_rfl) (fun _ _ _ h => h) (yg_load rfl (.tmp 8) rfl (w.heap.size + 1 + 1) 0 qq rfl (fun W h => h.1)) (by assumption) ?_
        simp only [Act.put, List.setIfInBounds_toArray, List.set_cons_zero, List.set_cons_succ]
        refine takeH 1 (some 72) (.agg (gC rr)) rfl rfl (by kernel_rfl) (by kernel_rfl) (by kernel_rfl) (fun _ _ _ h => h) (yg_load rfl (.tmp 10) rfl rb 0 rr rfl (fun W h => h.2)) (by assumption) ?_
        simp only [Act.put, List.setIfInBounds_toArray, List.set_cons_zero, List.set_cons_succ]
        refine oneH 2 rfl (by kernel_rfl) (fun K' hK => ?_)
        refine sg_store rfl (.tmp 4) (.tmp 71) rfl w.heap.size _ _ qq rfl rfl (GB.drew R2) hlq rfl ?_
        intro w5 g5 t5 s5
        have S5 : GA w5 (w.heap.size + 1 + 1) 0 qq ∧ GA w5 rb 0 rr := ⟨hHeld.1.tn t5 (by simp <;> omega), hHeld.2.tn t5 (by simp <;> omega)⟩
        have T5 := GB.tn (GB.drew T2) t5 (by simp)
        have B5 := t5.below B2.drew B2.size (by simp)
        refine hK _ _ S5 ?_
        clear hK hHeld
        refine oneH 3 rfl (by kernel_rfl) (fun K' hK => ?_)
        refine sg_store rfl (.tmp 5) (.tmp 72) rfl (w.heap.size + 1) _ _ rr rfl rfl T5 hlr rfl ?_
        intro w6 g6 t6 s6
        have S6 : GA w6 (w.heap.size + 1 + 1) 0 qq ∧ GA w6 rb 0 rr := ⟨S5.1.tn t6 (by simp <;> omega), S5.2.tn t6 (by simp <;> omega)⟩
        have g5 := GN.tn g5 t6 (by simp)
        have B6 := t6.below B5 B5.size (by simp)
        refine hK _ _ S6 ?_
        clear hK S5
        refine wpAnyH_done (by kernel_rfl) ?_ _
        clear S6 A1 A2
        go_wp2
        (try simp only [Exit.inBlock, Exit.then, Exit.jump])
        (try rw [Exit.noGoto_ret])
        refine bodyPost_ret (v := .tuple #[.agg (gC qq), .agg (gC rr)]) ?_ rfl ⟨by rw [HQR.out.1, HQR.out.2], B6⟩
        exact results_pair rfl _ _ w.heap.size (w.heap.size + 1) qq rr rfl rfl (GN.ga g5 hlq) (GN.ga g6 hlr)
      · obtain ⟨t, rfl⟩ : ∃ t, p = t + 1 := ⟨p - 1, by omega⟩
        first | (exfalso; omega) | (
        have htm : t < nbits m := by omega
        have htL : t / 24 < L := by omega
        have hroom := limb_room hzR t _ HZ.out
        have ST := by_step (m := m) (t := t) hd0 hzR hzl (by omega) HZ.out
        have k0 := gBit a oa m t wr (by omega) hA
        have x0b : m / 2 ^ t % 2 < 2 := Nat.mod_lt _ (by omega)
        have hrd : m / 2 ^ (t + 1) % d < d := Nat.mod_lt _ hd0
        obtain ⟨N, hN⟩ : ∃ N, m / 2 ^ (t + 1) % d * 2 ^ 1 + m / 2 ^ t % 2 = N := ⟨_, rfl⟩
        rw [hN] at ST
        have hl1 : (limbs (m / 2 ^ (t + 1) % d)).length ≤ 97 := by have := limbs_mono (m := d) (n := m / 2 ^ (t + 1) % d) (by omega); omega
        have hlN : (limbs N).length ≤ 98 := by have q := add_limbs d d 48 hld hld; have := limbs_mono (m := d + d) (n := N) (by omega); omega
        have kE := gEnter rb (m / 2 ^ (t + 1) % d) 1 (m / 2 ^ t % 2) N wr (.inl rfl) (by omega) hN.symm hl1 hX
        rw [show ((1 : Nat) : Int) = 1 from rfl] at kE
        have HST : Hid ((N < d → m / 2 ^ t % d = N ∧ num zs = m / 2 ^ t / d * 2 ^ t) ∧ (d ≤ N → m / 2 ^ t % d = N - d ∧ inR (zs.set (t / 24) (zs.getD (t / 24) 0 + 2 ^ (t % 24))) ∧ num (zs.set (t / 24) (zs.getD (t / 24) 0 + 2 ^ (t % 24))) = m / 2 ^ t / d * 2 ^ t)) := ST
        have hpos : (0 : Int) < ((t + 1 : Nat) : Int) := by omega
        have hrbl := GN.lt hX
        clear ST hN hrd hl1 HZ
        generalize m / 2 ^ t % 2 = x0 at *
        go_wp2_with fail
        refine k0.mono ?_
        rintro e wr ⟨rfl, rfl⟩
        go_wp2_with fail
        refine kE.mono ?_
        rintro e w2 ⟨rfl, X2, t2, -⟩
        have A2 := hA.tn t2 (by simp; omega)
        have D2 := hD.tn t2 (by simp; omega)
        have R2 := hR.tn t2 (by simp; omega)
        have T2 := hT.tn t2 (by simp; omega)
        have Q2 := hQ.tn t2 (by simp; omega)
        have B2 := t2.below hB hbs (by simp; omega)
        have kO := gOrder rb 0 b ob N d w2 (GN.ga X2 hlN) D2
        obtain ⟨c, hc⟩ : ∃ c, cmpI N d = c := ⟨_, rfl⟩
        have hcl := @cmpI_lt N d
        have hcg := @cmpI_ge N d
        rw [hc] at kO hcl hcg
        have hbs2 := B2.size
        clear kE k0 hA hD hR hT hQ hB hX t2 hc
        by_cases hnd : N < d
        · have hc0 : c < 0 := hcl hnd
          have hcd : decide (c < 0) = true := decide_eq_true hc0
          obtain ⟨V1, V2⟩ := HST.out.1 hnd
          have HV : Hid (num zs = m / 2 ^ t / d * 2 ^ t) := V2
          have X3 : GN w2 rb (m / 2 ^ t % d) := by rw [V1]; exact X2
          clear V1 V2 hcl hcg hnd HST X2
          go_wp2_with fail
          refine kO.mono ?_
          rintro e w6 ⟨rfl, b6⟩
          have X6 := GN.below X3 b6 (GN.lt X3)
          have A6 := A2.below b6 A2.lt
          have D6 := D2.below b6 D2.lt
          have R6 := R2.below b6 R2.lt
          have T6 := T2.below b6 T2.lt
          have Q6 := Q2.below b6 Q2.lt
          have B6 := B2.trans (b6.mono hbs2)
          clear kO X3 A2 D2 R2 T2 Q2 B2 b6
          go_wp2
          go_step3
          (try simp only [Exit.inBlock, Exit.then, Exit.jump])
          exact ⟨rfl, ⟨rb, _, _, _, _, _, _, _, _, _, _, _, _, _, _, _, _, _, _, _, _, _, _, _, _, _, _, _, _, _, _, _, _, _, _, _, _, _, _, _, _, _, _, _, _, _, _, _, _, _, _, _, _, _, _, _, _, _, _, _, _, _, _, _, _, _, rfl, t, zs, by omega, rfl, hq3, hzR, HV, hzz, Q6, X6, A6, D6, R6, T6, B6⟩, by simp [intOf]; omega⟩
        · have hc0 : ¬ c < 0 := by have := hcg (by omega); omega
          have hcd : decide (c < 0) = false := decide_eq_false hc0
          obtain ⟨V1, V2, V3⟩ := HST.out.2 (by omega)
          have hL := fun W (h1 : GN W rb N) (h2 : GA W b ob d) => gLower rb b ob N d W hlN (by omega) (by omega) h1 h2
          rw [← V1] at hL
          clear hcl hcg hnd HST
          go_wp2_with fail
          refine kO.mono ?_
          rintro e w6 ⟨rfl, b6⟩
          have X6 := GN.below X2 b6 (GN.lt X2)
          have A6 := A2.below b6 A2.lt
          have D6 := D2.below b6 D2.lt
          have R6 := R2.below b6 R2.lt
          have T6 := T2.below b6 T2.lt
          have Q6 := Q2.below b6 Q2.lt
          have B6 := B2.trans (b6.mono hbs2)
          have hbs6 := B6.size
          clear kO X2 A2 D2 R2 T2 Q2 B2 b6
          go_wp2_with fail
          refine (hL w6 X6 D6).mono ?_
          rintro e w7 ⟨rfl, X7, t7, -⟩
          have A7 := A6.tn t7 (by simp; omega)
          have D7 := D6.tn t7 (by simp; omega)
          have R7 := R6.tn t7 (by simp; omega)
          have T7 := T6.tn t7 (by simp; omega)
          have Q7 := Q6.tn t7 (by simp; omega)
          have B7 := t7.below B6 hbs6 (by simp; omega)
          have c0 := Q7.word (t / 24) (by omega)
          have f0 := Q7.free (t / 24)
          obtain ⟨x, hx⟩ : ∃ x, zs.getD (t / 24) 0 = x := ⟨_, rfl⟩
          have gx0 : 0 ≤ x := by rw [← hx]; exact (inR_getD hzR _).1
          have hq24 : (t : Int) / 24 = ((t / 24 : Nat) : Int) := by omega
          have hs24 : (t : Int) % 24 = ((t % 24 : Nat) : Int) := by omega
          have hs1 : t % 24 < 24 := by omega
          have ht0 : t ≤ 100000 := by omega
          rw [hx] at c0 V2 V3 hroom
          have P0 := two_pow_pos (t % 24)
          have HFX : Hid (∀ v, GB (w7.setCell ⟨w.heap.size + 1 + 1, t / 24, none⟩ (.int .u32 v)) (w.heap.size + 1 + 1) (zs.set (t / 24) v) 0) := fun v => Q7.setW (t / 24) (by omega) v
          have HFZ : Hid (∀ v j, L ≤ j → (zs.set (t / 24) v).getD j 0 = 0) := fun v j hj => by rw [gset_ne _ (by omega)]; exact hzz j hj
          have HALL : Hid (GN w7 rb (m / 2 ^ t % d) ∧ GA w7 a oa m ∧ GA w7 b ob d ∧ GB w7 w.heap.size (List.replicate 98 0) 0 ∧ GB w7 (w.heap.size + 1) (List.replicate 98 0) 0 ∧ Below w.heap.size w w7) := ⟨X7, A7, D7, R7, T7, B7⟩
          have HVV : Hid (inR (zs.set (t / 24) (x + 2 ^ (t % 24))) ∧ num (zs.set (t / 24) (x + 2 ^ (t % 24))) = m / 2 ^ t / d * 2 ^ t) := ⟨V2, V3⟩
          obtain ⟨q, hq⟩ : ∃ q, t / 24 = q := ⟨_, rfl⟩
          obtain ⟨P, hP⟩ : ∃ P, (2 : Int) ^ (t % 24) = P := ⟨_, rfl⟩
          rw [hq] at c0 f0 hq24 htL HFX HFZ HVV
          rw [hP] at P0 HVV hroom
          obtain ⟨sh, hsh⟩ : ∃ sh, t % 24 = sh := ⟨_, rfl⟩
          rw [hsh] at hs24 hs1 hP
          have hq98 : (q : Int) < 98 := by omega
          clear X7 A7 D7 R7 T7 B7 Q7 V1 V2 V3 hL X6 A6 D6 R6 T6 Q6 B6 t7 hx hq hsh hzz hzR
          have a1 : (t : Int).tdiv 24 = (q : Int) := by rw [Int.tdiv_eq_ediv_of_nonneg (by omega)]; exact hq24
          have a2 : (t : Int).tmod 24 = (sh : Int) := by rw [Int.tmod_eq_emod_of_nonneg (by omega)]; exact hs24
          have a3 : IntKind.i64.wrap (q : Int) = (q : Int) := by rw [IntKind.wrap_i64]; omega
          have a4 : IntKind.u32.wrap P = P := by rw [IntKind.wrap_u32]; omega
          have a5 : IntKind.u32.wrap (x + P) = x + P := by rw [IntKind.wrap_u32]; omega
          have a6 : IntKind.i64.wrap ((t : Int).tdiv 24) = (q : Int) := by rw [a1, a3]
          go_wp2_with fail
          go_region
          have T8 : Tn [w.heap.size + 1 + 1] w7 (w7.setCell ⟨w.heap.size + 1 + 1, q, none⟩ (.int .u32 (x + P))).drew := ((Tn.refl [w.heap.size + 1 + 1] w7).cell _ (by simp) _).trans ⟨rfl, rfl, rfl, Nat.le_refl _, fun _ _ _ => rfl⟩
          have Q8 := (HFX.out (x + P)).drew
          obtain ⟨y1, y2, y3, y4, y5, y6⟩ := HALL.out
          have X8 := GN.tn y1 T8 (by simp; omega)
          have A8 := y2.tn T8 (by simp; omega)
          have D8 := y3.tn T8 (by simp; omega)
          have R8 := y4.tn T8 (by simp; omega)
          have T9 := y5.tn T8 (by simp)
          have B8 := T8.below y6 y6.size (by simp; omega)
          clear y1 y2 y3 y4 y5 y6 T8
          generalize (w7.setCell ⟨w.heap.size + 1 + 1, q, none⟩ (.int .u32 (x + P))).drew = w8 at *
          go_wp2
          go_roundw
          case rel => exact ⟨t, zs.set q (x + P), by omega, rfl, HVV.out.1, HVV.out.2, HFZ.out _, Q8, X8, A8, D8, R8, T9, B8⟩
          case measure => simp [intOf])

end Go.Proofs.Ytjelmbkngjlefaa
