/- The program's betweenRoot, by its contract. -/
import Derived.Test.YtddakeohamefiaaGAt
import Derived.Test.YtddakeohamefiaaGRoot
import Derived.Test.YtddakeohamefiaaGB
import Derived.Test.YtddakeohamefiaaRootM
namespace Go.Proofs.Ytddakeohamefiaa
open Go.RowKit
set_option linter.unusedSimpArgs false

theorem bC_setS (n : Nat) (s s' : Bool) (h : Int) (hl : (limbs n).length ≤ 98) : (bC n s h).setIfInBounds 99 (.bool s') = bC n s' h := by
  obtain ⟨a1, a2, a3, a4⟩ := bC_facts n s h hl
  obtain ⟨b1, b2, b3, b4⟩ := bC_facts n s' h hl
  apply Array.ext_getElem?
  intro i
  rw [Array.getElem?_setIfInBounds]
  by_cases h9 : 99 = i
  · subst h9; rw [if_pos rfl, if_pos (by omega), b3]
  · rw [if_neg h9]
    by_cases h1 : i < 99
    · rw [a2 i h1, b2 i h1]
    · by_cases h2 : i = 100
      · subst h2; rw [a4, b4]
      · rw [Array.getElem?_eq_none (by omega), Array.getElem?_eq_none (by omega)]
theorem bC_setH (n : Nat) (s : Bool) (h h' : Int) (hl : (limbs n).length ≤ 98) : (bC n s h).setIfInBounds 100 (.int .i64 h') = bC n s h' := by
  obtain ⟨a1, a2, a3, a4⟩ := bC_facts n s h hl
  obtain ⟨b1, b2, b3, b4⟩ := bC_facts n s h' hl
  apply Array.ext_getElem?
  intro i
  rw [Array.getElem?_setIfInBounds]
  by_cases h9 : 100 = i
  · subst h9; rw [if_pos rfl, if_pos (by omega), b4]
  · rw [if_neg h9]
    by_cases h1 : i < 99
    · rw [a2 i h1, b2 i h1]
    · by_cases h2 : i = 99
      · subst h2; rw [a3, b3]
      · rw [Array.getElem?_eq_none (by omega), Array.getElem?_eq_none (by omega)]
theorem BN.setS {w : World} {b n : Nat} {s : Bool} {h : Int} (q : BN w b n s h) (s' : Bool) : BN (w.setCell ⟨b, 99, none⟩ (.bool s')) b n s' h :=
  ⟨by rw [heap_setCell_same w b 99 _ _ _ q.blk, bC_setS n s s' h q.len], q.len⟩
theorem BN.setH {w : World} {b n : Nat} {s : Bool} {h : Int} (q : BN w b n s h) (h' : Int) : BN (w.setCell ⟨b, 100, none⟩ (.int .i64 h')) b n s h' :=
  ⟨by rw [heap_setCell_same w b 100 _ _ _ q.blk, bC_setH n s h h' q.len], q.len⟩
theorem BN.free {w : World} {b n : Nat} {s : Bool} {h : Int} (q : BN w b n s h) (j : Nat) : w.frozen? ⟨b, j, none⟩ = false := frozen_of_row w b j _ _ q.blk
theorem ZB.set {w : World} {b : Nat} (q : ZB w b) (p : Addr) (hp : b ≠ p.block) (v : Value) : ZB (w.setCell p v) b :=
  q.tn (Tn.cell (Tn.refl [p.block] w) p (by simp) v) (by simpa using hp)

set_option maxRecDepth 20000 in
set_option maxHeartbeats 6400000 in
/-- betweenRoot: the root of a by 2^k. -/
theorem bRoot (a oa m k : Nat) (w : World) (hl : (limbs m).length ≤ 70) (hk : k ≤ 600) (ha : GA w a oa m) :
    Calls Try.prog 103 #[.pointer (some ⟨a, oa, none⟩), .int .i64 k] w fun e w' => e = .returned (.agg (bC (isqrt (m * 4 / 2 ^ k) / 2) (rootWh m k) (rootHf m k))) ∧ Below w.heap.size w w' := by
  obtain ⟨F, hF⟩ : ∃ F, m * 4 = F := ⟨_, rfl⟩
  have hlF : (limbs F).length ≤ 71 := by
    rw [← hF]
    have := mul_limbs_len m 4
    have h4 : (limbs 4).length ≤ 1 := limbs_len_le _ 1 (by decide)
    omega
  have kU : ∀ W, GA W a oa m → Calls Try.prog 87 #[.pointer (some ⟨a, oa, none⟩), .int .i64 2] W fun e w' => e = .returned (.agg (gC F)) ∧ Below W.heap.size W w' := fun W h => by
    have := gUp a oa m 2 W (by omega) (by omega) h
    rw [show m * 2 ^ 2 = F from hF] at this
    exact this
  have kD := fun f W (q : GA W f 0 F) => gDown f 0 F k W (by omega) (by omega) q
  have hlP : (limbs (F / 2 ^ k)).length ≤ 71 := Nat.le_trans (limbs_mono (Nat.div_le_self _ _)) hlF
  have kR := fun f W (q : GA W f 0 (F / 2 ^ k)) => gRoot f 0 (F / 2 ^ k) W (by omega) q
  obtain ⟨iq1, iq2⟩ := isqrt_spec (F / 2 ^ k)
  have hdl := down_len F k
  unfold rootWh rootHf
  rw [hF]
  obtain ⟨T, hT⟩ : ∃ T, isqrt (F / 2 ^ k) = T := ⟨_, rfl⟩
  rw [hT] at kR iq1 iq2
  rw [hT]
  have hlS : (limbs (T * T)).length ≤ (limbs (F / 2 ^ k)).length := limbs_mono iq1
  have hlS2 : (limbs (T * T)).length ≤ 71 := Nat.le_trans hlS hlP
  have hlT : (limbs T).length ≤ 71 := Nat.le_trans (limbs_mono (Nat.le_trans (Nat.le_mul_self T) iq1)) hlP
  have hT2 : 2 * (limbs T).length ≤ 98 := by
    have h1 : T < 16777216 ^ 36 := by
      apply sq_lt
      have h2 := limbs_lt (F / 2 ^ k)
      have h3 : (16777216 : Nat) ^ (limbs (F / 2 ^ k)).length ≤ 16777216 ^ 72 := Nat.pow_le_pow_right (by omega) (by omega)
      have h4 : (16777216 : Nat) ^ 36 * 16777216 ^ 36 = 16777216 ^ 72 := by rw [← Nat.pow_add]
      rw [h4]
      exact Nat.lt_of_le_of_lt iq1 (Nat.lt_of_lt_of_le h2 h3)
    have := limbs_len_le T 36 h1
    omega
  have kM := fun f W (q : GA W f 0 T) => gTimes f 0 f 0 T T W (by omega) q q
  have hlu : k / 24 + (limbs (T * T)).length + 1 ≤ 98 := by
    rcases hdl with h | h
    · rw [h, limbs_zero] at hlS; simp at hlS; rw [hlS]; simp; omega
    · omega
  have kV := fun f W (q : GA W f 0 (T * T)) => gUp f 0 (T * T) k W hlu (by omega) q
  have hlB : (limbs (T * T * 2 ^ k)).length ≤ 71 := by
    refine Nat.le_trans (limbs_mono (m := F) ?_) hlF
    exact Nat.le_trans (Nat.mul_le_mul_right _ iq1) (Nat.div_mul_le_self _ _)
  have kO := fun f f' W (q1 : GA W f 0 (T * T * 2 ^ k)) (q2 : GA W f' 0 F) => gOrder f 0 f' 0 (T * T * 2 ^ k) F W q1 q2
  have kH : ∀ f W, GA W f 0 T → Calls Try.prog 88 #[.pointer (some ⟨f, 0, none⟩), .int .i64 1] W fun e w' => e = .returned (.agg (gC (T / 2))) ∧ Below W.heap.size W w' := fun f W h => by
    have := gDown f 0 T 1 W (by omega) (by omega) h
    rw [Nat.pow_one] at this
    exact this
  have hlH : (limbs (T / 2)).length ≤ 71 := Nat.le_trans (limbs_mono (Nat.div_le_self _ _)) hlT
  have kB : ∀ f W, GA W f 0 T → Calls Try.prog 119 #[.pointer (some ⟨f, 0, none⟩), .int .i64 0] W fun e w' => e = .returned (.int .u32 ((T % 2 : Nat) : Int)) ∧ w' = W := fun f W hW => by
    have := gBit f 0 T 0 W (by omega) hW
    rw [Nat.pow_zero, Nat.div_one] at this
    exact this
  have hcm : (cmpI (T * T * 2 ^ k) F < 0 ↔ T * T * 2 ^ k < F) ∧ -1 ≤ cmpI (T * T * 2 ^ k) F ∧ cmpI (T * T * 2 ^ k) F ≤ 1 := by
    unfold cmpI
    split
    · simp [*]
    · split <;> simp [*]
  generalize cmpI (T * T * 2 ^ k) F = cm at *
  generalize T * T * 2 ^ k = bk at *
  generalize T * T = sq at *
  generalize T / 2 = hf at *
  generalize F / 2 ^ k = pt at *
  have B := alloc_below w (.cells Try.zeroCells118 118)
  have Z := ZB.made0 w
  have HA := ha.below B ha.lt
  have hal := ha.lt
  clear ha hF hT iq1 iq2 hlS hT2 hdl hlu
  obtain ⟨rs, hrs⟩ : ∃ s, (if T % 2 = 0 then decide (¬ (bk < F)) else false) = s := ⟨_, rfl⟩
  obtain ⟨rh, hrh⟩ : ∃ s, (if T % 2 = 0 then (-1 : Int) else if bk < F then 1 else 0) = s := ⟨_, rfl⟩
  rw [hrs, hrh]
  have HRS : Hid ((if T % 2 = 0 then decide (¬ (bk < F)) else false) = rs) := hrs
  have HRH : Hid ((if T % 2 = 0 then (-1 : Int) else if bk < F then 1 else 0) = rh) := hrh
  have HCM : Hid (cm < 0 ↔ bk < F) := hcm.1
  have hcm1 := hcm.2
  clear hrs hrh hcm
  go_enter Try.func103, Try.ntmps103
  go_wp2_with fail
  refine (kU _ HA).mono ?_
  generalize w.alloc (.cells Try.zeroCells118 118) = w0 at *
  rintro e u1 ⟨rfl, c1⟩
  replace Z := Z.below c1 Z.lt
  replace HA := HA.below c1 HA.lt
  replace B := B.trans (c1.mono B.size)
  clear c1
  have lZ : w.heap.size < u1.heap.size := Z.lt
  have lHA : a < u1.heap.size := HA.lt
  have Q0 := GB.made0 u1
  replace Z := Z.alloc (.cells Try.zeroCells80 80)
  replace HA := HA.below (alloc_below u1 (.cells Try.zeroCells80 80)) HA.lt
  have hBQ := B.size
  replace B := B.alloc B.size (.cells Try.zeroCells80 80)
  go_wp2_with (first
    | (go_at_call 88; fail)
    | ((with_reducible (refine wpL_id ?_)); refine wpN_store rfl (.tmp 5) (.tmp 13) rfl u1.heap.size _ _ (F) rfl rfl Q0 (by omega) ?_; intro u2 Q tQ zQ; replace Z := Z.tn tQ (by simp; omega); replace HA := HA.tn tQ (by simp; omega); replace B := tQ.below B B.size (by simp; omega); clear tQ zQ Q0))
  generalize u1.heap.size = f5 at *
  refine (kD _ _ (GN.ga Q (by omega))).mono ?_
  rintro e u3 ⟨rfl, c3⟩
  replace Z := Z.below c3 Z.lt
  replace HA := HA.below c3 HA.lt
  replace Q := GN.below Q c3 (GN.lt Q)
  replace B := B.trans (c3.mono B.size)
  clear c3
  have lZ : w.heap.size < u3.heap.size := Z.lt
  have lHA : a < u3.heap.size := HA.lt
  have lQ : f5 < u3.heap.size := (GN.lt Q)
  have C0 := GB.made0 u3
  replace Z := Z.alloc (.cells Try.zeroCells80 80)
  replace HA := HA.below (alloc_below u3 (.cells Try.zeroCells80 80)) HA.lt
  replace Q := GN.alloc Q (.cells Try.zeroCells80 80)
  have hBC := B.size
  replace B := B.alloc B.size (.cells Try.zeroCells80 80)
  go_wp2_with (first
    | (go_at_call 118; fail)
    | ((with_reducible (refine wpL_id ?_)); refine wpN_store rfl (.tmp 6) (.tmp 15) rfl u3.heap.size _ _ (pt) rfl rfl C0 (by omega) ?_; intro u4 C tC zC; replace Z := Z.tn tC (by simp; omega); replace HA := HA.tn tC (by simp; omega); replace Q := GN.tn Q tC (by simp; omega); replace B := tC.below B B.size (by simp; omega); clear tC zC C0))
  generalize u3.heap.size = f6 at *
  refine (kR _ _ (GN.ga C (by omega))).mono ?_
  rintro e u5 ⟨rfl, c5⟩
  replace Z := Z.below c5 Z.lt
  replace HA := HA.below c5 HA.lt
  replace Q := GN.below Q c5 (GN.lt Q)
  replace C := GN.below C c5 (GN.lt C)
  replace B := B.trans (c5.mono B.size)
  clear c5
  have lZ : w.heap.size < u5.heap.size := Z.lt
  have lHA : a < u5.heap.size := HA.lt
  have lQ : f5 < u5.heap.size := (GN.lt Q)
  have lC : f6 < u5.heap.size := (GN.lt C)
  have U0 := GB.made0 u5
  replace Z := Z.alloc (.cells Try.zeroCells80 80)
  replace HA := HA.below (alloc_below u5 (.cells Try.zeroCells80 80)) HA.lt
  replace Q := GN.alloc Q (.cells Try.zeroCells80 80)
  replace C := GN.alloc C (.cells Try.zeroCells80 80)
  have hBU := B.size
  replace B := B.alloc B.size (.cells Try.zeroCells80 80)
  go_wp2_with (first
    | (go_at_call 83; fail)
    | ((with_reducible (refine wpL_id ?_)); refine wpN_store rfl (.tmp 7) (.tmp 16) rfl u5.heap.size _ _ (T) rfl rfl U0 (by omega) ?_; intro u6 U tU zU; replace Z := Z.tn tU (by simp; omega); replace HA := HA.tn tU (by simp; omega); replace Q := GN.tn Q tU (by simp; omega); replace C := GN.tn C tU (by simp; omega); replace B := tU.below B B.size (by simp; omega); clear tU zU U0))
  generalize u5.heap.size = f7 at *
  refine (kM _ _ (GN.ga U (by omega))).mono ?_
  rintro e u7 ⟨rfl, c7⟩
  replace Z := Z.below c7 Z.lt
  replace HA := HA.below c7 HA.lt
  replace Q := GN.below Q c7 (GN.lt Q)
  replace C := GN.below C c7 (GN.lt C)
  replace U := GN.below U c7 (GN.lt U)
  replace B := B.trans (c7.mono B.size)
  clear c7
  have lZ : w.heap.size < u7.heap.size := Z.lt
  have lHA : a < u7.heap.size := HA.lt
  have lQ : f5 < u7.heap.size := (GN.lt Q)
  have lC : f6 < u7.heap.size := (GN.lt C)
  have lU : f7 < u7.heap.size := (GN.lt U)
  have R0 := GB.made0 u7
  replace Z := Z.alloc (.cells Try.zeroCells80 80)
  replace HA := HA.below (alloc_below u7 (.cells Try.zeroCells80 80)) HA.lt
  replace Q := GN.alloc Q (.cells Try.zeroCells80 80)
  replace C := GN.alloc C (.cells Try.zeroCells80 80)
  replace U := GN.alloc U (.cells Try.zeroCells80 80)
  have hBR := B.size
  replace B := B.alloc B.size (.cells Try.zeroCells80 80)
  go_wp2_with (first
    | (go_at_call 87; fail)
    | ((with_reducible (refine wpL_id ?_)); refine wpN_store rfl (.tmp 8) (.tmp 17) rfl u7.heap.size _ _ (sq) rfl rfl R0 (by omega) ?_; intro u8 R tR zR; replace Z := Z.tn tR (by simp; omega); replace HA := HA.tn tR (by simp; omega); replace Q := GN.tn Q tR (by simp; omega); replace C := GN.tn C tR (by simp; omega); replace U := GN.tn U tR (by simp; omega); replace B := tR.below B B.size (by simp; omega); clear tR zR R0))
  generalize u7.heap.size = f8 at *
  refine (kV _ _ (GN.ga R (by omega))).mono ?_
  rintro e u9 ⟨rfl, c9⟩
  replace Z := Z.below c9 Z.lt
  replace HA := HA.below c9 HA.lt
  replace Q := GN.below Q c9 (GN.lt Q)
  replace C := GN.below C c9 (GN.lt C)
  replace U := GN.below U c9 (GN.lt U)
  replace R := GN.below R c9 (GN.lt R)
  replace B := B.trans (c9.mono B.size)
  clear c9
  have lZ : w.heap.size < u9.heap.size := Z.lt
  have lHA : a < u9.heap.size := HA.lt
  have lQ : f5 < u9.heap.size := (GN.lt Q)
  have lC : f6 < u9.heap.size := (GN.lt C)
  have lU : f7 < u9.heap.size := (GN.lt U)
  have lR : f8 < u9.heap.size := (GN.lt R)
  have V0 := GB.made0 u9
  replace Z := Z.alloc (.cells Try.zeroCells80 80)
  replace HA := HA.below (alloc_below u9 (.cells Try.zeroCells80 80)) HA.lt
  replace Q := GN.alloc Q (.cells Try.zeroCells80 80)
  replace C := GN.alloc C (.cells Try.zeroCells80 80)
  replace U := GN.alloc U (.cells Try.zeroCells80 80)
  replace R := GN.alloc R (.cells Try.zeroCells80 80)
  have hBV := B.size
  replace B := B.alloc B.size (.cells Try.zeroCells80 80)
  go_wp2_with (first
    | (go_at_call 70; fail)
    | ((with_reducible (refine wpL_id ?_)); refine wpN_store rfl (.tmp 9) (.tmp 19) rfl u9.heap.size _ _ (bk) rfl rfl V0 (by omega) ?_; intro u10 V tV zV; replace Z := Z.tn tV (by simp; omega); replace HA := HA.tn tV (by simp; omega); replace Q := GN.tn Q tV (by simp; omega); replace C := GN.tn C tV (by simp; omega); replace U := GN.tn U tV (by simp; omega); replace R := GN.tn R tV (by simp; omega); replace B := tV.below B B.size (by simp; omega); clear tV zV V0))
  generalize u9.heap.size = f9 at *
  refine (kO _ _ _ (GN.ga V (by omega)) (GN.ga Q (by omega))).mono ?_
  rintro e u11 ⟨rfl, c11⟩
  replace Z := Z.below c11 Z.lt
  replace HA := HA.below c11 HA.lt
  replace Q := GN.below Q c11 (GN.lt Q)
  replace C := GN.below C c11 (GN.lt C)
  replace U := GN.below U c11 (GN.lt U)
  replace R := GN.below R c11 (GN.lt R)
  replace V := GN.below V c11 (GN.lt V)
  replace B := B.trans (c11.mono B.size)
  clear c11
  go_wp2_with fail
  refine (kH _ _ (GN.ga U (by omega))).mono ?_
  rintro e u12 ⟨rfl, c12⟩
  replace Z := Z.below c12 Z.lt
  replace HA := HA.below c12 HA.lt
  replace Q := GN.below Q c12 (GN.lt Q)
  replace C := GN.below C c12 (GN.lt C)
  replace U := GN.below U c12 (GN.lt U)
  replace R := GN.below R c12 (GN.lt R)
  replace V := GN.below V c12 (GN.lt V)
  replace B := B.trans (c12.mono B.size)
  clear c12
  have lZ : w.heap.size < u12.heap.size := Z.lt
  have lHA : a < u12.heap.size := HA.lt
  have lQ : f5 < u12.heap.size := (GN.lt Q)
  have lC : f6 < u12.heap.size := (GN.lt C)
  have lU : f7 < u12.heap.size := (GN.lt U)
  have lR : f8 < u12.heap.size := (GN.lt R)
  have lV : f9 < u12.heap.size := (GN.lt V)
  have Y0 := ZB.made0 u12
  replace Z := Z.alloc (.cells Try.zeroCells118 118)
  replace HA := HA.below (alloc_below u12 (.cells Try.zeroCells118 118)) HA.lt
  replace Q := GN.alloc Q (.cells Try.zeroCells118 118)
  replace C := GN.alloc C (.cells Try.zeroCells118 118)
  replace U := GN.alloc U (.cells Try.zeroCells118 118)
  replace R := GN.alloc R (.cells Try.zeroCells118 118)
  replace V := GN.alloc V (.cells Try.zeroCells118 118)
  have hBY := B.size
  replace B := B.alloc B.size (.cells Try.zeroCells118 118)
  go_wp2_with (first
    | (go_at_call 119; fail)
    | ((with_reducible (refine wpL_id ?_)); refine wpB_build rfl (.tmp 22) rfl hf rfl (by omega) ?_)
    | ((with_reducible (refine wpL_id ?_)); refine wpB_store rfl (.tmp 11) (.tmp 23) rfl u12.heap.size hf false 0 rfl rfl Y0 (by omega) ?_; intro v1 M t1 z1; replace Z := Z.tn t1 (by simp; omega); replace HA := HA.tn t1 (by simp; omega); replace Q := GN.tn Q t1 (by simp; omega); replace C := GN.tn C t1 (by simp; omega); replace U := GN.tn U t1 (by simp; omega); replace R := GN.tn R t1 (by simp; omega); replace V := GN.tn V t1 (by simp; omega); replace B := t1.below B B.size (by simp; omega); clear t1 z1 Y0))
  generalize u12.heap.size = f11 at *
  refine (kB _ _ (GN.ga U (by omega))).mono ?_
  rintro e v2 ⟨rfl, rfl⟩
  have c9 := M.whole
  have c10 := M.half
  have fr9 := M.free 99
  have fr10 := M.free 100
  have hq2 : T % 2 < 2 := Nat.mod_lt _ (by omega)
  have hs1 : (cm < 0) = (bk < F) := propext HCM.out
  clear kU kD kR kM kV kO kH kB Q C U R V HA
  by_cases hp : T % 2 = 0
  · by_cases hsh : bk < F
    · skip
      have e0 : (((T % 2 : Nat) : Int) == 0) = true := by rw [hp]; rfl
      have e3 : (((T % 2 : Nat) : Int) = 0) := by rw [hp]; rfl
      have e1 : decide (cm < 0) = true := decide_eq_true (by rw [hs1]; exact hsh)
      have e2 : (cm < 0) := by rw [hs1]; exact hsh
      have M2 := (M.setS false).setH (-1)
      have Z2 := (Z.set ⟨f11, 99, none⟩ (by show w.heap.size ≠ f11; omega) (.bool false)).set ⟨f11, 100, none⟩ (by show w.heap.size ≠ f11; omega) (.int .i64 (-1))
      have B2 := (B.setCell (p := ⟨f11, 99, none⟩) (by show w.heap.size ≤ f11; omega) (.bool false)).setCell (p := ⟨f11, 100, none⟩) (by show w.heap.size ≤ f11; omega) (.int .i64 (-1))
      have hr1 : rs = false := by rw [← HRS.out]; simp [hp, hsh]
      have hr2 : rh = -1 := by rw [← HRH.out]; simp [hp, hsh]
      subst hr1 hr2
      clear HRS HRH HCM hs1 hsh M Z B hp
      go_wp2_with (first
        | ((with_reducible (refine wpL_id ?_)); refine wpB_load rfl (.tmp 11) rfl f11 hf false (-1) rfl M2 ?_)
        | ((with_reducible (refine wpL_id ?_)); refine wpB_store rfl (.tmp 4) (.tmp 34) rfl w.heap.size hf false (-1) rfl rfl Z2 (by omega) ?_; intro w5 g5 t5 s5))
      (try simp only [Exit.inBlock, Exit.then])
      refine bodyPost_ret (v := .agg (bC hf false (-1))) ?_ rfl ⟨rfl, t5.below B2 B2.size (by simp)⟩
      exact results_between rfl _ _ w.heap.size _ _ _ rfl g5
    · skip
      have e0 : (((T % 2 : Nat) : Int) == 0) = true := by rw [hp]; rfl
      have e3 : (((T % 2 : Nat) : Int) = 0) := by rw [hp]; rfl
      have e1 : decide (cm < 0) = false := decide_eq_false (by rw [hs1]; exact hsh)
      have e2 : ¬ (cm < 0) := by rw [hs1]; exact hsh
      have M2 := (M.setS true).setH (-1)
      have Z2 := (Z.set ⟨f11, 99, none⟩ (by show w.heap.size ≠ f11; omega) (.bool true)).set ⟨f11, 100, none⟩ (by show w.heap.size ≠ f11; omega) (.int .i64 (-1))
      have B2 := (B.setCell (p := ⟨f11, 99, none⟩) (by show w.heap.size ≤ f11; omega) (.bool true)).setCell (p := ⟨f11, 100, none⟩) (by show w.heap.size ≤ f11; omega) (.int .i64 (-1))
      have hr1 : rs = true := by rw [← HRS.out]; simp [hp, hsh]
      have hr2 : rh = -1 := by rw [← HRH.out]; simp [hp, hsh]
      subst hr1 hr2
      clear HRS HRH HCM hs1 hsh M Z B hp
      go_wp2_with (first
        | ((with_reducible (refine wpL_id ?_)); refine wpB_load rfl (.tmp 11) rfl f11 hf true (-1) rfl M2 ?_)
        | ((with_reducible (refine wpL_id ?_)); refine wpB_store rfl (.tmp 4) (.tmp 34) rfl w.heap.size hf true (-1) rfl rfl Z2 (by omega) ?_; intro w5 g5 t5 s5))
      (try simp only [Exit.inBlock, Exit.then])
      refine bodyPost_ret (v := .agg (bC hf true (-1))) ?_ rfl ⟨rfl, t5.below B2 B2.size (by simp)⟩
      exact results_between rfl _ _ w.heap.size _ _ _ rfl g5
  · by_cases hsh : bk < F
    · skip
      have e0 : (((T % 2 : Nat) : Int) == 0) = false := by rw [beq_eq_false_iff_ne]; omega
      have e3 : ¬ (((T % 2 : Nat) : Int) = 0) := by omega
      have e1 : decide (cm < 0) = true := decide_eq_true (by rw [hs1]; exact hsh)
      have e2 : (cm < 0) := by rw [hs1]; exact hsh
      have M2 := M.setH 1
      have Z2 := Z.set ⟨f11, 100, none⟩ (by show w.heap.size ≠ f11; omega) (.int .i64 1)
      have B2 := B.setCell (p := ⟨f11, 100, none⟩) (by show w.heap.size ≤ f11; omega) (.int .i64 1)
      have hr1 : rs = false := by rw [← HRS.out]; simp [hp, hsh]
      have hr2 : rh = 1 := by rw [← HRH.out]; simp [hp, hsh]
      subst hr1 hr2
      clear HRS HRH HCM hs1 hsh M Z B hp
      go_wp2_with (first
        | ((with_reducible (refine wpL_id ?_)); refine wpB_load rfl (.tmp 11) rfl f11 hf false (1) rfl M2 ?_)
        | ((with_reducible (refine wpL_id ?_)); refine wpB_store rfl (.tmp 4) (.tmp 34) rfl w.heap.size hf false (1) rfl rfl Z2 (by omega) ?_; intro w5 g5 t5 s5))
      (try simp only [Exit.inBlock, Exit.then])
      refine bodyPost_ret (v := .agg (bC hf false (1))) ?_ rfl ⟨rfl, t5.below B2 B2.size (by simp)⟩
      exact results_between rfl _ _ w.heap.size _ _ _ rfl g5
    · skip
      have e0 : (((T % 2 : Nat) : Int) == 0) = false := by rw [beq_eq_false_iff_ne]; omega
      have e3 : ¬ (((T % 2 : Nat) : Int) = 0) := by omega
      have e1 : decide (cm < 0) = false := decide_eq_false (by rw [hs1]; exact hsh)
      have e2 : ¬ (cm < 0) := by rw [hs1]; exact hsh
      have M2 := M
      have Z2 := Z
      have B2 := B
      have hr1 : rs = false := by rw [← HRS.out]; simp [hp, hsh]
      have hr2 : rh = 0 := by rw [← HRH.out]; simp [hp, hsh]
      subst hr1 hr2
      clear HRS HRH HCM hs1 hsh M Z B hp
      go_wp2_with (first
        | ((with_reducible (refine wpL_id ?_)); refine wpB_load rfl (.tmp 11) rfl f11 hf false (0) rfl M2 ?_)
        | ((with_reducible (refine wpL_id ?_)); refine wpB_store rfl (.tmp 4) (.tmp 34) rfl w.heap.size hf false (0) rfl rfl Z2 (by omega) ?_; intro w5 g5 t5 s5))
      (try simp only [Exit.inBlock, Exit.then])
      refine bodyPost_ret (v := .agg (bC hf false (0))) ?_ rfl ⟨rfl, t5.below B2 B2.size (by simp)⟩
      exact results_between rfl _ _ w.heap.size _ _ _ rfl g5

end Go.Proofs.Ytddakeohamefiaa
