/- Several small texts in one: GAt, BRound, IRoundF, Moved, MovedS, GRootB, RootedB, MovedF. -/
import Derived.Test.YtlpfjpbnedankaaGY
import Derived.Test.YtlpfjpbnedankaaSgB
import Derived.Test.YtlpfjpbnedankaaNB
import Derived.Test.YtlpfjpbnedankaaGC
import Derived.Test.YtlpfjpbnedankaaSC
import Derived.Test.YtlpfjpbnedankaaSWhole
import Derived.Test.YtlpfjpbnedankaaPSB
import Derived.Test.YtlpfjpbnedankaaGB
/- The program's betweenAt, by its contract. -/
namespace Go.Proofs.Ytlpfjpbnedankaa
open Go.RowKit
set_option linter.unusedSimpArgs false

theorem pow_len (k L : Nat) (h : k < 24 * L) : (limbs (2 ^ k)).length ≤ L := limbs_len_le _ L (by rw [basePowG]; exact Nat.pow_lt_pow_right (by omega) h)

set_option maxRecDepth 20000 in
set_option maxHeartbeats 3200000 in
/-- betweenAt: a by 2^k. -/
theorem bAt (a oa m k : Nat) (w : World) (hl : (limbs m).length ≤ 96) (hk : k ≤ 600) (ha : GA w a oa m) :
    Calls Try.prog 110 #[.pointer (some ⟨a, oa, none⟩), .int .i64 k] w fun e w' => e = .returned (.agg (bC (m / 2 ^ k) (decide (m % 2 ^ k = 0)) (cmpI (m % 2 ^ k * 2) (2 ^ k)))) ∧ Below w.heap.size w w' := by
  have hq1 : (limbs (m / 2 ^ k)).length ≤ 96 := Nat.le_trans (limbs_mono (Nat.div_le_self _ _)) hl
  have hq2 : k / 24 + (limbs (m / 2 ^ k)).length + 1 ≤ 98 := by
    rcases down_len m k with h | h
    · rw [h, limbs_zero]; simp; omega
    · omega
  have hq3 : (limbs (m / 2 ^ k * 2 ^ k)).length ≤ 96 := Nat.le_trans (limbs_mono (Nat.div_mul_le_self _ _)) hl
  have hle : m / 2 ^ k * 2 ^ k ≤ m := Nat.div_mul_le_self _ _
  have hr : m - m / 2 ^ k * 2 ^ k = m % 2 ^ k := by have := Nat.mod_add_div m (2 ^ k); rw [Nat.mul_comm] at this; omega
  have hr1 : (limbs (m % 2 ^ k)).length ≤ 96 := Nat.le_trans (limbs_mono (Nat.mod_le _ _)) hl
  obtain ⟨u, hu⟩ : ∃ u : Nat, u = 1 := ⟨1, rfl⟩
  have hlu : (limbs u).length ≤ 1 := limbs_len_le u 1 (by omega)
  have hp1 := pow_len k 60 (by omega)
  have kD := fun W (q : GA W a oa m) => gDown a oa m k W (by omega) (by omega) q
  have kU := fun f W (q : GA W f 0 (m / 2 ^ k)) => gUp f 0 (m / 2 ^ k) k W hq2 (by omega) q
  have kM := fun f W (q : GA W f 0 (m / 2 ^ k * 2 ^ k)) => gMinus f 0 m (m / 2 ^ k * 2 ^ k) W (by omega) hle q
  rw [hr] at kM
  have kO : ∀ W, Calls Try.prog 64 #[.int .u64 1] W fun e w' => e = .returned (.agg (gC u)) ∧ Below W.heap.size W w' := fun W => by rw [hu]; exact gOf 1 W (by omega)
  have kV := fun f W (q : GA W f 0 u) => gUp f 0 u k W (by omega) (by omega) q
  have e1 : u * 2 ^ k = 2 ^ k := by rw [hu, Nat.one_mul]
  rw [e1] at kV
  have kR := fun f f' W (q1 : GA W f 0 (m % 2 ^ k)) (q2 : GA W f' 0 (2 ^ k)) => bRest (m / 2 ^ k) (m % 2 ^ k) (2 ^ k) f 0 f' 0 W (by omega) (by omega) q1 q2
  generalize cmpI (m % 2 ^ k * 2) (2 ^ k) = cm at *
  generalize decide (m % 2 ^ k = 0) = s at *
  generalize m / 2 ^ k * 2 ^ k = cut at *
  generalize m / 2 ^ k = q at *
  generalize m % 2 ^ k = r at *
  generalize 2 ^ k = st at *
  have B := alloc_below w (.cells Try.zeroCells143 143)
  have Z := ZB.made0 w
  have HA := ha.below B ha.lt
  have hal := ha.lt
  clear ha hr e1 hu hle
  go_enter Try.func110, Try.ntmps110
  go_wp2_with fail
  refine (kD _ HA).mono ?_
  generalize w.alloc (.cells Try.zeroCells143 143) = w0 at *
  rintro e u1 ⟨rfl, c1⟩
  replace Z := Z.below c1 Z.lt
  replace HA := HA.below c1 HA.lt
  replace B := B.trans (c1.mono B.size)
  clear c1
  have lZ : w.heap.size < u1.heap.size := Z.lt
  have lHA : a < u1.heap.size := HA.lt
  have Q0 := GB.made0 u1
  replace Z := Z.alloc (.cells Try.zeroCells97 97)
  replace HA := HA.below (alloc_below u1 (.cells Try.zeroCells97 97)) HA.lt
  have hBQ := B.size
  replace B := B.alloc B.size (.cells Try.zeroCells97 97)
  go_wp2_with (first
    | (go_at_call 68; fail)
    | ((with_reducible (refine wpL_id ?_)); refine wpN_store rfl (.tmp 5) (.tmp 12) rfl u1.heap.size _ _ (q) rfl rfl Q0 (by omega) ?_; intro u2 Q tQ zQ; replace Z := Z.tn tQ (by simp; omega); replace HA := HA.tn tQ (by simp; omega); replace B := tQ.below B B.size (by simp; omega); clear tQ zQ Q0))
  generalize u1.heap.size = f5 at *
  refine (kU _ _ (GN.ga Q (by omega))).mono ?_
  rintro e u3 ⟨rfl, c3⟩
  replace Z := Z.below c3 Z.lt
  replace HA := HA.below c3 HA.lt
  replace Q := GN.below Q c3 (GN.lt Q)
  replace B := B.trans (c3.mono B.size)
  clear c3
  have lZ : w.heap.size < u3.heap.size := Z.lt
  have lHA : a < u3.heap.size := HA.lt
  have lQ : f5 < u3.heap.size := (GN.lt Q)
  have C0 := GB.made0 u3
  replace Z := Z.alloc (.cells Try.zeroCells97 97)
  replace HA := HA.below (alloc_below u3 (.cells Try.zeroCells97 97)) HA.lt
  replace Q := GN.alloc Q (.cells Try.zeroCells97 97)
  have hBC := B.size
  replace B := B.alloc B.size (.cells Try.zeroCells97 97)
  go_wp2_with (first
    | (go_at_call 76; fail)
    | ((with_reducible (refine wpL_id ?_)); refine wpN_store rfl (.tmp 6) (.tmp 14) rfl u3.heap.size _ _ (cut) rfl rfl C0 (by omega) ?_; intro u4 C tC zC; replace Z := Z.tn tC (by simp; omega); replace HA := HA.tn tC (by simp; omega); replace Q := GN.tn Q tC (by simp; omega); replace B := tC.below B B.size (by simp; omega); clear tC zC C0)
    | ((with_reducible (refine wpL_id ?_)); refine wpA_load rfl (.tmp 16) rfl a oa m rfl HA ?_))
  generalize u3.heap.size = f6 at *
  refine (kM _ _ (GN.ga C (by omega))).mono ?_
  rintro e u5 ⟨rfl, c5⟩
  replace Z := Z.below c5 Z.lt
  replace HA := HA.below c5 HA.lt
  replace Q := GN.below Q c5 (GN.lt Q)
  replace C := GN.below C c5 (GN.lt C)
  replace B := B.trans (c5.mono B.size)
  clear c5
  have lZ : w.heap.size < u5.heap.size := Z.lt
  have lHA : a < u5.heap.size := HA.lt
  have lQ : f5 < u5.heap.size := (GN.lt Q)
  have lC : f6 < u5.heap.size := (GN.lt C)
  have R0 := GB.made0 u5
  replace Z := Z.alloc (.cells Try.zeroCells97 97)
  replace HA := HA.below (alloc_below u5 (.cells Try.zeroCells97 97)) HA.lt
  replace Q := GN.alloc Q (.cells Try.zeroCells97 97)
  replace C := GN.alloc C (.cells Try.zeroCells97 97)
  have hBR := B.size
  replace B := B.alloc B.size (.cells Try.zeroCells97 97)
  go_wp2_with (first
    | (go_at_call 64; fail)
    | ((with_reducible (refine wpL_id ?_)); refine wpN_store rfl (.tmp 7) (.tmp 18) rfl u5.heap.size _ _ (r) rfl rfl R0 (by omega) ?_; intro u6 R tR zR; replace Z := Z.tn tR (by simp; omega); replace HA := HA.tn tR (by simp; omega); replace Q := GN.tn Q tR (by simp; omega); replace C := GN.tn C tR (by simp; omega); replace B := tR.below B B.size (by simp; omega); clear tR zR R0))
  generalize u5.heap.size = f7 at *
  refine (kO _).mono ?_
  rintro e u7 ⟨rfl, c7⟩
  replace Z := Z.below c7 Z.lt
  replace HA := HA.below c7 HA.lt
  replace Q := GN.below Q c7 (GN.lt Q)
  replace C := GN.below C c7 (GN.lt C)
  replace R := GN.below R c7 (GN.lt R)
  replace B := B.trans (c7.mono B.size)
  clear c7
  have lZ : w.heap.size < u7.heap.size := Z.lt
  have lHA : a < u7.heap.size := HA.lt
  have lQ : f5 < u7.heap.size := (GN.lt Q)
  have lC : f6 < u7.heap.size := (GN.lt C)
  have lR : f7 < u7.heap.size := (GN.lt R)
  have U0 := GB.made0 u7
  replace Z := Z.alloc (.cells Try.zeroCells97 97)
  replace HA := HA.below (alloc_below u7 (.cells Try.zeroCells97 97)) HA.lt
  replace Q := GN.alloc Q (.cells Try.zeroCells97 97)
  replace C := GN.alloc C (.cells Try.zeroCells97 97)
  replace R := GN.alloc R (.cells Try.zeroCells97 97)
  have hBU := B.size
  replace B := B.alloc B.size (.cells Try.zeroCells97 97)
  go_wp2_with (first
    | (go_at_call 68; fail)
    | ((with_reducible (refine wpL_id ?_)); refine wpN_store rfl (.tmp 8) (.tmp 19) rfl u7.heap.size _ _ (u) rfl rfl U0 (by omega) ?_; intro u8 U tU zU; replace Z := Z.tn tU (by simp; omega); replace HA := HA.tn tU (by simp; omega); replace Q := GN.tn Q tU (by simp; omega); replace C := GN.tn C tU (by simp; omega); replace R := GN.tn R tU (by simp; omega); replace B := tU.below B B.size (by simp; omega); clear tU zU U0))
  generalize u7.heap.size = f8 at *
  refine (kV _ _ (GN.ga U (by omega))).mono ?_
  rintro e u9 ⟨rfl, c9⟩
  replace Z := Z.below c9 Z.lt
  replace HA := HA.below c9 HA.lt
  replace Q := GN.below Q c9 (GN.lt Q)
  replace C := GN.below C c9 (GN.lt C)
  replace R := GN.below R c9 (GN.lt R)
  replace U := GN.below U c9 (GN.lt U)
  replace B := B.trans (c9.mono B.size)
  clear c9
  have lZ : w.heap.size < u9.heap.size := Z.lt
  have lHA : a < u9.heap.size := HA.lt
  have lQ : f5 < u9.heap.size := (GN.lt Q)
  have lC : f6 < u9.heap.size := (GN.lt C)
  have lR : f7 < u9.heap.size := (GN.lt R)
  have lU : f8 < u9.heap.size := (GN.lt U)
  have T0 := GB.made0 u9
  replace Z := Z.alloc (.cells Try.zeroCells97 97)
  replace HA := HA.below (alloc_below u9 (.cells Try.zeroCells97 97)) HA.lt
  replace Q := GN.alloc Q (.cells Try.zeroCells97 97)
  replace C := GN.alloc C (.cells Try.zeroCells97 97)
  replace R := GN.alloc R (.cells Try.zeroCells97 97)
  replace U := GN.alloc U (.cells Try.zeroCells97 97)
  have hBT := B.size
  replace B := B.alloc B.size (.cells Try.zeroCells97 97)
  go_wp2_with (first
    | (go_at_call 117; fail)
    | ((with_reducible (refine wpL_id ?_)); refine wpN_store rfl (.tmp 9) (.tmp 21) rfl u9.heap.size _ _ (st) rfl rfl T0 (by omega) ?_; intro u10 T tT zT; replace Z := Z.tn tT (by simp; omega); replace HA := HA.tn tT (by simp; omega); replace Q := GN.tn Q tT (by simp; omega); replace C := GN.tn C tT (by simp; omega); replace R := GN.tn R tT (by simp; omega); replace U := GN.tn U tT (by simp; omega); replace B := tT.below B B.size (by simp; omega); clear tT zT T0)
    | ((with_reducible (refine wpL_id ?_)); refine wpA_load rfl (.tmp 5) rfl f5 0 q rfl (GN.ga Q (by omega)) ?_))
  generalize u9.heap.size = f9 at *
  refine (kR _ _ _ (GN.ga R (by omega)) (GN.ga T (by omega))).mono ?_
  rintro e u11 ⟨rfl, c11⟩
  replace Z := Z.below c11 Z.lt
  replace HA := HA.below c11 HA.lt
  replace Q := GN.below Q c11 (GN.lt Q)
  replace C := GN.below C c11 (GN.lt C)
  replace R := GN.below R c11 (GN.lt R)
  replace U := GN.below U c11 (GN.lt U)
  replace T := GN.below T c11 (GN.lt T)
  replace B := B.trans (c11.mono B.size)
  clear c11
  go_wp2_with (first | ((with_reducible (refine wpL_id ?_)); refine wpB_store rfl (.tmp 4) (.tmp 23) rfl w.heap.size q s cm rfl rfl Z (by omega) ?_; intro w5 g5 t5 s5))
  (try simp only [Exit.inBlock, Exit.then])
  refine bodyPost_ret (v := .agg (bC q s cm)) ?_ rfl ⟨rfl, t5.below B B.size (by simp)⟩
  exact results_between rfl _ _ w.heap.size _ _ _ rfl g5

end Go.Proofs.Ytlpfjpbnedankaa

/- The program's modeOk, Turned, rises and rounded, each by its contract. -/
namespace Go.Proofs.Ytlpfjpbnedankaa
open Go.RowKit
set_option linter.unusedSimpArgs false

theorem modeOk_yes (m : Int) (w : World) (h0 : 0 ≤ m) (h4 : m ≤ 4) : Calls Try.prog 122 #[.int .i64 m] w fun e w' => e = .returned (.bool true) ∧ w' = w := by
  go_enter Try.func122, Try.ntmps122
  go_wp2
  go_ret
  exact ⟨rfl, rfl⟩
theorem modeOk_no (m : Int) (w : World) (h : ¬ (0 ≤ m ∧ m ≤ 4)) : Calls Try.prog 122 #[.int .i64 m] w fun e w' => e = .returned (.bool false) ∧ w' = w := by
  by_cases h1 : 0 ≤ m
  · have h2 : ¬ (m ≤ 4) := fun h2 => h ⟨h1, h2⟩
    have h2' : decide (m ≤ 4) = false := decide_eq_false h2
    clear h
    go_enter Try.func122, Try.ntmps122
    go_wp2
    go_ret
    exact ⟨rfl, rfl⟩
  · have h1' : decide (0 ≤ m) = false := decide_eq_false h1
    clear h
    go_enter Try.func122, Try.ntmps122
    go_wp2
    go_ret
    exact ⟨rfl, rfl⟩
theorem turned_c (m : Int) (w : World) (h0 : 0 ≤ m) (h4 : m ≤ 4) : Calls Try.prog 118 #[.int .i64 m] w fun e w' => e = .returned (.int .i64 (turnI m)) ∧ Below w.heap.size w w' := by
  have km := fun W => modeOk_yes m W h0 h4
  have hm5 : m = 0 ∨ m = 1 ∨ m = 2 ∨ m = 3 ∨ m = 4 := by omega
  rcases hm5 with rfl | rfl | rfl | rfl | rfl
  · go_enter Try.func118, Try.ntmps118
    go_wp2
    go_ret
    exact ⟨rfl, Below.refl _ _⟩
  · go_enter Try.func118, Try.ntmps118
    go_wp2
    go_ret
    exact ⟨rfl, Below.refl _ _⟩
  · go_enter Try.func118, Try.ntmps118
    go_wp2_with fail
    refine (km _).mono ?_
    rintro e w1 ⟨rfl, rfl⟩
    go_wp2
    go_ret
    exact ⟨rfl, Below.refl _ _⟩
  · go_enter Try.func118, Try.ntmps118
    go_wp2_with fail
    refine (km _).mono ?_
    rintro e w1 ⟨rfl, rfl⟩
    go_wp2
    go_ret
    exact ⟨rfl, Below.refl _ _⟩
  · go_enter Try.func118, Try.ntmps118
    go_wp2_with fail
    refine (km _).mono ?_
    rintro e w1 ⟨rfl, rfl⟩
    go_wp2
    go_ret
    exact ⟨rfl, Below.refl _ _⟩

theorem wpB_loadG {ops : Array Oper} {rest : List Oper} {o : Oper} {a : Act} {w : World} {Q : Exit → Act → World → Prop} (hw : Region.wanted o (yielded ops a.tmps) = true) (x : Operand) (ho : o.op = .load 143 x)
    (b n : Nat) (s : Bool) (t : Int) (hx : a.eval x = .pointer (some ⟨b, 0, none⟩)) (hg : BN w b n s t)
    (h : wpList Try.prog ops Q rest (a.put o.dst (.agg (bC n s t))) w) : wpList Try.prog ops Q (o :: rest) a w :=
  wpList_step fun K hK => by
    rw [if_pos hw]
    unfold Oper.wp execOp
    simp only [ho, hx, Instr.loadAt, Instr.sureAddr, Sem.run_bind, Sem.run_pure, Result.andThen_ok, hg.load]
    exact hK _ _ h

set_option maxRecDepth 20000 in
set_option maxHeartbeats 3200000 in
theorem bRises (q : Nat) (s : Bool) (h mode : Int) (w : World) (hl : (limbs q).length ≤ 98) (h0 : 0 ≤ mode) (h4 : mode ≤ 4) :
    Calls Try.prog 119 #[.agg (bC q s h), .int .i64 mode] w fun e w' => e = .returned (.bool (risesI q h mode)) ∧ Below w.heap.size w w' := by
  have M0 := BN.made w q s h hl
  have B0 := alloc_below w (.cells (bC q s h) 143)
  have c9 := M0.half
  have A0 := M0.ga
  have kB : ∀ W, GA W w.heap.size 0 q → Calls Try.prog 121 #[.pointer (some ⟨w.heap.size, 0, none⟩), .int .i64 0] W fun e w' => e = .returned (.int .u32 ((q % 2 : Nat) : Int)) ∧ w' = W := fun W hW => by
    have := gBit w.heap.size 0 q 0 W (by omega) hW
    rw [Nat.pow_zero, Nat.div_one] at this
    exact this
  obtain ⟨rv, hrv⟩ : ∃ rv, risesI q h mode = rv := ⟨_, rfl⟩
  rw [hrv]
  clear M0
  have hm5 : mode = 0 ∨ mode = 1 ∨ mode = 2 ∨ mode = 3 ∨ mode = 4 := by omega
  rcases hm5 with rfl | rfl | rfl | rfl | rfl
  · skip
    have e1 : rv = false := by rw [← hrv]; simp [risesI, *]
    subst e1
    clear hrv kB
    go_enter Try.func119, Try.ntmps119
    go_wp2
    go_ret
    exact ⟨rfl, B0⟩
  · skip
    have e1 : rv = true := by rw [← hrv]; simp [risesI, *]
    subst e1
    clear hrv kB
    go_enter Try.func119, Try.ntmps119
    go_wp2
    go_ret
    exact ⟨rfl, B0⟩
  · skip
    have e1 : rv = false := by rw [← hrv]; simp [risesI, *]
    subst e1
    clear hrv kB
    go_enter Try.func119, Try.ntmps119
    go_wp2
    go_ret
    exact ⟨rfl, B0⟩
  · by_cases hh : h = 0
    · subst hh
      have e1 : rv = decide (q % 2 = 1) := by rw [← hrv]; simp [risesI]
      have e2 : (((q % 2 : Nat) : Int) == 1) = decide (q % 2 = 1) := by
        by_cases hq : q % 2 = 1
        · simp [hq]
        · rw [decide_eq_false hq, beq_eq_false_iff_ne]; omega
      subst e1
      have hq2 : q % 2 < 2 := Nat.mod_lt _ (by omega)
      generalize decide (q % 2 = 1) = dv at *
      generalize q % 2 = qq at *
      clear hrv
      go_enter Try.func119, Try.ntmps119
      go_wp2_with fail
      refine (kB _ A0).mono ?_
      rintro e w1 ⟨rfl, rfl⟩
      go_wp2
      go_ret
      exact ⟨rfl, B0⟩
    · by_cases hp : 0 ≤ h
      · skip
        have e1 : rv = true := by rw [← hrv]; simp [risesI, *]
        subst e1
        clear hrv kB
        go_enter Try.func119, Try.ntmps119
        go_wp2
        go_ret
        exact ⟨rfl, B0⟩
      · skip
        have e1 : rv = false := by rw [← hrv]; simp [risesI, *]
        subst e1
        clear hrv kB
        go_enter Try.func119, Try.ntmps119
        go_wp2
        go_ret
        exact ⟨rfl, B0⟩
  · by_cases hp : 0 ≤ h
    · skip
      have e1 : rv = true := by rw [← hrv]; simp [risesI, *]
      subst e1
      clear hrv kB
      go_enter Try.func119, Try.ntmps119
      go_wp2
      go_ret
      exact ⟨rfl, B0⟩
    · skip
      have e1 : rv = false := by rw [← hrv]; simp [risesI, *]
      subst e1
      clear hrv kB
      go_enter Try.func119, Try.ntmps119
      go_wp2
      go_ret
      exact ⟨rfl, B0⟩

set_option maxRecDepth 20000 in
set_option maxHeartbeats 6400000 in
/-- rounded: the floor or one more, with its sign. -/
theorem bRounded (q : Nat) (s : Bool) (h mode : Int) (neg : Bool) (w : World) (hl : (limbs q).length ≤ 97) (h0 : 0 ≤ mode) (h4 : mode ≤ 4) :
    Calls Try.prog 111 #[.agg (bC q s h), .bool neg, .int .i64 mode] w fun e w' => ∃ c, e = .returned (.pointer (some ⟨c, 0, none⟩)) ∧ w.heap.size ≤ c ∧ SG w' c (if neg = true then -((roundN q s h neg mode : Nat) : Int) else ((roundN q s h neg mode : Nat) : Int)) ∧ Below w.heap.size w w' := by
  have M0 := BN.made w q s h (by omega)
  have B0 := alloc_below w (.cells (bC q s h) 143)
  have s0 : (w.alloc (.cells (bC q s h) 143)).heap.size = w.heap.size + 1 := by simp
  have hl1 : (limbs (q + 1)).length ≤ 98 := by have := succ_lenG q; omega
  have kX := fun W => gNext q W hl
  have kT := fun W => turned_c mode W h0 h4
  have ht0 : 0 ≤ turnI mode ∧ turnI mode ≤ 4 := by
    unfold turnI
    split
    · omega
    · split <;> omega
  cases neg
  · have kR := fun W => bRises q s h mode W (by omega) h0 h4
    have hrn : ∀ v : Bool, risesI q h mode = v → roundN q s h false mode = if s = false ∧ v = true then q + 1 else q := fun v hv => by unfold roundN; simp [hv]
    clear kT ht0
    obtain ⟨rv, hrv⟩ : ∃ rv, risesI q h mode = rv := ⟨_, rfl⟩
    rw [hrv] at kR
    have hrn := hrn rv hrv
    clear hrv
    cases s
    · cases rv
      · have hrn : roundN q false h false mode = q := by rw [hrn]; simp
        rw [hrn]
        have kN := fun W => newSigned_c false (q) W (by omega)
        clear hrn
        go_enter Try.func111, Try.ntmps111
        have M1 := M0
        have B1 := B0
        clear M0 B0
        have cw := M1.whole
        go_wp2_with (first
          | (go_at_call 119; refine (kR _).mono ?_; rintro e w2 ⟨rfl, b2⟩; have M2 := M1.below b2 M1.lt; have B2 := B1.trans (b2.mono B1.size); have A2 := M2.ga)
          | (go_at_call 63; fail)
          | ((with_reducible (refine wpL_id ?_)); refine wpB_loadG rfl (.tmp 3) rfl w.heap.size q false h rfl M1 ?_)
          | ((with_reducible (refine wpL_id ?_)); refine wpA_load rfl (.tmp 23) rfl w.heap.size 0 q rfl A2 ?_))
        refine (kN _).mono ?_
        rintro e w9 ⟨c, rfl, hc, s9, b9⟩
        go_wp2
        go_ret
        exact ⟨c, rfl, Nat.le_trans B2.size hc, s9, B2.trans (b9.mono B2.size)⟩
      · have hrn : roundN q false h false mode = q + 1 := by rw [hrn]; simp
        rw [hrn]
        have kN := fun W => newSigned_c false (q + 1) W (by omega)
        clear hrn
        go_enter Try.func111, Try.ntmps111
        have M1 := M0
        have B1 := B0
        clear M0 B0
        have cw := M1.whole
        go_wp2_with (first
          | (go_at_call 119; refine (kR _).mono ?_; rintro e w2 ⟨rfl, b2⟩; have M2 := M1.below b2 M1.lt; have B2 := B1.trans (b2.mono B1.size); have A2 := M2.ga)
          | (go_at_call 71; refine (kX _).mono ?_; rintro e w3 ⟨rfl, b3⟩; have M3 := M2.below b3 M2.lt; have B3 := B2.trans (b3.mono B2.size); clear A2)
          | (go_at_call 63; fail)
          | ((with_reducible (refine wpL_id ?_)); refine wpB_loadG rfl (.tmp 3) rfl w.heap.size q false h rfl M1 ?_)
          | ((with_reducible (refine wpL_id ?_)); refine wpA_load rfl (.tmp 18) rfl w.heap.size 0 q rfl A2 ?_)
          | ((with_reducible (refine wpL_id ?_)); refine wpB_put rfl (.tmp 21) (.tmp 20) rfl w.heap.size q (q + 1) false h rfl rfl M3 (by omega) ?_; intro w4 M4 t4 s4; have B4 := t4.below B3 B3.size (by simp); have A4 := M4.ga)
          | ((with_reducible (refine wpL_id ?_)); refine wpA_load rfl (.tmp 23) rfl w.heap.size 0 (q + 1) rfl A4 ?_))
        refine (kN _).mono ?_
        rintro e w9 ⟨c, rfl, hc, s9, b9⟩
        go_wp2
        go_ret
        exact ⟨c, rfl, Nat.le_trans B4.size hc, s9, B4.trans (b9.mono B4.size)⟩
    · skip
      have hrn : roundN q true h false mode = q := by rw [hrn]; simp
      rw [hrn]
      have kN := fun W => newSigned_c false q W (by omega)
      clear hrn kR
      go_enter Try.func111, Try.ntmps111
      have M1 := M0
      have B1 := B0
      clear M0 B0
      have cw := M1.whole
      have A1 := M1.ga
      go_wp2_with (first
        | (go_at_call 63; fail)
        | ((with_reducible (refine wpL_id ?_)); refine wpA_load rfl (.tmp 23) rfl w.heap.size 0 q rfl A1 ?_))
      refine (kN _).mono ?_
      rintro e w9 ⟨c, rfl, hc, s9, b9⟩
      go_wp2
      go_ret
      exact ⟨c, rfl, Nat.le_trans B1.size hc, s9, B1.trans (b9.mono B1.size)⟩
  · obtain ⟨tm, htm⟩ : ∃ tm, turnI mode = tm := ⟨_, rfl⟩
    rw [htm] at kT ht0
    have kR := fun W => bRises q s h tm W (by omega) ht0.1 ht0.2
    have hrn : ∀ v : Bool, risesI q h tm = v → roundN q s h true mode = if s = false ∧ v = true then q + 1 else q := fun v hv => by unfold roundN; rw [← htm] at hv; simp [hv]
    clear htm
    obtain ⟨rv, hrv⟩ : ∃ rv, risesI q h tm = rv := ⟨_, rfl⟩
    rw [hrv] at kR
    have hrn := hrn rv hrv
    clear hrv
    cases s
    · cases rv
      · have hrn : roundN q false h true mode = q := by rw [hrn]; simp
        rw [hrn]
        have kN := fun W => newSigned_c true (q) W (by omega)
        clear hrn
        go_enter Try.func111, Try.ntmps111
        go_wp2_with fail
        refine (kT _).mono ?_
        generalize w.alloc (.cells (bC q false h) 143) = w0 at *
        rintro e w1 ⟨rfl, b1⟩
        have M1 := M0.below b1 M0.lt
        have B1 := B0.trans (b1.mono B0.size)
        clear M0 B0 b1 kT
        have cw := M1.whole
        go_wp2_with (first
          | (go_at_call 119; refine (kR _).mono ?_; rintro e w2 ⟨rfl, b2⟩; have M2 := M1.below b2 M1.lt; have B2 := B1.trans (b2.mono B1.size); have A2 := M2.ga)
          | (go_at_call 63; fail)
          | ((with_reducible (refine wpL_id ?_)); refine wpB_loadG rfl (.tmp 3) rfl w.heap.size q false h rfl M1 ?_)
          | ((with_reducible (refine wpL_id ?_)); refine wpA_load rfl (.tmp 23) rfl w.heap.size 0 q rfl A2 ?_))
        refine (kN _).mono ?_
        rintro e w9 ⟨c, rfl, hc, s9, b9⟩
        go_wp2
        go_ret
        exact ⟨c, rfl, Nat.le_trans B2.size hc, s9, B2.trans (b9.mono B2.size)⟩
      · have hrn : roundN q false h true mode = q + 1 := by rw [hrn]; simp
        rw [hrn]
        have kN := fun W => newSigned_c true (q + 1) W (by omega)
        clear hrn
        go_enter Try.func111, Try.ntmps111
        go_wp2_with fail
        refine (kT _).mono ?_
        generalize w.alloc (.cells (bC q false h) 143) = w0 at *
        rintro e w1 ⟨rfl, b1⟩
        have M1 := M0.below b1 M0.lt
        have B1 := B0.trans (b1.mono B0.size)
        clear M0 B0 b1 kT
        have cw := M1.whole
        go_wp2_with (first
          | (go_at_call 119; refine (kR _).mono ?_; rintro e w2 ⟨rfl, b2⟩; have M2 := M1.below b2 M1.lt; have B2 := B1.trans (b2.mono B1.size); have A2 := M2.ga)
          | (go_at_call 71; refine (kX _).mono ?_; rintro e w3 ⟨rfl, b3⟩; have M3 := M2.below b3 M2.lt; have B3 := B2.trans (b3.mono B2.size); clear A2)
          | (go_at_call 63; fail)
          | ((with_reducible (refine wpL_id ?_)); refine wpB_loadG rfl (.tmp 3) rfl w.heap.size q false h rfl M1 ?_)
          | ((with_reducible (refine wpL_id ?_)); refine wpA_load rfl (.tmp 18) rfl w.heap.size 0 q rfl A2 ?_)
          | ((with_reducible (refine wpL_id ?_)); refine wpB_put rfl (.tmp 21) (.tmp 20) rfl w.heap.size q (q + 1) false h rfl rfl M3 (by omega) ?_; intro w4 M4 t4 s4; have B4 := t4.below B3 B3.size (by simp); have A4 := M4.ga)
          | ((with_reducible (refine wpL_id ?_)); refine wpA_load rfl (.tmp 23) rfl w.heap.size 0 (q + 1) rfl A4 ?_))
        refine (kN _).mono ?_
        rintro e w9 ⟨c, rfl, hc, s9, b9⟩
        go_wp2
        go_ret
        exact ⟨c, rfl, Nat.le_trans B4.size hc, s9, B4.trans (b9.mono B4.size)⟩
    · skip
      have hrn : roundN q true h true mode = q := by rw [hrn]; simp
      rw [hrn]
      have kN := fun W => newSigned_c true q W (by omega)
      clear hrn kR
      go_enter Try.func111, Try.ntmps111
      go_wp2_with fail
      refine (kT _).mono ?_
      generalize w.alloc (.cells (bC q true h) 143) = w0 at *
      rintro e w1 ⟨rfl, b1⟩
      have M1 := M0.below b1 M0.lt
      have B1 := B0.trans (b1.mono B0.size)
      clear M0 B0 b1 kT
      have cw := M1.whole
      have A1 := M1.ga
      go_wp2_with (first
        | (go_at_call 63; fail)
        | ((with_reducible (refine wpL_id ?_)); refine wpA_load rfl (.tmp 23) rfl w.heap.size 0 q rfl A1 ?_))
      refine (kN _).mono ?_
      rintro e w9 ⟨c, rfl, hc, s9, b9⟩
      go_wp2
      go_ret
      exact ⟨c, rfl, Nat.le_trans B1.size hc, s9, B1.trans (b9.mono B1.size)⟩

end Go.Proofs.Ytlpfjpbnedankaa

/- The program's RoundFrac and RoundAt, each by its contract. -/
namespace Go.Proofs.Ytlpfjpbnedankaa
open Go.RowKit
set_option linter.unusedSimpArgs false

theorem SGG.other {w : World} {b m : Nat} {g : Bool} (h : SGG w b g m) (p : Addr) (hp : b ≠ p.block) (v : Value) : SGG (w.setCell p v) b g m :=
  h.tn (Tn.cell (Tn.refl [p.block] w) p (by simp) v) (by simpa using hp)
theorem SGG.drewN {w : World} {b m : Nat} {g : Bool} (h : SGG w b g m) (n : Nat) : SGG (w.drewN n) b g m := ⟨h.1, h.2.drewN n⟩
theorem valW_len {a : Wh} (h : okW a = true) : (limbs (valW a).natAbs).length ≤ 48 := by
  have h3 := ((okW_iff a).1 h).1.1
  have : (mkW (valW a)).2.length ≤ 48 := by rw [← mkW_of h]; exact h3
  exact this
theorem cmpJ_nat (m n : Nat) : cmpJ (m : Int) (n : Int) = cmpI m n := by unfold cmpJ cmpI; simp


end Go.Proofs.Ytlpfjpbnedankaa

/- The program's moved of places and movedSpan, each by its contract. -/
namespace Go.Proofs.Ytlpfjpbnedankaa
open Go.RowKit
set_option linter.unusedSimpArgs false

theorem behind_c (p : Int) (w : World) : Calls Try.prog 143 #[.int .i64 p] w fun e w' => e = .returned (.int .i64 p) ∧ w' = w := by
  go_enter Try.func143, Try.ntmps143
  go_wp2
  go_ret
  exact ⟨by simp, rfl⟩

set_option maxRecDepth 20000 in
set_option maxHeartbeats 3200000 in
theorem movedUp_c (p q : Int) (k : Nat) (b : Nat) (z mode : Int) (w : World) (h : SG w b z) (hk : q - p = k) (hz : k / 24 + (limbs z.natAbs).length + 1 ≤ 98) (hk2 : k ≤ 100000) :
    Calls Try.prog 90 #[.int .i64 p, .int .i64 q, .pointer (some ⟨b, 0, none⟩), .int .i64 mode] w fun e w' => ∃ c, e = .returned (.pointer (some ⟨c, 0, none⟩)) ∧ w.heap.size ≤ c ∧ SG w' c (z * 2 ^ k) ∧ Below w.heap.size w w' := by
  have kB1 := fun W => behind_c p W
  have kB2 := fun W => behind_c q W
  have kU := fun W (h : SG W b z) => sgUp b z k W h hz hk2
  have hsub : IntKind.i64.wrap (q - p) = k := by rw [hk, IntKind.wrap_i64]; omega
  generalize z * 2 ^ k = r at *
  have hk0 : (0 : Int) ≤ (k : Int) := by omega
  clear hz hk2 hk
  go_enter Try.func90, Try.ntmps90
  go_wp2_with fail
  refine (kB2 _).mono ?_
  rintro e w1 ⟨rfl, rfl⟩
  go_wp2_with fail
  refine (kB1 _).mono ?_
  rintro e w1 ⟨rfl, rfl⟩
  go_wp2_with fail
  refine (kU _ h).mono ?_
  rintro e w4 ⟨c, rfl, hc, hz4, c4⟩
  go_wp2
  go_ret
  exact ⟨c, rfl, hc, hz4, c4⟩

set_option maxRecDepth 20000 in
set_option maxHeartbeats 6400000 in
theorem movedDown_c (p q : Int) (j : Nat) (b : Nat) (z mode : Int) (w : World) (h : SG w b z) (hj : q - p = -(j : Int)) (hj0 : 0 < j) (hj2 : j ≤ 600) (hz : (limbs z.natAbs).length ≤ 96) (h0 : 0 ≤ mode) (h4 : mode ≤ 4) :
    Calls Try.prog 90 #[.int .i64 p, .int .i64 q, .pointer (some ⟨b, 0, none⟩), .int .i64 mode] w fun e w' => ∃ c, e = .returned (.pointer (some ⟨c, 0, none⟩)) ∧ w.heap.size ≤ c ∧ SG w' c (fracI z (2 ^ j) mode) ∧ Below w.heap.size w w' := by
  have kB1 := fun W => behind_c p W
  have kB2 := fun W => behind_c q W
  have kF := fun W (h1 : GA W b 1 z.natAbs) => bAt b 1 z.natAbs j W hz hj2 h1
  have hfr := frac_round z (2 ^ j) (Nat.pow_pos (by omega)) mode h0 h4
  have e2 : ((2 ^ j : Nat) : Int) = (2 : Int) ^ j := by simp
  have hcj := cmpJ_nat (z.natAbs % 2 ^ j * 2) (2 ^ j)
  rw [hcj] at hfr
  rw [e2] at hfr
  have hlq : (limbs (z.natAbs / 2 ^ j)).length ≤ 97 := Nat.le_trans (limbs_mono (Nat.div_le_self _ _)) (by omega)
  have kR := fun W => bRounded (z.natAbs / 2 ^ j) (decide (z.natAbs % 2 ^ j = 0)) (cmpI (z.natAbs % 2 ^ j * 2) (2 ^ j)) mode (decide (z < 0)) W hlq h0 h4
  rw [← hfr] at kR
  have hsub : IntKind.i64.wrap (q - p) = -(j : Int) := by rw [hj, IntKind.wrap_i64]; omega
  have hneg : IntKind.i64.wrap (-(-(j : Int))) = (j : Int) := by rw [IntKind.wrap_i64]; omega
  have hjw : IntKind.i64.wrap (j : Int) = (j : Int) := by rw [IntKind.wrap_i64]; omega
  have hlt : ¬ (0 ≤ -(j : Int)) := by omega
  have hlt2 : decide (0 ≤ -(j : Int)) = false := decide_eq_false hlt
  have HP := h.sgg
  clear hfr hcj e2 hlq hz h0 h4 hj hj0 hj2 h
  generalize fracI z (2 ^ j) mode = r at *
  generalize cmpI (z.natAbs % 2 ^ j * 2) (2 ^ j) = cm at *
  generalize decide (z.natAbs % 2 ^ j = 0) = wh at *
  generalize z.natAbs / 2 ^ j = qq at *
  generalize decide (z < 0) = g at *
  generalize z.natAbs = m at *
  go_enter Try.func90, Try.ntmps90
  go_wp2_with fail
  refine (kB2 _).mono ?_
  rintro e w1 ⟨rfl, rfl⟩
  go_wp2_with fail
  refine (kB1 _).mono ?_
  rintro e w1 ⟨rfl, rfl⟩
  go_wp2_with fail
  have B1 := (Below.refl w1.heap.size w1).drew
  refine wp_region_held_drew (S := fun W => SGG W b g m) (by kernel_rfl) HP.drew ?_
  intro hHeld
  generalize w1.drew = w2 at *
  refine takeH 0 (some 22) (.pointer (some ⟨b, 0, none⟩)) rfl rfl (by kernel_rfl) (by kernel_rfl) (by kernel_rfl) (fun _ _ _ h => h) (yg_move rfl (.tmp 2) rfl _ rfl) (by assumption) ?_
  simp only [Act.put, List.setIfInBounds_toArray, List.set_cons_zero, List.set_cons_succ]
  refine takeH 1 (some 23) (.pointer (some ⟨b, 0, none⟩)) rfl rfl (by kernel_rfl) (by kernel_rfl) (by kernel_rfl) (fun _ _ _ h => h) (Or.inl ⟨rfl, fun W hW => by obtain _ := hW; go_simp⟩) (by assumption) ?_
  simp only [Act.put, List.setIfInBounds_toArray, List.set_cons_zero, List.set_cons_succ]
  refine takeH 2 (some 24) (.pointer (some ⟨b, 1, none⟩)) rfl rfl (by kernel_rfl) (by kernel_rfl) (by kernel_rfl) (fun _ _ _ h => h) (Or.inl ⟨rfl, fun W hW => by obtain _ := hW; go_simp⟩) (by assumption) ?_
  simp only [Act.put, List.setIfInBounds_toArray, List.set_cons_zero, List.set_cons_succ]
  refine takeH 3 (some 25) (.int .i64 (-(j : Int))) rfl rfl (by kernel_rfl) (by kernel_rfl) (by kernel_rfl) (fun _ _ _ h => h) (yg_move rfl (.tmp 9) rfl _ rfl) (by assumption) ?_
  simp only [Act.put, List.setIfInBounds_toArray, List.set_cons_zero, List.set_cons_succ]
  refine takeH 4 (some 26) (.int .i64 (j : Int)) rfl rfl (by kernel_rfl) (by kernel_rfl) (by kernel_rfl) (fun _ _ _ h => h) (Or.inl ⟨rfl, fun W hW => by obtain _ := hW; go_simp⟩) (by assumption) ?_
  simp only [Act.put, List.setIfInBounds_toArray, List.set_cons_zero, List.set_cons_succ]
  refine takeH 6 (some 28) (.pointer (some ⟨b, 0, none⟩)) rfl rfl (by kernel_rfl) (by kernel_rfl) (by kernel_rfl) (fun _ _ _ h => h) (yg_move rfl (.tmp 2) rfl _ rfl) (by assumption) ?_
  simp only [Act.put, List.setIfInBounds_toArray, List.set_cons_zero, List.set_cons_succ]
  refine takeH 7 (some 29) (.pointer (some ⟨b, 0, none⟩)) rfl rfl (by kernel_rfl) (by kernel_rfl) (by kernel_rfl) (fun _ _ _ h => h) (Or.inl ⟨rfl, fun W hW => by obtain _ := hW; go_simp⟩) (by assumption) ?_
  simp only [Act.put, List.setIfInBounds_toArray, List.set_cons_zero, List.set_cons_succ]
  refine takeH 8 (some 30) (.pointer (some ⟨b, 0, none⟩)) rfl rfl (by kernel_rfl) (by kernel_rfl) (by kernel_rfl) (fun _ _ _ h => h) (Or.inl ⟨rfl, fun W hW => by obtain _ := hW; go_simp⟩) (by assumption) ?_
  simp only [Act.put, List.setIfInBounds_toArray, List.set_cons_zero, List.set_cons_succ]
  refine takeH 9 (some 31) (.bool g) rfl rfl (by kernel_rfl) (by kernel_rfl) (by kernel_rfl) (fun _ _ _ h => h) (Or.inl ⟨rfl, fun W hW => by obtain ⟨_c, _⟩ := hW; go_simp⟩) (by assumption) ?_
  simp only [Act.put, List.setIfInBounds_toArray, List.set_cons_zero, List.set_cons_succ]
  refine takeH 10 (some 32) (.int .i64 mode) rfl rfl (by kernel_rfl) (by kernel_rfl) (by kernel_rfl) (fun _ _ _ h => h) (yg_move rfl (.tmp 3) rfl _ rfl) (by assumption) ?_
  simp only [Act.put, List.setIfInBounds_toArray, List.set_cons_zero, List.set_cons_succ]
  refine oneH 5 rfl (by kernel_rfl) (fun K' hK => ?_)
  go_simp
  refine (kF _ hHeld.2).mono ?_
  rintro e w4 ⟨rfl, b4⟩
  have H4 := hHeld.below b4 hHeld.lt
  refine hK _ _ H4 ?_
  clear hK
  refine oneH 11 rfl (by kernel_rfl) (fun K' hK => ?_)
  go_simp
  refine (kR _).mono ?_
  rintro e w5 ⟨c, rfl, hc, sc, b5⟩
  have H5 := H4.below b5 H4.lt
  refine hK _ _ H5 ?_
  clear hK
  refine takeH 12 (some 8) (.pointer (some ⟨c, 0, none⟩)) rfl rfl (by kernel_rfl) (by kernel_rfl) (by kernel_rfl) (fun _ _ _ h => h) (yg_assign rfl (.tmp 33) rfl _ rfl) H5 ?_
  simp only [Act.put, List.setIfInBounds_toArray, List.set_cons_zero, List.set_cons_succ]
  refine wpAnyH_done (by kernel_rfl) ?_ _
  have B4 := B1.trans (b4.mono B1.size)
  have HB : Hid (Below w1.heap.size w1 w5) := B4.trans (b5.mono B4.size)
  have HC : Hid (w1.heap.size ≤ c) := Nat.le_trans B4.size hc
  have HS : Hid (SG w5 c r) := sc
  clear hHeld H4 H5 B1 B4 b4 b5 sc hc kF kR HP
  go_wp2
  go_ret
  exact ⟨c, rfl, HC.out, HS.out, HB.out⟩

end Go.Proofs.Ytlpfjpbnedankaa

/- The program's movedSpan, by its contract. -/
namespace Go.Proofs.Ytlpfjpbnedankaa
open Go.RowKit
set_option linter.unusedSimpArgs false

set_option maxRecDepth 20000 in
set_option maxHeartbeats 6400000 in
theorem movedSpan_g (p q : Nat) (x y d1 d2 s t : Int) (w : World) (sp : SG w p x) (sq : SG w q y)
    (kS : ∀ W, SG W p x → Calls Try.prog 90 #[.int .i64 s, .int .i64 t, .pointer (some ⟨p, 0, none⟩), .int .i64 0] W (fun e w' => ∃ c, e = .returned (.pointer (some ⟨c, 0, none⟩)) ∧ W.heap.size ≤ c ∧ SG w' c d1 ∧ Below W.heap.size W w'))
    (kP : ∀ W, SG W q y → Calls Try.prog 90 #[.int .i64 s, .int .i64 t, .pointer (some ⟨q, 0, none⟩), .int .i64 1] W (fun e w' => ∃ c, e = .returned (.pointer (some ⟨c, 0, none⟩)) ∧ W.heap.size ≤ c ∧ SG w' c d2 ∧ Below W.heap.size W w')) :
    Calls Try.prog 56 #[.agg #[.pointer (some ⟨p, 0, none⟩), .pointer (some ⟨q, 0, none⟩)], .int .i64 s, .int .i64 t] w (spanE d1 d2 w) := by
  unfold spanE
  have s1 : (w.alloc (.cells #[.pointer (some ⟨p, 0, none⟩), .pointer (some ⟨q, 0, none⟩)] 52)).heap.size = w.heap.size + 1 := by simp
  have E0 := (BoxW.made w (.pointer (some ⟨p, 0, none⟩)) (.pointer (some ⟨q, 0, none⟩)) 52).below (below1 _ (.cells #[.pointer none, .pointer none] 52)) (Nat.le_refl _)
  have R0 := BoxW.made (w.alloc (.cells #[.pointer (some ⟨p, 0, none⟩), .pointer (some ⟨q, 0, none⟩)] 52)) (.pointer none) (.pointer none) 52
  rw [s1] at R0
  have B0 := below2 w (.cells #[.pointer (some ⟨p, 0, none⟩), .pointer (some ⟨q, 0, none⟩)] 52) (.cells #[.pointer none, .pointer none] 52)
  have sp0 := sp.below B0 sp.lt
  have sq0 := sq.below B0 sq.lt
  clear s1 sp sq
  go_enter Try.func56, Try.ntmps56
  go_wp2_with fail
  generalize (w.alloc (.cells #[.pointer (some ⟨p, 0, none⟩), .pointer (some ⟨q, 0, none⟩)] 52)).alloc (.cells #[.pointer none, .pointer none] 52) = w0 at *
  have bd' := (Below.refl w0.heap.size w0).drew
  have E3 := E0.below bd' (Nat.le_refl _)
  have R3 := R0.below bd' (Nat.le_refl _)
  have B3 := B0.trans (bd'.mono B0.size)
  have sp3 := sp0.below bd' sp0.lt
  have sq3 := sq0.below bd' sq0.lt
  refine wp_region_held_drew (S := fun W => W.cell? ⟨w.heap.size, 0, none⟩ = some (.pointer (some ⟨p, 0, none⟩)) ∧ W.cell? ⟨w.heap.size, 1, none⟩ = some (.pointer (some ⟨q, 0, none⟩))) (by kernel_rfl) ⟨E3.c0, E3.c1⟩ ?_
  intro hHeld
  generalize w0.drew = w3 at *
  refine takeH 0 (some 11) (.int .i64 s) rfl rfl (by kernel_rfl) (by kernel_rfl) (by kernel_rfl) (fun _ _ _ h => h) (yg_move rfl (.tmp 7) rfl _ rfl) (by assumption) ?_
  simp only [Act.put, List.setIfInBounds_toArray, List.set_cons_zero, List.set_cons_succ]
  refine takeH 1 (some 12) (.int .i64 t) rfl rfl (by kernel_rfl) (by kernel_rfl) (by kernel_rfl) (fun _ _ _ h => h) (yg_move rfl (.tmp 8) rfl _ rfl) (by assumption) ?_
  simp only [Act.put, List.setIfInBounds_toArray, List.set_cons_zero, List.set_cons_succ]
  refine takeH 2 (some 13) (.pointer (some ⟨w.heap.size, 0, none⟩)) rfl rfl (by kernel_rfl) (by kernel_rfl) (by kernel_rfl) (fun _ _ _ h => h) (Or.inl ⟨rfl, fun W hW => by obtain _ := hW; go_simp⟩) (by assumption) ?_
  simp only [Act.put, List.setIfInBounds_toArray, List.set_cons_zero, List.set_cons_succ]
  refine takeH 3 (some 14) (.pointer (some ⟨p, 0, none⟩)) rfl rfl (by kernel_rfl) (by kernel_rfl) (by kernel_rfl) (fun _ _ _ h => h) (Or.inl ⟨rfl, fun W hW => by obtain ⟨_c, _⟩ := hW; go_simp⟩) (by assumption) ?_
  simp only [Act.put, List.setIfInBounds_toArray, List.set_cons_zero, List.set_cons_succ]
  refine takeH 5 (some 16) (.int .i64 s) rfl rfl (by kernel_rfl) (by kernel_rfl) (by kernel_rfl) (fun _ _ _ h => h) (yg_move rfl (.tmp 7) rfl _ rfl) (by assumption) ?_
  simp only [Act.put, List.setIfInBounds_toArray, List.set_cons_zero, List.set_cons_succ]
  refine takeH 6 (some 17) (.int .i64 t) rfl rfl (by kernel_rfl) (by kernel_rfl) (by kernel_rfl) (fun _ _ _ h => h) (yg_move rfl (.tmp 8) rfl _ rfl) (by assumption) ?_
  simp only [Act.put, List.setIfInBounds_toArray, List.set_cons_zero, List.set_cons_succ]
  refine takeH 7 (some 18) (.pointer (some ⟨w.heap.size, 1, none⟩)) rfl rfl (by kernel_rfl) (by kernel_rfl) (by kernel_rfl) (fun _ _ _ h => h) (Or.inl ⟨rfl, fun W hW => by obtain _ := hW; go_simp⟩) (by assumption) ?_
  simp only [Act.put, List.setIfInBounds_toArray, List.set_cons_zero, List.set_cons_succ]
  refine takeH 8 (some 19) (.pointer (some ⟨q, 0, none⟩)) rfl rfl (by kernel_rfl) (by kernel_rfl) (by kernel_rfl) (fun _ _ _ h => h) (Or.inl ⟨rfl, fun W hW => by obtain ⟨_, _c⟩ := hW; go_simp⟩) (by assumption) ?_
  simp only [Act.put, List.setIfInBounds_toArray, List.set_cons_zero, List.set_cons_succ]
  refine oneH 4 rfl (by kernel_rfl) (fun K' hK => ?_)
  go_simp
  refine (kS _ sp3).mono ?_
  rintro e w4 ⟨c, rfl, hc, sc, b4⟩
  have E4 := E3.below b4 (Nat.le_refl _)
  have R4 := R3.below b4 (Nat.le_refl _)
  have B4 := B3.trans (b4.mono B3.size)
  have sq4 := sq3.below b4 sq3.lt
  refine hK _ _ ⟨E4.c0, E4.c1⟩ ?_
  clear hK
  refine oneH 9 rfl (by kernel_rfl) (fun K' hK => ?_)
  go_simp
  refine (kP _ sq4).mono ?_
  rintro e w5 ⟨d, rfl, hd, sd, b5⟩
  have E5 := E4.below b5 (Nat.le_refl _)
  have R5 := R4.below b5 (Nat.le_refl _)
  have B5 := B4.trans (b5.mono B4.size)
  have sc5 := sc.below b5 sc.lt
  refine hK _ _ ⟨E5.c0, E5.c1⟩ ?_
  clear hK
  have H5 : (fun W => W.cell? ⟨w.heap.size, 0, none⟩ = some (.pointer (some ⟨p, 0, none⟩)) ∧ W.cell? ⟨w.heap.size, 1, none⟩ = some (.pointer (some ⟨q, 0, none⟩))) w5 := ⟨E5.c0, E5.c1⟩
  refine takeH 10 (some 21) (.agg #[.pointer (some ⟨c, 0, none⟩), .pointer (some ⟨d, 0, none⟩)]) rfl rfl (by kernel_rfl) (by kernel_rfl) (by kernel_rfl) (fun _ _ _ h => h) (Or.inl ⟨rfl, fun W hW => by obtain _ := hW; go_simp⟩) (by assumption) ?_
  simp only [Act.put, List.setIfInBounds_toArray, List.set_cons_zero, List.set_cons_succ]
  have hR5 := R5.hi
  have hR3 := R3.hi
  have hR4 := R4.hi
  have E7 := E5.tn ((tnC w5 (w.heap.size + 1) 0 (.pointer (some ⟨c, 0, none⟩))).trans (tnC _ (w.heap.size + 1) 1 (.pointer (some ⟨d, 0, none⟩)))) (fun k hk hs => by simp at hk hs; omega)
  have r0 := R5.c0
  have f0 := R5.f0
  have r1 := R5.c1
  have f1 := R5.f1
  refine oneH 11 rfl (by kernel_rfl) (fun K' hK => ?_)
  go_simp
  refine hK _ _ ⟨E7.c0, E7.c1⟩ ?_
  clear hK
  refine wpAnyH_done (by kernel_rfl) ?_ _
  have HC : Hid (SG _ c _) := sc5.tn ((tnC w5 (w.heap.size + 1) 0 (.pointer (some ⟨c, 0, none⟩))).trans (tnC _ (w.heap.size + 1) 1 (.pointer (some ⟨d, 0, none⟩)))) (fun h => by simp at h; omega)
  have HD : Hid (SG _ d _) := sd.tn ((tnC w5 (w.heap.size + 1) 0 (.pointer (some ⟨c, 0, none⟩))).trans (tnC _ (w.heap.size + 1) 1 (.pointer (some ⟨d, 0, none⟩)))) (fun h => by simp at h; omega)
  have HB : Hid (Below w.heap.size w _) := ((B5.setCell (p := ⟨w.heap.size + 1, 0, none⟩) (by show w.heap.size ≤ w.heap.size + 1; omega) (.pointer (some ⟨c, 0, none⟩))).setCell (p := ⟨w.heap.size + 1, 1, none⟩) (by show w.heap.size ≤ w.heap.size + 1; omega) (.pointer (some ⟨d, 0, none⟩)))
  clear hHeld H5 E0 E3 E4 E5 E7 R0 R3 R4 R5 B0 B3 B4 B5 b4 b5 bd' sc sc5 sd kS kP sp0 sp3 sq0 sq3 sq4
  go_wp2
  (try simp only [Exit.inBlock, Exit.then])
  refine bodyPost_ret (v := .agg #[.pointer (some ⟨c, 0, none⟩), .pointer (some ⟨d, 0, none⟩)]) ?_ rfl ⟨_, _, rfl, HC.out, HD.out, HB.out⟩
  rw [results_cell1 rfl]
  go_simp

/-- Ends times 2^d, the lower one's floor, the upper one's ceiling. -/
def mvLo (x d : Int) : Int := if 0 ≤ d then x * 2 ^ d.toNat else x / 2 ^ (-d).toNat
def mvHi (x d : Int) : Int := if 0 ≤ d then x * 2 ^ d.toNat else -(-x / 2 ^ (-d).toNat)
theorem frac_lo (z D : Int) : fracI z D 0 = z / D := by
  unfold fracI pickI
  split
  · rfl
  · rfl
theorem frac_hi (z D : Int) (hD : 0 < D) : fracI z D 1 = -(-z / D) := by
  have h1 := Int.emod_nonneg z (Int.ne_of_gt hD)
  have h2 := Int.emod_lt_of_pos z hD
  have h3 := Int.emod_def z D
  have hc : D * (z / D) = z / D * D := Int.mul_comm _ _
  rw [hc] at h3
  unfold fracI pickI
  by_cases h : z - z / D * D = 0
  · rw [decide_eq_true h, if_pos rfl]
    rw [edivG (x := -z) (z := -(z / D)) hD (by rw [Int.neg_mul]; omega) (by rw [Int.neg_mul]; omega)]
    omega
  · rw [decide_eq_false h, if_neg (by simp), if_pos rfl]
    rw [edivG (x := -z) (z := -(z / D) - 1) hD (by rw [Int.sub_mul, Int.neg_mul, Int.one_mul]; omega) (by rw [Int.sub_mul, Int.neg_mul, Int.one_mul]; omega)]
    omega
theorem movedSpan_c (p q : Nat) (x y s t : Int) (w : World) (sp : SG w p x) (sq : SG w q y) (m1 : (limbs x.natAbs).length ≤ 74) (m2 : (limbs y.natAbs).length ≤ 74) (h1 : t - s ≤ 480) (h2 : -600 ≤ t - s) :
    Calls Try.prog 56 #[.agg #[.pointer (some ⟨p, 0, none⟩), .pointer (some ⟨q, 0, none⟩)], .int .i64 s, .int .i64 t] w (spanE (mvLo x (t - s)) (mvHi y (t - s)) w) := by
  unfold mvLo mvHi
  by_cases h : 0 ≤ t - s
  · rw [if_pos h, if_pos h]
    obtain ⟨k, hk⟩ : ∃ k : Nat, t - s = k := ⟨(t - s).toNat, by omega⟩
    rw [hk, Int.toNat_natCast]
    exact movedSpan_g p q x y _ _ s t w sp sq (fun W g => movedUp_c s t k p x 0 W g hk (by omega) (by omega)) (fun W g => movedUp_c s t k q y 1 W g hk (by omega) (by omega))
  · rw [if_neg h, if_neg h]
    obtain ⟨j, hj⟩ : ∃ j : Nat, t - s = -(j : Int) := ⟨(-(t - s)).toNat, by omega⟩
    rw [hj, show (-(-(j : Int))).toNat = j by omega, ← frac_lo, ← frac_hi _ _ (Int.pow_pos (by omega))]
    exact movedSpan_g p q x y _ _ s t w sp sq (fun W g => movedDown_c s t j p x 0 W g hj (by omega) (by omega) (by omega) (by omega) (by omega)) (fun W g => movedDown_c s t j q y 1 W g hj (by omega) (by omega) (by omega) (by omega) (by omega))

end Go.Proofs.Ytlpfjpbnedankaa

/- The program's betweenRoot, by its contract. -/
namespace Go.Proofs.Ytlpfjpbnedankaa
open Go.RowKit
set_option linter.unusedSimpArgs false

theorem bC_setS (n : Nat) (s s' : Bool) (h : Int) (hl : (limbs n).length ≤ 98) : (bC n s h).setIfInBounds 99 (.bool s') = bC n s' h := by
  obtain ⟨a1, a2, a3, a4⟩ := bC_facts n s h hl
  obtain ⟨b1, b2, b3, b4⟩ := bC_facts n s' h hl
  apply Array.ext_getElem?
  intro i
  rw [Array.getElem?_setIfInBounds]
  by_cases h9 : 99 = i
  · subst h9; rw [if_pos rfl, if_pos (by omega), b3]
  · rw [if_neg h9]
    by_cases h1 : i < 99
    · rw [a2 i h1, b2 i h1]
    · by_cases h2 : i = 100
      · subst h2; rw [a4, b4]
      · rw [Array.getElem?_eq_none (by omega), Array.getElem?_eq_none (by omega)]
theorem bC_setH (n : Nat) (s : Bool) (h h' : Int) (hl : (limbs n).length ≤ 98) : (bC n s h).setIfInBounds 100 (.int .i64 h') = bC n s h' := by
  obtain ⟨a1, a2, a3, a4⟩ := bC_facts n s h hl
  obtain ⟨b1, b2, b3, b4⟩ := bC_facts n s h' hl
  apply Array.ext_getElem?
  intro i
  rw [Array.getElem?_setIfInBounds]
  by_cases h9 : 100 = i
  · subst h9; rw [if_pos rfl, if_pos (by omega), b4]
  · rw [if_neg h9]
    by_cases h1 : i < 99
    · rw [a2 i h1, b2 i h1]
    · by_cases h2 : i = 99
      · subst h2; rw [a3, b3]
      · rw [Array.getElem?_eq_none (by omega), Array.getElem?_eq_none (by omega)]
theorem BN.setS {w : World} {b n : Nat} {s : Bool} {h : Int} (q : BN w b n s h) (s' : Bool) : BN (w.setCell ⟨b, 99, none⟩ (.bool s')) b n s' h :=
  ⟨by rw [heap_setCell_same w b 99 _ _ _ q.blk, bC_setS n s s' h q.len], q.len⟩
theorem BN.setH {w : World} {b n : Nat} {s : Bool} {h : Int} (q : BN w b n s h) (h' : Int) : BN (w.setCell ⟨b, 100, none⟩ (.int .i64 h')) b n s h' :=
  ⟨by rw [heap_setCell_same w b 100 _ _ _ q.blk, bC_setH n s h h' q.len], q.len⟩
theorem BN.free {w : World} {b n : Nat} {s : Bool} {h : Int} (q : BN w b n s h) (j : Nat) : w.frozen? ⟨b, j, none⟩ = false := frozen_of_row w b j _ _ q.blk
theorem ZB.set {w : World} {b : Nat} (q : ZB w b) (p : Addr) (hp : b ≠ p.block) (v : Value) : ZB (w.setCell p v) b :=
  q.tn (Tn.cell (Tn.refl [p.block] w) p (by simp) v) (by simpa using hp)

set_option maxRecDepth 20000 in
set_option maxHeartbeats 6400000 in
/-- betweenRoot: the root of a by 2^k. -/
theorem bRoot (a oa m k : Nat) (w : World) (hl : (limbs m).length ≤ 70) (hk : k ≤ 600) (ha : GA w a oa m) :
    Calls Try.prog 112 #[.pointer (some ⟨a, oa, none⟩), .int .i64 k] w fun e w' => e = .returned (.agg (bC (isqrt (m * 4 / 2 ^ k) / 2) (rootWh m k) (rootHf m k))) ∧ Below w.heap.size w w' := by
  obtain ⟨F, hF⟩ : ∃ F, m * 4 = F := ⟨_, rfl⟩
  have hlF : (limbs F).length ≤ 71 := by
    rw [← hF]
    have := mul_limbs_len m 4
    have h4 : (limbs 4).length ≤ 1 := limbs_len_le _ 1 (by decide)
    omega
  have kU : ∀ W, GA W a oa m → Calls Try.prog 68 #[.pointer (some ⟨a, oa, none⟩), .int .i64 2] W fun e w' => e = .returned (.agg (gC F)) ∧ Below W.heap.size W w' := fun W h => by
    have := gUp a oa m 2 W (by omega) (by omega) h
    rw [show m * 2 ^ 2 = F from hF] at this
    exact this
  have kD := fun f W (q : GA W f 0 F) => gDown f 0 F k W (by omega) (by omega) q
  have hlP : (limbs (F / 2 ^ k)).length ≤ 71 := Nat.le_trans (limbs_mono (Nat.div_le_self _ _)) hlF
  have kR := fun f W (q : GA W f 0 (F / 2 ^ k)) => gRoot f 0 (F / 2 ^ k) W (by omega) q
  obtain ⟨iq1, iq2⟩ := isqrt_spec (F / 2 ^ k)
  have hdl := down_len F k
  unfold rootWh rootHf
  rw [hF]
  obtain ⟨T, hT⟩ : ∃ T, isqrt (F / 2 ^ k) = T := ⟨_, rfl⟩
  rw [hT] at kR iq1 iq2
  rw [hT]
  have hlS : (limbs (T * T)).length ≤ (limbs (F / 2 ^ k)).length := limbs_mono iq1
  have hlS2 : (limbs (T * T)).length ≤ 71 := Nat.le_trans hlS hlP
  have hlT : (limbs T).length ≤ 71 := Nat.le_trans (limbs_mono (Nat.le_trans (Nat.le_mul_self T) iq1)) hlP
  have hT2 : 2 * (limbs T).length ≤ 98 := by
    have h1 : T < 16777216 ^ 36 := by
      apply sq_lt
      have h2 := limbs_lt (F / 2 ^ k)
      have h3 : (16777216 : Nat) ^ (limbs (F / 2 ^ k)).length ≤ 16777216 ^ 72 := Nat.pow_le_pow_right (by omega) (by omega)
      have h4 : (16777216 : Nat) ^ 36 * 16777216 ^ 36 = 16777216 ^ 72 := by rw [← Nat.pow_add]
      rw [h4]
      exact Nat.lt_of_le_of_lt iq1 (Nat.lt_of_lt_of_le h2 h3)
    have := limbs_len_le T 36 h1
    omega
  have kM := fun f W (q : GA W f 0 T) => gTimes f 0 f 0 T T W (by omega) q q
  have hlu : k / 24 + (limbs (T * T)).length + 1 ≤ 98 := by
    rcases hdl with h | h
    · rw [h, limbs_zero] at hlS; simp at hlS; rw [hlS]; simp; omega
    · omega
  have kV := fun f W (q : GA W f 0 (T * T)) => gUp f 0 (T * T) k W hlu (by omega) q
  have hlB : (limbs (T * T * 2 ^ k)).length ≤ 71 := by
    refine Nat.le_trans (limbs_mono (m := F) ?_) hlF
    exact Nat.le_trans (Nat.mul_le_mul_right _ iq1) (Nat.div_mul_le_self _ _)
  have kO := fun f f' W (q1 : GA W f 0 (T * T * 2 ^ k)) (q2 : GA W f' 0 F) => gOrder f 0 f' 0 (T * T * 2 ^ k) F W q1 q2
  have kH : ∀ f W, GA W f 0 T → Calls Try.prog 69 #[.pointer (some ⟨f, 0, none⟩), .int .i64 1] W fun e w' => e = .returned (.agg (gC (T / 2))) ∧ Below W.heap.size W w' := fun f W h => by
    have := gDown f 0 T 1 W (by omega) (by omega) h
    rw [Nat.pow_one] at this
    exact this
  have hlH : (limbs (T / 2)).length ≤ 71 := Nat.le_trans (limbs_mono (Nat.div_le_self _ _)) hlT
  have kB : ∀ f W, GA W f 0 T → Calls Try.prog 121 #[.pointer (some ⟨f, 0, none⟩), .int .i64 0] W fun e w' => e = .returned (.int .u32 ((T % 2 : Nat) : Int)) ∧ w' = W := fun f W hW => by
    have := gBit f 0 T 0 W (by omega) hW
    rw [Nat.pow_zero, Nat.div_one] at this
    exact this
  have hcm : (cmpI (T * T * 2 ^ k) F < 0 ↔ T * T * 2 ^ k < F) ∧ -1 ≤ cmpI (T * T * 2 ^ k) F ∧ cmpI (T * T * 2 ^ k) F ≤ 1 := by
    unfold cmpI
    split
    · simp [*]
    · split <;> simp [*]
  generalize cmpI (T * T * 2 ^ k) F = cm at *
  generalize T * T * 2 ^ k = bk at *
  generalize T * T = sq at *
  generalize T / 2 = hf at *
  generalize F / 2 ^ k = pt at *
  have B := alloc_below w (.cells Try.zeroCells143 143)
  have Z := ZB.made0 w
  have HA := ha.below B ha.lt
  have hal := ha.lt
  clear ha hF hT iq1 iq2 hlS hT2 hdl hlu
  obtain ⟨rs, hrs⟩ : ∃ s, (if T % 2 = 0 then decide (¬ (bk < F)) else false) = s := ⟨_, rfl⟩
  obtain ⟨rh, hrh⟩ : ∃ s, (if T % 2 = 0 then (-1 : Int) else if bk < F then 1 else 0) = s := ⟨_, rfl⟩
  rw [hrs, hrh]
  have HRS : Hid ((if T % 2 = 0 then decide (¬ (bk < F)) else false) = rs) := hrs
  have HRH : Hid ((if T % 2 = 0 then (-1 : Int) else if bk < F then 1 else 0) = rh) := hrh
  have HCM : Hid (cm < 0 ↔ bk < F) := hcm.1
  have hcm1 := hcm.2
  clear hrs hrh hcm
  go_enter Try.func112, Try.ntmps112
  go_wp2_with fail
  refine (kU _ HA).mono ?_
  generalize w.alloc (.cells Try.zeroCells143 143) = w0 at *
  rintro e u1 ⟨rfl, c1⟩
  replace Z := Z.below c1 Z.lt
  replace HA := HA.below c1 HA.lt
  replace B := B.trans (c1.mono B.size)
  clear c1
  have lZ : w.heap.size < u1.heap.size := Z.lt
  have lHA : a < u1.heap.size := HA.lt
  have Q0 := GB.made0 u1
  replace Z := Z.alloc (.cells Try.zeroCells97 97)
  replace HA := HA.below (alloc_below u1 (.cells Try.zeroCells97 97)) HA.lt
  have hBQ := B.size
  replace B := B.alloc B.size (.cells Try.zeroCells97 97)
  go_wp2_with (first
    | (go_at_call 69; fail)
    | ((with_reducible (refine wpL_id ?_)); refine wpN_store rfl (.tmp 5) (.tmp 13) rfl u1.heap.size _ _ (F) rfl rfl Q0 (by omega) ?_; intro u2 Q tQ zQ; replace Z := Z.tn tQ (by simp; omega); replace HA := HA.tn tQ (by simp; omega); replace B := tQ.below B B.size (by simp; omega); clear tQ zQ Q0))
  generalize u1.heap.size = f5 at *
  refine (kD _ _ (GN.ga Q (by omega))).mono ?_
  rintro e u3 ⟨rfl, c3⟩
  replace Z := Z.below c3 Z.lt
  replace HA := HA.below c3 HA.lt
  replace Q := GN.below Q c3 (GN.lt Q)
  replace B := B.trans (c3.mono B.size)
  clear c3
  have lZ : w.heap.size < u3.heap.size := Z.lt
  have lHA : a < u3.heap.size := HA.lt
  have lQ : f5 < u3.heap.size := (GN.lt Q)
  have C0 := GB.made0 u3
  replace Z := Z.alloc (.cells Try.zeroCells97 97)
  replace HA := HA.below (alloc_below u3 (.cells Try.zeroCells97 97)) HA.lt
  replace Q := GN.alloc Q (.cells Try.zeroCells97 97)
  have hBC := B.size
  replace B := B.alloc B.size (.cells Try.zeroCells97 97)
  go_wp2_with (first
    | (go_at_call 120; fail)
    | ((with_reducible (refine wpL_id ?_)); refine wpN_store rfl (.tmp 6) (.tmp 15) rfl u3.heap.size _ _ (pt) rfl rfl C0 (by omega) ?_; intro u4 C tC zC; replace Z := Z.tn tC (by simp; omega); replace HA := HA.tn tC (by simp; omega); replace Q := GN.tn Q tC (by simp; omega); replace B := tC.below B B.size (by simp; omega); clear tC zC C0))
  generalize u3.heap.size = f6 at *
  refine (kR _ _ (GN.ga C (by omega))).mono ?_
  rintro e u5 ⟨rfl, c5⟩
  replace Z := Z.below c5 Z.lt
  replace HA := HA.below c5 HA.lt
  replace Q := GN.below Q c5 (GN.lt Q)
  replace C := GN.below C c5 (GN.lt C)
  replace B := B.trans (c5.mono B.size)
  clear c5
  have lZ : w.heap.size < u5.heap.size := Z.lt
  have lHA : a < u5.heap.size := HA.lt
  have lQ : f5 < u5.heap.size := (GN.lt Q)
  have lC : f6 < u5.heap.size := (GN.lt C)
  have U0 := GB.made0 u5
  replace Z := Z.alloc (.cells Try.zeroCells97 97)
  replace HA := HA.below (alloc_below u5 (.cells Try.zeroCells97 97)) HA.lt
  replace Q := GN.alloc Q (.cells Try.zeroCells97 97)
  replace C := GN.alloc C (.cells Try.zeroCells97 97)
  have hBU := B.size
  replace B := B.alloc B.size (.cells Try.zeroCells97 97)
  go_wp2_with (first
    | (go_at_call 98; fail)
    | ((with_reducible (refine wpL_id ?_)); refine wpN_store rfl (.tmp 7) (.tmp 16) rfl u5.heap.size _ _ (T) rfl rfl U0 (by omega) ?_; intro u6 U tU zU; replace Z := Z.tn tU (by simp; omega); replace HA := HA.tn tU (by simp; omega); replace Q := GN.tn Q tU (by simp; omega); replace C := GN.tn C tU (by simp; omega); replace B := tU.below B B.size (by simp; omega); clear tU zU U0))
  generalize u5.heap.size = f7 at *
  refine (kM _ _ (GN.ga U (by omega))).mono ?_
  rintro e u7 ⟨rfl, c7⟩
  replace Z := Z.below c7 Z.lt
  replace HA := HA.below c7 HA.lt
  replace Q := GN.below Q c7 (GN.lt Q)
  replace C := GN.below C c7 (GN.lt C)
  replace U := GN.below U c7 (GN.lt U)
  replace B := B.trans (c7.mono B.size)
  clear c7
  have lZ : w.heap.size < u7.heap.size := Z.lt
  have lHA : a < u7.heap.size := HA.lt
  have lQ : f5 < u7.heap.size := (GN.lt Q)
  have lC : f6 < u7.heap.size := (GN.lt C)
  have lU : f7 < u7.heap.size := (GN.lt U)
  have R0 := GB.made0 u7
  replace Z := Z.alloc (.cells Try.zeroCells97 97)
  replace HA := HA.below (alloc_below u7 (.cells Try.zeroCells97 97)) HA.lt
  replace Q := GN.alloc Q (.cells Try.zeroCells97 97)
  replace C := GN.alloc C (.cells Try.zeroCells97 97)
  replace U := GN.alloc U (.cells Try.zeroCells97 97)
  have hBR := B.size
  replace B := B.alloc B.size (.cells Try.zeroCells97 97)
  go_wp2_with (first
    | (go_at_call 68; fail)
    | ((with_reducible (refine wpL_id ?_)); refine wpN_store rfl (.tmp 8) (.tmp 17) rfl u7.heap.size _ _ (sq) rfl rfl R0 (by omega) ?_; intro u8 R tR zR; replace Z := Z.tn tR (by simp; omega); replace HA := HA.tn tR (by simp; omega); replace Q := GN.tn Q tR (by simp; omega); replace C := GN.tn C tR (by simp; omega); replace U := GN.tn U tR (by simp; omega); replace B := tR.below B B.size (by simp; omega); clear tR zR R0))
  generalize u7.heap.size = f8 at *
  refine (kV _ _ (GN.ga R (by omega))).mono ?_
  rintro e u9 ⟨rfl, c9⟩
  replace Z := Z.below c9 Z.lt
  replace HA := HA.below c9 HA.lt
  replace Q := GN.below Q c9 (GN.lt Q)
  replace C := GN.below C c9 (GN.lt C)
  replace U := GN.below U c9 (GN.lt U)
  replace R := GN.below R c9 (GN.lt R)
  replace B := B.trans (c9.mono B.size)
  clear c9
  have lZ : w.heap.size < u9.heap.size := Z.lt
  have lHA : a < u9.heap.size := HA.lt
  have lQ : f5 < u9.heap.size := (GN.lt Q)
  have lC : f6 < u9.heap.size := (GN.lt C)
  have lU : f7 < u9.heap.size := (GN.lt U)
  have lR : f8 < u9.heap.size := (GN.lt R)
  have V0 := GB.made0 u9
  replace Z := Z.alloc (.cells Try.zeroCells97 97)
  replace HA := HA.below (alloc_below u9 (.cells Try.zeroCells97 97)) HA.lt
  replace Q := GN.alloc Q (.cells Try.zeroCells97 97)
  replace C := GN.alloc C (.cells Try.zeroCells97 97)
  replace U := GN.alloc U (.cells Try.zeroCells97 97)
  replace R := GN.alloc R (.cells Try.zeroCells97 97)
  have hBV := B.size
  replace B := B.alloc B.size (.cells Try.zeroCells97 97)
  go_wp2_with (first
    | (go_at_call 70; fail)
    | ((with_reducible (refine wpL_id ?_)); refine wpN_store rfl (.tmp 9) (.tmp 19) rfl u9.heap.size _ _ (bk) rfl rfl V0 (by omega) ?_; intro u10 V tV zV; replace Z := Z.tn tV (by simp; omega); replace HA := HA.tn tV (by simp; omega); replace Q := GN.tn Q tV (by simp; omega); replace C := GN.tn C tV (by simp; omega); replace U := GN.tn U tV (by simp; omega); replace R := GN.tn R tV (by simp; omega); replace B := tV.below B B.size (by simp; omega); clear tV zV V0))
  generalize u9.heap.size = f9 at *
  refine (kO _ _ _ (GN.ga V (by omega)) (GN.ga Q (by omega))).mono ?_
  rintro e u11 ⟨rfl, c11⟩
  replace Z := Z.below c11 Z.lt
  replace HA := HA.below c11 HA.lt
  replace Q := GN.below Q c11 (GN.lt Q)
  replace C := GN.below C c11 (GN.lt C)
  replace U := GN.below U c11 (GN.lt U)
  replace R := GN.below R c11 (GN.lt R)
  replace V := GN.below V c11 (GN.lt V)
  replace B := B.trans (c11.mono B.size)
  clear c11
  go_wp2_with fail
  refine (kH _ _ (GN.ga U (by omega))).mono ?_
  rintro e u12 ⟨rfl, c12⟩
  replace Z := Z.below c12 Z.lt
  replace HA := HA.below c12 HA.lt
  replace Q := GN.below Q c12 (GN.lt Q)
  replace C := GN.below C c12 (GN.lt C)
  replace U := GN.below U c12 (GN.lt U)
  replace R := GN.below R c12 (GN.lt R)
  replace V := GN.below V c12 (GN.lt V)
  replace B := B.trans (c12.mono B.size)
  clear c12
  have lZ : w.heap.size < u12.heap.size := Z.lt
  have lHA : a < u12.heap.size := HA.lt
  have lQ : f5 < u12.heap.size := (GN.lt Q)
  have lC : f6 < u12.heap.size := (GN.lt C)
  have lU : f7 < u12.heap.size := (GN.lt U)
  have lR : f8 < u12.heap.size := (GN.lt R)
  have lV : f9 < u12.heap.size := (GN.lt V)
  have Y0 := ZB.made0 u12
  replace Z := Z.alloc (.cells Try.zeroCells143 143)
  replace HA := HA.below (alloc_below u12 (.cells Try.zeroCells143 143)) HA.lt
  replace Q := GN.alloc Q (.cells Try.zeroCells143 143)
  replace C := GN.alloc C (.cells Try.zeroCells143 143)
  replace U := GN.alloc U (.cells Try.zeroCells143 143)
  replace R := GN.alloc R (.cells Try.zeroCells143 143)
  replace V := GN.alloc V (.cells Try.zeroCells143 143)
  have hBY := B.size
  replace B := B.alloc B.size (.cells Try.zeroCells143 143)
  go_wp2_with (first
    | (go_at_call 121; fail)
    | ((with_reducible (refine wpL_id ?_)); refine wpB_build rfl (.tmp 22) rfl hf rfl (by omega) ?_)
    | ((with_reducible (refine wpL_id ?_)); refine wpB_store rfl (.tmp 11) (.tmp 23) rfl u12.heap.size hf false 0 rfl rfl Y0 (by omega) ?_; intro v1 M t1 z1; replace Z := Z.tn t1 (by simp; omega); replace HA := HA.tn t1 (by simp; omega); replace Q := GN.tn Q t1 (by simp; omega); replace C := GN.tn C t1 (by simp; omega); replace U := GN.tn U t1 (by simp; omega); replace R := GN.tn R t1 (by simp; omega); replace V := GN.tn V t1 (by simp; omega); replace B := t1.below B B.size (by simp; omega); clear t1 z1 Y0))
  generalize u12.heap.size = f11 at *
  refine (kB _ _ (GN.ga U (by omega))).mono ?_
  rintro e v2 ⟨rfl, rfl⟩
  have c9 := M.whole
  have c10 := M.half
  have fr9 := M.free 99
  have fr10 := M.free 100
  have hq2 : T % 2 < 2 := Nat.mod_lt _ (by omega)
  have hs1 : (cm < 0) = (bk < F) := propext HCM.out
  clear kU kD kR kM kV kO kH kB Q C U R V HA
  by_cases hp : T % 2 = 0
  · by_cases hsh : bk < F
    · skip
      have e0 : (((T % 2 : Nat) : Int) == 0) = true := by rw [hp]; rfl
      have e3 : (((T % 2 : Nat) : Int) = 0) := by rw [hp]; rfl
      have e1 : decide (cm < 0) = true := decide_eq_true (by rw [hs1]; exact hsh)
      have e2 : (cm < 0) := by rw [hs1]; exact hsh
      have M2 := (M.setS false).setH (-1)
      have Z2 := (Z.set ⟨f11, 99, none⟩ (by show w.heap.size ≠ f11; omega) (.bool false)).set ⟨f11, 100, none⟩ (by show w.heap.size ≠ f11; omega) (.int .i64 (-1))
      have B2 := (B.setCell (p := ⟨f11, 99, none⟩) (by show w.heap.size ≤ f11; omega) (.bool false)).setCell (p := ⟨f11, 100, none⟩) (by show w.heap.size ≤ f11; omega) (.int .i64 (-1))
      have hr1 : rs = false := by rw [← HRS.out]; simp [hp, hsh]
      have hr2 : rh = -1 := by rw [← HRH.out]; simp [hp, hsh]
      subst hr1 hr2
      clear HRS HRH HCM hs1 hsh M Z B hp
      go_wp2_with (first
        | ((with_reducible (refine wpL_id ?_)); refine wpB_load rfl (.tmp 11) rfl f11 hf false (-1) rfl M2 ?_)
        | ((with_reducible (refine wpL_id ?_)); refine wpB_store rfl (.tmp 4) (.tmp 34) rfl w.heap.size hf false (-1) rfl rfl Z2 (by omega) ?_; intro w5 g5 t5 s5))
      (try simp only [Exit.inBlock, Exit.then])
      refine bodyPost_ret (v := .agg (bC hf false (-1))) ?_ rfl ⟨rfl, t5.below B2 B2.size (by simp)⟩
      exact results_between rfl _ _ w.heap.size _ _ _ rfl g5
    · skip
      have e0 : (((T % 2 : Nat) : Int) == 0) = true := by rw [hp]; rfl
      have e3 : (((T % 2 : Nat) : Int) = 0) := by rw [hp]; rfl
      have e1 : decide (cm < 0) = false := decide_eq_false (by rw [hs1]; exact hsh)
      have e2 : ¬ (cm < 0) := by rw [hs1]; exact hsh
      have M2 := (M.setS true).setH (-1)
      have Z2 := (Z.set ⟨f11, 99, none⟩ (by show w.heap.size ≠ f11; omega) (.bool true)).set ⟨f11, 100, none⟩ (by show w.heap.size ≠ f11; omega) (.int .i64 (-1))
      have B2 := (B.setCell (p := ⟨f11, 99, none⟩) (by show w.heap.size ≤ f11; omega) (.bool true)).setCell (p := ⟨f11, 100, none⟩) (by show w.heap.size ≤ f11; omega) (.int .i64 (-1))
      have hr1 : rs = true := by rw [← HRS.out]; simp [hp, hsh]
      have hr2 : rh = -1 := by rw [← HRH.out]; simp [hp, hsh]
      subst hr1 hr2
      clear HRS HRH HCM hs1 hsh M Z B hp
      go_wp2_with (first
        | ((with_reducible (refine wpL_id ?_)); refine wpB_load rfl (.tmp 11) rfl f11 hf true (-1) rfl M2 ?_)
        | ((with_reducible (refine wpL_id ?_)); refine wpB_store rfl (.tmp 4) (.tmp 34) rfl w.heap.size hf true (-1) rfl rfl Z2 (by omega) ?_; intro w5 g5 t5 s5))
      (try simp only [Exit.inBlock, Exit.then])
      refine bodyPost_ret (v := .agg (bC hf true (-1))) ?_ rfl ⟨rfl, t5.below B2 B2.size (by simp)⟩
      exact results_between rfl _ _ w.heap.size _ _ _ rfl g5
  · by_cases hsh : bk < F
    · skip
      have e0 : (((T % 2 : Nat) : Int) == 0) = false := by rw [beq_eq_false_iff_ne]; omega
      have e3 : ¬ (((T % 2 : Nat) : Int) = 0) := by omega
      have e1 : decide (cm < 0) = true := decide_eq_true (by rw [hs1]; exact hsh)
      have e2 : (cm < 0) := by rw [hs1]; exact hsh
      have M2 := M.setH 1
      have Z2 := Z.set ⟨f11, 100, none⟩ (by show w.heap.size ≠ f11; omega) (.int .i64 1)
      have B2 := B.setCell (p := ⟨f11, 100, none⟩) (by show w.heap.size ≤ f11; omega) (.int .i64 1)
      have hr1 : rs = false := by rw [← HRS.out]; simp [hp, hsh]
      have hr2 : rh = 1 := by rw [← HRH.out]; simp [hp, hsh]
      subst hr1 hr2
      clear HRS HRH HCM hs1 hsh M Z B hp
      go_wp2_with (first
        | ((with_reducible (refine wpL_id ?_)); refine wpB_load rfl (.tmp 11) rfl f11 hf false (1) rfl M2 ?_)
        | ((with_reducible (refine wpL_id ?_)); refine wpB_store rfl (.tmp 4) (.tmp 34) rfl w.heap.size hf false (1) rfl rfl Z2 (by omega) ?_; intro w5 g5 t5 s5))
      (try simp only [Exit.inBlock, Exit.then])
      refine bodyPost_ret (v := .agg (bC hf false (1))) ?_ rfl ⟨rfl, t5.below B2 B2.size (by simp)⟩
      exact results_between rfl _ _ w.heap.size _ _ _ rfl g5
    · skip
      have e0 : (((T % 2 : Nat) : Int) == 0) = false := by rw [beq_eq_false_iff_ne]; omega
      have e3 : ¬ (((T % 2 : Nat) : Int) = 0) := by omega
      have e1 : decide (cm < 0) = false := decide_eq_false (by rw [hs1]; exact hsh)
      have e2 : ¬ (cm < 0) := by rw [hs1]; exact hsh
      have M2 := M
      have Z2 := Z
      have B2 := B
      have hr1 : rs = false := by rw [← HRS.out]; simp [hp, hsh]
      have hr2 : rh = 0 := by rw [← HRH.out]; simp [hp, hsh]
      subst hr1 hr2
      clear HRS HRH HCM hs1 hsh M Z B hp
      go_wp2_with (first
        | ((with_reducible (refine wpL_id ?_)); refine wpB_load rfl (.tmp 11) rfl f11 hf false (0) rfl M2 ?_)
        | ((with_reducible (refine wpL_id ?_)); refine wpB_store rfl (.tmp 4) (.tmp 34) rfl w.heap.size hf false (0) rfl rfl Z2 (by omega) ?_; intro w5 g5 t5 s5))
      (try simp only [Exit.inBlock, Exit.then])
      refine bodyPost_ret (v := .agg (bC hf false (0))) ?_ rfl ⟨rfl, t5.below B2 B2.size (by simp)⟩
      exact results_between rfl _ _ w.heap.size _ _ _ rfl g5

end Go.Proofs.Ytlpfjpbnedankaa

/- The program's rooted and rootedSpan, each by its contract. -/
namespace Go.Proofs.Ytlpfjpbnedankaa
open Go.RowKit
set_option linter.unusedSimpArgs false

/-- The root, rounded down and up. -/
def rtLo (n : Nat) : Int := (isqrt n : Nat)
def rtUp (n : Nat) : Nat := if isqrt n * isqrt n < n then isqrt n + 1 else isqrt n
theorem root_lo (x : Int) : rootI x 0 0 = rtLo x.natAbs := by
  unfold rootI pickI rtLo
  rw [Nat.pow_zero, Nat.div_one]
  split
  · rfl
  · rfl
theorem root_hi (x : Int) : rootI x 0 1 = (rtUp x.natAbs : Nat) := by
  unfold rootI pickI rtUp
  rw [Nat.pow_zero, Nat.div_one, Nat.mul_one]
  have h := (isqrt_spec x.natAbs).1
  by_cases e : isqrt x.natAbs * isqrt x.natAbs = x.natAbs
  · rw [decide_eq_true e, if_pos rfl, if_neg (by omega)]
  · rw [decide_eq_false e, if_neg (by simp), if_pos rfl, if_pos (by omega)]
    rfl
theorem rtUp_le (n : Nat) : rtUp n ≤ n := by
  have h := isqrt_spec n
  have h2 := isqrt_le n
  unfold rtUp
  split
  · rename_i hlt
    by_cases e : isqrt n = n
    · rw [e] at hlt
      have : n ≤ n * n := Nat.le_mul_self n
      omega
    · omega
  · exact h2

theorem abs_pow2 (k : Nat) : ((2 : Int) ^ k).natAbs = 2 ^ k := by rw [Int.natAbs_pow]; rfl
theorem shl_len (n k : Nat) : (limbs (n * 2 ^ k)).length ≤ (limbs n).length + k / 24 + 1 := by
  have h1 := mul_limbs_len n (2 ^ k)
  have h2 := pow2_limbs k
  omega

set_option maxRecDepth 20000 in
set_option maxHeartbeats 6400000 in
theorem rooted_c (p : Nat) (x mode : Int) (w : World) (sp : SG w p x) (hl : (limbs x.natAbs).length ≤ 70) (h0 : 0 ≤ mode) (h4 : mode ≤ 4) :
    Calls Try.prog 91 #[.pointer (some ⟨p, 0, none⟩), .int .i64 mode] w fun e w' => ∃ c, e = .returned (.pointer (some ⟨c, 0, none⟩)) ∧ w.heap.size ≤ c ∧ SG w' c (rootI x 0 mode) ∧ Below w.heap.size w w' := by
  have kF := fun W (h1 : GA W p 1 x.natAbs) => bRoot p 1 x.natAbs 0 W hl (by omega) h1
  have hq : (limbs (isqrt (x.natAbs * 4 / 2 ^ 0) / 2)).length ≤ 97 := by
    have h1 : isqrt (x.natAbs * 4 / 2 ^ 0) / 2 ≤ x.natAbs * 4 := Nat.le_trans (Nat.div_le_self _ _) (Nat.le_trans (isqrt_le _) (Nat.div_le_self _ _))
    have h2 := limbs_mono h1
    have h3 := mul_limbs_len x.natAbs 4
    have h5 : (limbs 4).length ≤ 1 := limbs_len_le _ 1 (by decide)
    omega
  have kR := fun W => bRounded (isqrt (x.natAbs * 4 / 2 ^ 0) / 2) (rootWh x.natAbs 0) (rootHf x.natAbs 0) mode false W hq h0 h4
  have hr := root_round x 0 mode h0 h4
  have HP := sp.sgg
  rw [if_neg (by simp), ← hr] at kR
  clear hr hq hl h0 h4
  generalize rootI x 0 mode = r at *
  generalize isqrt (x.natAbs * 4 / 2 ^ 0) / 2 = q at *
  generalize rootWh x.natAbs 0 = wh at *
  generalize rootHf x.natAbs 0 = hf at *
  generalize decide (x < 0) = g at *
  generalize x.natAbs = mx at *
  clear sp
  have HG := HP.2
  go_enter Try.func91, Try.ntmps91
  go_wp2_with fail
  refine (kF _ HG).mono ?_
  rintro e w4 ⟨rfl, b4⟩
  go_wp2_with fail
  refine (kR _).mono ?_
  rintro e w5 ⟨c, rfl, hc, sc, b5⟩
  have HB := b4.trans (b5.mono b4.size)
  have hcc := Nat.le_trans b4.size hc
  go_wp2
  go_ret
  exact ⟨c, rfl, hcc, sc, HB⟩

set_option maxRecDepth 20000 in
set_option maxHeartbeats 6400000 in
theorem rootedSpan_c (p q k : Nat) (x y : Int) (w : World) (sp : SG w p x) (sq : SG w q y) (m1 : (limbs x.natAbs).length ≤ 48) (m2 : (limbs y.natAbs).length ≤ 48) (hk : k ≤ 500) :
    Calls Try.prog 57 #[.agg #[.pointer (some ⟨p, 0, none⟩), .pointer (some ⟨q, 0, none⟩)], .int .i64 k] w (spanE (rtLo (x.natAbs * 2 ^ k)) (rtUp (y.natAbs * 2 ^ k) : Nat) w) := by
  have l1 : (limbs (x * 2 ^ k).natAbs).length ≤ 70 := by rw [Int.natAbs_mul, abs_pow2]; have := shl_len x.natAbs k; omega
  have l2 : (limbs (y * 2 ^ k).natAbs).length ≤ 70 := by rw [Int.natAbs_mul, abs_pow2]; have := shl_len y.natAbs k; omega
  have kS := fun W h => sgUp p x k W h (by omega) (by omega)
  have kP := fun W h => sgUp q y k W h (by omega) (by omega)
  have kR := fun c W h => rooted_c c (x * 2 ^ k) 0 W h l1 (by omega) (by omega)
  have kQ := fun c W h => rooted_c c (y * 2 ^ k) 1 W h l2 (by omega) (by omega)
  rw [root_lo, Int.natAbs_mul, abs_pow2] at kR
  rw [root_hi, Int.natAbs_mul, abs_pow2] at kQ
  unfold spanE
  clear l1 l2 m1 m2
  generalize rtLo (x.natAbs * 2 ^ k) = d1 at *
  generalize ((rtUp (y.natAbs * 2 ^ k) : Nat) : Int) = d2 at *
  generalize x * 2 ^ k = xk at *
  generalize y * 2 ^ k = yk at *
  have s1 : (w.alloc (.cells #[.pointer (some ⟨p, 0, none⟩), .pointer (some ⟨q, 0, none⟩)] 52)).heap.size = w.heap.size + 1 := by simp
  have E0 := (BoxW.made w (.pointer (some ⟨p, 0, none⟩)) (.pointer (some ⟨q, 0, none⟩)) 52).below (below1 _ (.cells #[.pointer none, .pointer none] 52)) (Nat.le_refl _)
  have R0 := BoxW.made (w.alloc (.cells #[.pointer (some ⟨p, 0, none⟩), .pointer (some ⟨q, 0, none⟩)] 52)) (.pointer none) (.pointer none) 52
  rw [s1] at R0
  have B0 := below2 w (.cells #[.pointer (some ⟨p, 0, none⟩), .pointer (some ⟨q, 0, none⟩)] 52) (.cells #[.pointer none, .pointer none] 52)
  have sp0 := sp.below B0 sp.lt
  have sq0 := sq.below B0 sq.lt
  clear s1 sp sq
  go_enter Try.func57, Try.ntmps57
  go_wp2_with fail
  generalize (w.alloc (.cells #[.pointer (some ⟨p, 0, none⟩), .pointer (some ⟨q, 0, none⟩)] 52)).alloc (.cells #[.pointer none, .pointer none] 52) = w0 at *
  have bd' := (Below.refl w0.heap.size w0).drew
  have E3 := E0.below bd' (Nat.le_refl _)
  have R3 := R0.below bd' (Nat.le_refl _)
  have B3 := B0.trans (bd'.mono B0.size)
  have sp3 := sp0.below bd' sp0.lt
  have sq3 := sq0.below bd' sq0.lt
  refine wp_region_held_drew (S := fun W => W.cell? ⟨w.heap.size, 0, none⟩ = some (.pointer (some ⟨p, 0, none⟩)) ∧ W.cell? ⟨w.heap.size, 1, none⟩ = some (.pointer (some ⟨q, 0, none⟩))) (by kernel_rfl) ⟨E3.c0, E3.c1⟩ ?_
  intro hHeld
  generalize w0.drew = w3 at *
  refine takeH 0 (some 5) (.pointer (some ⟨w.heap.size, 0, none⟩)) rfl rfl (by kernel_rfl) (by kernel_rfl) (by kernel_rfl) (fun _ _ _ h => h) (Or.inl ⟨rfl, fun W hW => by obtain _ := hW; go_simp⟩) (by assumption) ?_
  simp only [Act.put, List.setIfInBounds_toArray, List.set_cons_zero, List.set_cons_succ]
  refine takeH 1 (some 6) (.pointer (some ⟨p, 0, none⟩)) rfl rfl (by kernel_rfl) (by kernel_rfl) (by kernel_rfl) (fun _ _ _ h => h) (Or.inl ⟨rfl, fun W hW => by obtain ⟨_c, _⟩ := hW; go_simp⟩) (by assumption) ?_
  simp only [Act.put, List.setIfInBounds_toArray, List.set_cons_zero, List.set_cons_succ]
  refine takeH 2 (some 7) (.int .i64 k) rfl rfl (by kernel_rfl) (by kernel_rfl) (by kernel_rfl) (fun _ _ _ h => h) (yg_move rfl (.tmp 1) rfl _ rfl) (by assumption) ?_
  simp only [Act.put, List.setIfInBounds_toArray, List.set_cons_zero, List.set_cons_succ]
  refine takeH 5 (some 10) (.pointer (some ⟨w.heap.size, 1, none⟩)) rfl rfl (by kernel_rfl) (by kernel_rfl) (by kernel_rfl) (fun _ _ _ h => h) (Or.inl ⟨rfl, fun W hW => by obtain _ := hW; go_simp⟩) (by assumption) ?_
  simp only [Act.put, List.setIfInBounds_toArray, List.set_cons_zero, List.set_cons_succ]
  refine takeH 6 (some 11) (.pointer (some ⟨q, 0, none⟩)) rfl rfl (by kernel_rfl) (by kernel_rfl) (by kernel_rfl) (fun _ _ _ h => h) (Or.inl ⟨rfl, fun W hW => by obtain ⟨_, _c⟩ := hW; go_simp⟩) (by assumption) ?_
  simp only [Act.put, List.setIfInBounds_toArray, List.set_cons_zero, List.set_cons_succ]
  refine takeH 7 (some 12) (.int .i64 k) rfl rfl (by kernel_rfl) (by kernel_rfl) (by kernel_rfl) (fun _ _ _ h => h) (yg_move rfl (.tmp 1) rfl _ rfl) (by assumption) ?_
  simp only [Act.put, List.setIfInBounds_toArray, List.set_cons_zero, List.set_cons_succ]
  refine oneH 3 rfl (by kernel_rfl) (fun K' hK => ?_)
  go_simp
  refine (kS _ sp3).mono ?_
  rintro e w4 ⟨c, rfl, hc, sc, b4⟩
  have E4 := E3.below b4 (Nat.le_refl _)
  have R4 := R3.below b4 (Nat.le_refl _)
  have B4 := B3.trans (b4.mono B3.size)
  have sp4 := sp3.below b4 sp3.lt
  have sq4 := sq3.below b4 sq3.lt
  refine hK _ _ ⟨E4.c0, E4.c1⟩ ?_
  clear hK
  refine oneH 4 rfl (by kernel_rfl) (fun K' hK => ?_)
  go_simp
  refine (kR c _ sc).mono ?_
  rintro e w5 ⟨c2, rfl, hc2, sc2, b5⟩
  have E5 := E4.below b5 (Nat.le_refl _)
  have R5 := R4.below b5 (Nat.le_refl _)
  have B5 := B4.trans (b5.mono B4.size)
  have sp5 := sp4.below b5 sp4.lt
  have sq5 := sq4.below b5 sq4.lt
  have sc := sc.below b5 sc.lt
  refine hK _ _ ⟨E5.c0, E5.c1⟩ ?_
  clear hK
  refine oneH 8 rfl (by kernel_rfl) (fun K' hK => ?_)
  go_simp
  refine (kP _ sq5).mono ?_
  rintro e w6 ⟨d, rfl, hd, sd, b6⟩
  have E6 := E5.below b6 (Nat.le_refl _)
  have R6 := R5.below b6 (Nat.le_refl _)
  have B6 := B5.trans (b6.mono B5.size)
  have sp6 := sp5.below b6 sp5.lt
  have sq6 := sq5.below b6 sq5.lt
  have sc := sc.below b6 sc.lt
  have sc2 := sc2.below b6 sc2.lt
  refine hK _ _ ⟨E6.c0, E6.c1⟩ ?_
  clear hK
  refine oneH 9 rfl (by kernel_rfl) (fun K' hK => ?_)
  go_simp
  refine (kQ d _ sd).mono ?_
  rintro e w7 ⟨D2, rfl, hd2, sd2, b7⟩
  have E7 := E6.below b7 (Nat.le_refl _)
  have R7 := R6.below b7 (Nat.le_refl _)
  have B7 := B6.trans (b7.mono B6.size)
  have sp7 := sp6.below b7 sp6.lt
  have sq7 := sq6.below b7 sq6.lt
  have sc := sc.below b7 sc.lt
  have sc2 := sc2.below b7 sc2.lt
  have sd := sd.below b7 sd.lt
  refine hK _ _ ⟨E7.c0, E7.c1⟩ ?_
  clear hK
  have H5 : (fun W : World => W.cell? ⟨w.heap.size, 0, none⟩ = some (.pointer (some ⟨p, 0, none⟩)) ∧ W.cell? ⟨w.heap.size, 1, none⟩ = some (.pointer (some ⟨q, 0, none⟩))) w7 := ⟨E7.c0, E7.c1⟩
  refine takeH 10 (some 15) (.agg #[.pointer (some ⟨c2, 0, none⟩), .pointer (some ⟨D2, 0, none⟩)]) rfl rfl (by kernel_rfl) (by kernel_rfl) (by kernel_rfl) (fun _ _ _ h => h) (Or.inl ⟨rfl, fun W hW => by obtain _ := hW; go_simp⟩) (by assumption) ?_
  simp only [Act.put, List.setIfInBounds_toArray, List.set_cons_zero, List.set_cons_succ]
  have hR4 := R4.hi
  have hR6 := R6.hi
  have E8 := E7.tn ((tnC w7 (w.heap.size + 1) 0 (.pointer (some ⟨c2, 0, none⟩))).trans (tnC _ (w.heap.size + 1) 1 (.pointer (some ⟨D2, 0, none⟩)))) (fun k hk hs => by simp at hk hs; omega)
  have r0 := R7.c0
  have f0 := R7.f0
  have r1 := R7.c1
  have f1 := R7.f1
  refine oneH 11 rfl (by kernel_rfl) (fun K' hK => ?_)
  go_simp
  refine hK _ _ ⟨E8.c0, E8.c1⟩ ?_
  clear hK
  refine wpAnyH_done (by kernel_rfl) ?_ _
  have HC : Hid (SG _ c2 _) := sc2.tn ((tnC w7 (w.heap.size + 1) 0 (.pointer (some ⟨c2, 0, none⟩))).trans (tnC _ (w.heap.size + 1) 1 (.pointer (some ⟨D2, 0, none⟩)))) (fun h => by simp at h; omega)
  have HD : Hid (SG _ D2 _) := sd2.tn ((tnC w7 (w.heap.size + 1) 0 (.pointer (some ⟨c2, 0, none⟩))).trans (tnC _ (w.heap.size + 1) 1 (.pointer (some ⟨D2, 0, none⟩)))) (fun h => by simp at h; omega)
  have HB : Hid (Below w.heap.size w _) := ((B7.setCell (p := ⟨w.heap.size + 1, 0, none⟩) (by show w.heap.size ≤ w.heap.size + 1; omega) (.pointer (some ⟨c2, 0, none⟩))).setCell (p := ⟨w.heap.size + 1, 1, none⟩) (by show w.heap.size ≤ w.heap.size + 1; omega) (.pointer (some ⟨D2, 0, none⟩)))
  clear hHeld H5 E0 E3 E4 E5 E6 E7 E8 R0 R3 R4 R5 R6 R7 B0 B3 B4 B5 B6 B7 b4 b5 b6 b7 bd' sc sd sc2 sd2 kS kP kR kQ sp0 sp3 sp4 sp5 sp6 sp7 sq0 sq3 sq4 sq5 sq6 sq7
  go_wp2
  (try simp only [Exit.inBlock, Exit.then])
  refine bodyPost_ret (v := .agg #[.pointer (some ⟨c2, 0, none⟩), .pointer (some ⟨D2, 0, none⟩)]) ?_ rfl ⟨_, _, rfl, HC.out, HD.out, HB.out⟩
  rw [results_cell1 rfl]
  go_simp

end Go.Proofs.Ytlpfjpbnedankaa

/- The program's movedSpan again, by a contract that tells its answer's blocks as new. -/
namespace Go.Proofs.Ytlpfjpbnedankaa
open Go.RowKit
set_option linter.unusedSimpArgs false

/-- A new span whose ends are these two. -/
def spanF (x y : Int) (w : World) (e : Ending) (w' : World) : Prop := ∃ c d : Nat, e = .returned (.agg #[.pointer (some ⟨c, 0, none⟩), .pointer (some ⟨d, 0, none⟩)]) ∧ SG w' c x ∧ SG w' d y ∧ Below w.heap.size w w' ∧ w.heap.size ≤ c ∧ w.heap.size ≤ d

set_option maxRecDepth 20000 in
set_option maxHeartbeats 6400000 in
theorem movedSpan_h (p q : Nat) (x y d1 d2 s t : Int) (w : World) (sp : SG w p x) (sq : SG w q y)
    (kS : ∀ W, SG W p x → Calls Try.prog 90 #[.int .i64 s, .int .i64 t, .pointer (some ⟨p, 0, none⟩), .int .i64 0] W (fun e w' => ∃ c, e = .returned (.pointer (some ⟨c, 0, none⟩)) ∧ W.heap.size ≤ c ∧ SG w' c d1 ∧ Below W.heap.size W w'))
    (kP : ∀ W, SG W q y → Calls Try.prog 90 #[.int .i64 s, .int .i64 t, .pointer (some ⟨q, 0, none⟩), .int .i64 1] W (fun e w' => ∃ c, e = .returned (.pointer (some ⟨c, 0, none⟩)) ∧ W.heap.size ≤ c ∧ SG w' c d2 ∧ Below W.heap.size W w')) :
    Calls Try.prog 56 #[.agg #[.pointer (some ⟨p, 0, none⟩), .pointer (some ⟨q, 0, none⟩)], .int .i64 s, .int .i64 t] w (spanF d1 d2 w) := by
  unfold spanF
  have s1 : (w.alloc (.cells #[.pointer (some ⟨p, 0, none⟩), .pointer (some ⟨q, 0, none⟩)] 52)).heap.size = w.heap.size + 1 := by simp
  have E0 := (BoxW.made w (.pointer (some ⟨p, 0, none⟩)) (.pointer (some ⟨q, 0, none⟩)) 52).below (below1 _ (.cells #[.pointer none, .pointer none] 52)) (Nat.le_refl _)
  have R0 := BoxW.made (w.alloc (.cells #[.pointer (some ⟨p, 0, none⟩), .pointer (some ⟨q, 0, none⟩)] 52)) (.pointer none) (.pointer none) 52
  rw [s1] at R0
  have B0 := below2 w (.cells #[.pointer (some ⟨p, 0, none⟩), .pointer (some ⟨q, 0, none⟩)] 52) (.cells #[.pointer none, .pointer none] 52)
  have sp0 := sp.below B0 sp.lt
  have sq0 := sq.below B0 sq.lt
  clear s1 sp sq
  go_enter Try.func56, Try.ntmps56
  go_wp2_with fail
  generalize (w.alloc (.cells #[.pointer (some ⟨p, 0, none⟩), .pointer (some ⟨q, 0, none⟩)] 52)).alloc (.cells #[.pointer none, .pointer none] 52) = w0 at *
  have bd' := (Below.refl w0.heap.size w0).drew
  have E3 := E0.below bd' (Nat.le_refl _)
  have R3 := R0.below bd' (Nat.le_refl _)
  have B3 := B0.trans (bd'.mono B0.size)
  have sp3 := sp0.below bd' sp0.lt
  have sq3 := sq0.below bd' sq0.lt
  refine wp_region_held_drew (S := fun W => W.cell? ⟨w.heap.size, 0, none⟩ = some (.pointer (some ⟨p, 0, none⟩)) ∧ W.cell? ⟨w.heap.size, 1, none⟩ = some (.pointer (some ⟨q, 0, none⟩))) (by kernel_rfl) ⟨E3.c0, E3.c1⟩ ?_
  intro hHeld
  generalize w0.drew = w3 at *
  refine takeH 0 (some 11) (.int .i64 s) rfl rfl (by kernel_rfl) (by kernel_rfl) (by kernel_rfl) (fun _ _ _ h => h) (yg_move rfl (.tmp 7) rfl _ rfl) (by assumption) ?_
  simp only [Act.put, List.setIfInBounds_toArray, List.set_cons_zero, List.set_cons_succ]
  refine takeH 1 (some 12) (.int .i64 t) rfl rfl (by kernel_rfl) (by kernel_rfl) (by kernel_rfl) (fun _ _ _ h => h) (yg_move rfl (.tmp 8) rfl _ rfl) (by assumption) ?_
  simp only [Act.put, List.setIfInBounds_toArray, List.set_cons_zero, List.set_cons_succ]
  refine takeH 2 (some 13) (.pointer (some ⟨w.heap.size, 0, none⟩)) rfl rfl (by kernel_rfl) (by kernel_rfl) (by kernel_rfl) (fun _ _ _ h => h) (Or.inl ⟨rfl, fun W hW => by obtain _ := hW; go_simp⟩) (by assumption) ?_
  simp only [Act.put, List.setIfInBounds_toArray, List.set_cons_zero, List.set_cons_succ]
  refine takeH 3 (some 14) (.pointer (some ⟨p, 0, none⟩)) rfl rfl (by kernel_rfl) (by kernel_rfl) (by kernel_rfl) (fun _ _ _ h => h) (Or.inl ⟨rfl, fun W hW => by obtain ⟨_c, _⟩ := hW; go_simp⟩) (by assumption) ?_
  simp only [Act.put, List.setIfInBounds_toArray, List.set_cons_zero, List.set_cons_succ]
  refine takeH 5 (some 16) (.int .i64 s) rfl rfl (by kernel_rfl) (by kernel_rfl) (by kernel_rfl) (fun _ _ _ h => h) (yg_move rfl (.tmp 7) rfl _ rfl) (by assumption) ?_
  simp only [Act.put, List.setIfInBounds_toArray, List.set_cons_zero, List.set_cons_succ]
  refine takeH 6 (some 17) (.int .i64 t) rfl rfl (by kernel_rfl) (by kernel_rfl) (by kernel_rfl) (fun _ _ _ h => h) (yg_move rfl (.tmp 8) rfl _ rfl) (by assumption) ?_
  simp only [Act.put, List.setIfInBounds_toArray, List.set_cons_zero, List.set_cons_succ]
  refine takeH 7 (some 18) (.pointer (some ⟨w.heap.size, 1, none⟩)) rfl rfl (by kernel_rfl) (by kernel_rfl) (by kernel_rfl) (fun _ _ _ h => h) (Or.inl ⟨rfl, fun W hW => by obtain _ := hW; go_simp⟩) (by assumption) ?_
  simp only [Act.put, List.setIfInBounds_toArray, List.set_cons_zero, List.set_cons_succ]
  refine takeH 8 (some 19) (.pointer (some ⟨q, 0, none⟩)) rfl rfl (by kernel_rfl) (by kernel_rfl) (by kernel_rfl) (fun _ _ _ h => h) (Or.inl ⟨rfl, fun W hW => by obtain ⟨_, _c⟩ := hW; go_simp⟩) (by assumption) ?_
  simp only [Act.put, List.setIfInBounds_toArray, List.set_cons_zero, List.set_cons_succ]
  refine oneH 4 rfl (by kernel_rfl) (fun K' hK => ?_)
  go_simp
  refine (kS _ sp3).mono ?_
  rintro e w4 ⟨c, rfl, hc, sc, b4⟩
  have E4 := E3.below b4 (Nat.le_refl _)
  have R4 := R3.below b4 (Nat.le_refl _)
  have B4 := B3.trans (b4.mono B3.size)
  have sq4 := sq3.below b4 sq3.lt
  refine hK _ _ ⟨E4.c0, E4.c1⟩ ?_
  clear hK
  refine oneH 9 rfl (by kernel_rfl) (fun K' hK => ?_)
  go_simp
  refine (kP _ sq4).mono ?_
  rintro e w5 ⟨d, rfl, hd, sd, b5⟩
  have E5 := E4.below b5 (Nat.le_refl _)
  have R5 := R4.below b5 (Nat.le_refl _)
  have B5 := B4.trans (b5.mono B4.size)
  have sc5 := sc.below b5 sc.lt
  refine hK _ _ ⟨E5.c0, E5.c1⟩ ?_
  clear hK
  have H5 : (fun W => W.cell? ⟨w.heap.size, 0, none⟩ = some (.pointer (some ⟨p, 0, none⟩)) ∧ W.cell? ⟨w.heap.size, 1, none⟩ = some (.pointer (some ⟨q, 0, none⟩))) w5 := ⟨E5.c0, E5.c1⟩
  refine takeH 10 (some 21) (.agg #[.pointer (some ⟨c, 0, none⟩), .pointer (some ⟨d, 0, none⟩)]) rfl rfl (by kernel_rfl) (by kernel_rfl) (by kernel_rfl) (fun _ _ _ h => h) (Or.inl ⟨rfl, fun W hW => by obtain _ := hW; go_simp⟩) (by assumption) ?_
  simp only [Act.put, List.setIfInBounds_toArray, List.set_cons_zero, List.set_cons_succ]
  have hR5 := R5.hi
  have hR3 := R3.hi
  have hR4 := R4.hi
  have E7 := E5.tn ((tnC w5 (w.heap.size + 1) 0 (.pointer (some ⟨c, 0, none⟩))).trans (tnC _ (w.heap.size + 1) 1 (.pointer (some ⟨d, 0, none⟩)))) (fun k hk hs => by simp at hk hs; omega)
  have r0 := R5.c0
  have f0 := R5.f0
  have r1 := R5.c1
  have f1 := R5.f1
  refine oneH 11 rfl (by kernel_rfl) (fun K' hK => ?_)
  go_simp
  refine hK _ _ ⟨E7.c0, E7.c1⟩ ?_
  clear hK
  refine wpAnyH_done (by kernel_rfl) ?_ _
  have HC : Hid (SG _ c _) := sc5.tn ((tnC w5 (w.heap.size + 1) 0 (.pointer (some ⟨c, 0, none⟩))).trans (tnC _ (w.heap.size + 1) 1 (.pointer (some ⟨d, 0, none⟩)))) (fun h => by simp at h; omega)
  have HD : Hid (SG _ d _) := sd.tn ((tnC w5 (w.heap.size + 1) 0 (.pointer (some ⟨c, 0, none⟩))).trans (tnC _ (w.heap.size + 1) 1 (.pointer (some ⟨d, 0, none⟩)))) (fun h => by simp at h; omega)
  have HB : Hid (Below w.heap.size w _) := ((B5.setCell (p := ⟨w.heap.size + 1, 0, none⟩) (by show w.heap.size ≤ w.heap.size + 1; omega) (.pointer (some ⟨c, 0, none⟩))).setCell (p := ⟨w.heap.size + 1, 1, none⟩) (by show w.heap.size ≤ w.heap.size + 1; omega) (.pointer (some ⟨d, 0, none⟩)))
  have hb3 := B3.size
  have hb4 := B4.size
  have HQ : Hid (w.heap.size ≤ c ∧ w.heap.size ≤ d) := ⟨by omega, by omega⟩
  clear hHeld H5 E0 E3 E4 E5 E7 R0 R3 R4 R5 B0 B3 B4 B5 b4 b5 bd' sc sc5 sd kS kP sp0 sp3 sq0 sq3 sq4
  go_wp2
  (try simp only [Exit.inBlock, Exit.then])
  refine bodyPost_ret (v := .agg #[.pointer (some ⟨c, 0, none⟩), .pointer (some ⟨d, 0, none⟩)]) ?_ rfl ⟨_, _, rfl, HC.out, HD.out, HB.out, HQ.out⟩
  rw [results_cell1 rfl]
  go_simp

theorem movedSpan_f (p q : Nat) (x y s t : Int) (w : World) (sp : SG w p x) (sq : SG w q y) (m1 : (limbs x.natAbs).length ≤ 74) (m2 : (limbs y.natAbs).length ≤ 74) (h1 : t - s ≤ 480) (h2 : -600 ≤ t - s) :
    Calls Try.prog 56 #[.agg #[.pointer (some ⟨p, 0, none⟩), .pointer (some ⟨q, 0, none⟩)], .int .i64 s, .int .i64 t] w (spanF (mvLo x (t - s)) (mvHi y (t - s)) w) := by
  unfold mvLo mvHi
  by_cases h : 0 ≤ t - s
  · rw [if_pos h, if_pos h]
    obtain ⟨k, hk⟩ : ∃ k : Nat, t - s = k := ⟨(t - s).toNat, by omega⟩
    rw [hk, Int.toNat_natCast]
    exact movedSpan_h p q x y _ _ s t w sp sq (fun W g => movedUp_c s t k p x 0 W g hk (by omega) (by omega)) (fun W g => movedUp_c s t k q y 1 W g hk (by omega) (by omega))
  · rw [if_neg h, if_neg h]
    obtain ⟨j, hj⟩ : ∃ j : Nat, t - s = -(j : Int) := ⟨(-(t - s)).toNat, by omega⟩
    rw [hj, show (-(-(j : Int))).toNat = j by omega, ← frac_lo, ← frac_hi _ _ (Int.pow_pos (by omega))]
    exact movedSpan_h p q x y _ _ s t w sp sq (fun W g => movedDown_c s t j p x 0 W g hj (by omega) (by omega) (by omega) (by omega) (by omega)) (fun W g => movedDown_c s t j q y 1 W g hj (by omega) (by omega) (by omega) (by omega) (by omega))


end Go.Proofs.Ytlpfjpbnedankaa
