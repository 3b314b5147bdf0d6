/- The program's betweenAt, by its contract. -/
import Derived.Test.YtjelmbkngjlefaaGRest
import Derived.Test.YtjelmbkngjlefaaSgShift
namespace Go.Proofs.Ytjelmbkngjlefaa
open Go.RowKit
set_option linter.unusedSimpArgs false

theorem pow_len (k L : Nat) (h : k < 24 * L) : (limbs (2 ^ k)).length ≤ L := limbs_len_le _ L (by rw [basePowG]; exact Nat.pow_lt_pow_right (by omega) h)

set_option maxRecDepth 20000 in
set_option maxHeartbeats 3200000 in
/-- betweenAt: a by 2^k. -/
theorem bAt (a oa m k : Nat) (w : World) (hl : (limbs m).length ≤ 96) (hk : k ≤ 600) (ha : GA w a oa m) :
    Calls Try.prog 81 #[.pointer (some ⟨a, oa, none⟩), .int .i64 k] w fun e w' => e = .returned (.agg (bC (m / 2 ^ k) (decide (m % 2 ^ k = 0)) (cmpI (m % 2 ^ k * 2) (2 ^ k)))) ∧ Below w.heap.size w w' := by
  have hq1 : (limbs (m / 2 ^ k)).length ≤ 96 := Nat.le_trans (limbs_mono (Nat.div_le_self _ _)) hl
  have hq2 : k / 24 + (limbs (m / 2 ^ k)).length + 1 ≤ 98 := by
    rcases down_len m k with h | h
    · rw [h, limbs_zero]; simp; omega
    · omega
  have hq3 : (limbs (m / 2 ^ k * 2 ^ k)).length ≤ 96 := Nat.le_trans (limbs_mono (Nat.div_mul_le_self _ _)) hl
  have hle : m / 2 ^ k * 2 ^ k ≤ m := Nat.div_mul_le_self _ _
  have hr : m - m / 2 ^ k * 2 ^ k = m % 2 ^ k := by have := Nat.mod_add_div m (2 ^ k); rw [Nat.mul_comm] at this; omega
  have hr1 : (limbs (m % 2 ^ k)).length ≤ 96 := Nat.le_trans (limbs_mono (Nat.mod_le _ _)) hl
  obtain ⟨u, hu⟩ : ∃ u : Nat, u = 1 := ⟨1, rfl⟩
  have hlu : (limbs u).length ≤ 1 := limbs_len_le u 1 (by omega)
  have hp1 := pow_len k 60 (by omega)
  have kD := fun W (q : GA W a oa m) => gDown a oa m k W (by omega) (by omega) q
  have kU := fun f W (q : GA W f 0 (m / 2 ^ k)) => gUp f 0 (m / 2 ^ k) k W hq2 (by omega) q
  have kM := fun f W (q : GA W f 0 (m / 2 ^ k * 2 ^ k)) => gMinus f 0 m (m / 2 ^ k * 2 ^ k) W (by omega) hle q
  rw [hr] at kM
  have kO : ∀ W, Calls Try.prog 88 #[.int .u64 1] W fun e w' => e = .returned (.agg (gC u)) ∧ Below W.heap.size W w' := fun W => by rw [hu]; exact gOf 1 W (by omega)
  have kV := fun f W (q : GA W f 0 u) => gUp f 0 u k W (by omega) (by omega) q
  have e1 : u * 2 ^ k = 2 ^ k := by rw [hu, Nat.one_mul]
  rw [e1] at kV
  have kR := fun f f' W (q1 : GA W f 0 (m % 2 ^ k)) (q2 : GA W f' 0 (2 ^ k)) => bRest (m / 2 ^ k) (m % 2 ^ k) (2 ^ k) f 0 f' 0 W (by omega) (by omega) q1 q2
  generalize cmpI (m % 2 ^ k * 2) (2 ^ k) = cm at *
  generalize decide (m % 2 ^ k = 0) = s at *
  generalize m / 2 ^ k * 2 ^ k = cut at *
  generalize m / 2 ^ k = q at *
  generalize m % 2 ^ k = r at *
  generalize 2 ^ k = st at *
  have B := alloc_below w (.cells Try.zeroCells102 102)
  have Z := ZB.made0 w
  have HA := ha.below B ha.lt
  have hal := ha.lt
  clear ha hr e1 hu hle
  go_enter Try.func81, Try.ntmps81
  go_wp2_with fail
  refine (kD _ HA).mono ?_
  generalize w.alloc (.cells Try.zeroCells102 102) = w0 at *
  rintro e u1 ⟨rfl, c1⟩
  replace Z := Z.below c1 Z.lt
  replace HA := HA.below c1 HA.lt
  replace B := B.trans (c1.mono B.size)
  clear c1
  have lZ : w.heap.size < u1.heap.size := Z.lt
  have lHA : a < u1.heap.size := HA.lt
  have Q0 := GB.made0 u1
  replace Z := Z.alloc (.cells Try.zeroCells72 72)
  replace HA := HA.below (alloc_below u1 (.cells Try.zeroCells72 72)) HA.lt
  have hBQ := B.size
  replace B := B.alloc B.size (.cells Try.zeroCells72 72)
  go_wp2_with (first
    | (go_at_call 69; fail)
    | ((with_reducible (refine wpL_id ?_)); refine wpN_store rfl (.tmp 5) (.tmp 12) rfl u1.heap.size _ _ (q) rfl rfl Q0 (by omega) ?_; intro u2 Q tQ zQ; replace Z := Z.tn tQ (by simp; omega); replace HA := HA.tn tQ (by simp; omega); replace B := tQ.below B B.size (by simp; omega); clear tQ zQ Q0))
  generalize u1.heap.size = f5 at *
  refine (kU _ _ (GN.ga Q (by omega))).mono ?_
  rintro e u3 ⟨rfl, c3⟩
  replace Z := Z.below c3 Z.lt
  replace HA := HA.below c3 HA.lt
  replace Q := GN.below Q c3 (GN.lt Q)
  replace B := B.trans (c3.mono B.size)
  clear c3
  have lZ : w.heap.size < u3.heap.size := Z.lt
  have lHA : a < u3.heap.size := HA.lt
  have lQ : f5 < u3.heap.size := (GN.lt Q)
  have C0 := GB.made0 u3
  replace Z := Z.alloc (.cells Try.zeroCells72 72)
  replace HA := HA.below (alloc_below u3 (.cells Try.zeroCells72 72)) HA.lt
  replace Q := GN.alloc Q (.cells Try.zeroCells72 72)
  have hBC := B.size
  replace B := B.alloc B.size (.cells Try.zeroCells72 72)
  go_wp2_with (first
    | (go_at_call 96; fail)
    | ((with_reducible (refine wpL_id ?_)); refine wpN_store rfl (.tmp 6) (.tmp 14) rfl u3.heap.size _ _ (cut) rfl rfl C0 (by omega) ?_; intro u4 C tC zC; replace Z := Z.tn tC (by simp; omega); replace HA := HA.tn tC (by simp; omega); replace Q := GN.tn Q tC (by simp; omega); replace B := tC.below B B.size (by simp; omega); clear tC zC C0)
    | ((with_reducible (refine wpL_id ?_)); refine wpA_load rfl (.tmp 16) rfl a oa m rfl HA ?_))
  generalize u3.heap.size = f6 at *
  refine (kM _ _ (GN.ga C (by omega))).mono ?_
  rintro e u5 ⟨rfl, c5⟩
  replace Z := Z.below c5 Z.lt
  replace HA := HA.below c5 HA.lt
  replace Q := GN.below Q c5 (GN.lt Q)
  replace C := GN.below C c5 (GN.lt C)
  replace B := B.trans (c5.mono B.size)
  clear c5
  have lZ : w.heap.size < u5.heap.size := Z.lt
  have lHA : a < u5.heap.size := HA.lt
  have lQ : f5 < u5.heap.size := (GN.lt Q)
  have lC : f6 < u5.heap.size := (GN.lt C)
  have R0 := GB.made0 u5
  replace Z := Z.alloc (.cells Try.zeroCells72 72)
  replace HA := HA.below (alloc_below u5 (.cells Try.zeroCells72 72)) HA.lt
  replace Q := GN.alloc Q (.cells Try.zeroCells72 72)
  replace C := GN.alloc C (.cells Try.zeroCells72 72)
  have hBR := B.size
  replace B := B.alloc B.size (.cells Try.zeroCells72 72)
  go_wp2_with (first
    | (go_at_call 88; fail)
    | ((with_reducible (refine wpL_id ?_)); refine wpN_store rfl (.tmp 7) (.tmp 18) rfl u5.heap.size _ _ (r) rfl rfl R0 (by omega) ?_; intro u6 R tR zR; replace Z := Z.tn tR (by simp; omega); replace HA := HA.tn tR (by simp; omega); replace Q := GN.tn Q tR (by simp; omega); replace C := GN.tn C tR (by simp; omega); replace B := tR.below B B.size (by simp; omega); clear tR zR R0))
  generalize u5.heap.size = f7 at *
  refine (kO _).mono ?_
  rintro e u7 ⟨rfl, c7⟩
  replace Z := Z.below c7 Z.lt
  replace HA := HA.below c7 HA.lt
  replace Q := GN.below Q c7 (GN.lt Q)
  replace C := GN.below C c7 (GN.lt C)
  replace R := GN.below R c7 (GN.lt R)
  replace B := B.trans (c7.mono B.size)
  clear c7
  have lZ : w.heap.size < u7.heap.size := Z.lt
  have lHA : a < u7.heap.size := HA.lt
  have lQ : f5 < u7.heap.size := (GN.lt Q)
  have lC : f6 < u7.heap.size := (GN.lt C)
  have lR : f7 < u7.heap.size := (GN.lt R)
  have U0 := GB.made0 u7
  replace Z := Z.alloc (.cells Try.zeroCells72 72)
  replace HA := HA.below (alloc_below u7 (.cells Try.zeroCells72 72)) HA.lt
  replace Q := GN.alloc Q (.cells Try.zeroCells72 72)
  replace C := GN.alloc C (.cells Try.zeroCells72 72)
  replace R := GN.alloc R (.cells Try.zeroCells72 72)
  have hBU := B.size
  replace B := B.alloc B.size (.cells Try.zeroCells72 72)
  go_wp2_with (first
    | (go_at_call 69; fail)
    | ((with_reducible (refine wpL_id ?_)); refine wpN_store rfl (.tmp 8) (.tmp 19) rfl u7.heap.size _ _ (u) rfl rfl U0 (by omega) ?_; intro u8 U tU zU; replace Z := Z.tn tU (by simp; omega); replace HA := HA.tn tU (by simp; omega); replace Q := GN.tn Q tU (by simp; omega); replace C := GN.tn C tU (by simp; omega); replace R := GN.tn R tU (by simp; omega); replace B := tU.below B B.size (by simp; omega); clear tU zU U0))
  generalize u7.heap.size = f8 at *
  refine (kV _ _ (GN.ga U (by omega))).mono ?_
  rintro e u9 ⟨rfl, c9⟩
  replace Z := Z.below c9 Z.lt
  replace HA := HA.below c9 HA.lt
  replace Q := GN.below Q c9 (GN.lt Q)
  replace C := GN.below C c9 (GN.lt C)
  replace R := GN.below R c9 (GN.lt R)
  replace U := GN.below U c9 (GN.lt U)
  replace B := B.trans (c9.mono B.size)
  clear c9
  have lZ : w.heap.size < u9.heap.size := Z.lt
  have lHA : a < u9.heap.size := HA.lt
  have lQ : f5 < u9.heap.size := (GN.lt Q)
  have lC : f6 < u9.heap.size := (GN.lt C)
  have lR : f7 < u9.heap.size := (GN.lt R)
  have lU : f8 < u9.heap.size := (GN.lt U)
  have T0 := GB.made0 u9
  replace Z := Z.alloc (.cells Try.zeroCells72 72)
  replace HA := HA.below (alloc_below u9 (.cells Try.zeroCells72 72)) HA.lt
  replace Q := GN.alloc Q (.cells Try.zeroCells72 72)
  replace C := GN.alloc C (.cells Try.zeroCells72 72)
  replace R := GN.alloc R (.cells Try.zeroCells72 72)
  replace U := GN.alloc U (.cells Try.zeroCells72 72)
  have hBT := B.size
  replace B := B.alloc B.size (.cells Try.zeroCells72 72)
  go_wp2_with (first
    | (go_at_call 91; fail)
    | ((with_reducible (refine wpL_id ?_)); refine wpN_store rfl (.tmp 9) (.tmp 21) rfl u9.heap.size _ _ (st) rfl rfl T0 (by omega) ?_; intro u10 T tT zT; replace Z := Z.tn tT (by simp; omega); replace HA := HA.tn tT (by simp; omega); replace Q := GN.tn Q tT (by simp; omega); replace C := GN.tn C tT (by simp; omega); replace R := GN.tn R tT (by simp; omega); replace U := GN.tn U tT (by simp; omega); replace B := tT.below B B.size (by simp; omega); clear tT zT T0)
    | ((with_reducible (refine wpL_id ?_)); refine wpA_load rfl (.tmp 5) rfl f5 0 q rfl (GN.ga Q (by omega)) ?_))
  generalize u9.heap.size = f9 at *
  refine (kR _ _ _ (GN.ga R (by omega)) (GN.ga T (by omega))).mono ?_
  rintro e u11 ⟨rfl, c11⟩
  replace Z := Z.below c11 Z.lt
  replace HA := HA.below c11 HA.lt
  replace Q := GN.below Q c11 (GN.lt Q)
  replace C := GN.below C c11 (GN.lt C)
  replace R := GN.below R c11 (GN.lt R)
  replace U := GN.below U c11 (GN.lt U)
  replace T := GN.below T c11 (GN.lt T)
  replace B := B.trans (c11.mono B.size)
  clear c11
  go_wp2_with (first | ((with_reducible (refine wpL_id ?_)); refine wpB_store rfl (.tmp 4) (.tmp 23) rfl w.heap.size q s cm rfl rfl Z (by omega) ?_; intro w5 g5 t5 s5))
  (try simp only [Exit.inBlock, Exit.then])
  refine bodyPost_ret (v := .agg (bC q s cm)) ?_ rfl ⟨rfl, t5.below B B.size (by simp)⟩
  exact results_between rfl _ _ w.heap.size _ _ _ rfl g5

end Go.Proofs.Ytjelmbkngjlefaa
