/- The program's powerOf, by its contract. -/
import Derived.Test.YtnojigofojjopaaDoorGTimes
import Derived.Test.YtnojigofojjopaaDoorGReg
import Derived.Test.YtnojigofojjopaaDoorGLower
import Derived.Test.YtnojigofojjopaaDoorBase
namespace Go.Proofs.YtnojigofojjopaaDoor
open Go.RowKit

theorem pow_long {m i j : Nat} (h : 48 < (limbs (m ^ i)).length) (hij : i ≤ j) : 48 < (limbs (m ^ j)).length := by
  have hm : 0 < m := by
    apply Classical.byContradiction
    intro h0
    have e : m = 0 := by omega
    subst e
    have h1 : (0 : Nat) ^ i ≤ 1 := by
      cases i with
      | zero => simp
      | succ i => simp
    have := limbs_len_le (0 ^ i) 1 (by omega)
    omega
  have := limbs_mono (m := m ^ j) (n := m ^ i) (Nat.pow_le_pow_right hm hij)
  omega


set_option maxHeartbeats 3200000 in
/-- powerOf: the power, as far as a list may hold it. -/
theorem gPow (m j : Nat) (w : World) (hm : m ≤ 16777215) (hj : j ≤ 1000) :
    Calls Tryd.prog 38 #[.int .i64 m, .int .i64 j] w fun e w' => ∃ N, e = .returned (.agg (gC N)) ∧ (limbs N).length ≤ 49 ∧ (N = m ^ j ∨ (48 < (limbs N).length ∧ 48 < (limbs (m ^ j)).length)) ∧ Below w.heap.size w w' := by
  have hlm : (limbs m).length ≤ 1 := limbs_len_le m 1 (by omega)
  have R0 := GB.made0 w
  have B00 := alloc_below w (.cells Tryd.zeroCells50 50)
  have hs00 : (w.alloc (.cells Tryd.zeroCells50 50)).heap.size = w.heap.size + 1 := by simp
  have k1 := fun W => gOf m W (by omega)
  obtain ⟨u, hu⟩ : ∃ u : Nat, u = 1 := ⟨1, rfl⟩
  have k2 : ∀ W, Calls Tryd.prog 41 #[.int .u64 1] W fun e w' => e = .returned (.agg (gC u)) ∧ Below W.heap.size W w' := fun W => by rw [hu]; exact gOf 1 W (by omega)
  have hl1 : (limbs u).length ≤ 1 := limbs_len_le u 1 (by omega)
  have HU : Hid (u = 1) := hu
  clear hu
  go_enter Tryd.func38, Tryd.ntmps38
  go_wp2_with fail
  refine (k1 _).mono ?_
  rintro e w1 ⟨rfl, b1⟩
  have R1 := (R0.below b1 R0.lt).alloc (.cells Tryd.zeroCells50 50)
  have B1 := B00.trans (b1.mono B00.size)
  have hR1 : w.heap.size < w1.heap.size := by have := b1.size; omega
  have F0 := GB.made0 w1
  have B0 := B1.alloc B1.size (.cells Tryd.zeroCells50 50)
  have hb1 := B1.size
  go_wp2_with (first
    | (go_at_call 41
       refine (k2 _).mono ?_
       rintro e w3 ⟨rfl, b3⟩
       have F3 := (GN.below F2 b3 (GN.lt F2)).alloc (.cells Tryd.zeroCells50 50)
       have R3 := (R2.below b3 R2.lt).alloc (.cells Tryd.zeroCells50 50)
       have B3 := B2.trans (b3.mono B2.size)
       have P0 := GB.made0 w3
       have B4 := B3.alloc B3.size (.cells Tryd.zeroCells50 50)
       have hb3 := B3.size
       have hne : w1.heap.size < w3.heap.size := by have h5 := b3.size; have h6 : (w1.alloc (.cells Tryd.zeroCells50 50)).heap.size = w1.heap.size + 1 := (by simp); omega)
    | ((with_reducible (refine wpL_id ?_)); refine wpN_store rfl (.tmp 5) (.tmp 10) rfl w1.heap.size _ _ m rfl rfl F0 (by omega) ?_; intro w2 F2 t2 s2; have R2 := GB.tn R1 t2 (by simp; omega); have B2 := t2.below B0 B0.size (by simp; omega))
    | ((with_reducible (refine wpL_id ?_)); refine wpN_store rfl (.tmp 6) (.tmp 11) rfl w3.heap.size _ _ u rfl rfl P0 (by omega) ?_; intro w4 P4 t4 s4))
  have F4 := GN.tn F3 t4 (by simp; omega)
  have R4 := GB.tn R3 t4 (by simp; omega)
  have B5 := t4.below B4 B4.size (by simp; omega)
  clear F3 B4 B3 B2 P0 t4 s4 s2 k1 k2 b1 b3 B0 F0 F2 t2 R0 R1 R2 R3 B00 B1 hs00
  generalize w1.heap.size = f1 at *
  generalize w3.heap.size = f2 at *
  go_loopw [7] (fun v wr => ∃ i : Nat, i ≤ j ∧ v = .int .i64 i ∧ GN wr f2 (m ^ i) ∧ (limbs (m ^ i)).length ≤ 49 ∧ GN wr f1 m ∧ GB wr w.heap.size (List.replicate 98 0) 0 ∧ Below w.heap.size w wr) (fun v _ => j - (intOf v).toNat)
  case atStart => exact ⟨0, Nat.zero_le _, rfl, by rw [Nat.pow_zero, ← HU.out]; exact P4, by rw [Nat.pow_zero, ← HU.out]; omega, F4, R4, B5⟩
  case round =>
    clear P4 F4 B5 R4
    obtain ⟨i, hi, rfl, hP, hlp, hF, hR, hB⟩ := hrel
    have c98 := GB.size hP
    have A1 := GN.ga hP (by omega)
    have A2 := GN.ga hF (by omega)
    have hs : m ^ i * m = m ^ (i + 1) := (Nat.pow_succ ..).symm
    have HPL : Hid ((48 < (limbs (m ^ i)).length → 48 < (limbs (m ^ j)).length) ∧ (i = j → m ^ i = m ^ j)) := ⟨fun h => pow_long h hi, fun e => by rw [e]⟩
    obtain ⟨N, hN⟩ : ∃ N, m ^ i = N := ⟨_, rfl⟩
    rw [hN] at hP hlp c98 A1 hs HPL
    have HS : Hid (N * m = m ^ (i + 1)) := hs
    have hbs := hB.size
    clear hN hs
    by_cases hlt : i < j
    · by_cases h48 : (limbs N).length ≤ 48
      · have r1 : decide ((i : Int) < (j : Int)) = true := decide_eq_true (by omega)
        have r2 : decide (((limbs N).length : Int) ≤ 48) = true := decide_eq_true (by omega)
        have hl2 : (limbs (N * m)).length ≤ 49 := by have := mul_limbs_len N m; omega
        have HQ : Hid (GN wr f2 N ∧ GN wr f1 m ∧ GB wr w.heap.size (List.replicate 98 0) 0 ∧ Below w.heap.size w wr) := ⟨hP, hF, hR, hB⟩
        have kT := gTimes f2 0 f1 0 N m wr (by omega) A1 A2
        obtain ⟨M, hM⟩ : ∃ M, N * m = M := ⟨_, rfl⟩
        rw [hM] at kT hl2 HS
        have hlt' : (i : Int) < (j : Int) := by omega
        clear hM hP hF hB hR A1 A2 hlp
        go_wp2_with fail
        refine kT.mono ?_
        rintro e w5 ⟨rfl, b5⟩
        have P5 := GN.below HQ.out.1 b5 (GN.lt HQ.out.1)
        have F5 := GN.below HQ.out.2.1 b5 (GN.lt HQ.out.2.1)
        have R5 := HQ.out.2.2.1.below b5 HQ.out.2.2.1.lt
        have B6 := HQ.out.2.2.2.trans (b5.mono hbs)
        have P5' : GB w5 f2 (pad (limbs N)) ((limbs N).length : Int) := P5
        go_wp2_with (first | ((with_reducible (refine wpL_id ?_)); refine wpN_store rfl (.tmp 6) (.tmp 22) rfl f2 _ _ M rfl rfl P5' (by omega) ?_; intro w6 P6 t6 s6))
        have F6 := GN.tn F5 t6 (by simp; omega)
        have R6 := GB.tn R5 t6 (by simp; omega)
        have B7 := t6.below B6 B6.size (by simp; omega)
        go_roundw
        case rel => exact ⟨i + 1, by omega, by go_num, by rw [← HS.out]; exact P6, by rw [← HS.out]; exact hl2, F6, R6, B7⟩
        case measure => simp [intOf]; omega
      · have r1 : decide ((i : Int) < (j : Int)) = true := decide_eq_true (by omega)
        have r2 : decide (((limbs N).length : Int) ≤ 48) = false := decide_eq_false (by omega)
        have HF : Hid (N = m ^ j ∨ (48 < (limbs N).length ∧ 48 < (limbs (m ^ j)).length)) := .inr ⟨by omega, HPL.out.1 (by omega)⟩
        have hlt' : (i : Int) < (j : Int) := by omega
        have HB : Hid (Below w.heap.size w wr) := hB
        clear HPL hB hP hF A2
        go_wp2_with (first | (refine wpA_load rfl (.tmp 6) rfl f2 0 N rfl A1 ?_) | (refine wpN_store rfl (.tmp 4) (.tmp 23) rfl w.heap.size _ _ N rfl rfl hR (by omega) ?_; intro w6 g6 t6 s6))
        (try simp only [Exit.inBlock, Exit.then])
        refine bodyPost_ret (v := .agg (gC N)) ?_ rfl ⟨N, rfl, hlp, HF.out, t6.below HB.out hbs (by simp)⟩
        exact results_great rfl _ _ w.heap.size _ _ rfl g6
    · have r1 : decide ((i : Int) < (j : Int)) = false := decide_eq_false (by omega)
      have HF : Hid (N = m ^ j ∨ (48 < (limbs N).length ∧ 48 < (limbs (m ^ j)).length)) := .inl (HPL.out.2 (by omega))
      have HB : Hid (Below w.heap.size w wr) := hB
      have hlt' : ¬ (i : Int) < (j : Int) := by omega
      clear HPL hB hP hF A2
      go_wp2_with (first | (refine wpA_load rfl (.tmp 6) rfl f2 0 N rfl A1 ?_) | (refine wpN_store rfl (.tmp 4) (.tmp 23) rfl w.heap.size _ _ N rfl rfl hR (by omega) ?_; intro w6 g6 t6 s6))
      (try simp only [Exit.inBlock, Exit.then])
      refine bodyPost_ret (v := .agg (gC N)) ?_ rfl ⟨N, rfl, hlp, HF.out, t6.below HB.out hbs (by simp)⟩
      exact results_great rfl _ _ w.heap.size _ _ rfl g6

end Go.Proofs.YtnojigofojjopaaDoor
