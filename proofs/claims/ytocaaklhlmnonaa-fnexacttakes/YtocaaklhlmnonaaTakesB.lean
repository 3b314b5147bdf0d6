/- Takes of the specification and of the program, each by its contract, and the law's walk. -/
import Derived.Test.YtocaaklhlmnonaaFunTextB
namespace Go.Proofs.Ytocaaklhlmnonaa
open Go.RowKit Go.Maps
set_option linter.unusedSimpArgs false

def del4 : List ByteArray := [⟨#[109, 117, 108]⟩, ⟨#[100, 105, 118]⟩, ⟨#[104, 121, 112, 111, 116]⟩, ⟨#[97, 116, 97, 110, 50]⟩]
def delF (f : ByteArray → Option Int) : Nat → ByteArray → Option Int
  | 0 => f
  | k + 1 => putF (delF f k) (del4.getD k ⟨#[]⟩) none
def takesR (k : Int) : Int := if 0 ≤ k ∧ k ≤ 14 then (if k = 0 ∨ k = 1 ∨ k = 3 ∨ k = 10 then 2 else 1) else 0
theorem takes_of (k : Int) (h : 0 ≤ k ∧ k ≤ 14) : (funR k).size ≤ 100 ∧ (funR k == ⟨#[]⟩) = false ∧ (delF numOf 4 (funR k)).isSome = decide (takesR k = 1) ∧ (takesR k = 1 ∨ takesR k = 2) := by
  obtain ⟨j, rfl⟩ := Int.eq_ofNat_of_zero_le h.1
  have : ∀ j : Fin 15, (funR (j.1 : Int)).size ≤ 100 ∧ (funR (j.1 : Int) == ⟨#[]⟩) = false ∧ (delF numOf 4 (funR (j.1 : Int))).isSome = decide (takesR (j.1 : Int) = 1) ∧ (takesR (j.1 : Int) = 1 ∨ takesR (j.1 : Int) = 2) := by decide +kernel
  exact this ⟨j, by omega⟩

set_option maxRecDepth 20000 in
set_option maxHeartbeats 6400000 in
theorem iTakingOne (w : World) : Calls Try.prog 73 #[] w fun e w' => e = .returned (.map (some w.heap.size)) ∧ MapIs w' w.heap.size 15 (delF numOf 4) ∧ Below w.heap.size w w' := by
  have kN := iNumbers w
  generalize numOf = f at *
  have x0 : ∀ W : World, (Instr.index 99 (.agg #[.string ⟨#[109, 117, 108]⟩, .string ⟨#[100, 105, 118]⟩, .string ⟨#[104, 121, 112, 111, 116]⟩, .string ⟨#[97, 116, 97, 110, 50]⟩]) (.int .i64 0)).run Try.prog W = .ok (.string ⟨#[109, 117, 108]⟩) W := fun W => by kernel_rfl
  have x1 : ∀ W : World, (Instr.index 99 (.agg #[.string ⟨#[109, 117, 108]⟩, .string ⟨#[100, 105, 118]⟩, .string ⟨#[104, 121, 112, 111, 116]⟩, .string ⟨#[97, 116, 97, 110, 50]⟩]) (.int .i64 1)).run Try.prog W = .ok (.string ⟨#[100, 105, 118]⟩) W := fun W => by kernel_rfl
  have x2 : ∀ W : World, (Instr.index 99 (.agg #[.string ⟨#[109, 117, 108]⟩, .string ⟨#[100, 105, 118]⟩, .string ⟨#[104, 121, 112, 111, 116]⟩, .string ⟨#[97, 116, 97, 110, 50]⟩]) (.int .i64 2)).run Try.prog W = .ok (.string ⟨#[104, 121, 112, 111, 116]⟩) W := fun W => by kernel_rfl
  have x3 : ∀ W : World, (Instr.index 99 (.agg #[.string ⟨#[109, 117, 108]⟩, .string ⟨#[100, 105, 118]⟩, .string ⟨#[104, 121, 112, 111, 116]⟩, .string ⟨#[97, 116, 97, 110, 50]⟩]) (.int .i64 3)).run Try.prog W = .ok (.string ⟨#[97, 116, 97, 110, 50]⟩) W := fun W => by kernel_rfl
  go_enter Try.func73, Try.ntmps73
  go_wp2_with fail
  refine kN.mono ?_
  rintro e w1 ⟨rfl, hM, hB⟩
  go_wp2
  go_loopw [6] (fun i wr => ∃ (k : Nat) (m : Int), (m = k ∧ k ≤ 4) ∧ i = .int .i64 m ∧ MapIs wr w.heap.size 15 (delF f k) ∧ Below w.heap.size w wr) (fun i _ => 4 - (intOf i).toNat)
  case atStart => exact ⟨0, 0, ⟨rfl, Nat.zero_le _⟩, rfl, hM, hB⟩
  case round =>
    obtain ⟨k, m, hk, rfl, hM, hB⟩ := hrel
    by_cases hlt : k < 4
    · have e : (k = 0 ∧ m = 0) ∨ (k = 1 ∧ m = 1) ∨ (k = 2 ∧ m = 2) ∨ (k = 3 ∧ m = 3) := by omega
      clear hk hlt
      rcases e with ⟨rfl, rfl⟩ | ⟨rfl, rfl⟩ | ⟨rfl, rfl⟩ | ⟨rfl, rfl⟩ <;>
      · go_wp2_with (first | (refine wpM_delete w _ rfl _ _ rfl w.heap.size w.heap.size 15 _ _ rfl hM rfl (by decide) hB (Nat.le_refl _) ?_; intro w2 hM2 hB2) | go_in)
        go_roundw
        case rel => exact ⟨_, _, ⟨rfl, by decide⟩, rfl, hM2, hB2⟩
        case measure => simp [intOf]
    · have hk4 : k = 4 ∧ m = 4 := by omega
      obtain ⟨rfl, rfl⟩ := hk4
      clear hk hlt
      go_wp2
      go_ret
      exact ⟨rfl, hM, hB⟩

set_option maxRecDepth 20000 in
set_option maxHeartbeats 6400000 in
theorem iTakes (k : Int) (w : World) : Calls Try.prog 42 #[.int .i64 k] w fun e w' => e = .returned (.int .i64 (takesR k)) ∧ Below w.heap.size w w' := by
  have kF := fun W => iFunText k W
  have kT := fun W => iTakingOne W
  by_cases h : 0 ≤ k ∧ k ≤ 14
  · obtain ⟨hs, hne, hS, hR⟩ := takes_of k h
    generalize funR k = y at *
    have hb : (y.toList == (⟨#[]⟩ : ByteArray).toList) = false := (Lib.bytes_beq_false_iff _ _).2 (fun e => by rw [e] at hne; revert hne; decide)
    have hb2 : y.toList.isEmpty = false := by simpa using hb
    clear hb
    have hlen : y.size ≤ maxLen := by unfold maxLen; omega
    generalize delF numOf 4 = f at *
    rcases hR with hR | hR
    · have e2 : (f y).isSome = true := by rw [hS, hR]; rfl
      rw [hR]
      clear hS hne hs h hR
      go_enter Try.func42, Try.ntmps42
      go_wp2_with fail
      refine (kF _).mono ?_
      rintro e w1 ⟨rfl, b1⟩
      go_wp2_with fail
      refine (kT _).mono ?_
      rintro e w2 ⟨rfl, hM, b2⟩
      have B := b1.trans (b2.mono b1.size)
      go_wp2_with (first | (refine wpM_look _ rfl _ _ rfl _ _ _ _ rfl hM rfl hlen ?_) | go_in)
      go_ret
      exact ⟨rfl, B⟩
    · have e2 : (f y).isSome = false := by rw [hS, hR]; rfl
      rw [hR]
      clear hS hne hs h hR
      go_enter Try.func42, Try.ntmps42
      go_wp2_with fail
      refine (kF _).mono ?_
      rintro e w1 ⟨rfl, b1⟩
      go_wp2_with fail
      refine (kT _).mono ?_
      rintro e w2 ⟨rfl, hM, b2⟩
      have B := b1.trans (b2.mono b1.size)
      go_wp2_with (first | (refine wpM_look _ rfl _ _ rfl _ _ _ _ rfl hM rfl hlen ?_) | go_in)
      go_ret
      exact ⟨rfl, B⟩
  · have e : funR k = ⟨#[]⟩ := if_neg h
    have e2 : takesR k = 0 := if_neg h
    rw [e] at kF
    rw [e2]
    clear e e2 h kT
    go_enter Try.func42, Try.ntmps42
    go_wp2_with fail
    refine (kF _).mono ?_
    rintro e w1 ⟨rfl, b1⟩
    go_wp2
    go_ret
    exact ⟨rfl, b1⟩

theorem bitAt (b : Bool) (w : World) : Calls Try.prog 72 #[.bool b] w fun e w' => e = .returned (.int .i64 (if b then 1 else 0)) ∧ w' = w := by
  cases b <;>
  · go_enter Try.func72, Try.ntmps72
    go_wp2
    go_ret
    exact ⟨rfl, rfl⟩

set_option maxRecDepth 20000 in
set_option maxHeartbeats 6400000 in
theorem sTakes (k : Int) (w : World) : Calls Try.prog 41 #[.int .i64 k] w fun e w' => e = .returned (.int .i64 (takesR k)) ∧ w' = w := by
  by_cases h : k = 0 ∨ k = 1 ∨ k = 3 ∨ k = 10
  · rcases h with rfl | rfl | rfl | rfl <;>
    · go_enter Try.func41, Try.ntmps41
      go_wp2
      go_ret
      exact ⟨rfl, rfl⟩
  · have h0 : ¬ k = 0 := fun e => h (.inl e)
    have h1 : ¬ k = 1 := fun e => h (.inr (.inl e))
    have h3 : ¬ k = 3 := fun e => h (.inr (.inr (.inl e)))
    have h10 : ¬ k = 10 := fun e => h (.inr (.inr (.inr e)))
    have b0 : (k == 0) = false := by simpa using h0
    have b1 : (k == 1) = false := by simpa using h1
    have b3 : (k == 3) = false := by simpa using h3
    have b10 : (k == 10) = false := by simpa using h10
    have hin : ∀ W, Calls Try.prog 47 #[.int .i64 k, .int .i64 0, .int .i64 14] W fun e w' => e = .returned (.bool (decide (0 ≤ k ∧ k ≤ 14))) ∧ w' = W := by
      intro W
      by_cases hh : 0 ≤ k ∧ k ≤ 14
      · rw [decide_eq_true hh]; exact in_yes k 0 14 W hh.1 hh.2
      · rw [decide_eq_false hh]; exact in_no k 0 14 W hh
    have e : takesR k = if decide (0 ≤ k ∧ k ≤ 14) = true then 1 else 0 := by
      unfold takesR
      rw [if_neg h]
      by_cases hh : 0 ≤ k ∧ k ≤ 14
      · rw [if_pos hh, if_pos (decide_eq_true hh)]
      · rw [if_neg hh, if_neg (by simpa using hh)]
    rw [e]
    clear h e
    generalize decide (0 ≤ k ∧ k ≤ 14) = b at *
    cases b <;>
    · go_enter Try.func41, Try.ntmps41
      go_wp2_with fail
      refine (hin _).mono ?_
      rintro e w1 ⟨rfl, rfl⟩
      go_wp2_with fail
      refine (bitAt _ _).mono ?_
      rintro e w2 ⟨rfl, rfl⟩
      go_wp2
      go_ret
      exact ⟨rfl, rfl⟩

theorem walkTakes (k : Int) (w : World) : Calls Try.prog 12 #[.int .i64 k] w fun e w' => e = .returned (.bool true) ∧ Below w.heap.size w w' := by
  go_enter Try.func12, Try.ntmps12
  go_wp2_with fail
  refine (sTakes k w).mono ?_
  rintro e w1 ⟨rfl, rfl⟩
  go_wp2_with fail
  refine (iTakes k w1).mono ?_
  rintro e w2 ⟨rfl, b2⟩
  generalize takesR k = s
  go_wp2
  go_ret
  exact ⟨rfl, b2⟩

end Go.Proofs.Ytocaaklhlmnonaa
