/- The program's NatInt and NatBits, each by its contract. -/
import Derived.Test.YtgpiidhmgdlgoaaGSmall
import Derived.Test.YtgpiidhmgdlgoaaSNatInt
namespace Go.Proofs.Ytgpiidhmgdlgoaa
open Go.RowKit

theorem fromN_yes {xs : List Int} (h : okB xs = true) : fromN xs = num xs := by unfold fromN; rw [if_pos h]

set_option maxHeartbeats 1600000 in
theorem iNatInt (v : Value) (xs : List Int) (w : World) (h : rowI w v xs) (hl : xs.length ≤ 1048576) :
    Calls Try.prog 22 #[v] w fun e w' => e = .returned (.tuple #[.int .i64 (intR xs).1, .bool (intR xs).2]) ∧ Below w.heap.size w w' := by
  have kt := gFrom v xs w h hl
  have l1 := fromN_len xs
  have hl1 : (limbs (fromN xs)).length ≤ 98 := by omega
  by_cases hok : okB xs = true
  · have HR : Hid (intR xs = (if nbits (fromN xs) ≤ 63 then (fromN xs : Int) else 0, decide (nbits (fromN xs) ≤ 63))) := by
      show _ = _
      unfold intR
      rw [fromN_yes hok]
      by_cases h2 : num xs ≤ 9223372036854775807
      · have h3 := (nbits_63 _).2 h2
        rw [if_pos ⟨hok, h2⟩, if_pos h3, decide_eq_true h3]
      · have h3 : ¬ nbits (num xs) ≤ 63 := fun q => h2 ((nbits_63 _).1 q)
        rw [if_neg (fun q => h2 q.2), if_neg h3, decide_eq_false h3]
    rw [hok] at kt
    clear hok
    have kS := fun b W h => gSmall b 0 (fromN xs) W h
    obtain ⟨z1, hz1⟩ : ∃ z, (if nbits (fromN xs) ≤ 63 then (fromN xs : Int) else 0) = z := ⟨_, rfl⟩
    obtain ⟨z2, hz2⟩ : ∃ z, decide (nbits (fromN xs) ≤ 63) = z := ⟨_, rfl⟩
    simp only [hz1, hz2] at kS
    rw [hz1, hz2] at HR
    clear hz1 hz2
    generalize fromN xs = m at *
    go_enter Try.func22, Try.ntmps22
    go_wp2_with fail
    refine kt.mono ?_
    rintro e w1 ⟨rfl, b1⟩
    have X0 := GB.made0 w1
    have B0 := b1.alloc b1.size (.cells Try.zeroCells45 45)
    have hbs := b1.size
    clear kt b1
    go_wp2_with (first | (refine wpN_store rfl (.tmp 4) (.tmp 9) rfl w1.heap.size _ _ m rfl rfl X0 hl1 ?_; intro w2 X2 t2 s2; have B2 := t2.below B0 B0.size (by simp; omega); have A2 := GN.ga X2 hl1) | (go_at_call 47; refine (kS w1.heap.size w2 A2).mono ?_; rintro e w3 ⟨rfl, b3⟩))
    go_ret2
    exact ⟨by rw [HR.out]; rfl, B2.trans (b3.mono B2.size)⟩
  · have HR : Hid (intR xs = (0, false)) := by show _ = _; unfold intR; rw [if_neg (fun q => hok q.1)]
    have hf : okB xs = false := by simpa using hok
    rw [hf] at kt
    clear hok hf
    generalize fromN xs = m at *
    go_enter Try.func22, Try.ntmps22
    go_wp2_with fail
    refine kt.mono ?_
    rintro e w1 ⟨rfl, b1⟩
    have X0 := GB.made0 w1
    have B0 := b1.alloc b1.size (.cells Try.zeroCells45 45)
    have hbs := b1.size
    clear kt b1
    go_wp2_with (first | (refine wpN_store rfl (.tmp 4) (.tmp 9) rfl w1.heap.size _ _ m rfl rfl X0 hl1 ?_; intro w2 X2 t2 s2; have B2 := t2.below B0 B0.size (by simp; omega); have A2 := GN.ga X2 hl1))
    go_ret2
    exact ⟨by rw [HR.out]; rfl, B2⟩

set_option maxHeartbeats 1600000 in
theorem iNatBits (v : Value) (xs : List Int) (w : World) (h : rowI w v xs) (hl : xs.length ≤ 1048576) :
    Calls Try.prog 32 #[v] w fun e w' => e = .returned (.int .i64 (bitsR xs)) ∧ Below w.heap.size w w' := by
  have kt := gFrom v xs w h hl
  have l1 := fromN_len xs
  have hl1 : (limbs (fromN xs)).length ≤ 98 := by omega
  by_cases hok : okB xs = true
  · have HR : Hid (bitsR xs = (nbits (fromN xs) : Int)) := by show _ = _; unfold bitsR; rw [if_pos hok, fromN_yes hok]
    rw [hok] at kt
    clear hok
    generalize fromN xs = m at *
    go_enter Try.func32, Try.ntmps32
    go_wp2_with fail
    refine kt.mono ?_
    rintro e w1 ⟨rfl, b1⟩
    have X0 := GB.made0 w1
    have B0 := b1.alloc b1.size (.cells Try.zeroCells45 45)
    have hbs := b1.size
    clear kt b1
    go_wp2_with (first | (refine wpN_store rfl (.tmp 3) (.tmp 8) rfl w1.heap.size _ _ m rfl rfl X0 hl1 ?_; intro w2 X2 t2 s2; have B2 := t2.below B0 B0.size (by simp; omega); have A2 := GN.ga X2 hl1) | (go_at_call 59; refine (gBits w1.heap.size 0 m w2 A2).mono ?_; rintro e w3 ⟨rfl, b3⟩))
    go_ret
    exact ⟨by rw [HR.out]; rfl, B2.trans (b3.mono B2.size)⟩
  · have HR : Hid (bitsR xs = -1) := by show _ = _; unfold bitsR; rw [if_neg hok]
    have hf : okB xs = false := by simpa using hok
    rw [hf] at kt
    clear hok hf
    generalize fromN xs = m at *
    go_enter Try.func32, Try.ntmps32
    go_wp2_with fail
    refine kt.mono ?_
    rintro e w1 ⟨rfl, b1⟩
    have X0 := GB.made0 w1
    have B0 := b1.alloc b1.size (.cells Try.zeroCells45 45)
    have hbs := b1.size
    clear kt b1
    go_wp2_with (first | (refine wpN_store rfl (.tmp 3) (.tmp 8) rfl w1.heap.size _ _ m rfl rfl X0 hl1 ?_; intro w2 X2 t2 s2; have B2 := t2.below B0 B0.size (by simp; omega); have A2 := GN.ga X2 hl1))
    go_ret
    exact ⟨by rw [HR.out]; rfl, B2⟩

end Go.Proofs.Ytgpiidhmgdlgoaa
