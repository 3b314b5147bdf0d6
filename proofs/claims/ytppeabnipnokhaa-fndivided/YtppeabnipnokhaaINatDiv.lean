/- The program's NatDiv, by its contract. -/
import Derived.Test.YtppeabnipnokhaaGBy1
import Derived.Test.YtppeabnipnokhaaGTwo
import Derived.Test.YtppeabnipnokhaaGList
import Derived.Test.YtppeabnipnokhaaSNatDiv
import Derived.Test.YtppeabnipnokhaaTn0
namespace Go.Proofs.Ytppeabnipnokhaa
open Go.RowKit
set_option linter.unusedSimpArgs false

set_option maxHeartbeats 3200000 in
theorem iNatDiv (va vb : Value) (xs ys : List Int) (w : World) (ha : rowI w va xs) (hb : rowI w vb ys) (hlx : xs.length ≤ 1048576) (hly : ys.length ≤ 1048576) :
    Calls Try.prog 24 #[va, vb] w fun e w' => ∃ v0 v1, e = .returned (.tuple #[v0, v1, .bool (divR xs ys).2.2]) ∧ ownsI w' w.heap.size v0 (divR xs ys).1 ∧ ownsI w' w.heap.size v1 (divR xs ys).2.1 ∧ Apart (blkI v0) (blkI v1) ∧ Below w.heap.size w w' := by
  have kt := gTwo va vb xs ys w ha hb hlx hly
  have l1 := fromN_len xs
  have l2 := fromN_len ys
  have hl1 : (limbs (fromN xs)).length ≤ 98 := by omega
  have hl2 : (limbs (fromN ys)).length ≤ 98 := by omega
  by_cases hok : okB xs = true ∧ okB ys = true
  · have hyl : limbs (fromN ys) = ys := by rw [fromN_ok hok.2]; exact limbs_num ((okB_iff ys).1 hok.2)
    have hz : fromN ys = 0 ↔ ys = [] := by
      constructor
      · intro h
        rw [← hyl, h, limbs_zero]
      · intro h
        rw [fromN_ok hok.2, h]
        rfl
    by_cases h0 : fromN ys = 0
    · have HR : Hid (divR xs ys = ([], [], false)) := by show _ = _; unfold divR; rw [if_neg (fun q => q.2.2 (hz.1 h0))]
      rw [hok.1, hok.2] at kt
      have e0 : (limbs (fromN ys)).length = 0 := by rw [h0, limbs_zero]; rfl
      generalize fromN xs = m at *
      generalize fromN ys = n at *
      clear hok hz hyl h0
      go_enter Try.func24, Try.ntmps24
      go_wp2_with fail
      refine kt.mono ?_
      rintro e w1 ⟨rfl, b1⟩
      have X0 := (GB.made0 w1).alloc (.cells Try.zeroCells45 45)
      have Y0 := GB.made0 (w1.alloc (.cells Try.zeroCells45 45))
      have hs0 : (w1.alloc (.cells Try.zeroCells45 45)).heap.size = w1.heap.size + 1 := by simp
      have B0 := (b1.alloc b1.size (.cells Try.zeroCells45 45)).alloc (by have := b1.size; simp; omega) (.cells Try.zeroCells45 45)
      have hbs := b1.size
      rw [hs0] at Y0
      clear hs0 kt b1
      go_wp2_with (first
        | (refine wpN_store rfl (.tmp 7) (.tmp 20) rfl w1.heap.size _ _ m rfl rfl X0 hl1 ?_; intro w2 X2 t2 s2; have Y2 := GB.tn Y0 t2 (by simp); have B2 := t2.below B0 B0.size (by simp; omega))
        | (refine wpN_store rfl (.tmp 8) (.tmp 21) rfl (w1.heap.size + 1) _ _ n rfl rfl Y2 hl2 ?_; intro w3 Y3 t3 s3; have X3 := GN.tn X2 t3 (by simp); have B3 := t3.below B2 B2.size (by simp; omega); have c98 := GB.size Y3; rw [e0] at c98; change _ = some (Value.int .i64 0) at c98))
      go_ret3
      exact ⟨_, _, by rw [HR.out]; rfl, by rw [HR.out]; exact nil_own _ _, by rw [HR.out]; exact nil_own _ _, fun k hk => (by cases hk), B3⟩
    · have HR : Hid (divR xs ys = (limbs (fromN xs / fromN ys), limbs (fromN xs % fromN ys), true)) := by
        show _ = _
        unfold divR
        rw [if_pos ⟨hok.1, hok.2, fun q => h0 (hz.2 q)⟩, fromN_ok hok.1, fromN_ok hok.2]
      rw [hok.1, hok.2] at kt
      have hp : 0 < (limbs (fromN ys)).length := by rw [limbs_pos _ (by omega)]; simp
      have hn0 : 0 < fromN ys := by omega
      have e0 : (((limbs (fromN ys)).length : Int) == 0) = false := by rw [beq_eq_false_iff_ne]; omega
      generalize fromN xs = m at *
      generalize fromN ys = n at *
      clear hok hz hyl h0
      have lq : (limbs (m / n)).length ≤ 48 := Nat.le_trans (limbs_mono (Nat.div_le_self m n)) l1
      have lr : (limbs (m % n)).length ≤ 48 := Nat.le_trans (limbs_mono (Nat.le_of_lt (Nat.mod_lt m hn0))) l2
      have Fq : fitR (m / n) = (limbs (m / n), true) := by unfold fitR; rw [if_pos lq]
      have Fr : fitR (m % n) = (limbs (m % n), true) := by unfold fitR; rw [if_pos lr]
      go_enter Try.func24, Try.ntmps24
      go_wp2_with fail
      refine kt.mono ?_
      rintro e w1 ⟨rfl, b1⟩
      have X0 := (GB.made0 w1).alloc (.cells Try.zeroCells45 45)
      have Y0 := GB.made0 (w1.alloc (.cells Try.zeroCells45 45))
      have hs0 : (w1.alloc (.cells Try.zeroCells45 45)).heap.size = w1.heap.size + 1 := by simp
      have B0 := (b1.alloc b1.size (.cells Try.zeroCells45 45)).alloc (by have := b1.size; simp; omega) (.cells Try.zeroCells45 45)
      have hbs := b1.size
      rw [hs0] at Y0
      clear hs0 kt b1
      go_wp2_with (first
        | (refine wpN_store rfl (.tmp 7) (.tmp 20) rfl w1.heap.size _ _ m rfl rfl X0 hl1 ?_; intro w2 X2 t2 s2; have Y2 := GB.tn Y0 t2 (by simp); have B2 := t2.below B0 B0.size (by simp; omega))
        | (refine wpN_store rfl (.tmp 8) (.tmp 21) rfl (w1.heap.size + 1) _ _ n rfl rfl Y2 hl2 ?_; intro w3 Y3 t3 s3; have X3 := GN.tn X2 t3 (by simp); have B3 := t3.below B2 B2.size (by simp; omega); have A3 := GN.ga X3 hl1; have C3 := GN.ga Y3 hl2; have c98 := GB.size Y3)
        | (go_at_call 49; fail))
      refine (gBy w1.heap.size 0 (w1.heap.size + 1) 0 m n w3 l1 l2 hn0 A3 C3).mono ?_
      rintro e w4 ⟨rfl, b4⟩
      have B4 := B3.trans (b4.mono B3.size)
      have P0 := (GB.made0 w4).alloc (.cells Try.zeroCells45 45)
      have Q0 := GB.made0 (w4.alloc (.cells Try.zeroCells45 45))
      have hs4 : (w4.alloc (.cells Try.zeroCells45 45)).heap.size = w4.heap.size + 1 := by simp
      rw [hs4] at Q0
      have hb4 := B4.size
      have B5 := (B4.alloc hb4 (.cells Try.zeroCells45 45)).alloc (by simp; omega) (.cells Try.zeroCells45 45)
      clear hs4 b4 B4 X3 Y3 A3 C3 c98
      go_wp2_with (first
        | (refine wpN_store rfl (.tmp 10) (.tmp 32) rfl w4.heap.size _ _ (m / n) rfl rfl P0 (by omega) ?_; intro w5 P5 t5 s5; have Q5 := GB.tn Q0 t5 (by simp); have B6 := t5.below B5 B5.size (by simp; omega))
        | (refine wpN_store rfl (.tmp 11) (.tmp 33) rfl (w4.heap.size + 1) _ _ (m % n) rfl rfl Q5 (by omega) ?_; intro w6 Q6 t6 s6; have P6 := GN.tn P5 t6 (by simp); have B7 := t6.below B6 B6.size (by simp; omega); have A6 := GN.ga P6 (by omega); have C6 := GN.ga Q6 (by omega))
        | (refine wpA_load rfl (.tmp 10) rfl w4.heap.size 0 (m / n) rfl A6 ?_)
        | (go_at_call 32; fail))
      refine (gList (m / n) w6 (by omega)).mono ?_
      rintro e w7 ⟨v7, rfl, o7, b7⟩
      have B8 := B7.trans (b7.mono B7.size)
      have C7 := C6.below b7 C6.lt
      rw [Fq] at o7
      have o7' : ownsI w7 w6.heap.size v7 (limbs (m / n)) := o7
      go_wp2_with (first
        | (refine wpA_load rfl (.tmp 11) rfl (w4.heap.size + 1) 0 (m % n) rfl C7 ?_)
        | (go_at_call 32; fail))
      refine (gList (m % n) w7 (by omega)).mono ?_
      rintro e w8 ⟨v8, rfl, o8, b8⟩
      have B9 := B8.trans (b8.mono B8.size)
      rw [Fr] at o8
      have o8' : ownsI w8 w7.heap.size v8 (limbs (m % n)) := o8
      have hB7 := B7.size
      have hB8 := B8.size
      clear o7 o8
      go_wp2
      go_ret3
      exact ⟨_, _, by rw [HR.out]; rfl, by rw [HR.out]; exact ownsI_mono (ownsI.below o7' b8 (Nat.le_refl _)) hB7, by rw [HR.out]; exact ownsI_mono o8' hB8, apart_of (fun k hk => (o7'.ltb k hk).2) (fun k hk => (o8'.ltb k hk).1), B9⟩
  · have HR : Hid (divR xs ys = ([], [], false)) := by show _ = _; unfold divR; rw [if_neg (fun q => hok ⟨q.1, q.2.1⟩)]
    have hf : (okB xs && okB ys) = false := by cases h1 : okB xs <;> cases h2 : okB ys <;> simp_all
    rw [hf] at kt
    clear hf
    generalize fromN xs = m at *
    generalize fromN ys = n at *
    clear hok
    go_enter Try.func24, Try.ntmps24
    go_wp2_with fail
    refine kt.mono ?_
    rintro e w1 ⟨rfl, b1⟩
    have X0 := (GB.made0 w1).alloc (.cells Try.zeroCells45 45)
    have Y0 := GB.made0 (w1.alloc (.cells Try.zeroCells45 45))
    have hs0 : (w1.alloc (.cells Try.zeroCells45 45)).heap.size = w1.heap.size + 1 := by simp
    have B0 := (b1.alloc b1.size (.cells Try.zeroCells45 45)).alloc (by have := b1.size; simp; omega) (.cells Try.zeroCells45 45)
    have hbs := b1.size
    rw [hs0] at Y0
    clear hs0 kt b1
    go_wp2_with (first
        | (refine wpN_store rfl (.tmp 7) (.tmp 20) rfl w1.heap.size _ _ m rfl rfl X0 hl1 ?_; intro w2 X2 t2 s2; have Y2 := GB.tn Y0 t2 (by simp); have B2 := t2.below B0 B0.size (by simp; omega))
        | (refine wpN_store rfl (.tmp 8) (.tmp 21) rfl (w1.heap.size + 1) _ _ n rfl rfl Y2 hl2 ?_; intro w3 Y3 t3 s3; have X3 := GN.tn X2 t3 (by simp); have B3 := t3.below B2 B2.size (by simp; omega)))
    go_ret3
    exact ⟨_, _, by rw [HR.out]; rfl, by rw [HR.out]; exact nil_own _ _, by rw [HR.out]; exact nil_own _ _, fun k hk => (by cases hk), B3⟩

end Go.Proofs.Ytppeabnipnokhaa
