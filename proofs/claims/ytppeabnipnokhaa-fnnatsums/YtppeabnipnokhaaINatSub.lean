/- The program's NatSub, by its contract. -/
import Derived.Test.YtppeabnipnokhaaGTwo
import Derived.Test.YtppeabnipnokhaaGCmp
import Derived.Test.YtppeabnipnokhaaGLower
import Derived.Test.YtppeabnipnokhaaGList
namespace Go.Proofs.Ytppeabnipnokhaa
open Go.RowKit

set_option maxHeartbeats 1600000 in
theorem iNatSub (va vb : Value) (xs ys : List Int) (w : World) (ha : rowI w va xs) (hb : rowI w vb ys) (hlx : xs.length ≤ 1048576) (hly : ys.length ≤ 1048576) :
    Calls Try.prog 16 #[va, vb] w (ansI w (subR xs ys)) := by
  have kt := gTwo va vb xs ys w ha hb hlx hly
  have l1 := fromN_len xs
  have l2 := fromN_len ys
  have hl1 : (limbs (fromN xs)).length ≤ 98 := by omega
  have hl2 : (limbs (fromN ys)).length ≤ 98 := by omega
  by_cases hok : okB xs = true ∧ okB ys = true
  · by_cases hle : fromN ys ≤ fromN xs
    · have HR : Hid (subR xs ys = fitR (fromN xs - fromN ys)) := by
        show _ = _
        have h1 := fromN_len xs
        rw [fromN_ok hok.1] at h1 hle
        rw [fromN_ok hok.2] at hle
        unfold subR fitR
        rw [if_pos ⟨hok.1, hok.2, hle⟩, fromN_ok hok.1, fromN_ok hok.2, if_pos (by have := limbs_mono (m := num xs) (n := num xs - num ys) (by omega); omega)]
      have hc : decide (cmpI (fromN xs) (fromN ys) < 0) = false := by unfold cmpI; simp; split <;> (try split) <;> omega
      rw [hok.1, hok.2] at kt
      generalize fromN xs = m at *
      generalize fromN ys = n at *
      clear hok
      go_enter Try.func16, Try.ntmps16
      go_wp2_with fail
      refine kt.mono ?_
      rintro e w1 ⟨rfl, b1⟩
      have X0 := (GB.made0 w1).alloc (.cells Try.zeroCells45 45)
      have Y0 := GB.made0 (w1.alloc (.cells Try.zeroCells45 45))
      have hs0 : (w1.alloc (.cells Try.zeroCells45 45)).heap.size = w1.heap.size + 1 := by simp
      have B0 := (b1.alloc b1.size (.cells Try.zeroCells45 45)).alloc (by have := b1.size; simp; omega) (.cells Try.zeroCells45 45)
      have hbs := b1.size
      rw [hs0] at Y0
      clear hs0 kt b1
      have hl3 : (limbs (m - n)).length ≤ 98 := by have := limbs_mono (m := m) (n := m - n) (by omega); omega
      have kO := fun W h1 h2 => gOrder w1.heap.size 0 (w1.heap.size + 1) 0 m n W h1 h2
      obtain ⟨c, hcc⟩ : ∃ c, cmpI m n = c := ⟨_, rfl⟩
      simp only [hcc] at kO hc
      clear hcc
      go_wp2_with (first | (refine wpN_store rfl (.tmp 6) (.tmp 13) rfl w1.heap.size _ _ m rfl rfl X0 hl1 ?_; intro w2 X2 t2 s2; have Y2 := GB.tn Y0 t2 (by simp); have B2 := t2.below B0 B0.size (by simp; omega)) | (refine wpN_store rfl (.tmp 7) (.tmp 14) rfl (w1.heap.size + 1) _ _ n rfl rfl Y2 hl2 ?_; intro w3 Y3 t3 s3; have X3 := GN.tn X2 t3 (by simp); have B3 := t3.below B2 B2.size (by simp; omega); have A3 := GN.ga X3 hl1; have C3 := GN.ga Y3 hl2) | (go_at_call 36; refine (kO w3 A3 C3).mono ?_; rintro e w6 ⟨rfl, b6⟩; have A6 := A3.below b6 A3.lt; have C6 := C3.below b6 C3.lt) | (refine wpA_load rfl (.tmp 6) rfl w1.heap.size 0 m rfl A6 ?_) | (go_at_call 37; refine (gMinus (w1.heap.size + 1) 0 m n w6 (by omega) hle C6).mono ?_; rintro e w4 ⟨rfl, b4⟩) | (go_at_call 32; refine (gList (m - n) w4 hl3).mono ?_; rintro e w5 ⟨v5, rfl, o5, b5⟩))
      go_ret2
      have B6 := B3.trans (b6.mono B3.size)
      have B4 := B6.trans (b4.mono B6.size)
      exact ⟨_, by rw [HR.out]; rfl, by rw [HR.out]; exact ownsI_mono o5 B4.size, B4.trans (b5.mono B4.size)⟩
    · have HR : Hid (subR xs ys = ([], false)) := by
        show _ = _
        unfold subR
        rw [fromN_ok hok.1, fromN_ok hok.2] at hle
        rw [if_neg (fun h => hle h.2.2)]
      have hc : decide (cmpI (fromN xs) (fromN ys) < 0) = true := by unfold cmpI; rw [if_pos (by omega)]; rfl
      rw [hok.1, hok.2] at kt
      generalize fromN xs = m at *
      generalize fromN ys = n at *
      clear hok
      go_enter Try.func16, Try.ntmps16
      go_wp2_with fail
      refine kt.mono ?_
      rintro e w1 ⟨rfl, b1⟩
      have X0 := (GB.made0 w1).alloc (.cells Try.zeroCells45 45)
      have Y0 := GB.made0 (w1.alloc (.cells Try.zeroCells45 45))
      have hs0 : (w1.alloc (.cells Try.zeroCells45 45)).heap.size = w1.heap.size + 1 := by simp
      have B0 := (b1.alloc b1.size (.cells Try.zeroCells45 45)).alloc (by have := b1.size; simp; omega) (.cells Try.zeroCells45 45)
      have hbs := b1.size
      rw [hs0] at Y0
      clear hs0 kt b1
      have kO := fun W h1 h2 => gOrder w1.heap.size 0 (w1.heap.size + 1) 0 m n W h1 h2
      obtain ⟨c, hcc⟩ : ∃ c, cmpI m n = c := ⟨_, rfl⟩
      simp only [hcc] at kO hc
      clear hcc
      go_wp2_with (first | (refine wpN_store rfl (.tmp 6) (.tmp 13) rfl w1.heap.size _ _ m rfl rfl X0 hl1 ?_; intro w2 X2 t2 s2; have Y2 := GB.tn Y0 t2 (by simp); have B2 := t2.below B0 B0.size (by simp; omega)) | (refine wpN_store rfl (.tmp 7) (.tmp 14) rfl (w1.heap.size + 1) _ _ n rfl rfl Y2 hl2 ?_; intro w3 Y3 t3 s3; have X3 := GN.tn X2 t3 (by simp); have B3 := t3.below B2 B2.size (by simp; omega); have A3 := GN.ga X3 hl1; have C3 := GN.ga Y3 hl2) | (go_at_call 36; refine (kO w3 A3 C3).mono ?_; rintro e w6 ⟨rfl, b6⟩))
      go_ret2
      have B6 := B3.trans (b6.mono B3.size)
      exact ⟨_, by rw [HR.out]; rfl, by rw [HR.out]; exact nil_own _ _, B6⟩
  · have HR : Hid (subR xs ys = ([], false)) := by show _ = _; unfold subR; rw [if_neg (fun h => hok ⟨h.1, h.2.1⟩)]
    have hf : (okB xs && okB ys) = false := by cases h1 : okB xs <;> cases h2 : okB ys <;> simp_all
    rw [hf] at kt
    clear hf
    generalize fromN xs = m at *
    generalize fromN ys = n at *
    clear hok
    go_enter Try.func16, Try.ntmps16
    go_wp2_with fail
    refine kt.mono ?_
    rintro e w1 ⟨rfl, b1⟩
    have X0 := (GB.made0 w1).alloc (.cells Try.zeroCells45 45)
    have Y0 := GB.made0 (w1.alloc (.cells Try.zeroCells45 45))
    have hs0 : (w1.alloc (.cells Try.zeroCells45 45)).heap.size = w1.heap.size + 1 := by simp
    have B0 := (b1.alloc b1.size (.cells Try.zeroCells45 45)).alloc (by have := b1.size; simp; omega) (.cells Try.zeroCells45 45)
    have hbs := b1.size
    rw [hs0] at Y0
    clear hs0 kt b1
    go_wp2_with (first | (refine wpN_store rfl (.tmp 6) (.tmp 13) rfl w1.heap.size _ _ m rfl rfl X0 hl1 ?_; intro w2 X2 t2 s2; have Y2 := GB.tn Y0 t2 (by simp); have B2 := t2.below B0 B0.size (by simp; omega)) | (refine wpN_store rfl (.tmp 7) (.tmp 14) rfl (w1.heap.size + 1) _ _ n rfl rfl Y2 hl2 ?_; intro w3 Y3 t3 s3; have X3 := GN.tn X2 t3 (by simp); have B3 := t3.below B2 B2.size (by simp; omega); have A3 := GN.ga X3 hl1; have C3 := GN.ga Y3 hl2))
    go_ret2
    exact ⟨_, by rw [HR.out]; rfl, by rw [HR.out]; exact nil_own _ _, B3⟩

end Go.Proofs.Ytppeabnipnokhaa
