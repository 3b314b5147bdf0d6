/- The program's NatMul, by its contract. -/
import Derived.Test.YtnojigofojjopaaDoorGTwo
import Derived.Test.YtnojigofojjopaaDoorGCmp
import Derived.Test.YtnojigofojjopaaDoorGTimes
import Derived.Test.YtnojigofojjopaaDoorGList
namespace Go.Proofs.YtnojigofojjopaaDoor
open Go.RowKit

set_option maxHeartbeats 1600000 in
theorem iNatMul (va vb : Value) (xs ys : List Int) (w : World) (ha : rowI w va xs) (hb : rowI w vb ys) (hlx : xs.length ≤ 1048576) (hly : ys.length ≤ 1048576) :
    Calls Tryd.prog 24 #[va, vb] w (ansI w (mulR xs ys)) := by
  have kt := gTwo va vb xs ys w ha hb hlx hly
  have l1 := fromN_len xs
  have l2 := fromN_len ys
  have hl1 : (limbs (fromN xs)).length ≤ 98 := by omega
  have hl2 : (limbs (fromN ys)).length ≤ 98 := by omega
  by_cases hok : okB xs = true ∧ okB ys = true
  · have HR : Hid (mulR xs ys = fitR (fromN xs * fromN ys)) := by show _ = _; unfold mulR; rw [if_pos hok, fromN_ok hok.1, fromN_ok hok.2]
    rw [hok.1, hok.2] at kt
    generalize fromN xs = m at *
    generalize fromN ys = n at *
    clear hok
    go_enter Tryd.func24, Tryd.ntmps24
    go_wp2_with fail
    refine kt.mono ?_
    rintro e w1 ⟨rfl, b1⟩
    have X0 := (GB.made0 w1).alloc (.cells Tryd.zeroCells50 50)
    have Y0 := GB.made0 (w1.alloc (.cells Tryd.zeroCells50 50))
    have hs0 : (w1.alloc (.cells Tryd.zeroCells50 50)).heap.size = w1.heap.size + 1 := by simp
    have B0 := (b1.alloc b1.size (.cells Tryd.zeroCells50 50)).alloc (by have := b1.size; simp; omega) (.cells Tryd.zeroCells50 50)
    have hbs := b1.size
    rw [hs0] at Y0
    clear hs0 kt b1
    have hl3 : (limbs (m * n)).length ≤ 98 := by have := mul_limbs_len m n; omega
    go_wp2_with (first | (refine wpN_store rfl (.tmp 6) (.tmp 13) rfl w1.heap.size _ _ m rfl rfl X0 hl1 ?_; intro w2 X2 t2 s2; have Y2 := GB.tn Y0 t2 (by simp); have B2 := t2.below B0 B0.size (by simp; omega)) | (refine wpN_store rfl (.tmp 7) (.tmp 14) rfl (w1.heap.size + 1) _ _ n rfl rfl Y2 hl2 ?_; intro w3 Y3 t3 s3; have X3 := GN.tn X2 t3 (by simp); have B3 := t3.below B2 B2.size (by simp; omega); have A3 := GN.ga X3 hl1; have C3 := GN.ga Y3 hl2) | (go_at_call 43; refine (gTimes w1.heap.size 0 (w1.heap.size + 1) 0 m n w3 (by omega) A3 C3).mono ?_; rintro e w4 ⟨rfl, b4⟩) | (go_at_call 35; refine (gList (m * n) w4 hl3).mono ?_; rintro e w5 ⟨v5, rfl, o5, b5⟩))
    go_ret2
    have B4 := B3.trans (b4.mono B3.size)
    exact ⟨_, by rw [HR.out]; rfl, by rw [HR.out]; exact ownsI_mono o5 B4.size, B4.trans (b5.mono B4.size)⟩
  · have HR : Hid (mulR xs ys = ([], false)) := by show _ = _; unfold mulR; rw [if_neg hok]
    have hf : (okB xs && okB ys) = false := by cases h1 : okB xs <;> cases h2 : okB ys <;> simp_all
    rw [hf] at kt
    clear hf
    generalize fromN xs = m at *
    generalize fromN ys = n at *
    clear hok
    go_enter Tryd.func24, Tryd.ntmps24
    go_wp2_with fail
    refine kt.mono ?_
    rintro e w1 ⟨rfl, b1⟩
    have X0 := (GB.made0 w1).alloc (.cells Tryd.zeroCells50 50)
    have Y0 := GB.made0 (w1.alloc (.cells Tryd.zeroCells50 50))
    have hs0 : (w1.alloc (.cells Tryd.zeroCells50 50)).heap.size = w1.heap.size + 1 := by simp
    have B0 := (b1.alloc b1.size (.cells Tryd.zeroCells50 50)).alloc (by have := b1.size; simp; omega) (.cells Tryd.zeroCells50 50)
    have hbs := b1.size
    rw [hs0] at Y0
    clear hs0 kt b1
    go_wp2_with (first | (refine wpN_store rfl (.tmp 6) (.tmp 13) rfl w1.heap.size _ _ m rfl rfl X0 hl1 ?_; intro w2 X2 t2 s2; have Y2 := GB.tn Y0 t2 (by simp); have B2 := t2.below B0 B0.size (by simp; omega)) | (refine wpN_store rfl (.tmp 7) (.tmp 14) rfl (w1.heap.size + 1) _ _ n rfl rfl Y2 hl2 ?_; intro w3 Y3 t3 s3; have X3 := GN.tn X2 t3 (by simp); have B3 := t3.below B2 B2.size (by simp; omega); have A3 := GN.ga X3 hl1; have C3 := GN.ga Y3 hl2))
    go_ret2
    exact ⟨_, by rw [HR.out]; rfl, by rw [HR.out]; exact nil_own _ _, B3⟩

end Go.Proofs.YtnojigofojjopaaDoor
