/- The program's signedFrom, signed.small, signed.order, each by its contract. -/
import Derived.Test.YtlpfjpbnedankaaSG
import Derived.Test.YtlpfjpbnedankaaGB
import Derived.Test.YtlpfjpbnedankaaIWholeOk
import Derived.Test.YtlpfjpbnedankaaBase
namespace Go.Proofs.Ytlpfjpbnedankaa
open Go.RowKit

theorem okW_ok {a : Wh} (h : okW a = true) : okB a.2 = true := by
  unfold okW at h
  simp at h
  exact h.1

set_option maxRecDepth 20000 in
set_option maxHeartbeats 1600000 in
theorem sFromYes (va : Value) (a : Wh) (w : World) (ha : rowW w va a) (hl : a.2.length ≤ 1048576) (hok : okW a = true) :
    Calls Try.prog 33 #[va] w fun e w' => ∃ b, e = .returned (.tuple #[.pointer (some ⟨b, 0, none⟩), .bool true]) ∧ w.heap.size ≤ b ∧ SG w' b (valW a) ∧ Below w.heap.size w w' := by
  have kO := fun W (h : Below w.heap.size w W) => iWholeOk va a W (ha.below h (Nat.le_refl _)) hl
  rw [hok] at kO
  obtain ⟨s, rfl, hs⟩ := ha
  have hf : fromN a.2 = num a.2 := by unfold fromN; rw [if_pos (okW_ok hok)]
  have kF := fun W (h : Below w.heap.size w W) => gFrom s a.2 W (hs.below h (Nat.le_refl _)) hl
  have l1 := fromN_len a.2
  rw [hf, okW_ok hok] at kF
  rw [hf] at l1
  have hl1 : (limbs (num a.2)).length ≤ 98 := by omega
  have kN := fun W => newSigned_c a.1 (num a.2) W hl1
  have hv : (if a.1 = true then -(num a.2 : Int) else (num a.2 : Int)) = valW a := rfl
  simp only [hv] at kN
  obtain ⟨ad, cap, rfl, -⟩ := id hs
  generalize num a.2 = n at *
  generalize valW a = z at *
  generalize a.1 = g at *
  generalize a.2.length = len at *
  have B0 := below1 w (.cells #[.bool g, .slice ad len cap] 27)
  have X0 := BoxW.made w (.bool g) (.slice ad len cap) 27
  clear hs hv hf hok
  go_enter Try.func33, Try.ntmps33
  go_wp2_with fail
  refine (kO _ B0).mono ?_
  rintro e w1 ⟨rfl, b1⟩
  generalize w.alloc (.cells #[.bool g, .slice ad len cap] 27) = w0 at *
  have X1 := X0.below b1 (Nat.le_refl _)
  have B1 := B0.trans (b1.mono B0.size)
  have c0 := X1.c0
  have c1 := X1.c1
  clear X0 B0 b1 kO
  go_wp2_with fail
  refine (kF _ B1).mono ?_
  rintro e w2 ⟨rfl, b2⟩
  have X2 := X1.below b2 (Nat.le_refl _)
  have B2 := B1.trans (b2.mono B1.size)
  have P0 := GB.made0 w2
  have B3 := B2.alloc B2.size (.cells Try.zeroCells97 97)
  have X3 := X2.below (below1 w2 (.cells Try.zeroCells97 97)) (Nat.le_refl _)
  have hx2 := X2.hi
  have hb2 := B2.size
  clear X1 B1 b2 c0 c1 kF
  go_wp2_with (first
    | (go_at_call 63
       refine (kN _).mono ?_
       rintro e w5 ⟨b5, rfl, h5, s5, b5'⟩)
    | ((with_reducible (refine wpL_id ?_)); refine wpN_store rfl (.tmp 4) (.tmp 13) rfl w2.heap.size _ _ n rfl rfl P0 hl1 ?_; intro w4 P4 t4 s4; have B4 := t4.below B3 B3.size (by simp; omega); have X4 := X3.tn t4 (fun k hk => by simp at hk ⊢; omega); have c4 := X4.c0; have A4 := GN.ga P4 hl1)
    | ((with_reducible (refine wpL_id ?_)); refine wpA_load rfl (.tmp 4) rfl w2.heap.size 0 n rfl A4 ?_))
  go_ret2
  exact ⟨b5, rfl, Nat.le_trans B4.size h5, s5, B4.trans (b5'.mono B4.size)⟩

set_option maxRecDepth 20000 in
set_option maxHeartbeats 1600000 in
theorem sFromNo (va : Value) (a : Wh) (w : World) (ha : rowW w va a) (hl : a.2.length ≤ 1048576) (hok : okW a = false) :
    Calls Try.prog 33 #[va] w fun e w' => e = .returned (.tuple #[.pointer none, .bool false]) ∧ Below w.heap.size w w' := by
  have kO := fun W (h : Below w.heap.size w W) => iWholeOk va a W (ha.below h (Nat.le_refl _)) hl
  rw [hok] at kO
  obtain ⟨s, rfl, hs⟩ := ha
  obtain ⟨ad, cap, rfl, -⟩ := id hs
  generalize a.1 = g at *
  generalize a.2.length = len at *
  have B0 := below1 w (.cells #[.bool g, .slice ad len cap] 27)
  clear hs hok
  go_enter Try.func33, Try.ntmps33
  go_wp2_with fail
  refine (kO _ B0).mono ?_
  rintro e w1 ⟨rfl, b1⟩
  go_wp2
  go_ret2
  exact ⟨rfl, B0.trans (b1.mono B0.size)⟩

end Go.Proofs.Ytlpfjpbnedankaa
