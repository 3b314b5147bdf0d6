/- l2Draw by its contract: a row of the call's own, of at most 49 numbers. -/
import Derived.Test.YtlpfjpbnedankaaDB
namespace Go.Proofs.Ytlpfjpbnedankaa
open Go.RowKit

/-- What a draw of a row hands out. -/
def DrawnI (w : World) (B : Nat) (e : Ending) (w' : World) : Prop := ∃ v xs, e = .returned v ∧ ownsI w' w.heap.size v xs ∧ xs.length ≤ 49 ∧ CurAt w' B ∧ w.grownBy w' (some B)
theorem DrawnI.mk {w w' : World} {B : Nat} {v : Value} {xs : List Int} (h1 : ownsI w' w.heap.size v xs) (h2 : xs.length ≤ 49) (h3 : CurAt w' B) (h4 : w.grownBy w' (some B)) : DrawnI w B (.returned v) w' := ⟨v, xs, rfl, h1, h2, h3, h4⟩

set_option maxRecDepth 20000 in
set_option maxHeartbeats 3200000 in
theorem drDraw (B : Nat) (w : World) (hc : CurAt w B) :
    Calls Try.prog 103 #[.pointer (some ⟨B, 0, none⟩)] w (DrawnI w B) := by
  have hB := hc.lt
  go_enter Try.func103, Try.ntmps103
  go_wp2_with fail
  refine (drRight B w hc).mono ?_
  rintro e w1 ⟨v, xs, rfl, o1, l1, -, c1, g1⟩
  go_wp2_with fail
  refine (curBelow B 14 w1 c1 (by omega)).mono ?_
  rintro e w2 ⟨x, rfl, x0, -, -, c2, g2⟩
  have o2 := o1.cur g2 hB
  have G2 := grown_trans g1 g2
  have hs2 := G2.size
  have l1' : xs.length ≤ 1099511627776 := by omega
  clear o1 c1 g1 g2 hc
  by_cases h0 : x = 0
  · subst h0
    clear x0
    go_wp2_with (at_builtin; refine wpI_app w2 w2 rfl (.tmp 10) (.tmp 11) rfl w.heap.size _ xs 0 rfl o2 (Below.refl _ _) rfl l1' hs2 ?_; intro v3 w3 o3 b3)
    go_ret
    exact DrawnI.mk o3 (by rw [List.length_append, List.length_singleton]; omega) (c2.below b3 hB) (grown_then G2 b3)
  · by_cases h1 : x = 1
    · subst h1
      clear x0
      go_wp2_with (at_builtin; refine wpI_app w2 w2 rfl (.tmp 15) (.tmp 16) rfl w.heap.size _ xs 16777216 rfl o2 (Below.refl _ _) rfl l1' hs2 ?_; intro v3 w3 o3 b3)
      go_ret
      exact DrawnI.mk o3 (by rw [List.length_append, List.length_singleton]; omega) (c2.below b3 hB) (grown_then G2 b3)
    · by_cases h2 : x = 2
      · subst h2
        clear x0
        go_wp2_with (at_builtin; refine wpI_app w2 w2 rfl (.tmp 20) (.tmp 21) rfl w.heap.size _ xs (-1) rfl o2 (Below.refl _ _) rfl l1' hs2 ?_; intro v3 w3 o3 b3)
        go_ret
        exact DrawnI.mk o3 (by rw [List.length_append, List.length_singleton]; omega) (c2.below b3 hB) (grown_then G2 b3)
      · by_cases h3 : x = 3
        · subst h3
          clear x0
          obtain ⟨ad, cp, rfl, -⟩ := o2.row
          go_wp2_with fail
          go_loopw [3] (fun v wr => ∃ (zs : List Int) (ad : Option Addr) (cp : Nat), v = .slice ad zs.length cp ∧ zs.length ≤ 49 ∧ ownsI wr w.heap.size v zs ∧ Below w.heap.size w2 wr) (fun v _ => 49 - (match v with | .slice _ n _ => n | _ => 0))
          case atStart => exact ⟨xs, ad, cp, rfl, by omega, o2, Below.refl _ _⟩
          case round =>
            obtain ⟨zs, ad', cp', rfl, hl, hown, hbw⟩ := hrel
            have hsw : w.heap.size ≤ wr.heap.size := Nat.le_trans hs2 hbw.size
            have hl' : zs.length ≤ 1099511627776 := by omega
            clear o2
            by_cases hlt : zs.length < 49
            · have hlt' : (zs.length : Int) < 49 := by omega
              go_wp2_with (at_builtin; refine wpI_app w2 wr rfl (.tmp 28) (.tmp 29) rfl w.heap.size _ zs 1 rfl hown hbw rfl hl' hsw ?_; intro v3 w3 o3 b3)
              obtain ⟨ad3, cp3, rfl, -⟩ := o3.row
              go_roundw
              case rel => exact ⟨zs ++ [1], ad3, cp3, rfl, by rw [List.length_append, List.length_singleton]; omega, o3, b3⟩
              case measure => simp [List.length_append]; omega
            · have hlt' : ¬ (zs.length : Int) < 49 := by omega
              go_wp2
              go_ret
              exact DrawnI.mk hown hl (c2.below hbw hB) (grown_then G2 hbw)
        · have e0 : (x == 0) = false := beq_eq_false_iff_ne.2 h0
          have e1 : (x == 1) = false := beq_eq_false_iff_ne.2 h1
          have e2 : (x == 2) = false := beq_eq_false_iff_ne.2 h2
          have e3 : (x == 3) = false := beq_eq_false_iff_ne.2 h3
          go_wp2
          go_ret
          exact DrawnI.mk o2 (by omega) c2 G2

end Go.Proofs.Ytlpfjpbnedankaa
