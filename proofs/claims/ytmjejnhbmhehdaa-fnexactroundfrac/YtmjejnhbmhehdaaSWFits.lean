/- The specification's l4Fits, by its contract. -/
import Derived.Test.YtmjejnhbmhehdaaBase
namespace Go.Proofs.Ytmjejnhbmhehdaa
open Go.RowKit

set_option maxHeartbeats 1600000 in
theorem sWFits (va : Value) (z : Int) (base : Nat) (w : World) (h : ownsW w base va (mkW z)) :
    Calls Try.prog 47 #[va] w fun e w' => ∃ v, e = .returned (.tuple #[v, .bool (fitW z).2]) ∧ ownsW w' base v (fitW z).1 ∧ Below w.heap.size w w' := by
  obtain ⟨s, rfl, hs⟩ := h
  have hs' : ownsI w base s (limbs z.natAbs) := hs
  obtain ⟨ad, cap, rfl, -⟩ := hs'.row
  have HO : Hid (ownsI w base (.slice ad (limbs z.natAbs).length cap) (limbs z.natAbs)) := hs'
  obtain ⟨n, hn⟩ : ∃ n, (mkW z).1 = n := ⟨_, rfl⟩
  rw [hn]
  have HM : Hid (mkW z = (n, limbs z.natAbs)) := by show _ = _; rw [← hn]; rfl
  clear hs hs' hn
  by_cases h48 : (limbs z.natAbs).length ≤ 48
  · have HF : Hid (fitW z = (mkW z, true)) := by show _ = _; rw [fitW, if_pos h48]
    have h48' : ¬ ((48 : Int) < ((limbs z.natAbs).length : Int)) := by omega
    go_enter Try.func47, Try.ntmps47
    go_wp2
    (try simp only [Exit.inBlock, Exit.then])
    refine bodyPost_ret (v := .tuple #[.agg #[.bool n, .slice ad (limbs z.natAbs).length cap], .bool true]) ?_ rfl ⟨_, by rw [HF.out], ?_, below2 _ _ _⟩
    · rw [results_cell_tmp rfl]
      go_simp
    · rw [HF.out]
      show ownsW _ _ _ (mkW z)
      rw [HM.out]
      exact ⟨_, rfl, World.ownsRow.alloc (World.ownsRow.alloc HO.out _) _⟩
  · have HF : Hid (fitW z = ((false, []), false)) := by show _ = _; rw [fitW, if_neg h48]
    have h48' : (48 : Int) < ((limbs z.natAbs).length : Int) := by omega
    go_enter Try.func47, Try.ntmps47
    go_wp2
    (try simp only [Exit.inBlock, Exit.then])
    refine bodyPost_ret (v := .tuple #[.agg #[.bool false, .slice none 0 0], .bool false]) ?_ rfl ⟨_, by rw [HF.out], ?_, below2 _ _ _⟩
    · rw [results_cell_tmp rfl]
      go_simp
    · rw [HF.out]
      exact ⟨_, rfl, World.ownsRow_nil _ _ _ _⟩

end Go.Proofs.Ytmjejnhbmhehdaa
