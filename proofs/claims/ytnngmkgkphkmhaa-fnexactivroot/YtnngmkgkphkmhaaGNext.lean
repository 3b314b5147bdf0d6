/- The program's next of a great number, by its contract. -/
import Derived.Test.YtnngmkgkphkmhaaGB
namespace Go.Proofs.Ytnngmkgkphkmhaa
open Go.RowKit

theorem succ_lenG (m : Nat) : (limbs (m + 1)).length ≤ (limbs m).length + 1 := by
  have h1 := limbs_lt m
  refine limbs_len_le _ _ ?_
  rw [Nat.pow_succ]
  have h2 : 0 < 16777216 ^ (limbs m).length := Nat.pow_pos (by omega)
  omega

set_option maxHeartbeats 1600000 in
/-- next: one more. -/
theorem gNext (m : Nat) (w : World) (hl : (limbs m).length ≤ 97) :
    Calls Try.prog 79 #[.agg (gC m)] w fun e w' => e = .returned (.agg (gC (m + 1))) ∧ Below w.heap.size w w' := by
  have M0 := (GN.made w m (by omega)).alloc (.cells Try.zeroCells62 62)
  have R0 := GB.made0 (w.alloc (.cells (gC m) 62))
  have s1 : (w.alloc (.cells (gC m) 62)).heap.size = w.heap.size + 1 := by simp
  rw [s1] at R0
  have B0 : Below w.heap.size w ((w.alloc (.cells (gC m) 62)).alloc (.cells Try.zeroCells62 62)) := ((Below.refl w.heap.size w).alloc (Nat.le_refl _) _).alloc (by simp) _
  have s2 : ((w.alloc (.cells (gC m) 62)).alloc (.cells Try.zeroCells62 62)).heap.size = w.heap.size + 1 + 1 := by simp
  obtain ⟨u, hu⟩ : ∃ u : Nat, u = 1 := ⟨1, rfl⟩
  have k2 : ∀ W, Calls Try.prog 96 #[.int .u64 1] W fun e w' => e = .returned (.agg (gC u)) ∧ Below W.heap.size W w' := fun W => by rw [hu]; exact gOf 1 W (by omega)
  have hl1 : (limbs u).length ≤ 1 := limbs_len_le u 1 (by omega)
  have hl3 : (limbs (m + u)).length ≤ 98 := by rw [hu]; have := succ_lenG m; omega
  have hgo : m + 1 = m + u := by rw [hu]
  rw [hgo]
  clear hu s1 hgo
  go_enter Try.func79, Try.ntmps79
  go_wp2_with fail
  refine (k2 _).mono ?_
  rintro e w1 ⟨rfl, b1⟩
  have B1 := B0.trans (b1.mono B0.size)
  have M1 := (GN.below M0 b1 (GN.lt M0)).alloc (.cells Try.zeroCells62 62)
  have R1 := (R0.below b1 R0.lt).alloc (.cells Try.zeroCells62 62)
  have P0 := GB.made0 w1
  have hs1 := b1.size
  have B2 := B1.alloc B1.size (.cells Try.zeroCells62 62)
  clear M0 R0 b1 k2
  go_wp2_with (first
    | (refine wpN_store rfl (.tmp 3) (.tmp 4) rfl w1.heap.size _ _ u rfl rfl P0 (by omega) ?_; intro w2 P2 t2 s3; have M2 := GN.tn M1 t2 (by simp; omega); have R2 := GB.tn R1 t2 (by simp; omega); have B3 := t2.below B2 B2.size (by simp; have := B1.size; omega); have A2 := GN.ga M2 (by omega); have C2 := GN.ga P2 (by omega))
    | (refine wpA_load rfl (.tmp 1) rfl w.heap.size 0 m rfl A2 ?_)
    | (go_at_call 97; refine (gPlus w1.heap.size 0 m u w2 (by omega) (by omega) C2).mono ?_; rintro e w4 ⟨rfl, b4⟩; have R4 := R2.below b4 R2.lt; have B5 := B3.trans (b4.mono B3.size))
    | (refine wpN_store rfl (.tmp 2) (.tmp 6) rfl (w.heap.size + 1) _ _ (m + u) rfl rfl R4 (by omega) ?_; intro w6 g6 t6 s6))
  (try simp only [Exit.inBlock, Exit.then])
  refine bodyPost_ret (v := .agg (gC (m + u))) ?_ rfl ⟨rfl, t6.below B5 B5.size (by simp)⟩
  exact results_great rfl _ _ (w.heap.size + 1) _ _ rfl g6

end Go.Proofs.Ytnngmkgkphkmhaa
