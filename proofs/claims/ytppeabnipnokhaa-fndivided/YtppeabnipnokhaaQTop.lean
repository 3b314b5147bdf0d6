/- Several small texts in one: GBy1, SDiv, SNatDiv, INatDiv. -/
import Derived.Test.YtppeabnipnokhaaGBy
import Derived.Scope
import Derived.Test.YtppeabnipnokhaaDivR
import Derived.Test.YtppeabnipnokhaaOne
import Derived.Test.YtppeabnipnokhaaSBits
import Derived.Test.YtppeabnipnokhaaSUp
import Derived.Test.YtppeabnipnokhaaSPlus
import Derived.Test.YtppeabnipnokhaaSCmp
import Derived.Test.YtppeabnipnokhaaSLess
import Derived.Test.YtppeabnipnokhaaSTimes
import Derived.Deep.RegionLaw
import Derived.Test.YtppeabnipnokhaaGTwo
import Derived.Test.YtppeabnipnokhaaGList
import Derived.Test.YtppeabnipnokhaaTn0
/- The program's by, with a divisor of one word, and as a whole, by its contract. -/
namespace Go.Proofs.Ytppeabnipnokhaa
open Go.RowKit
set_option linter.unusedSimpArgs false

theorem one_limb {d : Nat} (h : (limbs d).length = 1) : (limbs d).getD 0 0 = d ∧ 0 < d ∧ d < 16777216 := by
  have h0 : 0 < d := by
    apply Classical.byContradiction
    intro h1
    obtain rfl : d = 0 := by omega
    rw [limbs_zero] at h
    simp at h
  have h1 := limbs_lt d
  rw [h] at h1
  have h2 : d < 16777216 := by simpa using h1
  rw [limbs_pos d h0]
  refine ⟨?_, h0, h2⟩
  show ((d % 16777216 : Nat) : Int) = d
  rw [Nat.mod_eq_of_lt h2]

set_option maxRecDepth 200000 in
set_option maxHeartbeats 3200000 in
/-- by, with a divisor of one word. -/
theorem gBy1 (a oa b ob m d : Nat) (w : World) (hl : (limbs m).length ≤ 98) (hd1 : (limbs d).length = 1) (ha : GA w a oa m) (hb : GA w b ob d) :
    Calls Try.prog 49 #[.pointer (some ⟨a, oa, none⟩), .pointer (some ⟨b, ob, none⟩)] w fun e w' => e = .returned (.tuple #[.agg (gC (m / d)), .agg (gC (m % d))]) ∧ Below w.heap.size w w' := by
  have R0 := (GB.made0 w).alloc (.cells Try.zeroCells45 45)
  have T0 := GB.made0 (w.alloc (.cells Try.zeroCells45 45))
  have s1 : (w.alloc (.cells Try.zeroCells45 45)).heap.size = w.heap.size + 1 := by simp
  have B1 : Below w.heap.size w ((w.alloc (.cells Try.zeroCells45 45)).alloc (.cells Try.zeroCells45 45)) := ((Below.refl w.heap.size w).alloc (Nat.le_refl _) _).alloc (by simp) _
  rw [s1] at T0
  have hna : a < w.heap.size := ha.lt
  have hnb : b < w.heap.size := hb.lt
  have hA := ha.below B1 hna
  have hD := hb.below B1 hnb
  have c98 := hD.size
  rw [hd1] at c98
  change _ = some (Value.int .i64 1) at c98
  have HD1 : Hid ((limbs d).length = 1) := hd1
  have HB1 : Hid (Below w.heap.size w _) := B1
  clear s1 ha hb hd1 B1
  have hc : ∀ W, GA W b ob d → W.cell? ⟨b, ob, none⟩ = some (.int .u32 d) := fun W h => by
    have h1 := h.word 0 (by omega)
    have h2 := one_limb HD1.out
    rw [h2.1] at h1
    exact h1
  have HC : Hid (∀ W, GA W b ob d → W.cell? ⟨b, ob, none⟩ = some (.int .u32 d)) := hc
  clear hc
  go_enter Try.func49, Try.ntmps49
  go_wp2
  refine wp_scope_straight ?_
  go_wp2_with fail
  refine wp_region_held_drew (S := fun W => GA W a oa m ∧ GA W b ob d) (by kernel_rfl) ⟨hA.drew, hD.drew⟩ ?_
  intro hHeld
  refine takeH 0 (some 17) (.pointer (some ⟨a, oa, none⟩)) rfl rfl (by kernel_rfl) (by kernel_rfl) (by kernel_rfl) (fun _ _ _ h => h) (Or.inl ⟨by rfl, by intro W hSw; go_simp⟩) (by assumption) ?_
  simp only [Act.put, List.setIfInBounds_toArray, List.set_cons_zero, List.set_cons_succ]
  refine takeH 1 (some 18) (.pointer (some ⟨a, oa, none⟩)) rfl rfl (by kernel_rfl) (by kernel_rfl) (by kernel_rfl) (fun _ _ _ h => h) (Or.inl ⟨by rfl, by intro W hSw; go_simp⟩) (by assumption) ?_
  simp only [Act.put, List.setIfInBounds_toArray, List.set_cons_zero, List.set_cons_succ]
  refine takeH 2 (some 19) (.agg (gC m)) rfl rfl (by kernel_rfl) (by kernel_rfl) (by kernel_rfl) (fun _ _ _ h => h) (yg_load rfl (.tmp 18) rfl a oa m rfl (fun W h => h.1)) (by assumption) ?_
  simp only [Act.put, List.setIfInBounds_toArray, List.set_cons_zero, List.set_cons_succ]
  refine takeH 3 (some 20) (.pointer (some ⟨b, ob, none⟩)) rfl rfl (by kernel_rfl) (by kernel_rfl) (by kernel_rfl) (fun _ _ _ h => h) (Or.inl ⟨by rfl, by intro W hSw; go_simp⟩) (by assumption) ?_
  simp only [Act.put, List.setIfInBounds_toArray, List.set_cons_zero, List.set_cons_succ]
  refine takeH 4 (some 21) (.pointer (some ⟨b, ob, none⟩)) rfl rfl (by kernel_rfl) (by kernel_rfl) (by kernel_rfl) (fun _ _ _ h => h) (Or.inl ⟨by rfl, by intro W hSw; go_simp⟩) (by assumption) ?_
  simp only [Act.put, List.setIfInBounds_toArray, List.set_cons_zero, List.set_cons_succ]
  refine takeH 5 (some 22) (.pointer (some ⟨b, ob, none⟩)) rfl rfl (by kernel_rfl) (by kernel_rfl) (by kernel_rfl) (fun _ _ _ h => h) (Or.inl ⟨by rfl, by intro W hSw; go_simp⟩) (by assumption) ?_
  simp only [Act.put, List.setIfInBounds_toArray, List.set_cons_zero, List.set_cons_succ]
  refine takeH 6 (some 23) (.pointer (some ⟨b, ob, none⟩)) rfl rfl (by kernel_rfl) (by kernel_rfl) (by kernel_rfl) (fun _ _ _ h => h) (Or.inl ⟨by rfl, by intro W hSw; go_simp⟩) (by assumption) ?_
  simp only [Act.put, List.setIfInBounds_toArray, List.set_cons_zero, List.set_cons_succ]
  refine takeH 7 (some 24) (.int .u32 d) rfl rfl (by kernel_rfl) (by kernel_rfl) (by kernel_rfl) (fun _ _ _ h => h) (Or.inl ⟨by rfl, by intro W hSw; have hcW := HC.out W hSw.2; go_simp⟩) (by assumption) ?_
  simp only [Act.put, List.setIfInBounds_toArray, List.set_cons_zero, List.set_cons_succ]
  have kW := fun W => gByWord m d W hl (one_limb HD1.out).2.1 (one_limb HD1.out).2.2
  have hlq : (limbs (m / d)).length ≤ 98 := Nat.le_trans (limbs_mono (Nat.div_le_self m d)) hl
  have hm1 : (m % d : Nat) < 16777216 := by have h1 := (one_limb HD1.out).2; have h2 := Nat.mod_lt m h1.1; omega
  have kO := fun W => gOf (m % d) W (by omega)
  have hlr : (limbs (m % d)).length ≤ 98 := by have := limbs_len_le (m % d) 1 (by omega); omega
  obtain ⟨Q, hQ⟩ : ∃ Q, m / d = Q := ⟨_, rfl⟩
  obtain ⟨r, hr⟩ : ∃ r, m % d = r := ⟨_, rfl⟩
  simp only [hQ, hr] at kW
  simp only [hr] at kO
  rw [hQ] at hlq
  rw [hr] at hm1 hlr
  have HQR : Hid (m / d = Q ∧ m % d = r) := ⟨hQ, hr⟩
  clear hQ hr
  have B1 := HB1.out.drew
  have hs0 : w.heap.size + 1 < ((w.alloc (.cells Try.zeroCells45 45)).alloc (.cells Try.zeroCells45 45)).drew.heap.size := by show _ < ((w.alloc (.cells Try.zeroCells45 45)).alloc (.cells Try.zeroCells45 45)).heap.size; simp
  have R1 := GB.drew R0
  have T1 := GB.drew T0
  clear hA hD c98 HB1 R0 T0
  generalize ((w.alloc (.cells Try.zeroCells45 45)).alloc (.cells Try.zeroCells45 45)).drew = w0 at *
  refine wpAnyH_ready (rs := [8, 12]) (by kernel_rfl) (by simp) ?_
  refine AllReadyH.cons rfl (fun K hK => ?_) ?_
  · go_simp
    go_wp2_with (first | (go_at_call 65; refine (kW _).mono ?_; rintro e w1 ⟨rfl, b1⟩))
    refine hK.out _ _ ?_ (fun hHeld => ?_)
    · exact ⟨hHeld.1.below b1 hHeld.1.lt, hHeld.2.below b1 hHeld.2.lt⟩
    clear hK K
    refine takeH 9 (some 16) (.tuple #[.agg (gC Q), .int .u32 r]) rfl rfl (by kernel_rfl) (by kernel_rfl) (by kernel_rfl) (fun _ _ _ h => h) (Or.inl ⟨by rfl, by intro W hSw; go_simp⟩) (by assumption) ?_
    simp only [Act.put, List.setIfInBounds_toArray, List.set_cons_zero, List.set_cons_succ]
    refine takeH 10 (some 26) (.agg (gC Q)) rfl rfl (by kernel_rfl) (by kernel_rfl) (by kernel_rfl) (fun _ _ _ h => h) (Or.inl ⟨by rfl, by intro W hSw; go_simp⟩) (by assumption) ?_
    simp only [Act.put, List.setIfInBounds_toArray, List.set_cons_zero, List.set_cons_succ]
    refine takeH 11 (some 27) (.int .u32 r) rfl rfl (by kernel_rfl) (by kernel_rfl) (by kernel_rfl) (fun _ _ _ h => h) (Or.inl ⟨by rfl, by intro W hSw; go_simp⟩) (by assumption) ?_
    simp only [Act.put, List.setIfInBounds_toArray, List.set_cons_zero, List.set_cons_succ]
    have hs1 := b1.size
    have X := GB.made0 w1
    have R := (R1.below b1 R1.lt).alloc (.cells Try.zeroCells45 45)
    have T := (T1.below b1 T1.lt).alloc (.cells Try.zeroCells45 45)
    have Bn := (B1.trans (b1.mono B1.size)).alloc (B1.trans (b1.mono B1.size)).size (.cells Try.zeroCells45 45)
    refine oneH 12 rfl (by kernel_rfl) (fun K' hK => ?_)
    go_simp
    refine hK _ _ ⟨hHeld.1.below (alloc_below w1 _) hHeld.1.lt, hHeld.2.below (alloc_below w1 _) hHeld.2.lt⟩ ?_
    clear hK
    have hG : GA (w1.alloc (.cells Try.zeroCells45 45)) a oa m ∧ GA (w1.alloc (.cells Try.zeroCells45 45)) b ob d := ⟨hHeld.1.below (alloc_below w1 _) hHeld.1.lt, hHeld.2.below (alloc_below w1 _) hHeld.2.lt⟩
    clear hHeld
    refine oneH 13 rfl (by kernel_rfl) (fun K' hK => ?_)
    refine sg_store rfl (.tmp 6) (.tmp 26) rfl w1.heap.size _ _ Q rfl rfl X hlq rfl ?_
    intro w3 X3 t3 s3
    have hH3 : GA w3 a oa m ∧ GA w3 b ob d := ⟨hG.1.tn t3 (by simp; omega), hG.2.tn t3 (by simp; omega)⟩
    have R3 := R.tn t3 (by simp; omega)
    have T3 := T.tn t3 (by simp; omega)
    have B3 := t3.below Bn Bn.size (by simp; omega)
    refine hK _ _ hH3 ?_
    clear hK hG
    refine takeH 14 (some 7) (.int .u32 r) rfl rfl (by kernel_rfl) (by kernel_rfl) (by kernel_rfl) (fun _ _ _ h => h) (Or.inl ⟨by rfl, by intro W hSw; go_simp⟩) (by assumption) ?_
    simp only [Act.put, List.setIfInBounds_toArray, List.set_cons_zero, List.set_cons_succ]
    refine wpAnyH_done (by kernel_rfl) ?_ _
    go_wp2_with fail
    have X3 := GN.ga X3 hlq
    have hq3 := X3.lt
    refine wp_region_held_drew (S := fun W => GA W w1.heap.size 0 Q) (by kernel_rfl) X3.drew ?_
    intro hHeld
    refine takeH 0 (some 28) (.agg (gC Q)) rfl rfl (by kernel_rfl) (by kernel_rfl) (by kernel_rfl) (fun _ _ _ h => h) (yg_load rfl (.tmp 6) rfl w1.heap.size 0 Q rfl (fun W h => h)) (by assumption) ?_
    simp only [Act.put, List.setIfInBounds_toArray, List.set_cons_zero, List.set_cons_succ]
    refine takeH 1 (some 29) (.int .u32 r) rfl rfl (by kernel_rfl) (by kernel_rfl) (by kernel_rfl) (fun _ _ _ h => h) (Or.inl ⟨by rfl, by intro W hSw; go_simp⟩) (by assumption) ?_
    simp only [Act.put, List.setIfInBounds_toArray, List.set_cons_zero, List.set_cons_succ]
    refine takeH 2 (some 30) (.int .u64 r) rfl rfl (by kernel_rfl) (by kernel_rfl) (by kernel_rfl) (fun _ _ _ h => h) (Or.inl ⟨by rfl, by intro W hSw; have q0 : (0 : Int) ≤ (r : Int) := (by omega); have q1 : (r : Int) < 16777216 := (by omega); go_simp; rw [IntKind.wrap_u64]; omega⟩) (by assumption) ?_
    simp only [Act.put, List.setIfInBounds_toArray, List.set_cons_zero, List.set_cons_succ]
    refine oneH 3 rfl (by kernel_rfl) (fun K' hK => ?_)
    go_simp
    go_wp2_with (first | (go_at_call 66; refine (kO _).mono ?_; rintro e w4 ⟨rfl, b4⟩))
    have hH4 : GA w4 w1.heap.size 0 Q := hHeld.below b4 hHeld.lt
    refine hK _ _ hH4 ?_
    clear hK hHeld
    have R4 := (GB.drew R3).below b4 (GB.drew R3).lt
    have T4 := (GB.drew T3).below b4 (GB.drew T3).lt
    have B4 := B3.drew.trans (b4.mono B3.drew.size)
    refine oneH 4 rfl (by kernel_rfl) (fun K' hK => ?_)
    refine sg_store rfl (.tmp 4) (.tmp 28) rfl w.heap.size _ _ Q rfl rfl R4 hlq rfl ?_
    intro w5 R5 t5 s5
    have hH5 := hH4.tn t5 (by simp; omega)
    have T5 := T4.tn t5 (by simp)
    have B5 := t5.below B4 B4.size (by simp)
    refine hK _ _ hH5 ?_
    clear hK hH4
    refine oneH 5 rfl (by kernel_rfl) (fun K' hK => ?_)
    refine sg_store rfl (.tmp 5) (.tmp 31) rfl (w.heap.size + 1) _ _ r rfl rfl T5 hlr rfl ?_
    intro w6 T6 t6 s6
    have R6 := GN.tn R5 t6 (by simp)
    have B6 := t6.below B5 B5.size (by simp)
    refine hK _ _ (hH5.tn t6 (by simp; omega)) ?_
    clear hK hH5
    refine wpAnyH_done (by kernel_rfl) ?_ _
    go_wp2
    (try simp only [Exit.inBlock, Exit.then, Exit.noGoto])
    refine bodyPost_ret (v := .tuple #[.agg (gC (m / d)), .agg (gC (m % d))]) ?_ rfl ⟨rfl, B6⟩
    rw [HQR.out.1, HQR.out.2]
    exact results_pair rfl _ _ w.heap.size (w.heap.size + 1) Q r rfl rfl (GN.ga R6 hlq) (GN.ga T6 hlr)
  refine AllReadyH.cons rfl (fun K hK => ?_) ?_
  · go_simp
    refine hK.out _ _ ?_ (fun hHeld => ?_)
    · exact ⟨hHeld.1.below (alloc_below w0 _) hHeld.1.lt, hHeld.2.below (alloc_below w0 _) hHeld.2.lt⟩
    clear hK K
    have X := GB.made0 w0
    have R := R1.alloc (.cells Try.zeroCells45 45)
    have T := T1.alloc (.cells Try.zeroCells45 45)
    have Bn := B1.alloc B1.size (.cells Try.zeroCells45 45)
    refine oneH 8 rfl (by kernel_rfl) (fun K' hK => ?_)
    go_simp
    go_wp2_with (first | (go_at_call 65; refine (kW _).mono ?_; rintro e w1 ⟨rfl, b1⟩))
    have hG : GA w1 a oa m ∧ GA w1 b ob d := ⟨hHeld.1.below b1 hHeld.1.lt, hHeld.2.below b1 hHeld.2.lt⟩
    refine hK _ _ hG ?_
    clear hK hHeld
    have X := X.below b1 X.lt
    have R := R.below b1 R.lt
    have T := T.below b1 T.lt
    have Bn := Bn.trans (b1.mono Bn.size)
    refine takeH 9 (some 16) (.tuple #[.agg (gC Q), .int .u32 r]) rfl rfl (by kernel_rfl) (by kernel_rfl) (by kernel_rfl) (fun _ _ _ h => h) (Or.inl ⟨by rfl, by intro W hSw; go_simp⟩) (by assumption) ?_
    simp only [Act.put, List.setIfInBounds_toArray, List.set_cons_zero, List.set_cons_succ]
    refine takeH 10 (some 26) (.agg (gC Q)) rfl rfl (by kernel_rfl) (by kernel_rfl) (by kernel_rfl) (fun _ _ _ h => h) (Or.inl ⟨by rfl, by intro W hSw; go_simp⟩) (by assumption) ?_
    simp only [Act.put, List.setIfInBounds_toArray, List.set_cons_zero, List.set_cons_succ]
    refine takeH 11 (some 27) (.int .u32 r) rfl rfl (by kernel_rfl) (by kernel_rfl) (by kernel_rfl) (fun _ _ _ h => h) (Or.inl ⟨by rfl, by intro W hSw; go_simp⟩) (by assumption) ?_
    simp only [Act.put, List.setIfInBounds_toArray, List.set_cons_zero, List.set_cons_succ]
    refine oneH 13 rfl (by kernel_rfl) (fun K' hK => ?_)
    refine sg_store rfl (.tmp 6) (.tmp 26) rfl w0.heap.size _ _ Q rfl rfl X hlq rfl ?_
    intro w3 X3 t3 s3
    have hH3 : GA w3 a oa m ∧ GA w3 b ob d := ⟨hG.1.tn t3 (by simp; omega), hG.2.tn t3 (by simp; omega)⟩
    have R3 := R.tn t3 (by simp; omega)
    have T3 := T.tn t3 (by simp; omega)
    have B3 := t3.below Bn Bn.size (by simp; omega)
    refine hK _ _ hH3 ?_
    clear hK hG
    refine takeH 14 (some 7) (.int .u32 r) rfl rfl (by kernel_rfl) (by kernel_rfl) (by kernel_rfl) (fun _ _ _ h => h) (Or.inl ⟨by rfl, by intro W hSw; go_simp⟩) (by assumption) ?_
    simp only [Act.put, List.setIfInBounds_toArray, List.set_cons_zero, List.set_cons_succ]
    refine wpAnyH_done (by kernel_rfl) ?_ _
    go_wp2_with fail
    have X3 := GN.ga X3 hlq
    have hq3 := X3.lt
    refine wp_region_held_drew (S := fun W => GA W w0.heap.size 0 Q) (by kernel_rfl) X3.drew ?_
    intro hHeld
    refine takeH 0 (some 28) (.agg (gC Q)) rfl rfl (by kernel_rfl) (by kernel_rfl) (by kernel_rfl) (fun _ _ _ h => h) (yg_load rfl (.tmp 6) rfl w0.heap.size 0 Q rfl (fun W h => h)) (by assumption) ?_
    simp only [Act.put, List.setIfInBounds_toArray, List.set_cons_zero, List.set_cons_succ]
    refine takeH 1 (some 29) (.int .u32 r) rfl rfl (by kernel_rfl) (by kernel_rfl) (by kernel_rfl) (fun _ _ _ h => h) (Or.inl ⟨by rfl, by intro W hSw; go_simp⟩) (by assumption) ?_
    simp only [Act.put, List.setIfInBounds_toArray, List.set_cons_zero, List.set_cons_succ]
    refine takeH 2 (some 30) (.int .u64 r) rfl rfl (by kernel_rfl) (by kernel_rfl) (by kernel_rfl) (fun _ _ _ h => h) (Or.inl ⟨by rfl, by intro W hSw; have q0 : (0 : Int) ≤ (r : Int) := (by omega); have q1 : (r : Int) < 16777216 := (by omega); go_simp; rw [IntKind.wrap_u64]; omega⟩) (by assumption) ?_
    simp only [Act.put, List.setIfInBounds_toArray, List.set_cons_zero, List.set_cons_succ]
    refine oneH 3 rfl (by kernel_rfl) (fun K' hK => ?_)
    go_simp
    go_wp2_with (first | (go_at_call 66; refine (kO _).mono ?_; rintro e w4 ⟨rfl, b4⟩))
    have hH4 : GA w4 w0.heap.size 0 Q := hHeld.below b4 hHeld.lt
    refine hK _ _ hH4 ?_
    clear hK hHeld
    have R4 := (GB.drew R3).below b4 (GB.drew R3).lt
    have T4 := (GB.drew T3).below b4 (GB.drew T3).lt
    have B4 := B3.drew.trans (b4.mono B3.drew.size)
    refine oneH 4 rfl (by kernel_rfl) (fun K' hK => ?_)
    refine sg_store rfl (.tmp 4) (.tmp 28) rfl w.heap.size _ _ Q rfl rfl R4 hlq rfl ?_
    intro w5 R5 t5 s5
    have hH5 := hH4.tn t5 (by simp; omega)
    have T5 := T4.tn t5 (by simp)
    have B5 := t5.below B4 B4.size (by simp)
    refine hK _ _ hH5 ?_
    clear hK hH4
    refine oneH 5 rfl (by kernel_rfl) (fun K' hK => ?_)
    refine sg_store rfl (.tmp 5) (.tmp 31) rfl (w.heap.size + 1) _ _ r rfl rfl T5 hlr rfl ?_
    intro w6 T6 t6 s6
    have R6 := GN.tn R5 t6 (by simp)
    have B6 := t6.below B5 B5.size (by simp)
    refine hK _ _ (hH5.tn t6 (by simp; omega)) ?_
    clear hK hH5
    refine wpAnyH_done (by kernel_rfl) ?_ _
    go_wp2
    (try simp only [Exit.inBlock, Exit.then, Exit.noGoto])
    refine bodyPost_ret (v := .tuple #[.agg (gC (m / d)), .agg (gC (m % d))]) ?_ rfl ⟨rfl, B6⟩
    rw [HQR.out.1, HQR.out.2]
    exact results_pair rfl _ _ w.heap.size (w.heap.size + 1) Q r rfl rfl (GN.ga R6 hlq) (GN.ga T6 hlr)
  exact AllReadyH.nil

/-- by: quotient and rest. -/
theorem gBy (a oa b ob m d : Nat) (w : World) (hl : (limbs m).length ≤ 48) (hld : (limbs d).length ≤ 48) (hd : 0 < d) (ha : GA w a oa m) (hb : GA w b ob d) :
    Calls Try.prog 49 #[.pointer (some ⟨a, oa, none⟩), .pointer (some ⟨b, ob, none⟩)] w fun e w' => e = .returned (.tuple #[.agg (gC (m / d)), .agg (gC (m % d))]) ∧ Below w.heap.size w w' := by
  have h0 : 0 < (limbs d).length := by rw [limbs_pos d hd]; simp
  by_cases h1 : (limbs d).length = 1
  · exact gBy1 a oa b ob m d w (by omega) h1 ha hb
  · exact gBy2 a oa b ob m d w hl hld (by omega) ha hb

end Go.Proofs.Ytppeabnipnokhaa

/- The specification's l3Div, by its contract. -/
namespace Go.Proofs.Ytppeabnipnokhaa
open Go.RowKit

end Go.Proofs.Ytppeabnipnokhaa

/- The specification's NatDiv, by its contract. -/
namespace Go.Proofs.Ytppeabnipnokhaa
open Go.RowKit

/-- Two lists and a flag are answered, each list in memory of its own. -/
def ansII (w : World) (r : List Int × List Int × Bool) (e : Ending) (w' : World) : Prop := ∃ v0 v1, e = .returned (.tuple #[v0, v1, .bool r.2.2]) ∧ ownsI w' w.heap.size v0 r.1 ∧ ownsI w' w.heap.size v1 r.2.1 ∧ (v0.ownBlock = none ∨ v0.ownBlock ≠ v1.ownBlock) ∧ Below w.heap.size w w'

theorem made_two (w : World) : ∃ v0 v1, v0 = Value.slice (some ⟨w.heap.size, 0, none⟩) 0 0 ∧ v1 = Value.slice (some ⟨w.heap.size + 1, 0, none⟩) 0 0 ∧ ownsI ((w.alloc (.cells #[] 3)).alloc (.cells #[] 3)) w.heap.size v0 [] ∧ ownsI ((w.alloc (.cells #[] 3)).alloc (.cells #[] 3)) w.heap.size v1 [] ∧ (v0.ownBlock = none ∨ v0.ownBlock ≠ v1.ownBlock) ∧ Below w.heap.size w ((w.alloc (.cells #[] 3)).alloc (.cells #[] 3)) := by
  have h0 := made_own w
  have h1 := made_own (w.alloc (.cells #[] 3))
  have e : (w.alloc (.cells #[] 3)).heap.size = w.heap.size + 1 := by simp
  rw [e] at h1
  have b1 : Below w.heap.size w (w.alloc (.cells #[] 3)) := (Below.refl _ _).alloc (Nat.le_refl _) _
  refine ⟨_, _, rfl, rfl, World.ownsRow.alloc h0 _, ownsI_mono h1 (by omega), .inr (by simp [Value.ownBlock]), b1.alloc b1.size _⟩

end Go.Proofs.Ytppeabnipnokhaa

/- The program's NatDiv, by its contract. -/
namespace Go.Proofs.Ytppeabnipnokhaa
open Go.RowKit
set_option linter.unusedSimpArgs false

set_option maxHeartbeats 3200000 in
theorem iNatDiv (va vb : Value) (xs ys : List Int) (w : World) (ha : rowI w va xs) (hb : rowI w vb ys) (hlx : xs.length ≤ 1048576) (hly : ys.length ≤ 1048576) :
    Calls Try.prog 24 #[va, vb] w fun e w' => ∃ v0 v1, e = .returned (.tuple #[v0, v1, .bool (divR xs ys).2.2]) ∧ ownsI w' w.heap.size v0 (divR xs ys).1 ∧ ownsI w' w.heap.size v1 (divR xs ys).2.1 ∧ Apart (blkI v0) (blkI v1) ∧ Below w.heap.size w w' := by
  have kt := gTwo va vb xs ys w ha hb hlx hly
  have l1 := fromN_len xs
  have l2 := fromN_len ys
  have hl1 : (limbs (fromN xs)).length ≤ 98 := by omega
  have hl2 : (limbs (fromN ys)).length ≤ 98 := by omega
  by_cases hok : okB xs = true ∧ okB ys = true
  · have hyl : limbs (fromN ys) = ys := by rw [fromN_ok hok.2]; exact limbs_num ((okB_iff ys).1 hok.2)
    have hz : fromN ys = 0 ↔ ys = [] := by
      constructor
      · intro h
        rw [← hyl, h, limbs_zero]
      · intro h
        rw [fromN_ok hok.2, h]
        rfl
    by_cases h0 : fromN ys = 0
    · have HR : Hid (divR xs ys = ([], [], false)) := by show _ = _; unfold divR; rw [if_neg (fun q => q.2.2 (hz.1 h0))]
      rw [hok.1, hok.2] at kt
      have e0 : (limbs (fromN ys)).length = 0 := by rw [h0, limbs_zero]; rfl
      generalize fromN xs = m at *
      generalize fromN ys = n at *
      clear hok hz hyl h0
      go_enter Try.func24, Try.ntmps24
      go_wp2_with fail
      refine kt.mono ?_
      rintro e w1 ⟨rfl, b1⟩
      have X0 := (GB.made0 w1).alloc (.cells Try.zeroCells45 45)
      have Y0 := GB.made0 (w1.alloc (.cells Try.zeroCells45 45))
      have hs0 : (w1.alloc (.cells Try.zeroCells45 45)).heap.size = w1.heap.size + 1 := by simp
      have B0 := (b1.alloc b1.size (.cells Try.zeroCells45 45)).alloc (by have := b1.size; simp; omega) (.cells Try.zeroCells45 45)
      have hbs := b1.size
      rw [hs0] at Y0
      clear hs0 kt b1
      go_wp2_with (first
        | (refine wpN_store rfl (.tmp 7) (.tmp 20) rfl w1.heap.size _ _ m rfl rfl X0 hl1 ?_; intro w2 X2 t2 s2; have Y2 := GB.tn Y0 t2 (by simp); have B2 := t2.below B0 B0.size (by simp; omega))
        | (refine wpN_store rfl (.tmp 8) (.tmp 21) rfl (w1.heap.size + 1) _ _ n rfl rfl Y2 hl2 ?_; intro w3 Y3 t3 s3; have X3 := GN.tn X2 t3 (by simp); have B3 := t3.below B2 B2.size (by simp; omega); have c98 := GB.size Y3; rw [e0] at c98; change _ = some (Value.int .i64 0) at c98))
      go_ret3
      exact ⟨_, _, by rw [HR.out]; rfl, by rw [HR.out]; exact nil_own _ _, by rw [HR.out]; exact nil_own _ _, fun k hk => (by cases hk), B3⟩
    · have HR : Hid (divR xs ys = (limbs (fromN xs / fromN ys), limbs (fromN xs % fromN ys), true)) := by
        show _ = _
        unfold divR
        rw [if_pos ⟨hok.1, hok.2, fun q => h0 (hz.2 q)⟩, fromN_ok hok.1, fromN_ok hok.2]
      rw [hok.1, hok.2] at kt
      have hp : 0 < (limbs (fromN ys)).length := by rw [limbs_pos _ (by omega)]; simp
      have hn0 : 0 < fromN ys := by omega
      have e0 : (((limbs (fromN ys)).length : Int) == 0) = false := by rw [beq_eq_false_iff_ne]; omega
      generalize fromN xs = m at *
      generalize fromN ys = n at *
      clear hok hz hyl h0
      have lq : (limbs (m / n)).length ≤ 48 := Nat.le_trans (limbs_mono (Nat.div_le_self m n)) l1
      have lr : (limbs (m % n)).length ≤ 48 := Nat.le_trans (limbs_mono (Nat.le_of_lt (Nat.mod_lt m hn0))) l2
      have Fq : fitR (m / n) = (limbs (m / n), true) := by unfold fitR; rw [if_pos lq]
      have Fr : fitR (m % n) = (limbs (m % n), true) := by unfold fitR; rw [if_pos lr]
      go_enter Try.func24, Try.ntmps24
      go_wp2_with fail
      refine kt.mono ?_
      rintro e w1 ⟨rfl, b1⟩
      have X0 := (GB.made0 w1).alloc (.cells Try.zeroCells45 45)
      have Y0 := GB.made0 (w1.alloc (.cells Try.zeroCells45 45))
      have hs0 : (w1.alloc (.cells Try.zeroCells45 45)).heap.size = w1.heap.size + 1 := by simp
      have B0 := (b1.alloc b1.size (.cells Try.zeroCells45 45)).alloc (by have := b1.size; simp; omega) (.cells Try.zeroCells45 45)
      have hbs := b1.size
      rw [hs0] at Y0
      clear hs0 kt b1
      go_wp2_with (first
        | (refine wpN_store rfl (.tmp 7) (.tmp 20) rfl w1.heap.size _ _ m rfl rfl X0 hl1 ?_; intro w2 X2 t2 s2; have Y2 := GB.tn Y0 t2 (by simp); have B2 := t2.below B0 B0.size (by simp; omega))
        | (refine wpN_store rfl (.tmp 8) (.tmp 21) rfl (w1.heap.size + 1) _ _ n rfl rfl Y2 hl2 ?_; intro w3 Y3 t3 s3; have X3 := GN.tn X2 t3 (by simp); have B3 := t3.below B2 B2.size (by simp; omega); have A3 := GN.ga X3 hl1; have C3 := GN.ga Y3 hl2; have c98 := GB.size Y3)
        | (go_at_call 49; fail))
      refine (gBy w1.heap.size 0 (w1.heap.size + 1) 0 m n w3 l1 l2 hn0 A3 C3).mono ?_
      rintro e w4 ⟨rfl, b4⟩
      have B4 := B3.trans (b4.mono B3.size)
      have P0 := (GB.made0 w4).alloc (.cells Try.zeroCells45 45)
      have Q0 := GB.made0 (w4.alloc (.cells Try.zeroCells45 45))
      have hs4 : (w4.alloc (.cells Try.zeroCells45 45)).heap.size = w4.heap.size + 1 := by simp
      rw [hs4] at Q0
      have hb4 := B4.size
      have B5 := (B4.alloc hb4 (.cells Try.zeroCells45 45)).alloc (by simp; omega) (.cells Try.zeroCells45 45)
      clear hs4 b4 B4 X3 Y3 A3 C3 c98
      go_wp2_with (first
        | (refine wpN_store rfl (.tmp 10) (.tmp 32) rfl w4.heap.size _ _ (m / n) rfl rfl P0 (by omega) ?_; intro w5 P5 t5 s5; have Q5 := GB.tn Q0 t5 (by simp); have B6 := t5.below B5 B5.size (by simp; omega))
        | (refine wpN_store rfl (.tmp 11) (.tmp 33) rfl (w4.heap.size + 1) _ _ (m % n) rfl rfl Q5 (by omega) ?_; intro w6 Q6 t6 s6; have P6 := GN.tn P5 t6 (by simp); have B7 := t6.below B6 B6.size (by simp; omega); have A6 := GN.ga P6 (by omega); have C6 := GN.ga Q6 (by omega))
        | (refine wpA_load rfl (.tmp 10) rfl w4.heap.size 0 (m / n) rfl A6 ?_)
        | (go_at_call 32; fail))
      refine (gList (m / n) w6 (by omega)).mono ?_
      rintro e w7 ⟨v7, rfl, o7, b7⟩
      have B8 := B7.trans (b7.mono B7.size)
      have C7 := C6.below b7 C6.lt
      rw [Fq] at o7
      have o7' : ownsI w7 w6.heap.size v7 (limbs (m / n)) := o7
      go_wp2_with (first
        | (refine wpA_load rfl (.tmp 11) rfl (w4.heap.size + 1) 0 (m % n) rfl C7 ?_)
        | (go_at_call 32; fail))
      refine (gList (m % n) w7 (by omega)).mono ?_
      rintro e w8 ⟨v8, rfl, o8, b8⟩
      have B9 := B8.trans (b8.mono B8.size)
      rw [Fr] at o8
      have o8' : ownsI w8 w7.heap.size v8 (limbs (m % n)) := o8
      have hB7 := B7.size
      have hB8 := B8.size
      clear o7 o8
      go_wp2
      go_ret3
      exact ⟨_, _, by rw [HR.out]; rfl, by rw [HR.out]; exact ownsI_mono (ownsI.below o7' b8 (Nat.le_refl _)) hB7, by rw [HR.out]; exact ownsI_mono o8' hB8, apart_of (fun k hk => (o7'.ltb k hk).2) (fun k hk => (o8'.ltb k hk).1), B9⟩
  · have HR : Hid (divR xs ys = ([], [], false)) := by show _ = _; unfold divR; rw [if_neg (fun q => hok ⟨q.1, q.2.1⟩)]
    have hf : (okB xs && okB ys) = false := by cases h1 : okB xs <;> cases h2 : okB ys <;> simp_all
    rw [hf] at kt
    clear hf
    generalize fromN xs = m at *
    generalize fromN ys = n at *
    clear hok
    go_enter Try.func24, Try.ntmps24
    go_wp2_with fail
    refine kt.mono ?_
    rintro e w1 ⟨rfl, b1⟩
    have X0 := (GB.made0 w1).alloc (.cells Try.zeroCells45 45)
    have Y0 := GB.made0 (w1.alloc (.cells Try.zeroCells45 45))
    have hs0 : (w1.alloc (.cells Try.zeroCells45 45)).heap.size = w1.heap.size + 1 := by simp
    have B0 := (b1.alloc b1.size (.cells Try.zeroCells45 45)).alloc (by have := b1.size; simp; omega) (.cells Try.zeroCells45 45)
    have hbs := b1.size
    rw [hs0] at Y0
    clear hs0 kt b1
    go_wp2_with (first
        | (refine wpN_store rfl (.tmp 7) (.tmp 20) rfl w1.heap.size _ _ m rfl rfl X0 hl1 ?_; intro w2 X2 t2 s2; have Y2 := GB.tn Y0 t2 (by simp); have B2 := t2.below B0 B0.size (by simp; omega))
        | (refine wpN_store rfl (.tmp 8) (.tmp 21) rfl (w1.heap.size + 1) _ _ n rfl rfl Y2 hl2 ?_; intro w3 Y3 t3 s3; have X3 := GN.tn X2 t3 (by simp); have B3 := t3.below B2 B2.size (by simp; omega)))
    go_ret3
    exact ⟨_, _, by rw [HR.out]; rfl, by rw [HR.out]; exact nil_own _ _, by rw [HR.out]; exact nil_own _ _, fun k hk => (by cases hk), B3⟩

end Go.Proofs.Ytppeabnipnokhaa
