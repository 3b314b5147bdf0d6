/- The program's by, with a divisor of one word, and as a whole, by its contract. -/
import Derived.Test.YtjelmbkngjlefaaGBy
import Derived.Scope
namespace Go.Proofs.Ytjelmbkngjlefaa
open Go.RowKit
set_option linter.unusedSimpArgs false

theorem one_limb {d : Nat} (h : (limbs d).length = 1) : (limbs d).getD 0 0 = d ∧ 0 < d ∧ d < 16777216 := by
  have h0 : 0 < d := by
    apply Classical.byContradiction
    intro h1
    obtain rfl : d = 0 := by omega
    rw [limbs_zero] at h
    simp at h
  have h1 := limbs_lt d
  rw [h] at h1
  have h2 : d < 16777216 := by simpa using h1
  rw [limbs_pos d h0]
  refine ⟨?_, h0, h2⟩
  show ((d % 16777216 : Nat) : Int) = d
  rw [Nat.mod_eq_of_lt h2]

set_option maxRecDepth 200000 in
set_option maxHeartbeats 3200000 in
/-- by, with a divisor of one word. -/
theorem gBy1 (a oa b ob m d : Nat) (w : World) (hl : (limbs m).length ≤ 98) (hd1 : (limbs d).length = 1) (ha : GA w a oa m) (hb : GA w b ob d) :
    Calls Try.prog 90 #[.pointer (some ⟨a, oa, none⟩), .pointer (some ⟨b, ob, none⟩)] w fun e w' => e = .returned (.tuple #[.agg (gC (m / d)), .agg (gC (m % d))]) ∧ Below w.heap.size w w' := by
  have R0 := (GB.made0 w).alloc (.cells Try.zeroCells72 72)
  have T0 := GB.made0 (w.alloc (.cells Try.zeroCells72 72))
  have s1 : (w.alloc (.cells Try.zeroCells72 72)).heap.size = w.heap.size + 1 := by simp
  have B1 : Below w.heap.size w ((w.alloc (.cells Try.zeroCells72 72)).alloc (.cells Try.zeroCells72 72)) := ((Below.refl w.heap.size w).alloc (Nat.le_refl _) _).alloc (by simp) _
  rw [s1] at T0
  have hna : a < w.heap.size := ha.lt
  have hnb : b < w.heap.size := hb.lt
  have hA := ha.below B1 hna
  have hD := hb.below B1 hnb
  have c98 := hD.size
  rw [hd1] at c98
  change _ = some (Value.int .i64 1) at c98
  have HD1 : Hid ((limbs d).length = 1) := hd1
  have HB1 : Hid (Below w.heap.size w _) := B1
  clear s1 ha hb hd1 B1
  have hc : ∀ W, GA W b ob d → W.cell? ⟨b, ob, none⟩ = some (.int .u32 d) := fun W h => by
    have h1 := h.word 0 (by omega)
    have h2 := one_limb HD1.out
    rw [h2.1] at h1
    exact h1
  have HC : Hid (∀ W, GA W b ob d → W.cell? ⟨b, ob, none⟩ = some (.int .u32 d)) := hc
  clear hc
  go_enter Try.func90, Try.ntmps90
  go_wp2
  refine wp_scope_straight ?_
  go_wp2_with fail
  refine wp_region_held_drew (S := fun W => GA W a oa m ∧ GA W b ob d) (by kernel_rfl) ⟨hA.drew, hD.drew⟩ ?_
  intro hHeld
  refine takeH 0 (some 17) (.pointer (some ⟨a, oa, none⟩)) rfl rfl (by kernel_rfl) (by kernel_rfl) (by kernel_rfl) (fun _ _ _ h => h) (Or.inl ⟨by rfl, by intro W hSw; go_simp⟩) (by assumption) ?_
  simp only [Act.put, List.setIfInBounds_toArray, List.set_cons_zero, List.set_cons_succ]
  refine takeH 1 (some 18) (.pointer (some ⟨a, oa, none⟩)) rfl rfl (by kernel_rfl) (by kernel_rfl) (by kernel_rfl) (fun _ _ _ h => h) (Or.inl ⟨by rfl, by intro W hSw; go_simp⟩) (by assumption) ?_
  simp only [Act.put, List.setIfInBounds_toArray, List.set_cons_zero, List.set_cons_succ]
  refine takeH 2 (some 19) (.agg (gC m)) rfl rfl (by kernel_rfl) (by kernel_rfl) (by kernel_rfl) (fun _ _ _ h => h) (yg_load rfl (.tmp 18) rfl a oa m rfl (fun W h => h.1)) (by assumption) ?_
  simp only [Act.put, List.setIfInBounds_toArray, List.set_cons_zero, List.set_cons_succ]
  refine takeH 3 (some 20) (.pointer (some ⟨b, ob, none⟩)) rfl rfl (by kernel_rfl) (by kernel_rfl) (by kernel_rfl) (fun _ _ _ h => h) (Or.inl ⟨by rfl, by intro W hSw; go_simp⟩) (by assumption) ?_
  simp only [Act.put, List.setIfInBounds_toArray, List.set_cons_zero, List.set_cons_succ]
  refine takeH 4 (some 21) (.pointer (some ⟨b, ob, none⟩)) rfl rfl (by kernel_rfl) (by kernel_rfl) (by kernel_rfl) (fun _ _ _ h => h) (Or.inl ⟨by rfl, by intro W hSw; go_simp⟩) (by assumption) ?_
  simp only [Act.put, List.setIfInBounds_toArray, List.set_cons_zero, List.set_cons_succ]
  refine takeH 5 (some 22) (.pointer (some ⟨b, ob, none⟩)) rfl rfl (by kernel_rfl) (by kernel_rfl) (by kernel_rfl) (fun _ _ _ h => h) (Or.inl ⟨by rfl, by intro W hSw; go_simp⟩) (by assumption) ?_
  simp only [Act.put, List.setIfInBounds_toArray, List.set_cons_zero, List.set_cons_succ]
  refine takeH 6 (some 23) (.pointer (some ⟨b, ob, none⟩)) rfl rfl (by kernel_rfl) (by kernel_rfl) (by kernel_rfl) (fun _ _ _ h => h) (Or.inl ⟨by rfl, by intro W hSw; go_simp⟩) (by assumption) ?_
  simp only [Act.put, List.setIfInBounds_toArray, List.set_cons_zero, List.set_cons_succ]
  refine takeH 7 (some 24) (.int .u32 d) rfl rfl (by kernel_rfl) (by kernel_rfl) (by kernel_rfl) (fun _ _ _ h => h) (Or.inl ⟨by rfl, by intro W hSw; have hcW := HC.out W hSw.2; go_simp⟩) (by assumption) ?_
  simp only [Act.put, List.setIfInBounds_toArray, List.set_cons_zero, List.set_cons_succ]
  have kW := fun W => gByWord m d W hl (one_limb HD1.out).2.1 (one_limb HD1.out).2.2
  have hlq : (limbs (m / d)).length ≤ 98 := Nat.le_trans (limbs_mono (Nat.div_le_self m d)) hl
  have hm1 : (m % d : Nat) < 16777216 := by have h1 := (one_limb HD1.out).2; have h2 := Nat.mod_lt m h1.1; omega
  have kO := fun W => gOf (m % d) W (by omega)
  have hlr : (limbs (m % d)).length ≤ 98 := by have := limbs_len_le (m % d) 1 (by omega); omega
  obtain ⟨Q, hQ⟩ : ∃ Q, m / d = Q := ⟨_, rfl⟩
  obtain ⟨r, hr⟩ : ∃ r, m % d = r := ⟨_, rfl⟩
  simp only [hQ, hr] at kW
  simp only [hr] at kO
  rw [hQ] at hlq
  rw [hr] at hm1 hlr
  have HQR : Hid (m / d = Q ∧ m % d = r) := ⟨hQ, hr⟩
  clear hQ hr
  have B1 := HB1.out.drew
  have hs0 : w.heap.size + 1 < ((w.alloc (.cells Try.zeroCells72 72)).alloc (.cells Try.zeroCells72 72)).drew.heap.size := by show _ < ((w.alloc (.cells Try.zeroCells72 72)).alloc (.cells Try.zeroCells72 72)).heap.size; simp
  have R1 := GB.drew R0
  have T1 := GB.drew T0
  clear hA hD c98 HB1 R0 T0
  generalize ((w.alloc (.cells Try.zeroCells72 72)).alloc (.cells Try.zeroCells72 72)).drew = w0 at *
  refine wpAnyH_ready (rs := [8, 12]) (by kernel_rfl) (by simp) ?_
  refine AllReadyH.cons rfl (fun K hK => ?_) ?_
  · go_simp
    go_wp2_with (first | (go_at_call 99; refine (kW _).mono ?_; rintro e w1 ⟨rfl, b1⟩))
    refine hK.out _ _ ?_ (fun hHeld => ?_)
    · exact ⟨hHeld.1.below b1 hHeld.1.lt, hHeld.2.below b1 hHeld.2.lt⟩
    clear hK K
    refine takeH 9 (some 16) (.tuple #[.agg (gC Q), .int .u32 r]) rfl rfl (by kernel_rfl) (by kernel_rfl) (by kernel_rfl) (fun _ _ _ h => h) (Or.inl ⟨by rfl, by intro W hSw; go_simp⟩) (by assumption) ?_
    simp only [Act.put, List.setIfInBounds_toArray, List.set_cons_zero, List.set_cons_succ]
    refine takeH 10 (some 26) (.agg (gC Q)) rfl rfl (by kernel_rfl) (by kernel_rfl) (by kernel_rfl) (fun _ _ _ h => h) (Or.inl ⟨by rfl, by intro W hSw; go_simp⟩) (by assumption) ?_
    simp only [Act.put, List.setIfInBounds_toArray, List.set_cons_zero, List.set_cons_succ]
    refine takeH 11 (some 27) (.int .u32 r) rfl rfl (by kernel_rfl) (by kernel_rfl) (by kernel_rfl) (fun _ _ _ h => h) (Or.inl ⟨by rfl, by intro W hSw; go_simp⟩) (by assumption) ?_
    simp only [Act.put, List.setIfInBounds_toArray, List.set_cons_zero, List.set_cons_succ]
    have hs1 := b1.size
    have X := GB.made0 w1
    have R := (R1.below b1 R1.lt).alloc (.cells Try.zeroCells72 72)
    have T := (T1.below b1 T1.lt).alloc (.cells Try.zeroCells72 72)
    have Bn := (B1.trans (b1.mono B1.size)).alloc (B1.trans (b1.mono B1.size)).size (.cells Try.zeroCells72 72)
    refine oneH 12 rfl (by kernel_rfl) (fun K' hK => ?_)
    go_simp
    refine hK _ _ ⟨hHeld.1.below (alloc_below w1 _) hHeld.1.lt, hHeld.2.below (alloc_below w1 _) hHeld.2.lt⟩ ?_
    clear hK
    have hG : GA (w1.alloc (.cells Try.zeroCells72 72)) a oa m ∧ GA (w1.alloc (.cells Try.zeroCells72 72)) b ob d := ⟨hHeld.1.below (alloc_below w1 _) hHeld.1.lt, hHeld.2.below (alloc_below w1 _) hHeld.2.lt⟩
    clear hHeld
    refine oneH 13 rfl (by kernel_rfl) (fun K' hK => ?_)
    refine sg_store rfl (.tmp 6) (.tmp 26) rfl w1.heap.size _ _ Q rfl rfl X hlq rfl ?_
    intro w3 X3 t3 s3
    have hH3 : GA w3 a oa m ∧ GA w3 b ob d := ⟨hG.1.tn t3 (by simp; omega), hG.2.tn t3 (by simp; omega)⟩
    have R3 := R.tn t3 (by simp; omega)
    have T3 := T.tn t3 (by simp; omega)
    have B3 := t3.below Bn Bn.size (by simp; omega)
    refine hK _ _ hH3 ?_
    clear hK hG
    refine takeH 14 (some 7) (.int .u32 r) rfl rfl (by kernel_rfl) (by kernel_rfl) (by kernel_rfl) (fun _ _ _ h => h) (Or.inl ⟨by rfl, by intro W hSw; go_simp⟩) (by assumption) ?_
    simp only [Act.put, List.setIfInBounds_toArray, List.set_cons_zero, List.set_cons_succ]
    refine wpAnyH_done (by kernel_rfl) ?_ _
    go_wp2_with fail
    have X3 := GN.ga X3 hlq
    have hq3 := X3.lt
    refine wp_region_held_drew (S := fun W => GA W w1.heap.size 0 Q) (by kernel_rfl) X3.drew ?_
    intro hHeld
    refine takeH 0 (some 28) (.agg (gC Q)) rfl rfl (by kernel_rfl) (by kernel_rfl) (by kernel_rfl) (fun _ _ _ h => h) (yg_load rfl (.tmp 6) rfl w1.heap.size 0 Q rfl (fun W h => h)) (by assumption) ?_
    simp only [Act.put, List.setIfInBounds_toArray, List.set_cons_zero, List.set_cons_succ]
    refine takeH 1 (some 29) (.int .u32 r) rfl rfl (by kernel_rfl) (by kernel_rfl) (by kernel_rfl) (fun _ _ _ h => h) (Or.inl ⟨by rfl, by intro W hSw; go_simp⟩) (by assumption) ?_
    simp only [Act.put, List.setIfInBounds_toArray, List.set_cons_zero, List.set_cons_succ]
    refine takeH 2 (some 30) (.int .u64 r) rfl rfl (by kernel_rfl) (by kernel_rfl) (by kernel_rfl) (fun _ _ _ h => h) (Or.inl ⟨by rfl, by intro W hSw; have q0 : (0 : Int) ≤ (r : Int) := (by omega); have q1 : (r : Int) < 16777216 := (by omega); go_simp; rw [IntKind.wrap_u64]; omega⟩) (by assumption) ?_
    simp only [Act.put, List.setIfInBounds_toArray, List.set_cons_zero, List.set_cons_succ]
    refine oneH 3 rfl (by kernel_rfl) (fun K' hK => ?_)
    go_simp
    go_wp2_with (first | (go_at_call 88; refine (kO _).mono ?_; rintro e w4 ⟨rfl, b4⟩))
    have hH4 : GA w4 w1.heap.size 0 Q := hHeld.below b4 hHeld.lt
    refine hK _ _ hH4 ?_
    clear hK hHeld
    have R4 := (GB.drew R3).below b4 (GB.drew R3).lt
    have T4 := (GB.drew T3).below b4 (GB.drew T3).lt
    have B4 := B3.drew.trans (b4.mono B3.drew.size)
    refine oneH 4 rfl (by kernel_rfl) (fun K' hK => ?_)
    refine sg_store rfl (.tmp 4) (.tmp 28) rfl w.heap.size _ _ Q rfl rfl R4 hlq rfl ?_
    intro w5 R5 t5 s5
    have hH5 := hH4.tn t5 (by simp; omega)
    have T5 := T4.tn t5 (by simp)
    have B5 := t5.below B4 B4.size (by simp)
    refine hK _ _ hH5 ?_
    clear hK hH4
    refine oneH 5 rfl (by kernel_rfl) (fun K' hK => ?_)
    refine sg_store rfl (.tmp 5) (.tmp 31) rfl (w.heap.size + 1) _ _ r rfl rfl T5 hlr rfl ?_
    intro w6 T6 t6 s6
    have R6 := GN.tn R5 t6 (by simp)
    have B6 := t6.below B5 B5.size (by simp)
    refine hK _ _ (hH5.tn t6 (by simp; omega)) ?_
    clear hK hH5
    refine wpAnyH_done (by kernel_rfl) ?_ _
    go_wp2
    (try simp only [Exit.inBlock, Exit.then, Exit.noGoto])
    refine bodyPost_ret (v := .tuple #[.agg (gC (m / d)), .agg (gC (m % d))]) ?_ rfl ⟨rfl, B6⟩
    rw [HQR.out.1, HQR.out.2]
    exact results_pair rfl _ _ w.heap.size (w.heap.size + 1) Q r rfl rfl (GN.ga R6 hlq) (GN.ga T6 hlr)
  refine AllReadyH.cons rfl (fun K hK => ?_) ?_
  · go_simp
    refine hK.out _ _ ?_ (fun hHeld => ?_)
    · exact ⟨hHeld.1.below (alloc_below w0 _) hHeld.1.lt, hHeld.2.below (alloc_below w0 _) hHeld.2.lt⟩
    clear hK K
    have X := GB.made0 w0
    have R := R1.alloc (.cells Try.zeroCells72 72)
    have T := T1.alloc (.cells Try.zeroCells72 72)
    have Bn := B1.alloc B1.size (.cells Try.zeroCells72 72)
    refine oneH 8 rfl (by kernel_rfl) (fun K' hK => ?_)
    go_simp
    go_wp2_with (first | (go_at_call 99; refine (kW _).mono ?_; rintro e w1 ⟨rfl, b1⟩))
    have hG : GA w1 a oa m ∧ GA w1 b ob d := ⟨hHeld.1.below b1 hHeld.1.lt, hHeld.2.below b1 hHeld.2.lt⟩
    refine hK _ _ hG ?_
    clear hK hHeld
    have X := X.below b1 X.lt
    have R := R.below b1 R.lt
    have T := T.below b1 T.lt
    have Bn := Bn.trans (b1.mono Bn.size)
    refine takeH 9 (some 16) (.tuple #[.agg (gC Q), .int .u32 r]) rfl rfl (by kernel_rfl) (by kernel_rfl) (by kernel_rfl) (fun _ _ _ h => h) (Or.inl ⟨by rfl, by intro W hSw; go_simp⟩) (by assumption) ?_
    simp only [Act.put, List.setIfInBounds_toArray, List.set_cons_zero, List.set_cons_succ]
    refine takeH 10 (some 26) (.agg (gC Q)) rfl rfl (by kernel_rfl) (by kernel_rfl) (by kernel_rfl) (fun _ _ _ h => h) (Or.inl ⟨by rfl, by intro W hSw; go_simp⟩) (by assumption) ?_
    simp only [Act.put, List.setIfInBounds_toArray, List.set_cons_zero, List.set_cons_succ]
    refine takeH 11 (some 27) (.int .u32 r) rfl rfl (by kernel_rfl) (by kernel_rfl) (by kernel_rfl) (fun _ _ _ h => h) (Or.inl ⟨by rfl, by intro W hSw; go_simp⟩) (by assumption) ?_
    simp only [Act.put, List.setIfInBounds_toArray, List.set_cons_zero, List.set_cons_succ]
    refine oneH 13 rfl (by kernel_rfl) (fun K' hK => ?_)
    refine sg_store rfl (.tmp 6) (.tmp 26) rfl w0.heap.size _ _ Q rfl rfl X hlq rfl ?_
    intro w3 X3 t3 s3
    have hH3 : GA w3 a oa m ∧ GA w3 b ob d := ⟨hG.1.tn t3 (by simp; omega), hG.2.tn t3 (by simp; omega)⟩
    have R3 := R.tn t3 (by simp; omega)
    have T3 := T.tn t3 (by simp; omega)
    have B3 := t3.below Bn Bn.size (by simp; omega)
    refine hK _ _ hH3 ?_
    clear hK hG
    refine takeH 14 (some 7) (.int .u32 r) rfl rfl (by kernel_rfl) (by kernel_rfl) (by kernel_rfl) (fun _ _ _ h => h) (Or.inl ⟨by rfl, by intro W hSw; go_simp⟩) (by assumption) ?_
    simp only [Act.put, List.setIfInBounds_toArray, List.set_cons_zero, List.set_cons_succ]
    refine wpAnyH_done (by kernel_rfl) ?_ _
    go_wp2_with fail
    have X3 := GN.ga X3 hlq
    have hq3 := X3.lt
    refine wp_region_held_drew (S := fun W => GA W w0.heap.size 0 Q) (by kernel_rfl) X3.drew ?_
    intro hHeld
    refine takeH 0 (some 28) (.agg (gC Q)) rfl rfl (by kernel_rfl) (by kernel_rfl) (by kernel_rfl) (fun _ _ _ h => h) (yg_load rfl (.tmp 6) rfl w0.heap.size 0 Q rfl (fun W h => h)) (by assumption) ?_
    simp only [Act.put, List.setIfInBounds_toArray, List.set_cons_zero, List.set_cons_succ]
    refine takeH 1 (some 29) (.int .u32 r) rfl rfl (by kernel_rfl) (by kernel_rfl) (by kernel_rfl) (fun _ _ _ h => h) (Or.inl ⟨by rfl, by intro W hSw; go_simp⟩) (by assumption) ?_
    simp only [Act.put, List.setIfInBounds_toArray, List.set_cons_zero, List.set_cons_succ]
    refine takeH 2 (some 30) (.int .u64 r) rfl rfl (by kernel_rfl) (by kernel_rfl) (by kernel_rfl) (fun _ _ _ h => h) (Or.inl ⟨by rfl, by intro W hSw; have q0 : (0 : Int) ≤ (r : Int) := (by omega); have q1 : (r : Int) < 16777216 := (by omega); go_simp; rw [IntKind.wrap_u64]; omega⟩) (by assumption) ?_
    simp only [Act.put, List.setIfInBounds_toArray, List.set_cons_zero, List.set_cons_succ]
    refine oneH 3 rfl (by kernel_rfl) (fun K' hK => ?_)
    go_simp
    go_wp2_with (first | (go_at_call 88; refine (kO _).mono ?_; rintro e w4 ⟨rfl, b4⟩))
    have hH4 : GA w4 w0.heap.size 0 Q := hHeld.below b4 hHeld.lt
    refine hK _ _ hH4 ?_
    clear hK hHeld
    have R4 := (GB.drew R3).below b4 (GB.drew R3).lt
    have T4 := (GB.drew T3).below b4 (GB.drew T3).lt
    have B4 := B3.drew.trans (b4.mono B3.drew.size)
    refine oneH 4 rfl (by kernel_rfl) (fun K' hK => ?_)
    refine sg_store rfl (.tmp 4) (.tmp 28) rfl w.heap.size _ _ Q rfl rfl R4 hlq rfl ?_
    intro w5 R5 t5 s5
    have hH5 := hH4.tn t5 (by simp; omega)
    have T5 := T4.tn t5 (by simp)
    have B5 := t5.below B4 B4.size (by simp)
    refine hK _ _ hH5 ?_
    clear hK hH4
    refine oneH 5 rfl (by kernel_rfl) (fun K' hK => ?_)
    refine sg_store rfl (.tmp 5) (.tmp 31) rfl (w.heap.size + 1) _ _ r rfl rfl T5 hlr rfl ?_
    intro w6 T6 t6 s6
    have R6 := GN.tn R5 t6 (by simp)
    have B6 := t6.below B5 B5.size (by simp)
    refine hK _ _ (hH5.tn t6 (by simp; omega)) ?_
    clear hK hH5
    refine wpAnyH_done (by kernel_rfl) ?_ _
    go_wp2
    (try simp only [Exit.inBlock, Exit.then, Exit.noGoto])
    refine bodyPost_ret (v := .tuple #[.agg (gC (m / d)), .agg (gC (m % d))]) ?_ rfl ⟨rfl, B6⟩
    rw [HQR.out.1, HQR.out.2]
    exact results_pair rfl _ _ w.heap.size (w.heap.size + 1) Q r rfl rfl (GN.ga R6 hlq) (GN.ga T6 hlr)
  exact AllReadyH.nil

/-- by: quotient and rest, of as many as 70 words. -/
theorem gByL (a oa b ob m d : Nat) (w : World) (hl : (limbs m).length ≤ 70) (hld : (limbs d).length ≤ 48) (hd : 0 < d) (ha : GA w a oa m) (hb : GA w b ob d) :
    Calls Try.prog 90 #[.pointer (some ⟨a, oa, none⟩), .pointer (some ⟨b, ob, none⟩)] w fun e w' => e = .returned (.tuple #[.agg (gC (m / d)), .agg (gC (m % d))]) ∧ Below w.heap.size w w' := by
  have h0 : 0 < (limbs d).length := by rw [limbs_pos d hd]; simp
  by_cases h1 : (limbs d).length = 1
  · exact gBy1 a oa b ob m d w (by omega) h1 ha hb
  · exact gBy2 a oa b ob m d w hl hld (by omega) ha hb

/-- by: quotient and rest. -/
theorem gBy (a oa b ob m d : Nat) (w : World) (hl : (limbs m).length ≤ 48) (hld : (limbs d).length ≤ 48) (hd : 0 < d) (ha : GA w a oa m) (hb : GA w b ob d) :
    Calls Try.prog 90 #[.pointer (some ⟨a, oa, none⟩), .pointer (some ⟨b, ob, none⟩)] w fun e w' => e = .returned (.tuple #[.agg (gC (m / d)), .agg (gC (m % d))]) ∧ Below w.heap.size w w' := gByL a oa b ob m d w (Nat.le_trans hl (by omega)) hld hd ha hb

end Go.Proofs.Ytjelmbkngjlefaa
