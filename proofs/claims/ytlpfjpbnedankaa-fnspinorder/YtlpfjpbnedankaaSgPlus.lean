/- The program's plus, minus and times of numbers with a sign, each by its contract. -/
import Derived.Test.YtlpfjpbnedankaaSWhole
import Derived.Test.YtlpfjpbnedankaaGB
import Derived.Test.YtlpfjpbnedankaaGC
namespace Go.Proofs.Ytlpfjpbnedankaa
open Go.RowKit
set_option linter.unusedSimpArgs false

/-- A sign and a great number behind a pointer. -/
def SGG (w : World) (b : Nat) (g : Bool) (m : Nat) : Prop := w.cell? ⟨b, 0, none⟩ = some (.bool g) ∧ GA w b 1 m
theorem SGG.lt {w : World} {b m : Nat} {g : Bool} (h : SGG w b g m) : b < w.heap.size := h.2.lt
theorem SGG.drew {w : World} {b m : Nat} {g : Bool} (h : SGG w b g m) : SGG w.drew b g m := ⟨h.1, h.2.drew⟩
theorem SGG.below {w w' : World} {b B m : Nat} {g : Bool} (h : SGG w b g m) (hb : Below B w w') (hB : b < B) : SGG w' b g m := ⟨(hb.cell (p := ⟨b, 0, none⟩) hB).trans h.1, h.2.below hb hB⟩
theorem SG.sgg {w : World} {b : Nat} {z : Int} (h : SG w b z) : SGG w b (decide (z < 0)) z.natAbs := ⟨h.sign, h.mag⟩
theorem sval (x : Int) : (if decide (x < 0) = true then -(x.natAbs : Int) else (x.natAbs : Int)) = x := by
  by_cases h : x < 0
  · simp [h]; omega
  · simp [h]; omega
theorem plus_same {g : Bool} {m n : Nat} {x y : Int} (hx : (if g = true then -(m : Int) else (m : Int)) = x) (hy : (if g = true then -(n : Int) else (n : Int)) = y) : (if g = true then -((m + n : Nat) : Int) else ((m + n : Nat) : Int)) = x + y := by
  cases g <;> simp at hx hy ⊢ <;> omega
theorem plus_other {g h : Bool} {m n : Nat} {x y : Int} (hg : g ≠ h) (hx : (if g = true then -(m : Int) else (m : Int)) = x) (hy : (if h = true then -(n : Int) else (n : Int)) = y) :
    (n ≤ m → (if g = true then -((m - n : Nat) : Int) else ((m - n : Nat) : Int)) = x + y) ∧ (m ≤ n → (if h = true then -((n - m : Nat) : Int) else ((n - m : Nat) : Int)) = x + y) := by
  cases g <;> cases h <;> simp at hg hx hy ⊢ <;> omega
theorem sg_mul {g h : Bool} {m n : Nat} {x y : Int} (hx : (if g = true then -(m : Int) else (m : Int)) = x) (hy : (if h = true then -(n : Int) else (n : Int)) = y) : (if (g != h) = true then -((m * n : Nat) : Int) else ((m * n : Nat) : Int)) = x * y := by
  subst hx hy
  cases g <;> cases h <;> simp [Int.neg_mul, Int.mul_neg]

set_option maxRecDepth 20000 in
set_option maxHeartbeats 3200000 in
theorem sgPlus (a b : Nat) (x y : Int) (w : World) (ha : SG w a x) (hb : SG w b y) (hlx : (limbs x.natAbs).length ≤ 97) (hly : (limbs y.natAbs).length ≤ 97) :
    Calls Try.prog 39 #[.pointer (some ⟨a, 0, none⟩), .pointer (some ⟨b, 0, none⟩)] w fun e w' => ∃ c, e = .returned (.pointer (some ⟨c, 0, none⟩)) ∧ w.heap.size ≤ c ∧ SG w' c (x + y) ∧ Below w.heap.size w w' := by
  have HA := ha.sgg
  have HB := hb.sgg
  have vx := sval x
  have vy := sval y
  generalize x.natAbs = m at *
  generalize y.natAbs = n at *
  generalize decide (x < 0) = g at *
  generalize decide (y < 0) = h at *
  have hna := ha.lt
  have hnb := hb.lt
  clear ha hb
  obtain ⟨z, hz⟩ : ∃ z, x + y = z := ⟨_, rfl⟩
  rw [hz]
  by_cases hgh : g = h
  · have hv := plus_same (hgh ▸ vx) vy
    rw [hz, ← hgh] at hv
    have hl3 : (limbs (m + n)).length ≤ 98 := by
      have h1 := limbs_lt m
      have h2 := limbs_lt n
      have h3 := Nat.pow_le_pow_right (by omega : 0 < 16777216) hlx
      have h4 := Nat.pow_le_pow_right (by omega : 0 < 16777216) hly
      refine limbs_len_le _ 98 ?_
      have e : (16777216 : Nat) ^ 98 = 16777216 ^ 97 * 16777216 := rfl
      omega
    have kN := fun W => newSigned_c g (m + n) W hl3
    simp only [hv] at kN
    have ebb : (g == h) = true := by rw [hgh]; simp
    have kP := fun W (q : GA W b 1 n) => gPlus b 1 m n W hlx hly q
    obtain ⟨N, hN⟩ : ∃ N, m + n = N := ⟨_, rfl⟩
    simp only [hN] at kN kP
    clear hgh hv vx vy hz hN hl3 hlx hly
    have c0 := HA.1
    have c1 := HB.1
    go_enter Try.func39, Try.ntmps39
    go_wp2_with fail
    go_region_held (fun W => W.cell? ⟨a, 0, none⟩ = some (.bool g) ∧ W.cell? ⟨b, 0, none⟩ = some (.bool h)) (go_keep) (fail)
    clear c0 c1
    have HA := HA.drew
    have HB := HB.drew
    go_wp2_with fail
    have hBd : Below w.heap.size w w.drew.drew := (Below.refl w.heap.size w).drew.drew
    refine wp_region_held_drew (S := fun W => SGG W a g m ∧ SGG W b h n) (by kernel_rfl) ⟨HA.drew, HB.drew⟩ ?_
    intro hHeld
    refine takeH 0 (some 14) (.pointer (some ⟨a, 0, none⟩)) rfl rfl (by kernel_rfl) (by kernel_rfl) (by kernel_rfl) (fun _ _ _ h => h) (Or.inl ⟨rfl, fun W hW => by obtain ⟨⟨_ca, _⟩, ⟨_cb, _⟩⟩ := hW; go_simp⟩) (by assumption) ?_
    simp only [Act.put, List.setIfInBounds_toArray, List.set_cons_zero, List.set_cons_succ]
    refine takeH 1 (some 15) (.pointer (some ⟨a, 0, none⟩)) rfl rfl (by kernel_rfl) (by kernel_rfl) (by kernel_rfl) (fun _ _ _ h => h) (Or.inl ⟨rfl, fun W hW => by obtain ⟨⟨_ca, _⟩, ⟨_cb, _⟩⟩ := hW; go_simp⟩) (by assumption) ?_
    simp only [Act.put, List.setIfInBounds_toArray, List.set_cons_zero, List.set_cons_succ]
    refine takeH 2 (some 16) (.pointer (some ⟨a, 0, none⟩)) rfl rfl (by kernel_rfl) (by kernel_rfl) (by kernel_rfl) (fun _ _ _ h => h) (Or.inl ⟨rfl, fun W hW => by obtain ⟨⟨_ca, _⟩, ⟨_cb, _⟩⟩ := hW; go_simp⟩) (by assumption) ?_
    simp only [Act.put, List.setIfInBounds_toArray, List.set_cons_zero, List.set_cons_succ]
    refine takeH 3 (some 17) (.bool g) rfl rfl (by kernel_rfl) (by kernel_rfl) (by kernel_rfl) (fun _ _ _ h => h) (Or.inl ⟨rfl, fun W hW => by obtain ⟨⟨_ca, _⟩, ⟨_cb, _⟩⟩ := hW; go_simp⟩) (by assumption) ?_
    simp only [Act.put, List.setIfInBounds_toArray, List.set_cons_zero, List.set_cons_succ]
    refine takeH 4 (some 18) (.pointer (some ⟨a, 0, none⟩)) rfl rfl (by kernel_rfl) (by kernel_rfl) (by kernel_rfl) (fun _ _ _ h => h) (Or.inl ⟨rfl, fun W hW => by obtain ⟨⟨_ca, _⟩, ⟨_cb, _⟩⟩ := hW; go_simp⟩) (by assumption) ?_
    simp only [Act.put, List.setIfInBounds_toArray, List.set_cons_zero, List.set_cons_succ]
    refine takeH 5 (some 19) (.pointer (some ⟨a, 0, none⟩)) rfl rfl (by kernel_rfl) (by kernel_rfl) (by kernel_rfl) (fun _ _ _ h => h) (Or.inl ⟨rfl, fun W hW => by obtain ⟨⟨_ca, _⟩, ⟨_cb, _⟩⟩ := hW; go_simp⟩) (by assumption) ?_
    simp only [Act.put, List.setIfInBounds_toArray, List.set_cons_zero, List.set_cons_succ]
    refine takeH 6 (some 20) (.pointer (some ⟨a, 1, none⟩)) rfl rfl (by kernel_rfl) (by kernel_rfl) (by kernel_rfl) (fun _ _ _ h => h) (Or.inl ⟨rfl, fun W hW => by obtain ⟨⟨_ca, _⟩, ⟨_cb, _⟩⟩ := hW; go_simp⟩) (by assumption) ?_
    simp only [Act.put, List.setIfInBounds_toArray, List.set_cons_zero, List.set_cons_succ]
    refine takeH 7 (some 21) (.agg (gC m)) rfl rfl (by kernel_rfl) (by kernel_rfl) (by kernel_rfl) (fun _ _ _ h => h) (yg_load rfl (.tmp 20) rfl a 1 m rfl (fun W h => h.1.2)) (by assumption) ?_
    simp only [Act.put, List.setIfInBounds_toArray, List.set_cons_zero, List.set_cons_succ]
    refine takeH 8 (some 22) (.pointer (some ⟨b, 0, none⟩)) rfl rfl (by kernel_rfl) (by kernel_rfl) (by kernel_rfl) (fun _ _ _ h => h) (Or.inl ⟨rfl, fun W hW => by obtain ⟨⟨_ca, _⟩, ⟨_cb, _⟩⟩ := hW; go_simp⟩) (by assumption) ?_
    simp only [Act.put, List.setIfInBounds_toArray, List.set_cons_zero, List.set_cons_succ]
    refine takeH 9 (some 23) (.pointer (some ⟨b, 0, none⟩)) rfl rfl (by kernel_rfl) (by kernel_rfl) (by kernel_rfl) (fun _ _ _ h => h) (Or.inl ⟨rfl, fun W hW => by obtain ⟨⟨_ca, _⟩, ⟨_cb, _⟩⟩ := hW; go_simp⟩) (by assumption) ?_
    simp only [Act.put, List.setIfInBounds_toArray, List.set_cons_zero, List.set_cons_succ]
    refine takeH 10 (some 24) (.pointer (some ⟨b, 1, none⟩)) rfl rfl (by kernel_rfl) (by kernel_rfl) (by kernel_rfl) (fun _ _ _ h => h) (Or.inl ⟨rfl, fun W hW => by obtain ⟨⟨_ca, _⟩, ⟨_cb, _⟩⟩ := hW; go_simp⟩) (by assumption) ?_
    simp only [Act.put, List.setIfInBounds_toArray, List.set_cons_zero, List.set_cons_succ]
    refine oneH 11 rfl (by kernel_rfl) (fun K' hK => ?_)
    go_simp
    refine (kP _ hHeld.2.2).mono ?_
    rintro e w4 ⟨rfl, bw4⟩
    have Sw4 : SGG w4 a g m ∧ SGG w4 b h n := ⟨hHeld.1.below bw4 hHeld.1.lt, hHeld.2.below bw4 hHeld.2.lt⟩
    refine hK _ _ Sw4 ?_
    clear hK
    refine oneH 12 rfl (by kernel_rfl) (fun K' hK => ?_)
    go_simp
    refine (kN _).mono ?_
    rintro e w5 ⟨c, rfl, hc, s5, bw5⟩
    have Sw5 : SGG w5 a g m ∧ SGG w5 b h n := ⟨Sw4.1.below bw5 Sw4.1.lt, Sw4.2.below bw5 Sw4.2.lt⟩
    refine hK _ _ Sw5 ?_
    clear hK
    refine takeH 13 (some 4) (.pointer (some ⟨c, 0, none⟩)) rfl rfl (by kernel_rfl) (by kernel_rfl) (by kernel_rfl) (fun _ _ _ h => h) (yg_assign rfl (.tmp 26) rfl _ rfl) (by assumption) ?_
    simp only [Act.put, List.setIfInBounds_toArray, List.set_cons_zero, List.set_cons_succ]
    refine wpAnyH_done (by kernel_rfl) ?_ _
    have hs4 := bw4.size
    go_wp2
    go_ret
    exact ⟨c, rfl, Nat.le_trans (show w.heap.size ≤ w4.heap.size from hs4) hc, s5, hBd.trans ((bw4.mono hBd.size).trans (bw5.mono (Nat.le_trans hBd.size hs4)))⟩
  · have hv := plus_other hgh vx vy
    rw [hz] at hv
    have ebb : (g == h) = false := by cases g <;> cases h <;> simp_all
    have kO := fun W (q1 : GA W a 1 m) (q2 : GA W b 1 n) => gOrder a 1 b 1 m n W q1 q2
    by_cases hlt : m < n
    · have hc0 := cmpI_lt hlt
      have hl3 : (limbs (n - m)).length ≤ 98 := by have := limbs_mono (m := n) (n := n - m) (by omega); omega
      have kN := fun W => newSigned_c h (n - m) W hl3
      simp only [hv.2 (by omega)] at kN
      have kP := fun W (q : GA W a 1 m) => gMinus a 1 n m W (by omega) (by omega) q
      obtain ⟨N, hN⟩ : ∃ N, n - m = N := ⟨_, rfl⟩
      simp only [hN] at kN kP
      obtain ⟨c0v, hcv⟩ : ∃ c, cmpI m n = c := ⟨_, rfl⟩
      simp only [hcv] at kO
      rw [hcv] at hc0
      clear hgh hv vx vy hz hN hl3 hlx hly hcv hlt
      have c0 := HA.1
      have c1 := HB.1
      go_enter Try.func39, Try.ntmps39
      go_wp2_with fail
      go_region_held (fun W => W.cell? ⟨a, 0, none⟩ = some (.bool g) ∧ W.cell? ⟨b, 0, none⟩ = some (.bool h)) (go_keep) (fail)
      clear c0 c1
      have HA := HA.drew
      have HB := HB.drew
      go_wp2_with fail
      have hBd : Below w.heap.size w w.drew.drew := (Below.refl w.heap.size w).drew.drew
      refine wp_region_held_drew (S := fun W => SGG W a g m ∧ SGG W b h n) (by kernel_rfl) ⟨HA.drew, HB.drew⟩ ?_
      intro hHeld
      refine takeH 0 (some 27) (.pointer (some ⟨a, 0, none⟩)) rfl rfl (by kernel_rfl) (by kernel_rfl) (by kernel_rfl) (fun _ _ _ h => h) (Or.inl ⟨rfl, fun W hW => by obtain ⟨⟨_ca, _⟩, ⟨_cb, _⟩⟩ := hW; go_simp⟩) (by assumption) ?_
      simp only [Act.put, List.setIfInBounds_toArray, List.set_cons_zero, List.set_cons_succ]
      refine takeH 1 (some 28) (.pointer (some ⟨a, 0, none⟩)) rfl rfl (by kernel_rfl) (by kernel_rfl) (by kernel_rfl) (fun _ _ _ h => h) (Or.inl ⟨rfl, fun W hW => by obtain ⟨⟨_ca, _⟩, ⟨_cb, _⟩⟩ := hW; go_simp⟩) (by assumption) ?_
      simp only [Act.put, List.setIfInBounds_toArray, List.set_cons_zero, List.set_cons_succ]
      refine takeH 2 (some 29) (.pointer (some ⟨a, 1, none⟩)) rfl rfl (by kernel_rfl) (by kernel_rfl) (by kernel_rfl) (fun _ _ _ h => h) (Or.inl ⟨rfl, fun W hW => by obtain ⟨⟨_ca, _⟩, ⟨_cb, _⟩⟩ := hW; go_simp⟩) (by assumption) ?_
      simp only [Act.put, List.setIfInBounds_toArray, List.set_cons_zero, List.set_cons_succ]
      refine takeH 3 (some 30) (.pointer (some ⟨b, 0, none⟩)) rfl rfl (by kernel_rfl) (by kernel_rfl) (by kernel_rfl) (fun _ _ _ h => h) (Or.inl ⟨rfl, fun W hW => by obtain ⟨⟨_ca, _⟩, ⟨_cb, _⟩⟩ := hW; go_simp⟩) (by assumption) ?_
      simp only [Act.put, List.setIfInBounds_toArray, List.set_cons_zero, List.set_cons_succ]
      refine takeH 4 (some 31) (.pointer (some ⟨b, 0, none⟩)) rfl rfl (by kernel_rfl) (by kernel_rfl) (by kernel_rfl) (fun _ _ _ h => h) (Or.inl ⟨rfl, fun W hW => by obtain ⟨⟨_ca, _⟩, ⟨_cb, _⟩⟩ := hW; go_simp⟩) (by assumption) ?_
      simp only [Act.put, List.setIfInBounds_toArray, List.set_cons_zero, List.set_cons_succ]
      refine takeH 5 (some 32) (.pointer (some ⟨b, 1, none⟩)) rfl rfl (by kernel_rfl) (by kernel_rfl) (by kernel_rfl) (fun _ _ _ h => h) (Or.inl ⟨rfl, fun W hW => by obtain ⟨⟨_ca, _⟩, ⟨_cb, _⟩⟩ := hW; go_simp⟩) (by assumption) ?_
      simp only [Act.put, List.setIfInBounds_toArray, List.set_cons_zero, List.set_cons_succ]
      refine oneH 6 rfl (by kernel_rfl) (fun K' hK => ?_)
      go_simp
      refine (kO _ hHeld.1.2 hHeld.2.2).mono ?_
      rintro e w2 ⟨rfl, bw2⟩
      have Sw2 : SGG w2 a g m ∧ SGG w2 b h n := ⟨hHeld.1.below bw2 hHeld.1.lt, hHeld.2.below bw2 hHeld.2.lt⟩
      refine hK _ _ Sw2 ?_
      clear hK
      refine takeH 7 (some 34) (.bool (decide (c0v < 0))) rfl rfl (by kernel_rfl) (by kernel_rfl) (by kernel_rfl) (fun _ _ _ h => h) (Or.inl ⟨rfl, fun W hW => by go_simp⟩) (by assumption) ?_
      simp only [Act.put, List.setIfInBounds_toArray, List.set_cons_zero, List.set_cons_succ]
      refine wpAnyH_done (by kernel_rfl) ?_ _
      have B2 := hBd.trans (bw2.mono hBd.size)
      clear HA HB hHeld hBd
      have HA := Sw2.1
      have HB := Sw2.2
      clear Sw2
      go_wp2_with fail
      refine wp_region_held_drew (S := fun W => SGG W a g m ∧ SGG W b h n) (by kernel_rfl) ⟨HA.drew, HB.drew⟩ ?_
      intro hHeld
      refine takeH 0 (some 35) (.pointer (some ⟨b, 0, none⟩)) rfl rfl (by kernel_rfl) (by kernel_rfl) (by kernel_rfl) (fun _ _ _ h => h) (Or.inl ⟨rfl, fun W hW => by obtain ⟨⟨_ca, _⟩, ⟨_cb, _⟩⟩ := hW; go_simp⟩) (by assumption) ?_
      simp only [Act.put, List.setIfInBounds_toArray, List.set_cons_zero, List.set_cons_succ]
      refine takeH 1 (some 36) (.pointer (some ⟨b, 0, none⟩)) rfl rfl (by kernel_rfl) (by kernel_rfl) (by kernel_rfl) (fun _ _ _ h => h) (Or.inl ⟨rfl, fun W hW => by obtain ⟨⟨_ca, _⟩, ⟨_cb, _⟩⟩ := hW; go_simp⟩) (by assumption) ?_
      simp only [Act.put, List.setIfInBounds_toArray, List.set_cons_zero, List.set_cons_succ]
      refine takeH 2 (some 37) (.pointer (some ⟨b, 0, none⟩)) rfl rfl (by kernel_rfl) (by kernel_rfl) (by kernel_rfl) (fun _ _ _ h => h) (Or.inl ⟨rfl, fun W hW => by obtain ⟨⟨_ca, _⟩, ⟨_cb, _⟩⟩ := hW; go_simp⟩) (by assumption) ?_
      simp only [Act.put, List.setIfInBounds_toArray, List.set_cons_zero, List.set_cons_succ]
      refine takeH 3 (some 38) (.bool h) rfl rfl (by kernel_rfl) (by kernel_rfl) (by kernel_rfl) (fun _ _ _ h => h) (Or.inl ⟨rfl, fun W hW => by obtain ⟨⟨_ca, _⟩, ⟨_cb, _⟩⟩ := hW; go_simp⟩) (by assumption) ?_
      simp only [Act.put, List.setIfInBounds_toArray, List.set_cons_zero, List.set_cons_succ]
      refine takeH 4 (some 39) (.pointer (some ⟨b, 0, none⟩)) rfl rfl (by kernel_rfl) (by kernel_rfl) (by kernel_rfl) (fun _ _ _ h => h) (Or.inl ⟨rfl, fun W hW => by obtain ⟨⟨_ca, _⟩, ⟨_cb, _⟩⟩ := hW; go_simp⟩) (by assumption) ?_
      simp only [Act.put, List.setIfInBounds_toArray, List.set_cons_zero, List.set_cons_succ]
      refine takeH 5 (some 40) (.pointer (some ⟨b, 0, none⟩)) rfl rfl (by kernel_rfl) (by kernel_rfl) (by kernel_rfl) (fun _ _ _ h => h) (Or.inl ⟨rfl, fun W hW => by obtain ⟨⟨_ca, _⟩, ⟨_cb, _⟩⟩ := hW; go_simp⟩) (by assumption) ?_
      simp only [Act.put, List.setIfInBounds_toArray, List.set_cons_zero, List.set_cons_succ]
      refine takeH 6 (some 41) (.pointer (some ⟨b, 1, none⟩)) rfl rfl (by kernel_rfl) (by kernel_rfl) (by kernel_rfl) (fun _ _ _ h => h) (Or.inl ⟨rfl, fun W hW => by obtain ⟨⟨_ca, _⟩, ⟨_cb, _⟩⟩ := hW; go_simp⟩) (by assumption) ?_
      simp only [Act.put, List.setIfInBounds_toArray, List.set_cons_zero, List.set_cons_succ]
      refine takeH 7 (some 42) (.agg (gC n)) rfl rfl (by kernel_rfl) (by kernel_rfl) (by kernel_rfl) (fun _ _ _ h => h) (yg_load rfl (.tmp 41) rfl b 1 n rfl (fun W h => h.2.2)) (by assumption) ?_
      simp only [Act.put, List.setIfInBounds_toArray, List.set_cons_zero, List.set_cons_succ]
      refine takeH 8 (some 43) (.pointer (some ⟨a, 0, none⟩)) rfl rfl (by kernel_rfl) (by kernel_rfl) (by kernel_rfl) (fun _ _ _ h => h) (Or.inl ⟨rfl, fun W hW => by obtain ⟨⟨_ca, _⟩, ⟨_cb, _⟩⟩ := hW; go_simp⟩) (by assumption) ?_
      simp only [Act.put, List.setIfInBounds_toArray, List.set_cons_zero, List.set_cons_succ]
      refine takeH 9 (some 44) (.pointer (some ⟨a, 0, none⟩)) rfl rfl (by kernel_rfl) (by kernel_rfl) (by kernel_rfl) (fun _ _ _ h => h) (Or.inl ⟨rfl, fun W hW => by obtain ⟨⟨_ca, _⟩, ⟨_cb, _⟩⟩ := hW; go_simp⟩) (by assumption) ?_
      simp only [Act.put, List.setIfInBounds_toArray, List.set_cons_zero, List.set_cons_succ]
      refine takeH 10 (some 45) (.pointer (some ⟨a, 1, none⟩)) rfl rfl (by kernel_rfl) (by kernel_rfl) (by kernel_rfl) (fun _ _ _ h => h) (Or.inl ⟨rfl, fun W hW => by obtain ⟨⟨_ca, _⟩, ⟨_cb, _⟩⟩ := hW; go_simp⟩) (by assumption) ?_
      simp only [Act.put, List.setIfInBounds_toArray, List.set_cons_zero, List.set_cons_succ]
      refine oneH 11 rfl (by kernel_rfl) (fun K' hK => ?_)
      go_simp
      refine (kP _ hHeld.1.2).mono ?_
      rintro e w4 ⟨rfl, bw4⟩
      have Sw4 : SGG w4 a g m ∧ SGG w4 b h n := ⟨hHeld.1.below bw4 hHeld.1.lt, hHeld.2.below bw4 hHeld.2.lt⟩
      refine hK _ _ Sw4 ?_
      clear hK
      refine oneH 12 rfl (by kernel_rfl) (fun K' hK => ?_)
      go_simp
      refine (kN _).mono ?_
      rintro e w5 ⟨c, rfl, hc, s5, bw5⟩
      have Sw5 : SGG w5 a g m ∧ SGG w5 b h n := ⟨Sw4.1.below bw5 Sw4.1.lt, Sw4.2.below bw5 Sw4.2.lt⟩
      refine hK _ _ Sw5 ?_
      clear hK
      refine takeH 13 (some 4) (.pointer (some ⟨c, 0, none⟩)) rfl rfl (by kernel_rfl) (by kernel_rfl) (by kernel_rfl) (fun _ _ _ h => h) (yg_assign rfl (.tmp 47) rfl _ rfl) (by assumption) ?_
      simp only [Act.put, List.setIfInBounds_toArray, List.set_cons_zero, List.set_cons_succ]
      refine wpAnyH_done (by kernel_rfl) ?_ _
      have hs4 : w2.heap.size ≤ w4.heap.size := bw4.size
      have hs2 := B2.size
      have B4 := B2.drew.trans (bw4.mono B2.size)
      go_wp2
      go_ret
      exact ⟨c, rfl, by omega, s5, B4.trans (bw5.mono B4.size)⟩
    · have hc0 := cmpI_ge (Nat.le_of_not_lt hlt)
      have hc1 : ¬ (cmpI m n < 0) := by omega
      have hl3 : (limbs (m - n)).length ≤ 98 := by have := limbs_mono (m := m) (n := m - n) (by omega); omega
      have kN := fun W => newSigned_c g (m - n) W hl3
      simp only [hv.1 (by omega)] at kN
      have kP := fun W (q : GA W b 1 n) => gMinus b 1 m n W (by omega) (by omega) q
      obtain ⟨N, hN⟩ : ∃ N, m - n = N := ⟨_, rfl⟩
      simp only [hN] at kN kP
      obtain ⟨c0v, hcv⟩ : ∃ c, cmpI m n = c := ⟨_, rfl⟩
      simp only [hcv] at kO
      rw [hcv] at hc0 hc1
      clear hgh hv vx vy hz hN hl3 hlx hly hcv hlt
      have c0 := HA.1
      have c1 := HB.1
      go_enter Try.func39, Try.ntmps39
      go_wp2_with fail
      go_region_held (fun W => W.cell? ⟨a, 0, none⟩ = some (.bool g) ∧ W.cell? ⟨b, 0, none⟩ = some (.bool h)) (go_keep) (fail)
      clear c0 c1
      have HA := HA.drew
      have HB := HB.drew
      go_wp2_with fail
      have hBd : Below w.heap.size w w.drew.drew := (Below.refl w.heap.size w).drew.drew
      refine wp_region_held_drew (S := fun W => SGG W a g m ∧ SGG W b h n) (by kernel_rfl) ⟨HA.drew, HB.drew⟩ ?_
      intro hHeld
      refine takeH 0 (some 27) (.pointer (some ⟨a, 0, none⟩)) rfl rfl (by kernel_rfl) (by kernel_rfl) (by kernel_rfl) (fun _ _ _ h => h) (Or.inl ⟨rfl, fun W hW => by obtain ⟨⟨_ca, _⟩, ⟨_cb, _⟩⟩ := hW; go_simp⟩) (by assumption) ?_
      simp only [Act.put, List.setIfInBounds_toArray, List.set_cons_zero, List.set_cons_succ]
      refine takeH 1 (some 28) (.pointer (some ⟨a, 0, none⟩)) rfl rfl (by kernel_rfl) (by kernel_rfl) (by kernel_rfl) (fun _ _ _ h => h) (Or.inl ⟨rfl, fun W hW => by obtain ⟨⟨_ca, _⟩, ⟨_cb, _⟩⟩ := hW; go_simp⟩) (by assumption) ?_
      simp only [Act.put, List.setIfInBounds_toArray, List.set_cons_zero, List.set_cons_succ]
      refine takeH 2 (some 29) (.pointer (some ⟨a, 1, none⟩)) rfl rfl (by kernel_rfl) (by kernel_rfl) (by kernel_rfl) (fun _ _ _ h => h) (Or.inl ⟨rfl, fun W hW => by obtain ⟨⟨_ca, _⟩, ⟨_cb, _⟩⟩ := hW; go_simp⟩) (by assumption) ?_
      simp only [Act.put, List.setIfInBounds_toArray, List.set_cons_zero, List.set_cons_succ]
      refine takeH 3 (some 30) (.pointer (some ⟨b, 0, none⟩)) rfl rfl (by kernel_rfl) (by kernel_rfl) (by kernel_rfl) (fun _ _ _ h => h) (Or.inl ⟨rfl, fun W hW => by obtain ⟨⟨_ca, _⟩, ⟨_cb, _⟩⟩ := hW; go_simp⟩) (by assumption) ?_
      simp only [Act.put, List.setIfInBounds_toArray, List.set_cons_zero, List.set_cons_succ]
      refine takeH 4 (some 31) (.pointer (some ⟨b, 0, none⟩)) rfl rfl (by kernel_rfl) (by kernel_rfl) (by kernel_rfl) (fun _ _ _ h => h) (Or.inl ⟨rfl, fun W hW => by obtain ⟨⟨_ca, _⟩, ⟨_cb, _⟩⟩ := hW; go_simp⟩) (by assumption) ?_
      simp only [Act.put, List.setIfInBounds_toArray, List.set_cons_zero, List.set_cons_succ]
      refine takeH 5 (some 32) (.pointer (some ⟨b, 1, none⟩)) rfl rfl (by kernel_rfl) (by kernel_rfl) (by kernel_rfl) (fun _ _ _ h => h) (Or.inl ⟨rfl, fun W hW => by obtain ⟨⟨_ca, _⟩, ⟨_cb, _⟩⟩ := hW; go_simp⟩) (by assumption) ?_
      simp only [Act.put, List.setIfInBounds_toArray, List.set_cons_zero, List.set_cons_succ]
      refine oneH 6 rfl (by kernel_rfl) (fun K' hK => ?_)
      go_simp
      refine (kO _ hHeld.1.2 hHeld.2.2).mono ?_
      rintro e w2 ⟨rfl, bw2⟩
      have Sw2 : SGG w2 a g m ∧ SGG w2 b h n := ⟨hHeld.1.below bw2 hHeld.1.lt, hHeld.2.below bw2 hHeld.2.lt⟩
      refine hK _ _ Sw2 ?_
      clear hK
      refine takeH 7 (some 34) (.bool (decide (c0v < 0))) rfl rfl (by kernel_rfl) (by kernel_rfl) (by kernel_rfl) (fun _ _ _ h => h) (Or.inl ⟨rfl, fun W hW => by go_simp⟩) (by assumption) ?_
      simp only [Act.put, List.setIfInBounds_toArray, List.set_cons_zero, List.set_cons_succ]
      refine wpAnyH_done (by kernel_rfl) ?_ _
      have B2 := hBd.trans (bw2.mono hBd.size)
      clear HA HB hHeld hBd
      have HA := Sw2.1
      have HB := Sw2.2
      clear Sw2
      go_wp2_with fail
      refine wp_region_held_drew (S := fun W => SGG W a g m ∧ SGG W b h n) (by kernel_rfl) ⟨HA.drew, HB.drew⟩ ?_
      intro hHeld
      refine takeH 0 (some 48) (.pointer (some ⟨a, 0, none⟩)) rfl rfl (by kernel_rfl) (by kernel_rfl) (by kernel_rfl) (fun _ _ _ h => h) (Or.inl ⟨rfl, fun W hW => by obtain ⟨⟨_ca, _⟩, ⟨_cb, _⟩⟩ := hW; go_simp⟩) (by assumption) ?_
      simp only [Act.put, List.setIfInBounds_toArray, List.set_cons_zero, List.set_cons_succ]
      refine takeH 1 (some 49) (.pointer (some ⟨a, 0, none⟩)) rfl rfl (by kernel_rfl) (by kernel_rfl) (by kernel_rfl) (fun _ _ _ h => h) (Or.inl ⟨rfl, fun W hW => by obtain ⟨⟨_ca, _⟩, ⟨_cb, _⟩⟩ := hW; go_simp⟩) (by assumption) ?_
      simp only [Act.put, List.setIfInBounds_toArray, List.set_cons_zero, List.set_cons_succ]
      refine takeH 2 (some 50) (.pointer (some ⟨a, 0, none⟩)) rfl rfl (by kernel_rfl) (by kernel_rfl) (by kernel_rfl) (fun _ _ _ h => h) (Or.inl ⟨rfl, fun W hW => by obtain ⟨⟨_ca, _⟩, ⟨_cb, _⟩⟩ := hW; go_simp⟩) (by assumption) ?_
      simp only [Act.put, List.setIfInBounds_toArray, List.set_cons_zero, List.set_cons_succ]
      refine takeH 3 (some 51) (.bool g) rfl rfl (by kernel_rfl) (by kernel_rfl) (by kernel_rfl) (fun _ _ _ h => h) (Or.inl ⟨rfl, fun W hW => by obtain ⟨⟨_ca, _⟩, ⟨_cb, _⟩⟩ := hW; go_simp⟩) (by assumption) ?_
      simp only [Act.put, List.setIfInBounds_toArray, List.set_cons_zero, List.set_cons_succ]
      refine takeH 4 (some 52) (.pointer (some ⟨a, 0, none⟩)) rfl rfl (by kernel_rfl) (by kernel_rfl) (by kernel_rfl) (fun _ _ _ h => h) (Or.inl ⟨rfl, fun W hW => by obtain ⟨⟨_ca, _⟩, ⟨_cb, _⟩⟩ := hW; go_simp⟩) (by assumption) ?_
      simp only [Act.put, List.setIfInBounds_toArray, List.set_cons_zero, List.set_cons_succ]
      refine takeH 5 (some 53) (.pointer (some ⟨a, 0, none⟩)) rfl rfl (by kernel_rfl) (by kernel_rfl) (by kernel_rfl) (fun _ _ _ h => h) (Or.inl ⟨rfl, fun W hW => by obtain ⟨⟨_ca, _⟩, ⟨_cb, _⟩⟩ := hW; go_simp⟩) (by assumption) ?_
      simp only [Act.put, List.setIfInBounds_toArray, List.set_cons_zero, List.set_cons_succ]
      refine takeH 6 (some 54) (.pointer (some ⟨a, 1, none⟩)) rfl rfl (by kernel_rfl) (by kernel_rfl) (by kernel_rfl) (fun _ _ _ h => h) (Or.inl ⟨rfl, fun W hW => by obtain ⟨⟨_ca, _⟩, ⟨_cb, _⟩⟩ := hW; go_simp⟩) (by assumption) ?_
      simp only [Act.put, List.setIfInBounds_toArray, List.set_cons_zero, List.set_cons_succ]
      refine takeH 7 (some 55) (.agg (gC m)) rfl rfl (by kernel_rfl) (by kernel_rfl) (by kernel_rfl) (fun _ _ _ h => h) (yg_load rfl (.tmp 54) rfl a 1 m rfl (fun W h => h.1.2)) (by assumption) ?_
      simp only [Act.put, List.setIfInBounds_toArray, List.set_cons_zero, List.set_cons_succ]
      refine takeH 8 (some 56) (.pointer (some ⟨b, 0, none⟩)) rfl rfl (by kernel_rfl) (by kernel_rfl) (by kernel_rfl) (fun _ _ _ h => h) (Or.inl ⟨rfl, fun W hW => by obtain ⟨⟨_ca, _⟩, ⟨_cb, _⟩⟩ := hW; go_simp⟩) (by assumption) ?_
      simp only [Act.put, List.setIfInBounds_toArray, List.set_cons_zero, List.set_cons_succ]
      refine takeH 9 (some 57) (.pointer (some ⟨b, 0, none⟩)) rfl rfl (by kernel_rfl) (by kernel_rfl) (by kernel_rfl) (fun _ _ _ h => h) (Or.inl ⟨rfl, fun W hW => by obtain ⟨⟨_ca, _⟩, ⟨_cb, _⟩⟩ := hW; go_simp⟩) (by assumption) ?_
      simp only [Act.put, List.setIfInBounds_toArray, List.set_cons_zero, List.set_cons_succ]
      refine takeH 10 (some 58) (.pointer (some ⟨b, 1, none⟩)) rfl rfl (by kernel_rfl) (by kernel_rfl) (by kernel_rfl) (fun _ _ _ h => h) (Or.inl ⟨rfl, fun W hW => by obtain ⟨⟨_ca, _⟩, ⟨_cb, _⟩⟩ := hW; go_simp⟩) (by assumption) ?_
      simp only [Act.put, List.setIfInBounds_toArray, List.set_cons_zero, List.set_cons_succ]
      refine oneH 11 rfl (by kernel_rfl) (fun K' hK => ?_)
      go_simp
      refine (kP _ hHeld.2.2).mono ?_
      rintro e w4 ⟨rfl, bw4⟩
      have Sw4 : SGG w4 a g m ∧ SGG w4 b h n := ⟨hHeld.1.below bw4 hHeld.1.lt, hHeld.2.below bw4 hHeld.2.lt⟩
      refine hK _ _ Sw4 ?_
      clear hK
      refine oneH 12 rfl (by kernel_rfl) (fun K' hK => ?_)
      go_simp
      refine (kN _).mono ?_
      rintro e w5 ⟨c, rfl, hc, s5, bw5⟩
      have Sw5 : SGG w5 a g m ∧ SGG w5 b h n := ⟨Sw4.1.below bw5 Sw4.1.lt, Sw4.2.below bw5 Sw4.2.lt⟩
      refine hK _ _ Sw5 ?_
      clear hK
      refine takeH 13 (some 4) (.pointer (some ⟨c, 0, none⟩)) rfl rfl (by kernel_rfl) (by kernel_rfl) (by kernel_rfl) (fun _ _ _ h => h) (yg_assign rfl (.tmp 60) rfl _ rfl) (by assumption) ?_
      simp only [Act.put, List.setIfInBounds_toArray, List.set_cons_zero, List.set_cons_succ]
      refine wpAnyH_done (by kernel_rfl) ?_ _
      have hs4 : w2.heap.size ≤ w4.heap.size := bw4.size
      have hs2 := B2.size
      have B4 := B2.drew.trans (bw4.mono B2.size)
      go_wp2
      go_ret
      exact ⟨c, rfl, by omega, s5, B4.trans (bw5.mono B4.size)⟩

set_option maxRecDepth 20000 in
set_option maxHeartbeats 3200000 in
theorem sgMinus (a b : Nat) (x y : Int) (w : World) (ha : SG w a x) (hb : SG w b y) (hlx : (limbs x.natAbs).length ≤ 97) (hly : (limbs y.natAbs).length ≤ 97) :
    Calls Try.prog 89 #[.pointer (some ⟨a, 0, none⟩), .pointer (some ⟨b, 0, none⟩)] w fun e w' => ∃ c, e = .returned (.pointer (some ⟨c, 0, none⟩)) ∧ w.heap.size ≤ c ∧ SG w' c (x - y) ∧ Below w.heap.size w w' := by
  have kN := sNegated b y w hb
  have kP := fun c W (h1 : SG W a x) (h2 : SG W c (-y)) => sgPlus a c x (-y) W h1 h2 hlx (by rw [Int.natAbs_neg]; exact hly)
  rw [← Int.sub_eq_add_neg] at kP
  have hna := ha.lt
  go_enter Try.func89, Try.ntmps89
  go_wp2_with fail
  refine kN.mono ?_
  rintro e w1 ⟨c, rfl, hc, s1, b1⟩
  have ha1 := ha.below b1 hna
  have hs1 := b1.size
  go_wp2_with fail
  refine (kP c w1 ha1 s1).mono ?_
  rintro e w2 ⟨d, rfl, hd, s2, b2⟩
  go_wp2
  go_ret
  exact ⟨d, rfl, by omega, s2, b1.trans (b2.mono hs1)⟩

set_option maxRecDepth 20000 in
set_option maxHeartbeats 3200000 in
theorem sgTimes (a b : Nat) (x y : Int) (w : World) (ha : SG w a x) (hb : SG w b y) (hl : (limbs x.natAbs).length + (limbs y.natAbs).length ≤ 98) :
    Calls Try.prog 73 #[.pointer (some ⟨a, 0, none⟩), .pointer (some ⟨b, 0, none⟩)] w fun e w' => ∃ c, e = .returned (.pointer (some ⟨c, 0, none⟩)) ∧ w.heap.size ≤ c ∧ SG w' c (x * y) ∧ Below w.heap.size w w' := by
  have HA := ha.sgg
  have HB := hb.sgg
  have hv := sg_mul (sval x) (sval y)
  have kT := fun W (q1 : GA W a 1 x.natAbs) (q2 : GA W b 1 y.natAbs) => gTimes a 1 b 1 x.natAbs y.natAbs W hl q1 q2
  have hl3 : (limbs (x.natAbs * y.natAbs)).length ≤ 98 := by have := mul_limbs_len x.natAbs y.natAbs; omega
  have kN := fun W => newSigned_c (decide (x < 0) != decide (y < 0)) (x.natAbs * y.natAbs) W hl3
  simp only [hv] at kN
  generalize x.natAbs = m at *
  generalize y.natAbs = n at *
  generalize decide (x < 0) = g at *
  generalize decide (y < 0) = h at *
  have hna := ha.lt
  have hnb := hb.lt
  obtain ⟨N, hN⟩ : ∃ N, m * n = N := ⟨_, rfl⟩
  simp only [hN] at kN kT
  generalize x * y = z at *
  have hBd : Below w.heap.size w w.drew := (Below.refl w.heap.size w).drew
  obtain ⟨gh, hgh⟩ : ∃ q, (g != h) = q := ⟨_, rfl⟩
  simp only [hgh] at kN
  have HG : Hid ((g != h) = gh) := hgh
  clear ha hb hv hl hN hl3 hgh
  go_enter Try.func73, Try.ntmps73
  go_wp2_with fail
  refine wp_region_held_drew (S := fun W => SGG W a g m ∧ SGG W b h n) (by kernel_rfl) ⟨HA.drew, HB.drew⟩ ?_
  intro hHeld
  refine takeH 0 (some 5) (.pointer (some ⟨a, 0, none⟩)) rfl rfl (by kernel_rfl) (by kernel_rfl) (by kernel_rfl) (fun _ _ _ h => h) (Or.inl ⟨rfl, fun W hW => by obtain ⟨⟨_ca, _⟩, ⟨_cb, _⟩⟩ := hW; go_simp⟩) (by assumption) ?_
  simp only [Act.put, List.setIfInBounds_toArray, List.set_cons_zero, List.set_cons_succ]
  refine takeH 1 (some 6) (.pointer (some ⟨a, 0, none⟩)) rfl rfl (by kernel_rfl) (by kernel_rfl) (by kernel_rfl) (fun _ _ _ h => h) (Or.inl ⟨rfl, fun W hW => by obtain ⟨⟨_ca, _⟩, ⟨_cb, _⟩⟩ := hW; go_simp⟩) (by assumption) ?_
  simp only [Act.put, List.setIfInBounds_toArray, List.set_cons_zero, List.set_cons_succ]
  refine takeH 2 (some 7) (.pointer (some ⟨a, 0, none⟩)) rfl rfl (by kernel_rfl) (by kernel_rfl) (by kernel_rfl) (fun _ _ _ h => h) (Or.inl ⟨rfl, fun W hW => by obtain ⟨⟨_ca, _⟩, ⟨_cb, _⟩⟩ := hW; go_simp⟩) (by assumption) ?_
  simp only [Act.put, List.setIfInBounds_toArray, List.set_cons_zero, List.set_cons_succ]
  refine takeH 3 (some 8) (.bool g) rfl rfl (by kernel_rfl) (by kernel_rfl) (by kernel_rfl) (fun _ _ _ h => h) (Or.inl ⟨rfl, fun W hW => by obtain ⟨⟨_ca, _⟩, ⟨_cb, _⟩⟩ := hW; go_simp⟩) (by assumption) ?_
  simp only [Act.put, List.setIfInBounds_toArray, List.set_cons_zero, List.set_cons_succ]
  refine takeH 4 (some 9) (.pointer (some ⟨b, 0, none⟩)) rfl rfl (by kernel_rfl) (by kernel_rfl) (by kernel_rfl) (fun _ _ _ h => h) (Or.inl ⟨rfl, fun W hW => by obtain ⟨⟨_ca, _⟩, ⟨_cb, _⟩⟩ := hW; go_simp⟩) (by assumption) ?_
  simp only [Act.put, List.setIfInBounds_toArray, List.set_cons_zero, List.set_cons_succ]
  refine takeH 5 (some 10) (.pointer (some ⟨b, 0, none⟩)) rfl rfl (by kernel_rfl) (by kernel_rfl) (by kernel_rfl) (fun _ _ _ h => h) (Or.inl ⟨rfl, fun W hW => by obtain ⟨⟨_ca, _⟩, ⟨_cb, _⟩⟩ := hW; go_simp⟩) (by assumption) ?_
  simp only [Act.put, List.setIfInBounds_toArray, List.set_cons_zero, List.set_cons_succ]
  refine takeH 6 (some 11) (.pointer (some ⟨b, 0, none⟩)) rfl rfl (by kernel_rfl) (by kernel_rfl) (by kernel_rfl) (fun _ _ _ h => h) (Or.inl ⟨rfl, fun W hW => by obtain ⟨⟨_ca, _⟩, ⟨_cb, _⟩⟩ := hW; go_simp⟩) (by assumption) ?_
  simp only [Act.put, List.setIfInBounds_toArray, List.set_cons_zero, List.set_cons_succ]
  refine takeH 7 (some 12) (.bool h) rfl rfl (by kernel_rfl) (by kernel_rfl) (by kernel_rfl) (fun _ _ _ h => h) (Or.inl ⟨rfl, fun W hW => by obtain ⟨⟨_ca, _⟩, ⟨_cb, _⟩⟩ := hW; go_simp⟩) (by assumption) ?_
  simp only [Act.put, List.setIfInBounds_toArray, List.set_cons_zero, List.set_cons_succ]
  refine takeH 8 (some 13) (.bool gh) rfl rfl (by kernel_rfl) (by kernel_rfl) (by kernel_rfl) (fun _ _ _ h => h) (Or.inl ⟨rfl, fun W hW => by have hq := HG.out; cases g <;> cases h <;> simp at hq <;> subst hq <;> go_simp⟩) (by assumption) ?_
  simp only [Act.put, List.setIfInBounds_toArray, List.set_cons_zero, List.set_cons_succ]
  refine takeH 9 (some 14) (.pointer (some ⟨a, 0, none⟩)) rfl rfl (by kernel_rfl) (by kernel_rfl) (by kernel_rfl) (fun _ _ _ h => h) (Or.inl ⟨rfl, fun W hW => by obtain ⟨⟨_ca, _⟩, ⟨_cb, _⟩⟩ := hW; go_simp⟩) (by assumption) ?_
  simp only [Act.put, List.setIfInBounds_toArray, List.set_cons_zero, List.set_cons_succ]
  refine takeH 10 (some 15) (.pointer (some ⟨a, 0, none⟩)) rfl rfl (by kernel_rfl) (by kernel_rfl) (by kernel_rfl) (fun _ _ _ h => h) (Or.inl ⟨rfl, fun W hW => by obtain ⟨⟨_ca, _⟩, ⟨_cb, _⟩⟩ := hW; go_simp⟩) (by assumption) ?_
  simp only [Act.put, List.setIfInBounds_toArray, List.set_cons_zero, List.set_cons_succ]
  refine takeH 11 (some 16) (.pointer (some ⟨a, 1, none⟩)) rfl rfl (by kernel_rfl) (by kernel_rfl) (by kernel_rfl) (fun _ _ _ h => h) (Or.inl ⟨rfl, fun W hW => by obtain ⟨⟨_ca, _⟩, ⟨_cb, _⟩⟩ := hW; go_simp⟩) (by assumption) ?_
  simp only [Act.put, List.setIfInBounds_toArray, List.set_cons_zero, List.set_cons_succ]
  refine takeH 12 (some 17) (.pointer (some ⟨b, 0, none⟩)) rfl rfl (by kernel_rfl) (by kernel_rfl) (by kernel_rfl) (fun _ _ _ h => h) (Or.inl ⟨rfl, fun W hW => by obtain ⟨⟨_ca, _⟩, ⟨_cb, _⟩⟩ := hW; go_simp⟩) (by assumption) ?_
  simp only [Act.put, List.setIfInBounds_toArray, List.set_cons_zero, List.set_cons_succ]
  refine takeH 13 (some 18) (.pointer (some ⟨b, 0, none⟩)) rfl rfl (by kernel_rfl) (by kernel_rfl) (by kernel_rfl) (fun _ _ _ h => h) (Or.inl ⟨rfl, fun W hW => by obtain ⟨⟨_ca, _⟩, ⟨_cb, _⟩⟩ := hW; go_simp⟩) (by assumption) ?_
  simp only [Act.put, List.setIfInBounds_toArray, List.set_cons_zero, List.set_cons_succ]
  refine takeH 14 (some 19) (.pointer (some ⟨b, 1, none⟩)) rfl rfl (by kernel_rfl) (by kernel_rfl) (by kernel_rfl) (fun _ _ _ h => h) (Or.inl ⟨rfl, fun W hW => by obtain ⟨⟨_ca, _⟩, ⟨_cb, _⟩⟩ := hW; go_simp⟩) (by assumption) ?_
  simp only [Act.put, List.setIfInBounds_toArray, List.set_cons_zero, List.set_cons_succ]
  refine oneH 15 rfl (by kernel_rfl) (fun K' hK => ?_)
  go_simp
  refine (kT _ hHeld.1.2 hHeld.2.2).mono ?_
  rintro e w4 ⟨rfl, bw4⟩
  have Sw4 : SGG w4 a g m ∧ SGG w4 b h n := ⟨hHeld.1.below bw4 hHeld.1.lt, hHeld.2.below bw4 hHeld.2.lt⟩
  refine hK _ _ Sw4 ?_
  clear hK
  refine oneH 16 rfl (by kernel_rfl) (fun K' hK => ?_)
  go_simp
  refine (kN _).mono ?_
  rintro e w5 ⟨c, rfl, hc, s5, bw5⟩
  have Sw5 : SGG w5 a g m ∧ SGG w5 b h n := ⟨Sw4.1.below bw5 Sw4.1.lt, Sw4.2.below bw5 Sw4.2.lt⟩
  refine hK _ _ Sw5 ?_
  clear hK
  refine takeH 17 (some 4) (.pointer (some ⟨c, 0, none⟩)) rfl rfl (by kernel_rfl) (by kernel_rfl) (by kernel_rfl) (fun _ _ _ h => h) (yg_assign rfl (.tmp 21) rfl _ rfl) (by assumption) ?_
  simp only [Act.put, List.setIfInBounds_toArray, List.set_cons_zero, List.set_cons_succ]
  refine wpAnyH_done (by kernel_rfl) ?_ _
  have hs4 : w.heap.size ≤ w4.heap.size := bw4.size
  go_wp2
  go_ret
  exact ⟨c, rfl, by omega, s5, hBd.trans ((bw4.mono hBd.size).trans (bw5.mono hs4))⟩

end Go.Proofs.Ytlpfjpbnedankaa
