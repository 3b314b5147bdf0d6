/- Several small texts in one: SgPlus, SgShift, SgPM. -/
import Derived.Test.YtlpfjpbnedankaaSWhole
import Derived.Test.YtlpfjpbnedankaaGB
import Derived.Test.YtlpfjpbnedankaaGC
/- The program's plus, minus and times of numbers with a sign, each by its contract. -/
namespace Go.Proofs.Ytlpfjpbnedankaa
open Go.RowKit
set_option linter.unusedSimpArgs false

/-- A sign and a great number behind a pointer. -/
def SGG (w : World) (b : Nat) (g : Bool) (m : Nat) : Prop := w.cell? ⟨b, 0, none⟩ = some (.bool g) ∧ GA w b 1 m
theorem SGG.lt {w : World} {b m : Nat} {g : Bool} (h : SGG w b g m) : b < w.heap.size := h.2.lt
theorem SGG.drew {w : World} {b m : Nat} {g : Bool} (h : SGG w b g m) : SGG w.drew b g m := ⟨h.1, h.2.drew⟩
theorem SGG.below {w w' : World} {b B m : Nat} {g : Bool} (h : SGG w b g m) (hb : Below B w w') (hB : b < B) : SGG w' b g m := ⟨(hb.cell (p := ⟨b, 0, none⟩) hB).trans h.1, h.2.below hb hB⟩
theorem SG.sgg {w : World} {b : Nat} {z : Int} (h : SG w b z) : SGG w b (decide (z < 0)) z.natAbs := ⟨h.sign, h.mag⟩
theorem sval (x : Int) : (if decide (x < 0) = true then -(x.natAbs : Int) else (x.natAbs : Int)) = x := by
  by_cases h : x < 0
  · simp [h]; omega
  · simp [h]; omega
theorem plus_same {g : Bool} {m n : Nat} {x y : Int} (hx : (if g = true then -(m : Int) else (m : Int)) = x) (hy : (if g = true then -(n : Int) else (n : Int)) = y) : (if g = true then -((m + n : Nat) : Int) else ((m + n : Nat) : Int)) = x + y := by
  cases g <;> simp at hx hy ⊢ <;> omega
theorem plus_other {g h : Bool} {m n : Nat} {x y : Int} (hg : g ≠ h) (hx : (if g = true then -(m : Int) else (m : Int)) = x) (hy : (if h = true then -(n : Int) else (n : Int)) = y) :
    (n ≤ m → (if g = true then -((m - n : Nat) : Int) else ((m - n : Nat) : Int)) = x + y) ∧ (m ≤ n → (if h = true then -((n - m : Nat) : Int) else ((n - m : Nat) : Int)) = x + y) := by
  cases g <;> cases h <;> simp at hg hx hy ⊢ <;> omega
theorem sg_mul {g h : Bool} {m n : Nat} {x y : Int} (hx : (if g = true then -(m : Int) else (m : Int)) = x) (hy : (if h = true then -(n : Int) else (n : Int)) = y) : (if (g != h) = true then -((m * n : Nat) : Int) else ((m * n : Nat) : Int)) = x * y := by
  subst hx hy
  cases g <;> cases h <;> simp [Int.neg_mul, Int.mul_neg]

set_option maxRecDepth 20000 in
set_option maxHeartbeats 3200000 in
theorem sgPlus (a b : Nat) (x y : Int) (w : World) (ha : SG w a x) (hb : SG w b y) (hlx : (limbs x.natAbs).length ≤ 97) (hly : (limbs y.natAbs).length ≤ 97) :
    Calls Try.prog 39 #[.pointer (some ⟨a, 0, none⟩), .pointer (some ⟨b, 0, none⟩)] w fun e w' => ∃ c, e = .returned (.pointer (some ⟨c, 0, none⟩)) ∧ w.heap.size ≤ c ∧ SG w' c (x + y) ∧ Below w.heap.size w w' := by
  have HA := ha.sgg
  have HB := hb.sgg
  have vx := sval x
  have vy := sval y
  generalize x.natAbs = m at *
  generalize y.natAbs = n at *
  generalize decide (x < 0) = g at *
  generalize decide (y < 0) = h at *
  have hna := ha.lt
  have hnb := hb.lt
  clear ha hb
  obtain ⟨z, hz⟩ : ∃ z, x + y = z := ⟨_, rfl⟩
  rw [hz]
  by_cases hgh : g = h
  · have hv := plus_same (hgh ▸ vx) vy
    rw [hz, ← hgh] at hv
    have hl3 : (limbs (m + n)).length ≤ 98 := by
      have h1 := limbs_lt m
      have h2 := limbs_lt n
      have h3 := Nat.pow_le_pow_right (by omega : 0 < 16777216) hlx
      have h4 := Nat.pow_le_pow_right (by omega : 0 < 16777216) hly
      refine limbs_len_le _ 98 ?_
      have e : (16777216 : Nat) ^ 98 = 16777216 ^ 97 * 16777216 := rfl
      omega
    have kN := fun W => newSigned_c g (m + n) W hl3
    simp only [hv] at kN
    have ebb : (g == h) = true := by rw [hgh]; simp
    have kP := fun W (q : GA W b 1 n) => gPlus b 1 m n W hlx hly q
    obtain ⟨N, hN⟩ : ∃ N, m + n = N := ⟨_, rfl⟩
    simp only [hN] at kN kP
    clear hgh hv vx vy hz hN hl3 hlx hly
    have c0 := HA.1
    have c1 := HB.1
    go_enter Try.func39, Try.ntmps39
    go_wp2_with fail
    go_region_held (fun W => W.cell? ⟨a, 0, none⟩ = some (.bool g) ∧ W.cell? ⟨b, 0, none⟩ = some (.bool h)) (go_keep) (fail)
    clear c0 c1
    have HA := HA.drew
    have HB := HB.drew
    go_wp2_with fail
    have hBd : Below w.heap.size w w.drew.drew := (Below.refl w.heap.size w).drew.drew
    refine wp_region_held_drew (S := fun W => SGG W a g m ∧ SGG W b h n) (by kernel_rfl) ⟨HA.drew, HB.drew⟩ ?_
    intro hHeld
    refine takeH 0 (some 14) (.pointer (some ⟨a, 0, none⟩)) rfl rfl (by kernel_rfl) (by kernel_rfl) (by kernel_rfl) (fun _ _ _ h => h) (Or.inl ⟨rfl, fun W hW => by obtain ⟨⟨_ca, _⟩, ⟨_cb, _⟩⟩ := hW; go_simp⟩) (by assumption) ?_
    simp only [Act.put, List.setIfInBounds_toArray, List.set_cons_zero, List.set_cons_succ]
    refine takeH 1 (some 15) (.pointer (some ⟨a, 0, none⟩)) rfl rfl (by kernel_rfl) (by kernel_rfl) (by kernel_rfl) (fun _ _ _ h => h) (Or.inl ⟨rfl, fun W hW => by obtain ⟨⟨_ca, _⟩, ⟨_cb, _⟩⟩ := hW; go_simp⟩) (by assumption) ?_
    simp only [Act.put, List.setIfInBounds_toArray, List.set_cons_zero, List.set_cons_succ]
    refine takeH 2 (some 16) (.pointer (some ⟨a, 0, none⟩)) rfl rfl (by kernel_rfl) (by kernel_rfl) (by kernel_rfl) (fun _ _ _ h => h) (Or.inl ⟨rfl, fun W hW => by obtain ⟨⟨_ca, _⟩, ⟨_cb, _⟩⟩ := hW; go_simp⟩) (by assumption) ?_
    simp only [Act.put, List.setIfInBounds_toArray, List.set_cons_zero, List.set_cons_succ]
    refine takeH 3 (some 17) (.bool g) rfl rfl (by kernel_rfl) (by kernel_rfl) (by kernel_rfl) (fun _ _ _ h => h) (Or.inl ⟨rfl, fun W hW => by obtain ⟨⟨_ca, _⟩, ⟨_cb, _⟩⟩ := hW; go_simp⟩) (by assumption) ?_
    simp only [Act.put, List.setIfInBounds_toArray, List.set_cons_zero, List.set_cons_succ]
    refine takeH 4 (some 18) (.pointer (some ⟨a, 0, none⟩)) rfl rfl (by kernel_rfl) (by kernel_rfl) (by kernel_rfl) (fun _ _ _ h => h) (Or.inl ⟨rfl, fun W hW => by obtain ⟨⟨_ca, _⟩, ⟨_cb, _⟩⟩ := hW; go_simp⟩) (by assumption) ?_
    simp only [Act.put, List.setIfInBounds_toArray, List.set_cons_zero, List.set_cons_succ]
    refine takeH 5 (some 19) (.pointer (some ⟨a, 0, none⟩)) rfl rfl (by kernel_rfl) (by kernel_rfl) (by kernel_rfl) (fun _ _ _ h => h) (Or.inl ⟨rfl, fun W hW => by obtain ⟨⟨_ca, _⟩, ⟨_cb, _⟩⟩ := hW; go_simp⟩) (by assumption) ?_
    simp only [Act.put, List.setIfInBounds_toArray, List.set_cons_zero, List.set_cons_succ]
    refine takeH 6 (some 20) (.pointer (some ⟨a, 1, none⟩)) rfl rfl (by kernel_rfl) (by kernel_rfl) (by kernel_rfl) (fun _ _ _ h => h) (Or.inl ⟨rfl, fun W hW => by obtain ⟨⟨_ca, _⟩, ⟨_cb, _⟩⟩ := hW; go_simp⟩) (by assumption) ?_
    simp only [Act.put, List.setIfInBounds_toArray, List.set_cons_zero, List.set_cons_succ]
    refine takeH 7 (some 21) (.agg (gC m)) rfl rfl (by kernel_rfl) (by kernel_rfl) (by kernel_rfl) (fun _ _ _ h => h) (yg_load rfl (.tmp 20) rfl a 1 m rfl (fun W h => h.1.2)) (by assumption) ?_
    simp only [Act.put, List.setIfInBounds_toArray, List.set_cons_zero, List.set_cons_succ]
    refine takeH 8 (some 22) (.pointer (some ⟨b, 0, none⟩)) rfl rfl (by kernel_rfl) (by kernel_rfl) (by kernel_rfl) (fun _ _ _ h => h) (Or.inl ⟨rfl, fun W hW => by obtain ⟨⟨_ca, _⟩, ⟨_cb, _⟩⟩ := hW; go_simp⟩) (by assumption) ?_
    simp only [Act.put, List.setIfInBounds_toArray, List.set_cons_zero, List.set_cons_succ]
    refine takeH 9 (some 23) (.pointer (some ⟨b, 0, none⟩)) rfl rfl (by kernel_rfl) (by kernel_rfl) (by kernel_rfl) (fun _ _ _ h => h) (Or.inl ⟨rfl, fun W hW => by obtain ⟨⟨_ca, _⟩, ⟨_cb, _⟩⟩ := hW; go_simp⟩) (by assumption) ?_
    simp only [Act.put, List.setIfInBounds_toArray, List.set_cons_zero, List.set_cons_succ]
    refine takeH 10 (some 24) (.pointer (some ⟨b, 1, none⟩)) rfl rfl (by kernel_rfl) (by kernel_rfl) (by kernel_rfl) (fun _ _ _ h => h) (Or.inl ⟨rfl, fun W hW => by obtain ⟨⟨_ca, _⟩, ⟨_cb, _⟩⟩ := hW; go_simp⟩) (by assumption) ?_
    simp only [Act.put, List.setIfInBounds_toArray, List.set_cons_zero, List.set_cons_succ]
    refine oneH 11 rfl (by kernel_rfl) (fun K' hK => ?_)
    go_simp
    refine (kP _ hHeld.2.2).mono ?_
    rintro e w4 ⟨rfl, bw4⟩
    have Sw4 : SGG w4 a g m ∧ SGG w4 b h n := ⟨hHeld.1.below bw4 hHeld.1.lt, hHeld.2.below bw4 hHeld.2.lt⟩
    refine hK _ _ Sw4 ?_
    clear hK
    refine oneH 12 rfl (by kernel_rfl) (fun K' hK => ?_)
    go_simp
    refine (kN _).mono ?_
    rintro e w5 ⟨c, rfl, hc, s5, bw5⟩
    have Sw5 : SGG w5 a g m ∧ SGG w5 b h n := ⟨Sw4.1.below bw5 Sw4.1.lt, Sw4.2.below bw5 Sw4.2.lt⟩
    refine hK _ _ Sw5 ?_
    clear hK
    refine takeH 13 (some 4) (.pointer (some ⟨c, 0, none⟩)) rfl rfl (by kernel_rfl) (by kernel_rfl) (by kernel_rfl) (fun _ _ _ h => h) (yg_assign rfl (.tmp 26) rfl _ rfl) (by assumption) ?_
    simp only [Act.put, List.setIfInBounds_toArray, List.set_cons_zero, List.set_cons_succ]
    refine wpAnyH_done (by kernel_rfl) ?_ _
    have hs4 := bw4.size
    go_wp2
    go_ret
    exact ⟨c, rfl, Nat.le_trans (show w.heap.size ≤ w4.heap.size from hs4) hc, s5, hBd.trans ((bw4.mono hBd.size).trans (bw5.mono (Nat.le_trans hBd.size hs4)))⟩
  · have hv := plus_other hgh vx vy
    rw [hz] at hv
    have ebb : (g == h) = false := by cases g <;> cases h <;> simp_all
    have kO := fun W (q1 : GA W a 1 m) (q2 : GA W b 1 n) => gOrder a 1 b 1 m n W q1 q2
    by_cases hlt : m < n
    · have hc0 := cmpI_lt hlt
      have hl3 : (limbs (n - m)).length ≤ 98 := by have := limbs_mono (m := n) (n := n - m) (by omega); omega
      have kN := fun W => newSigned_c h (n - m) W hl3
      simp only [hv.2 (by omega)] at kN
      have kP := fun W (q : GA W a 1 m) => gMinus a 1 n m W (by omega) (by omega) q
      obtain ⟨N, hN⟩ : ∃ N, n - m = N := ⟨_, rfl⟩
      simp only [hN] at kN kP
      obtain ⟨c0v, hcv⟩ : ∃ c, cmpI m n = c := ⟨_, rfl⟩
      simp only [hcv] at kO
      rw [hcv] at hc0
      clear hgh hv vx vy hz hN hl3 hlx hly hcv hlt
      have c0 := HA.1
      have c1 := HB.1
      go_enter Try.func39, Try.ntmps39
      go_wp2_with fail
      go_region_held (fun W => W.cell? ⟨a, 0, none⟩ = some (.bool g) ∧ W.cell? ⟨b, 0, none⟩ = some (.bool h)) (go_keep) (fail)
      clear c0 c1
      have HA := HA.drew
      have HB := HB.drew
      go_wp2_with fail
      have hBd : Below w.heap.size w w.drew.drew := (Below.refl w.heap.size w).drew.drew
      refine wp_region_held_drew (S := fun W => SGG W a g m ∧ SGG W b h n) (by kernel_rfl) ⟨HA.drew, HB.drew⟩ ?_
      intro hHeld
      refine takeH 0 (some 27) (.pointer (some ⟨a, 0, none⟩)) rfl rfl (by kernel_rfl) (by kernel_rfl) (by kernel_rfl) (fun _ _ _ h => h) (Or.inl ⟨rfl, fun W hW => by obtain ⟨⟨_ca, _⟩, ⟨_cb, _⟩⟩ := hW; go_simp⟩) (by assumption) ?_
      simp only [Act.put, List.setIfInBounds_toArray, List.set_cons_zero, List.set_cons_succ]
      refine takeH 1 (some 28) (.pointer (some ⟨a, 0, none⟩)) rfl rfl (by kernel_rfl) (by kernel_rfl) (by kernel_rfl) (fun _ _ _ h => h) (Or.inl ⟨rfl, fun W hW => by obtain ⟨⟨_ca, _⟩, ⟨_cb, _⟩⟩ := hW; go_simp⟩) (by assumption) ?_
      simp only [Act.put, List.setIfInBounds_toArray, List.set_cons_zero, List.set_cons_succ]
      refine takeH 2 (some 29) (.pointer (some ⟨a, 1, none⟩)) rfl rfl (by kernel_rfl) (by kernel_rfl) (by kernel_rfl) (fun _ _ _ h => h) (Or.inl ⟨rfl, fun W hW => by obtain ⟨⟨_ca, _⟩, ⟨_cb, _⟩⟩ := hW; go_simp⟩) (by assumption) ?_
      simp only [Act.put, List.setIfInBounds_toArray, List.set_cons_zero, List.set_cons_succ]
      refine takeH 3 (some 30) (.pointer (some ⟨b, 0, none⟩)) rfl rfl (by kernel_rfl) (by kernel_rfl) (by kernel_rfl) (fun _ _ _ h => h) (Or.inl ⟨rfl, fun W hW => by obtain ⟨⟨_ca, _⟩, ⟨_cb, _⟩⟩ := hW; go_simp⟩) (by assumption) ?_
      simp only [Act.put, List.setIfInBounds_toArray, List.set_cons_zero, List.set_cons_succ]
      refine takeH 4 (some 31) (.pointer (some ⟨b, 0, none⟩)) rfl rfl (by kernel_rfl) (by kernel_rfl) (by kernel_rfl) (fun _ _ _ h => h) (Or.inl ⟨rfl, fun W hW => by obtain ⟨⟨_ca, _⟩, ⟨_cb, _⟩⟩ := hW; go_simp⟩) (by assumption) ?_
      simp only [Act.put, List.setIfInBounds_toArray, List.set_cons_zero, List.set_cons_succ]
      refine takeH 5 (some 32) (.pointer (some ⟨b, 1, none⟩)) rfl rfl (by kernel_rfl) (by kernel_rfl) (by kernel_rfl) (fun _ _ _ h => h) (Or.inl ⟨rfl, fun W hW => by obtain ⟨⟨_ca, _⟩, ⟨_cb, _⟩⟩ := hW; go_simp⟩) (by assumption) ?_
      simp only [Act.put, List.setIfInBounds_toArray, List.set_cons_zero, List.set_cons_succ]
      refine oneH 6 rfl (by kernel_rfl) (fun K' hK => ?_)
      go_simp
      refine (kO _ hHeld.1.2 hHeld.2.2).mono ?_
      rintro e w2 ⟨rfl, bw2⟩
      have Sw2 : SGG w2 a g m ∧ SGG w2 b h n := ⟨hHeld.1.below bw2 hHeld.1.lt, hHeld.2.below bw2 hHeld.2.lt⟩
      refine hK _ _ Sw2 ?_
      clear hK
      refine takeH 7 (some 34) (.bool (decide (c0v < 0))) rfl rfl (by kernel_rfl) (by kernel_rfl) (by kernel_rfl) (fun _ _ _ h => h) (Or.inl ⟨rfl, fun W hW => by go_simp⟩) (by assumption) ?_
      simp only [Act.put, List.setIfInBounds_toArray, List.set_cons_zero, List.set_cons_succ]
      refine wpAnyH_done (by kernel_rfl) ?_ _
      have B2 := hBd.trans (bw2.mono hBd.size)
      clear HA HB hHeld hBd
      have HA := Sw2.1
      have HB := Sw2.2
      clear Sw2
      go_wp2_with fail
      refine wp_region_held_drew (S := fun W => SGG W a g m ∧ SGG W b h n) (by kernel_rfl) ⟨HA.drew, HB.drew⟩ ?_
      intro hHeld
      refine takeH 0 (some 35) (.pointer (some ⟨b, 0, none⟩)) rfl rfl (by kernel_rfl) (by kernel_rfl) (by kernel_rfl) (fun _ _ _ h => h) (Or.inl ⟨rfl, fun W hW => by obtain ⟨⟨_ca, _⟩, ⟨_cb, _⟩⟩ := hW; go_simp⟩) (by assumption) ?_
      simp only [Act.put, List.setIfInBounds_toArray, List.set_cons_zero, List.set_cons_succ]
      refine takeH 1 (some 36) (.pointer (some ⟨b, 0, none⟩)) rfl rfl (by kernel_rfl) (by kernel_rfl) (by kernel_rfl) (fun _ _ _ h => h) (Or.inl ⟨rfl, fun W hW => by obtain ⟨⟨_ca, _⟩, ⟨_cb, _⟩⟩ := hW; go_simp⟩) (by assumption) ?_
      simp only [Act.put, List.setIfInBounds_toArray, List.set_cons_zero, List.set_cons_succ]
      refine takeH 2 (some 37) (.pointer (some ⟨b, 0, none⟩)) rfl rfl (by kernel_rfl) (by kernel_rfl) (by kernel_rfl) (fun _ _ _ h => h) (Or.inl ⟨rfl, fun W hW => by obtain ⟨⟨_ca, _⟩, ⟨_cb, _⟩⟩ := hW; go_simp⟩) (by assumption) ?_
      simp only [Act.put, List.setIfInBounds_toArray, List.set_cons_zero, List.set_cons_succ]
      refine takeH 3 (some 38) (.bool h) rfl rfl (by kernel_rfl) (by kernel_rfl) (by kernel_rfl) (fun _ _ _ h => h) (Or.inl ⟨rfl, fun W hW => by obtain ⟨⟨_ca, _⟩, ⟨_cb, _⟩⟩ := hW; go_simp⟩) (by assumption) ?_
      simp only [Act.put, List.setIfInBounds_toArray, List.set_cons_zero, List.set_cons_succ]
      refine takeH 4 (some 39) (.pointer (some ⟨b, 0, none⟩)) rfl rfl (by kernel_rfl) (by kernel_rfl) (by kernel_rfl) (fun _ _ _ h => h) (Or.inl ⟨rfl, fun W hW => by obtain ⟨⟨_ca, _⟩, ⟨_cb, _⟩⟩ := hW; go_simp⟩) (by assumption) ?_
      simp only [Act.put, List.setIfInBounds_toArray, List.set_cons_zero, List.set_cons_succ]
      refine takeH 5 (some 40) (.pointer (some ⟨b, 0, none⟩)) rfl rfl (by kernel_rfl) (by kernel_rfl) (by kernel_rfl) (fun _ _ _ h => h) (Or.inl ⟨rfl, fun W hW => by obtain ⟨⟨_ca, _⟩, ⟨_cb, _⟩⟩ := hW; go_simp⟩) (by assumption) ?_
      simp only [Act.put, List.setIfInBounds_toArray, List.set_cons_zero, List.set_cons_succ]
      refine takeH 6 (some 41) (.pointer (some ⟨b, 1, none⟩)) rfl rfl (by kernel_rfl) (by kernel_rfl) (by kernel_rfl) (fun _ _ _ h => h) (Or.inl ⟨rfl, fun W hW => by obtain ⟨⟨_ca, _⟩, ⟨_cb, _⟩⟩ := hW; go_simp⟩) (by assumption) ?_
      simp only [Act.put, List.setIfInBounds_toArray, List.set_cons_zero, List.set_cons_succ]
      refine takeH 7 (some 42) (.agg (gC n)) rfl rfl (by kernel_rfl) (by kernel_rfl) (by kernel_rfl) (fun _ _ _ h => h) (yg_load rfl (.tmp 41) rfl b 1 n rfl (fun W h => h.2.2)) (by assumption) ?_
      simp only [Act.put, List.setIfInBounds_toArray, List.set_cons_zero, List.set_cons_succ]
      refine takeH 8 (some 43) (.pointer (some ⟨a, 0, none⟩)) rfl rfl (by kernel_rfl) (by kernel_rfl) (by kernel_rfl) (fun _ _ _ h => h) (Or.inl ⟨rfl, fun W hW => by obtain ⟨⟨_ca, _⟩, ⟨_cb, _⟩⟩ := hW; go_simp⟩) (by assumption) ?_
      simp only [Act.put, List.setIfInBounds_toArray, List.set_cons_zero, List.set_cons_succ]
      refine takeH 9 (some 44) (.pointer (some ⟨a, 0, none⟩)) rfl rfl (by kernel_rfl) (by kernel_rfl) (by kernel_rfl) (fun _ _ _ h => h) (Or.inl ⟨rfl, fun W hW => by obtain ⟨⟨_ca, _⟩, ⟨_cb, _⟩⟩ := hW; go_simp⟩) (by assumption) ?_
      simp only [Act.put, List.setIfInBounds_toArray, List.set_cons_zero, List.set_cons_succ]
      refine takeH 10 (some 45) (.pointer (some ⟨a, 1, none⟩)) rfl rfl (by kernel_rfl) (by kernel_rfl) (by kernel_rfl) (fun _ _ _ h => h) (Or.inl ⟨rfl, fun W hW => by obtain ⟨⟨_ca, _⟩, ⟨_cb, _⟩⟩ := hW; go_simp⟩) (by assumption) ?_
      simp only [Act.put, List.setIfInBounds_toArray, List.set_cons_zero, List.set_cons_succ]
      refine oneH 11 rfl (by kernel_rfl) (fun K' hK => ?_)
      go_simp
      refine (kP _ hHeld.1.2).mono ?_
      rintro e w4 ⟨rfl, bw4⟩
      have Sw4 : SGG w4 a g m ∧ SGG w4 b h n := ⟨hHeld.1.below bw4 hHeld.1.lt, hHeld.2.below bw4 hHeld.2.lt⟩
      refine hK _ _ Sw4 ?_
      clear hK
      refine oneH 12 rfl (by kernel_rfl) (fun K' hK => ?_)
      go_simp
      refine (kN _).mono ?_
      rintro e w5 ⟨c, rfl, hc, s5, bw5⟩
      have Sw5 : SGG w5 a g m ∧ SGG w5 b h n := ⟨Sw4.1.below bw5 Sw4.1.lt, Sw4.2.below bw5 Sw4.2.lt⟩
      refine hK _ _ Sw5 ?_
      clear hK
      refine takeH 13 (some 4) (.pointer (some ⟨c, 0, none⟩)) rfl rfl (by kernel_rfl) (by kernel_rfl) (by kernel_rfl) (fun _ _ _ h => h) (yg_assign rfl (.tmp 47) rfl _ rfl) (by assumption) ?_
      simp only [Act.put, List.setIfInBounds_toArray, List.set_cons_zero, List.set_cons_succ]
      refine wpAnyH_done (by kernel_rfl) ?_ _
      have hs4 : w2.heap.size ≤ w4.heap.size := bw4.size
      have hs2 := B2.size
      have B4 := B2.drew.trans (bw4.mono B2.size)
      go_wp2
      go_ret
      exact ⟨c, rfl, by omega, s5, B4.trans (bw5.mono B4.size)⟩
    · have hc0 := cmpI_ge (Nat.le_of_not_lt hlt)
      have hc1 : ¬ (cmpI m n < 0) := by omega
      have hl3 : (limbs (m - n)).length ≤ 98 := by have := limbs_mono (m := m) (n := m - n) (by omega); omega
      have kN := fun W => newSigned_c g (m - n) W hl3
      simp only [hv.1 (by omega)] at kN
      have kP := fun W (q : GA W b 1 n) => gMinus b 1 m n W (by omega) (by omega) q
      obtain ⟨N, hN⟩ : ∃ N, m - n = N := ⟨_, rfl⟩
      simp only [hN] at kN kP
      obtain ⟨c0v, hcv⟩ : ∃ c, cmpI m n = c := ⟨_, rfl⟩
      simp only [hcv] at kO
      rw [hcv] at hc0 hc1
      clear hgh hv vx vy hz hN hl3 hlx hly hcv hlt
      have c0 := HA.1
      have c1 := HB.1
      go_enter Try.func39, Try.ntmps39
      go_wp2_with fail
      go_region_held (fun W => W.cell? ⟨a, 0, none⟩ = some (.bool g) ∧ W.cell? ⟨b, 0, none⟩ = some (.bool h)) (go_keep) (fail)
      clear c0 c1
      have HA := HA.drew
      have HB := HB.drew
      go_wp2_with fail
      have hBd : Below w.heap.size w w.drew.drew := (Below.refl w.heap.size w).drew.drew
      refine wp_region_held_drew (S := fun W => SGG W a g m ∧ SGG W b h n) (by kernel_rfl) ⟨HA.drew, HB.drew⟩ ?_
      intro hHeld
      refine takeH 0 (some 27) (.pointer (some ⟨a, 0, none⟩)) rfl rfl (by kernel_rfl) (by kernel_rfl) (by kernel_rfl) (fun _ _ _ h => h) (Or.inl ⟨rfl, fun W hW => by obtain ⟨⟨_ca, _⟩, ⟨_cb, _⟩⟩ := hW; go_simp⟩) (by assumption) ?_
      simp only [Act.put, List.setIfInBounds_toArray, List.set_cons_zero, List.set_cons_succ]
      refine takeH 1 (some 28) (.pointer (some ⟨a, 0, none⟩)) rfl rfl (by kernel_rfl) (by kernel_rfl) (by kernel_rfl) (fun _ _ _ h => h) (Or.inl ⟨rfl, fun W hW => by obtain ⟨⟨_ca, _⟩, ⟨_cb, _⟩⟩ := hW; go_simp⟩) (by assumption) ?_
      simp only [Act.put, List.setIfInBounds_toArray, List.set_cons_zero, List.set_cons_succ]
      refine takeH 2 (some 29) (.pointer (some ⟨a, 1, none⟩)) rfl rfl (by kernel_rfl) (by kernel_rfl) (by kernel_rfl) (fun _ _ _ h => h) (Or.inl ⟨rfl, fun W hW => by obtain ⟨⟨_ca, _⟩, ⟨_cb, _⟩⟩ := hW; go_simp⟩) (by assumption) ?_
      simp only [Act.put, List.setIfInBounds_toArray, List.set_cons_zero, List.set_cons_succ]
      refine takeH 3 (some 30) (.pointer (some ⟨b, 0, none⟩)) rfl rfl (by kernel_rfl) (by kernel_rfl) (by kernel_rfl) (fun _ _ _ h => h) (Or.inl ⟨rfl, fun W hW => by obtain ⟨⟨_ca, _⟩, ⟨_cb, _⟩⟩ := hW; go_simp⟩) (by assumption) ?_
      simp only [Act.put, List.setIfInBounds_toArray, List.set_cons_zero, List.set_cons_succ]
      refine takeH 4 (some 31) (.pointer (some ⟨b, 0, none⟩)) rfl rfl (by kernel_rfl) (by kernel_rfl) (by kernel_rfl) (fun _ _ _ h => h) (Or.inl ⟨rfl, fun W hW => by obtain ⟨⟨_ca, _⟩, ⟨_cb, _⟩⟩ := hW; go_simp⟩) (by assumption) ?_
      simp only [Act.put, List.setIfInBounds_toArray, List.set_cons_zero, List.set_cons_succ]
      refine takeH 5 (some 32) (.pointer (some ⟨b, 1, none⟩)) rfl rfl (by kernel_rfl) (by kernel_rfl) (by kernel_rfl) (fun _ _ _ h => h) (Or.inl ⟨rfl, fun W hW => by obtain ⟨⟨_ca, _⟩, ⟨_cb, _⟩⟩ := hW; go_simp⟩) (by assumption) ?_
      simp only [Act.put, List.setIfInBounds_toArray, List.set_cons_zero, List.set_cons_succ]
      refine oneH 6 rfl (by kernel_rfl) (fun K' hK => ?_)
      go_simp
      refine (kO _ hHeld.1.2 hHeld.2.2).mono ?_
      rintro e w2 ⟨rfl, bw2⟩
      have Sw2 : SGG w2 a g m ∧ SGG w2 b h n := ⟨hHeld.1.below bw2 hHeld.1.lt, hHeld.2.below bw2 hHeld.2.lt⟩
      refine hK _ _ Sw2 ?_
      clear hK
      refine takeH 7 (some 34) (.bool (decide (c0v < 0))) rfl rfl (by kernel_rfl) (by kernel_rfl) (by kernel_rfl) (fun _ _ _ h => h) (Or.inl ⟨rfl, fun W hW => by go_simp⟩) (by assumption) ?_
      simp only [Act.put, List.setIfInBounds_toArray, List.set_cons_zero, List.set_cons_succ]
      refine wpAnyH_done (by kernel_rfl) ?_ _
      have B2 := hBd.trans (bw2.mono hBd.size)
      clear HA HB hHeld hBd
      have HA := Sw2.1
      have HB := Sw2.2
      clear Sw2
      go_wp2_with fail
      refine wp_region_held_drew (S := fun W => SGG W a g m ∧ SGG W b h n) (by kernel_rfl) ⟨HA.drew, HB.drew⟩ ?_
      intro hHeld
      refine takeH 0 (some 48) (.pointer (some ⟨a, 0, none⟩)) rfl rfl (by kernel_rfl) (by kernel_rfl) (by kernel_rfl) (fun _ _ _ h => h) (Or.inl ⟨rfl, fun W hW => by obtain ⟨⟨_ca, _⟩, ⟨_cb, _⟩⟩ := hW; go_simp⟩) (by assumption) ?_
      simp only [Act.put, List.setIfInBounds_toArray, List.set_cons_zero, List.set_cons_succ]
      refine takeH 1 (some 49) (.pointer (some ⟨a, 0, none⟩)) rfl rfl (by kernel_rfl) (by kernel_rfl) (by kernel_rfl) (fun _ _ _ h => h) (Or.inl ⟨rfl, fun W hW => by obtain ⟨⟨_ca, _⟩, ⟨_cb, _⟩⟩ := hW; go_simp⟩) (by assumption) ?_
      simp only [Act.put, List.setIfInBounds_toArray, List.set_cons_zero, List.set_cons_succ]
      refine takeH 2 (some 50) (.pointer (some ⟨a, 0, none⟩)) rfl rfl (by kernel_rfl) (by kernel_rfl) (by kernel_rfl) (fun _ _ _ h => h) (Or.inl ⟨rfl, fun W hW => by obtain ⟨⟨_ca, _⟩, ⟨_cb, _⟩⟩ := hW; go_simp⟩) (by assumption) ?_
      simp only [Act.put, List.setIfInBounds_toArray, List.set_cons_zero, List.set_cons_succ]
      refine takeH 3 (some 51) (.bool g) rfl rfl (by kernel_rfl) (by kernel_rfl) (by kernel_rfl) (fun _ _ _ h => h) (Or.inl ⟨rfl, fun W hW => by obtain ⟨⟨_ca, _⟩, ⟨_cb, _⟩⟩ := hW; go_simp⟩) (by assumption) ?_
      simp only [Act.put, List.setIfInBounds_toArray, List.set_cons_zero, List.set_cons_succ]
      refine takeH 4 (some 52) (.pointer (some ⟨a, 0, none⟩)) rfl rfl (by kernel_rfl) (by kernel_rfl) (by kernel_rfl) (fun _ _ _ h => h) (Or.inl ⟨rfl, fun W hW => by obtain ⟨⟨_ca, _⟩, ⟨_cb, _⟩⟩ := hW; go_simp⟩) (by assumption) ?_
      simp only [Act.put, List.setIfInBounds_toArray, List.set_cons_zero, List.set_cons_succ]
      refine takeH 5 (some 53) (.pointer (some ⟨a, 0, none⟩)) rfl rfl (by kernel_rfl) (by kernel_rfl) (by kernel_rfl) (fun _ _ _ h => h) (Or.inl ⟨rfl, fun W hW => by obtain ⟨⟨_ca, _⟩, ⟨_cb, _⟩⟩ := hW; go_simp⟩) (by assumption) ?_
      simp only [Act.put, List.setIfInBounds_toArray, List.set_cons_zero, List.set_cons_succ]
      refine takeH 6 (some 54) (.pointer (some ⟨a, 1, none⟩)) rfl rfl (by kernel_rfl) (by kernel_rfl) (by kernel_rfl) (fun _ _ _ h => h) (Or.inl ⟨rfl, fun W hW => by obtain ⟨⟨_ca, _⟩, ⟨_cb, _⟩⟩ := hW; go_simp⟩) (by assumption) ?_
      simp only [Act.put, List.setIfInBounds_toArray, List.set_cons_zero, List.set_cons_succ]
      refine takeH 7 (some 55) (.agg (gC m)) rfl rfl (by kernel_rfl) (by kernel_rfl) (by kernel_rfl) (fun _ _ _ h => h) (yg_load rfl (.tmp 54) rfl a 1 m rfl (fun W h => h.1.2)) (by assumption) ?_
      simp only [Act.put, List.setIfInBounds_toArray, List.set_cons_zero, List.set_cons_succ]
      refine takeH 8 (some 56) (.pointer (some ⟨b, 0, none⟩)) rfl rfl (by kernel_rfl) (by kernel_rfl) (by kernel_rfl) (fun _ _ _ h => h) (Or.inl ⟨rfl, fun W hW => by obtain ⟨⟨_ca, _⟩, ⟨_cb, _⟩⟩ := hW; go_simp⟩) (by assumption) ?_
      simp only [Act.put, List.setIfInBounds_toArray, List.set_cons_zero, List.set_cons_succ]
      refine takeH 9 (some 57) (.pointer (some ⟨b, 0, none⟩)) rfl rfl (by kernel_rfl) (by kernel_rfl) (by kernel_rfl) (fun _ _ _ h => h) (Or.inl ⟨rfl, fun W hW => by obtain ⟨⟨_ca, _⟩, ⟨_cb, _⟩⟩ := hW; go_simp⟩) (by assumption) ?_
      simp only [Act.put, List.setIfInBounds_toArray, List.set_cons_zero, List.set_cons_succ]
      refine takeH 10 (some 58) (.pointer (some ⟨b, 1, none⟩)) rfl rfl (by kernel_rfl) (by kernel_rfl) (by kernel_rfl) (fun _ _ _ h => h) (Or.inl ⟨rfl, fun W hW => by obtain ⟨⟨_ca, _⟩, ⟨_cb, _⟩⟩ := hW; go_simp⟩) (by assumption) ?_
      simp only [Act.put, List.setIfInBounds_toArray, List.set_cons_zero, List.set_cons_succ]
      refine oneH 11 rfl (by kernel_rfl) (fun K' hK => ?_)
      go_simp
      refine (kP _ hHeld.2.2).mono ?_
      rintro e w4 ⟨rfl, bw4⟩
      have Sw4 : SGG w4 a g m ∧ SGG w4 b h n := ⟨hHeld.1.below bw4 hHeld.1.lt, hHeld.2.below bw4 hHeld.2.lt⟩
      refine hK _ _ Sw4 ?_
      clear hK
      refine oneH 12 rfl (by kernel_rfl) (fun K' hK => ?_)
      go_simp
      refine (kN _).mono ?_
      rintro e w5 ⟨c, rfl, hc, s5, bw5⟩
      have Sw5 : SGG w5 a g m ∧ SGG w5 b h n := ⟨Sw4.1.below bw5 Sw4.1.lt, Sw4.2.below bw5 Sw4.2.lt⟩
      refine hK _ _ Sw5 ?_
      clear hK
      refine takeH 13 (some 4) (.pointer (some ⟨c, 0, none⟩)) rfl rfl (by kernel_rfl) (by kernel_rfl) (by kernel_rfl) (fun _ _ _ h => h) (yg_assign rfl (.tmp 60) rfl _ rfl) (by assumption) ?_
      simp only [Act.put, List.setIfInBounds_toArray, List.set_cons_zero, List.set_cons_succ]
      refine wpAnyH_done (by kernel_rfl) ?_ _
      have hs4 : w2.heap.size ≤ w4.heap.size := bw4.size
      have hs2 := B2.size
      have B4 := B2.drew.trans (bw4.mono B2.size)
      go_wp2
      go_ret
      exact ⟨c, rfl, by omega, s5, B4.trans (bw5.mono B4.size)⟩

set_option maxRecDepth 20000 in
set_option maxHeartbeats 3200000 in
theorem sgMinus (a b : Nat) (x y : Int) (w : World) (ha : SG w a x) (hb : SG w b y) (hlx : (limbs x.natAbs).length ≤ 97) (hly : (limbs y.natAbs).length ≤ 97) :
    Calls Try.prog 89 #[.pointer (some ⟨a, 0, none⟩), .pointer (some ⟨b, 0, none⟩)] w fun e w' => ∃ c, e = .returned (.pointer (some ⟨c, 0, none⟩)) ∧ w.heap.size ≤ c ∧ SG w' c (x - y) ∧ Below w.heap.size w w' := by
  have kN := sNegated b y w hb
  have kP := fun c W (h1 : SG W a x) (h2 : SG W c (-y)) => sgPlus a c x (-y) W h1 h2 hlx (by rw [Int.natAbs_neg]; exact hly)
  rw [← Int.sub_eq_add_neg] at kP
  have hna := ha.lt
  go_enter Try.func89, Try.ntmps89
  go_wp2_with fail
  refine kN.mono ?_
  rintro e w1 ⟨c, rfl, hc, s1, b1⟩
  have ha1 := ha.below b1 hna
  have hs1 := b1.size
  go_wp2_with fail
  refine (kP c w1 ha1 s1).mono ?_
  rintro e w2 ⟨d, rfl, hd, s2, b2⟩
  go_wp2
  go_ret
  exact ⟨d, rfl, by omega, s2, b1.trans (b2.mono hs1)⟩

set_option maxRecDepth 20000 in
set_option maxHeartbeats 3200000 in
theorem sgTimes (a b : Nat) (x y : Int) (w : World) (ha : SG w a x) (hb : SG w b y) (hl : (limbs x.natAbs).length + (limbs y.natAbs).length ≤ 98) :
    Calls Try.prog 73 #[.pointer (some ⟨a, 0, none⟩), .pointer (some ⟨b, 0, none⟩)] w fun e w' => ∃ c, e = .returned (.pointer (some ⟨c, 0, none⟩)) ∧ w.heap.size ≤ c ∧ SG w' c (x * y) ∧ Below w.heap.size w w' := by
  have HA := ha.sgg
  have HB := hb.sgg
  have hv := sg_mul (sval x) (sval y)
  have kT := fun W (q1 : GA W a 1 x.natAbs) (q2 : GA W b 1 y.natAbs) => gTimes a 1 b 1 x.natAbs y.natAbs W hl q1 q2
  have hl3 : (limbs (x.natAbs * y.natAbs)).length ≤ 98 := by have := mul_limbs_len x.natAbs y.natAbs; omega
  have kN := fun W => newSigned_c (decide (x < 0) != decide (y < 0)) (x.natAbs * y.natAbs) W hl3
  simp only [hv] at kN
  generalize x.natAbs = m at *
  generalize y.natAbs = n at *
  generalize decide (x < 0) = g at *
  generalize decide (y < 0) = h at *
  have hna := ha.lt
  have hnb := hb.lt
  obtain ⟨N, hN⟩ : ∃ N, m * n = N := ⟨_, rfl⟩
  simp only [hN] at kN kT
  generalize x * y = z at *
  have hBd : Below w.heap.size w w.drew := (Below.refl w.heap.size w).drew
  obtain ⟨gh, hgh⟩ : ∃ q, (g != h) = q := ⟨_, rfl⟩
  simp only [hgh] at kN
  have HG : Hid ((g != h) = gh) := hgh
  clear ha hb hv hl hN hl3 hgh
  go_enter Try.func73, Try.ntmps73
  go_wp2_with fail
  refine wp_region_held_drew (S := fun W => SGG W a g m ∧ SGG W b h n) (by kernel_rfl) ⟨HA.drew, HB.drew⟩ ?_
  intro hHeld
  refine takeH 0 (some 5) (.pointer (some ⟨a, 0, none⟩)) rfl rfl (by kernel_rfl) (by kernel_rfl) (by kernel_rfl) (fun _ _ _ h => h) (Or.inl ⟨rfl, fun W hW => by obtain ⟨⟨_ca, _⟩, ⟨_cb, _⟩⟩ := hW; go_simp⟩) (by assumption) ?_
  simp only [Act.put, List.setIfInBounds_toArray, List.set_cons_zero, List.set_cons_succ]
  refine takeH 1 (some 6) (.pointer (some ⟨a, 0, none⟩)) rfl rfl (by kernel_rfl) (by kernel_rfl) (by kernel_rfl) (fun _ _ _ h => h) (Or.inl ⟨rfl, fun W hW => by obtain ⟨⟨_ca, _⟩, ⟨_cb, _⟩⟩ := hW; go_simp⟩) (by assumption) ?_
  simp only [Act.put, List.setIfInBounds_toArray, List.set_cons_zero, List.set_cons_succ]
  refine takeH 2 (some 7) (.pointer (some ⟨a, 0, none⟩)) rfl rfl (by kernel_rfl) (by kernel_rfl) (by kernel_rfl) (fun _ _ _ h => h) (Or.inl ⟨rfl, fun W hW => by obtain ⟨⟨_ca, _⟩, ⟨_cb, _⟩⟩ := hW; go_simp⟩) (by assumption) ?_
  simp only [Act.put, List.setIfInBounds_toArray, List.set_cons_zero, List.set_cons_succ]
  refine takeH 3 (some 8) (.bool g) rfl rfl (by kernel_rfl) (by kernel_rfl) (by kernel_rfl) (fun _ _ _ h => h) (Or.inl ⟨rfl, fun W hW => by obtain ⟨⟨_ca, _⟩, ⟨_cb, _⟩⟩ := hW; go_simp⟩) (by assumption) ?_
  simp only [Act.put, List.setIfInBounds_toArray, List.set_cons_zero, List.set_cons_succ]
  refine takeH 4 (some 9) (.pointer (some ⟨b, 0, none⟩)) rfl rfl (by kernel_rfl) (by kernel_rfl) (by kernel_rfl) (fun _ _ _ h => h) (Or.inl ⟨rfl, fun W hW => by obtain ⟨⟨_ca, _⟩, ⟨_cb, _⟩⟩ := hW; go_simp⟩) (by assumption) ?_
  simp only [Act.put, List.setIfInBounds_toArray, List.set_cons_zero, List.set_cons_succ]
  refine takeH 5 (some 10) (.pointer (some ⟨b, 0, none⟩)) rfl rfl (by kernel_rfl) (by kernel_rfl) (by kernel_rfl) (fun _ _ _ h => h) (Or.inl ⟨rfl, fun W hW => by obtain ⟨⟨_ca, _⟩, ⟨_cb, _⟩⟩ := hW; go_simp⟩) (by assumption) ?_
  simp only [Act.put, List.setIfInBounds_toArray, List.set_cons_zero, List.set_cons_succ]
  refine takeH 6 (some 11) (.pointer (some ⟨b, 0, none⟩)) rfl rfl (by kernel_rfl) (by kernel_rfl) (by kernel_rfl) (fun _ _ _ h => h) (Or.inl ⟨rfl, fun W hW => by obtain ⟨⟨_ca, _⟩, ⟨_cb, _⟩⟩ := hW; go_simp⟩) (by assumption) ?_
  simp only [Act.put, List.setIfInBounds_toArray, List.set_cons_zero, List.set_cons_succ]
  refine takeH 7 (some 12) (.bool h) rfl rfl (by kernel_rfl) (by kernel_rfl) (by kernel_rfl) (fun _ _ _ h => h) (Or.inl ⟨rfl, fun W hW => by obtain ⟨⟨_ca, _⟩, ⟨_cb, _⟩⟩ := hW; go_simp⟩) (by assumption) ?_
  simp only [Act.put, List.setIfInBounds_toArray, List.set_cons_zero, List.set_cons_succ]
  refine takeH 8 (some 13) (.bool gh) rfl rfl (by kernel_rfl) (by kernel_rfl) (by kernel_rfl) (fun _ _ _ h => h) (Or.inl ⟨rfl, fun W hW => by have hq := HG.out; cases g <;> cases h <;> simp at hq <;> subst hq <;> go_simp⟩) (by assumption) ?_
  simp only [Act.put, List.setIfInBounds_toArray, List.set_cons_zero, List.set_cons_succ]
  refine takeH 9 (some 14) (.pointer (some ⟨a, 0, none⟩)) rfl rfl (by kernel_rfl) (by kernel_rfl) (by kernel_rfl) (fun _ _ _ h => h) (Or.inl ⟨rfl, fun W hW => by obtain ⟨⟨_ca, _⟩, ⟨_cb, _⟩⟩ := hW; go_simp⟩) (by assumption) ?_
  simp only [Act.put, List.setIfInBounds_toArray, List.set_cons_zero, List.set_cons_succ]
  refine takeH 10 (some 15) (.pointer (some ⟨a, 0, none⟩)) rfl rfl (by kernel_rfl) (by kernel_rfl) (by kernel_rfl) (fun _ _ _ h => h) (Or.inl ⟨rfl, fun W hW => by obtain ⟨⟨_ca, _⟩, ⟨_cb, _⟩⟩ := hW; go_simp⟩) (by assumption) ?_
  simp only [Act.put, List.setIfInBounds_toArray, List.set_cons_zero, List.set_cons_succ]
  refine takeH 11 (some 16) (.pointer (some ⟨a, 1, none⟩)) rfl rfl (by kernel_rfl) (by kernel_rfl) (by kernel_rfl) (fun _ _ _ h => h) (Or.inl ⟨rfl, fun W hW => by obtain ⟨⟨_ca, _⟩, ⟨_cb, _⟩⟩ := hW; go_simp⟩) (by assumption) ?_
  simp only [Act.put, List.setIfInBounds_toArray, List.set_cons_zero, List.set_cons_succ]
  refine takeH 12 (some 17) (.pointer (some ⟨b, 0, none⟩)) rfl rfl (by kernel_rfl) (by kernel_rfl) (by kernel_rfl) (fun _ _ _ h => h) (Or.inl ⟨rfl, fun W hW => by obtain ⟨⟨_ca, _⟩, ⟨_cb, _⟩⟩ := hW; go_simp⟩) (by assumption) ?_
  simp only [Act.put, List.setIfInBounds_toArray, List.set_cons_zero, List.set_cons_succ]
  refine takeH 13 (some 18) (.pointer (some ⟨b, 0, none⟩)) rfl rfl (by kernel_rfl) (by kernel_rfl) (by kernel_rfl) (fun _ _ _ h => h) (Or.inl ⟨rfl, fun W hW => by obtain ⟨⟨_ca, _⟩, ⟨_cb, _⟩⟩ := hW; go_simp⟩) (by assumption) ?_
  simp only [Act.put, List.setIfInBounds_toArray, List.set_cons_zero, List.set_cons_succ]
  refine takeH 14 (some 19) (.pointer (some ⟨b, 1, none⟩)) rfl rfl (by kernel_rfl) (by kernel_rfl) (by kernel_rfl) (fun _ _ _ h => h) (Or.inl ⟨rfl, fun W hW => by obtain ⟨⟨_ca, _⟩, ⟨_cb, _⟩⟩ := hW; go_simp⟩) (by assumption) ?_
  simp only [Act.put, List.setIfInBounds_toArray, List.set_cons_zero, List.set_cons_succ]
  refine oneH 15 rfl (by kernel_rfl) (fun K' hK => ?_)
  go_simp
  refine (kT _ hHeld.1.2 hHeld.2.2).mono ?_
  rintro e w4 ⟨rfl, bw4⟩
  have Sw4 : SGG w4 a g m ∧ SGG w4 b h n := ⟨hHeld.1.below bw4 hHeld.1.lt, hHeld.2.below bw4 hHeld.2.lt⟩
  refine hK _ _ Sw4 ?_
  clear hK
  refine oneH 16 rfl (by kernel_rfl) (fun K' hK => ?_)
  go_simp
  refine (kN _).mono ?_
  rintro e w5 ⟨c, rfl, hc, s5, bw5⟩
  have Sw5 : SGG w5 a g m ∧ SGG w5 b h n := ⟨Sw4.1.below bw5 Sw4.1.lt, Sw4.2.below bw5 Sw4.2.lt⟩
  refine hK _ _ Sw5 ?_
  clear hK
  refine takeH 17 (some 4) (.pointer (some ⟨c, 0, none⟩)) rfl rfl (by kernel_rfl) (by kernel_rfl) (by kernel_rfl) (fun _ _ _ h => h) (yg_assign rfl (.tmp 21) rfl _ rfl) (by assumption) ?_
  simp only [Act.put, List.setIfInBounds_toArray, List.set_cons_zero, List.set_cons_succ]
  refine wpAnyH_done (by kernel_rfl) ?_ _
  have hs4 : w.heap.size ≤ w4.heap.size := bw4.size
  go_wp2
  go_ret
  exact ⟨c, rfl, by omega, s5, hBd.trans ((bw4.mono hBd.size).trans (bw5.mono hs4))⟩

end Go.Proofs.Ytlpfjpbnedankaa

/- The program's shifted of a number with a sign, by its contract. -/
namespace Go.Proofs.Ytlpfjpbnedankaa
open Go.RowKit
set_option linter.unusedSimpArgs false

theorem SGG.tn {w w' : World} {b m : Nat} {g : Bool} {S : List Nat} (h : SGG w b g m) (ht : Tn S w w') (hS : b ∉ S) : SGG w' b g m := by
  have hk := ht.block b h.lt hS
  exact ⟨(World.cell?_of_block (w := w) (a := ⟨b, 0, none⟩) hk).trans h.1, h.2.tn ht hS⟩
theorem basePowG (k : Nat) : 16777216 ^ k = 2 ^ (24 * k) := by rw [Nat.pow_mul]
theorem down_len (m k : Nat) : m / 2 ^ k = 0 ∨ k / 24 + (limbs (m / 2 ^ k)).length ≤ (limbs m).length := by
  have h1 := limbs_lt m
  have hk : (2 : Nat) ^ k = 16777216 ^ (k / 24) * 2 ^ (k % 24) := by
    rw [basePowG, ← Nat.pow_add]
    congr 1
    omega
  have hp : 0 < (2 : Nat) ^ (k % 24) := Nat.pow_pos (by omega)
  have hb : 0 < (16777216 : Nat) ^ (k / 24) := Nat.pow_pos (by omega)
  have hle : (16777216 : Nat) ^ (k / 24) ≤ 2 ^ k := by rw [hk]; exact Nat.le_mul_of_pos_right _ hp
  by_cases ht : (limbs m).length ≤ k / 24
  · left
    have h2 := Nat.pow_le_pow_right (by omega : 0 < 16777216) ht
    exact Nat.div_eq_of_lt (by omega)
  · right
    have h3 : m / 2 ^ k * 2 ^ k ≤ m := Nat.div_mul_le_self _ _
    have h4 : m / 2 ^ k * 16777216 ^ (k / 24) ≤ m := Nat.le_trans (Nat.mul_le_mul_left _ hle) h3
    have e : (16777216 : Nat) ^ (limbs m).length = 16777216 ^ ((limbs m).length - k / 24) * 16777216 ^ (k / 24) := by
      rw [← Nat.pow_add]
      congr 1
      omega
    have h5 : m / 2 ^ k < 16777216 ^ ((limbs m).length - k / 24) := by
      apply Nat.lt_of_mul_lt_mul_right (a := 16777216 ^ (k / 24))
      omega
    have := limbs_len_le _ _ h5
    omega
theorem edivG {x z P : Int} (hP : 0 < P) (h1 : z * P ≤ x) (h2 : x < z * P + P) : x / P = z := by
  have h3 := (Int.le_ediv_iff_mul_le hP).2 h1
  have h4 : x / P < z + 1 := (Int.ediv_lt_iff_lt_mul hP).2 (by rw [Int.add_mul, Int.one_mul]; exact h2)
  omega
theorem floorG (m k : Nat) : (m / 2 ^ k * 2 ^ k = m → -((m / 2 ^ k : Nat) : Int) = -(m : Int) / 2 ^ k) ∧ (m / 2 ^ k * 2 ^ k ≠ m → -((m / 2 ^ k + 1 : Nat) : Int) = -(m : Int) / 2 ^ k) := by
  have hP : (0 : Int) < 2 ^ k := Int.pow_pos (by omega)
  have e1 : ((2 ^ k : Nat) : Int) = (2 : Int) ^ k := by simp
  have hd := Nat.div_add_mod m (2 ^ k)
  have hm := Nat.mod_lt m (show 0 < 2 ^ k from Nat.pow_pos (by omega))
  rw [Nat.mul_comm] at hd
  have hd' : ((m / 2 ^ k : Nat) : Int) * 2 ^ k + ((m % 2 ^ k : Nat) : Int) = (m : Int) := by rw [← e1]; exact_mod_cast hd
  constructor
  · intro h
    symm
    apply edivG hP
    · have : ((m / 2 ^ k : Nat) : Int) * 2 ^ k = (m : Int) := by rw [← e1]; exact_mod_cast h
      rw [Int.neg_mul]; omega
    · have : ((m / 2 ^ k : Nat) : Int) * 2 ^ k = (m : Int) := by rw [← e1]; exact_mod_cast h
      rw [Int.neg_mul]; omega
  · intro h
    have hr : 0 < m % 2 ^ k := by
      apply Nat.pos_of_ne_zero
      intro h0
      exact h (by omega)
    symm
    apply edivG hP
    · rw [Int.neg_mul, show ((m / 2 ^ k + 1 : Nat) : Int) = ((m / 2 ^ k : Nat) : Int) + 1 by omega, Int.add_mul, Int.one_mul]
      omega
    · rw [Int.neg_mul, show ((m / 2 ^ k + 1 : Nat) : Int) = ((m / 2 ^ k : Nat) : Int) + 1 by omega, Int.add_mul, Int.one_mul]
      omega

set_option maxRecDepth 20000 in
set_option maxHeartbeats 3200000 in
/-- shifted, upwards. -/
theorem sgUp (a : Nat) (x : Int) (k : Nat) (w : World) (ha : SG w a x) (hl : k / 24 + (limbs x.natAbs).length + 1 ≤ 98) (hk : k ≤ 100000) :
    Calls Try.prog 34 #[.pointer (some ⟨a, 0, none⟩), .int .i64 k] w fun e w' => ∃ c, e = .returned (.pointer (some ⟨c, 0, none⟩)) ∧ w.heap.size ≤ c ∧ SG w' c (x * 2 ^ k) ∧ Below w.heap.size w w' := by
  have HA := ha.sgg
  have hv : (if decide (x < 0) = true then -((x.natAbs * 2 ^ k : Nat) : Int) else ((x.natAbs * 2 ^ k : Nat) : Int)) = x * 2 ^ k := by
    have h1 := sval x
    generalize decide (x < 0) = g at *
    generalize x.natAbs = m at *
    subst h1
    cases g <;> simp [Int.neg_mul]
  have hl3 : (limbs (x.natAbs * 2 ^ k)).length ≤ 98 := by
    have h1 := limbs_lt x.natAbs
    refine Nat.le_trans (limbs_len_le _ (k / 24 + (limbs x.natAbs).length + 1) ?_) hl
    have hk2 : (2 : Nat) ^ k = 16777216 ^ (k / 24) * 2 ^ (k % 24) := by
      rw [basePowG, ← Nat.pow_add]
      congr 1
      omega
    have h2 : (2 : Nat) ^ (k % 24) ≤ 2 ^ 24 := Nat.pow_le_pow_right (by omega) (by omega)
    have h3 : (2 : Nat) ^ k ≤ 16777216 ^ (k / 24) * 16777216 := by rw [hk2]; exact Nat.mul_le_mul_left _ h2
    have h4 : x.natAbs * 2 ^ k < 16777216 ^ (limbs x.natAbs).length * 2 ^ k := Nat.mul_lt_mul_of_pos_right h1 (Nat.pow_pos (by omega))
    have h5 : 16777216 ^ (limbs x.natAbs).length * 2 ^ k ≤ 16777216 ^ (limbs x.natAbs).length * (16777216 ^ (k / 24) * 16777216) := Nat.mul_le_mul_left _ h3
    have e : (16777216 : Nat) ^ (k / 24 + (limbs x.natAbs).length + 1) = 16777216 ^ (limbs x.natAbs).length * (16777216 ^ (k / 24) * 16777216) := by
      rw [Nat.pow_succ, Nat.pow_add]
      rw [Nat.mul_comm (16777216 ^ (k / 24)) (16777216 ^ (limbs x.natAbs).length), Nat.mul_assoc]
    omega
  have kN := fun W => newSigned_c (decide (x < 0)) (x.natAbs * 2 ^ k) W hl3
  simp only [hv] at kN
  have kU := fun W (q : GA W a 1 x.natAbs) => gUp a 1 x.natAbs k W hl hk q
  generalize x.natAbs * 2 ^ k = N at *
  generalize x * 2 ^ k = z at *
  generalize x.natAbs = m at *
  generalize decide (x < 0) = g at *
  have hna := ha.lt
  have hBd : Below w.heap.size w w.drew := (Below.refl w.heap.size w).drew
  clear ha hv hl3
  go_enter Try.func34, Try.ntmps34
  go_wp2_with fail
  refine wp_region_held_drew (S := fun W => SGG W a g m) (by kernel_rfl) HA.drew ?_
  intro hHeld
  refine takeH 0 (some 9) (.pointer (some ⟨a, 0, none⟩)) rfl rfl (by kernel_rfl) (by kernel_rfl) (by kernel_rfl) (fun _ _ _ h => h) (Or.inl ⟨rfl, fun W hW => by obtain ⟨_ca, _⟩ := hW; go_simp⟩) (by assumption) ?_
  simp only [Act.put, List.setIfInBounds_toArray, List.set_cons_zero, List.set_cons_succ]
  refine takeH 1 (some 10) (.pointer (some ⟨a, 0, none⟩)) rfl rfl (by kernel_rfl) (by kernel_rfl) (by kernel_rfl) (fun _ _ _ h => h) (Or.inl ⟨rfl, fun W hW => by obtain ⟨_ca, _⟩ := hW; go_simp⟩) (by assumption) ?_
  simp only [Act.put, List.setIfInBounds_toArray, List.set_cons_zero, List.set_cons_succ]
  refine takeH 2 (some 11) (.pointer (some ⟨a, 0, none⟩)) rfl rfl (by kernel_rfl) (by kernel_rfl) (by kernel_rfl) (fun _ _ _ h => h) (Or.inl ⟨rfl, fun W hW => by obtain ⟨_ca, _⟩ := hW; go_simp⟩) (by assumption) ?_
  simp only [Act.put, List.setIfInBounds_toArray, List.set_cons_zero, List.set_cons_succ]
  refine takeH 3 (some 12) (.bool g) rfl rfl (by kernel_rfl) (by kernel_rfl) (by kernel_rfl) (fun _ _ _ h => h) (Or.inl ⟨rfl, fun W hW => by obtain ⟨_ca, _⟩ := hW; go_simp⟩) (by assumption) ?_
  simp only [Act.put, List.setIfInBounds_toArray, List.set_cons_zero, List.set_cons_succ]
  refine takeH 4 (some 13) (.pointer (some ⟨a, 0, none⟩)) rfl rfl (by kernel_rfl) (by kernel_rfl) (by kernel_rfl) (fun _ _ _ h => h) (Or.inl ⟨rfl, fun W hW => by obtain ⟨_ca, _⟩ := hW; go_simp⟩) (by assumption) ?_
  simp only [Act.put, List.setIfInBounds_toArray, List.set_cons_zero, List.set_cons_succ]
  refine takeH 5 (some 14) (.pointer (some ⟨a, 0, none⟩)) rfl rfl (by kernel_rfl) (by kernel_rfl) (by kernel_rfl) (fun _ _ _ h => h) (Or.inl ⟨rfl, fun W hW => by obtain ⟨_ca, _⟩ := hW; go_simp⟩) (by assumption) ?_
  simp only [Act.put, List.setIfInBounds_toArray, List.set_cons_zero, List.set_cons_succ]
  refine takeH 6 (some 15) (.pointer (some ⟨a, 1, none⟩)) rfl rfl (by kernel_rfl) (by kernel_rfl) (by kernel_rfl) (fun _ _ _ h => h) (Or.inl ⟨rfl, fun W hW => by obtain ⟨_ca, _⟩ := hW; go_simp⟩) (by assumption) ?_
  simp only [Act.put, List.setIfInBounds_toArray, List.set_cons_zero, List.set_cons_succ]
  refine takeH 7 (some 16) (.int .i64 k) rfl rfl (by kernel_rfl) (by kernel_rfl) (by kernel_rfl) (fun _ _ _ h => h) (Or.inl ⟨rfl, fun W hW => by obtain ⟨_ca, _⟩ := hW; go_simp⟩) (by assumption) ?_
  simp only [Act.put, List.setIfInBounds_toArray, List.set_cons_zero, List.set_cons_succ]
  refine oneH 8 rfl (by kernel_rfl) (fun K' hK => ?_)
  go_simp
  refine (kU _ hHeld.2).mono ?_
  rintro e w4 ⟨rfl, b4⟩
  have S4 := hHeld.below b4 hHeld.lt
  refine hK _ _ S4 ?_
  clear hK
  refine oneH 9 rfl (by kernel_rfl) (fun K' hK => ?_)
  go_simp
  refine (kN _).mono ?_
  rintro e w5 ⟨c, rfl, hc, s5, b5⟩
  have S5 := S4.below b5 S4.lt
  refine hK _ _ S5 ?_
  clear hK
  refine takeH 10 (some 4) (.pointer (some ⟨c, 0, none⟩)) rfl rfl (by kernel_rfl) (by kernel_rfl) (by kernel_rfl) (fun _ _ _ h => h) (yg_assign rfl (.tmp 18) rfl _ rfl) (by assumption) ?_
  simp only [Act.put, List.setIfInBounds_toArray, List.set_cons_zero, List.set_cons_succ]
  refine wpAnyH_done (by kernel_rfl) ?_ _
  have hs4 : w.heap.size ≤ w4.heap.size := b4.size
  go_wp2
  go_ret
  exact ⟨c, rfl, by omega, s5, hBd.trans ((b4.mono hBd.size).trans (b5.mono hs4))⟩

set_option maxRecDepth 20000 in
set_option maxHeartbeats 3200000 in
/-- shifted, downwards: the floor. -/
theorem sgDown (a : Nat) (x k : Int) (j : Nat) (w : World) (ha : SG w a x) (hj : -k = (j : Int)) (hj0 : 0 < j) (hl : (limbs x.natAbs).length ≤ 96) (hk : j ≤ 2300) :
    Calls Try.prog 34 #[.pointer (some ⟨a, 0, none⟩), .int .i64 k] w fun e w' => ∃ c, e = .returned (.pointer (some ⟨c, 0, none⟩)) ∧ w.heap.size ≤ c ∧ SG w' c (x / 2 ^ j) ∧ Below w.heap.size w w' := by
  have HA := ha.sgg
  have vx := sval x
  have kD : ∀ W, GA W a 1 x.natAbs → Calls Try.prog 69 #[.pointer (some ⟨a, 1, none⟩), .int .i64 (-k)] W fun e w' => e = .returned (.agg (gC (x.natAbs / 2 ^ j))) ∧ Below W.heap.size W w' := fun W q => by rw [hj]; exact gDown a 1 x.natAbs j W (by omega) (by omega) q
  have hq : j / 24 + (limbs (x.natAbs / 2 ^ j)).length + 1 ≤ 98 := by
    rcases down_len x.natAbs j with h | h
    · rw [h, limbs_zero]; simp; omega
    · omega
  have kU : ∀ f W, GA W f 0 (x.natAbs / 2 ^ j) → Calls Try.prog 68 #[.pointer (some ⟨f, 0, none⟩), .int .i64 (-k)] W fun e w' => e = .returned (.agg (gC (x.natAbs / 2 ^ j * 2 ^ j))) ∧ Below W.heap.size W w' := fun f W q => by rw [hj]; exact gUp f 0 (x.natAbs / 2 ^ j) j W hq (by omega) q
  have hle : x.natAbs / 2 ^ j * 2 ^ j ≤ x.natAbs := Nat.div_mul_le_self _ _
  have hlu : (limbs (x.natAbs / 2 ^ j * 2 ^ j)).length ≤ 98 := Nat.le_trans (limbs_mono hle) (by omega)
  have hlq : (limbs (x.natAbs / 2 ^ j)).length ≤ 96 := Nat.le_trans (limbs_mono (Nat.div_le_self _ _)) hl
  have kO := fun f W (q1 : GA W f 0 (x.natAbs / 2 ^ j * 2 ^ j)) (q2 : GA W a 1 x.natAbs) => gOrder f 0 a 1 (x.natAbs / 2 ^ j * 2 ^ j) x.natAbs W q1 q2
  have fn := floorG x.natAbs j
  have hk0 : ¬ (0 ≤ k) := by omega
  have hkb1 : -2300 ≤ k := by omega
  have hna := ha.lt
  obtain ⟨g, hg⟩ : ∃ g, decide (x < 0) = g := ⟨_, rfl⟩
  rw [hg] at HA vx
  clear hg ha
  cases g
  · have hz : (if false = true then -((x.natAbs / 2 ^ j : Nat) : Int) else ((x.natAbs / 2 ^ j : Nat) : Int)) = x / 2 ^ j := by
      simp only [Bool.false_eq_true, if_false] at vx ⊢
      have e : ((x.natAbs / 2 ^ j : Nat) : Int) = (x.natAbs : Int) / 2 ^ j := by simp
      rw [e, vx]
    have kN := fun W => newSigned_c false (x.natAbs / 2 ^ j) W (by omega)
    simp only [hz] at kN
    clear kO fn hle hz vx hj
    generalize x.natAbs / 2 ^ j * 2 ^ j = u at *
    generalize x.natAbs / 2 ^ j = q at *
    generalize x.natAbs = m at *
    generalize x / 2 ^ j = z at *
    go_enter Try.func34, Try.ntmps34
    go_wp2_with fail
    refine (kD _ HA.2).mono ?_
    rintro e w1 ⟨rfl, b1⟩
    have H1 := HA.below b1 hna
    have X0 := GB.made0 w1
    have H1 := H1.below (alloc_below w1 (.cells Try.zeroCells97 97)) H1.lt
    have B1 := b1.alloc b1.size (.cells Try.zeroCells97 97)
    have hs1 := b1.size
    go_wp2_with (first
      | (refine wpN_store rfl (.tmp 5) (.tmp 24) rfl w1.heap.size _ _ q rfl rfl X0 (by omega) ?_; intro w2 X2 t2 s2)
      | (go_at_call 68; fail))
    have H2 := H1.tn t2 (by simp; have := b1.size; omega)
    have B2 := t2.below B1 B1.size (by simp; omega)
    have A2 := GN.ga X2 (by omega)
    obtain ⟨f1, hf1⟩ : ∃ f, w1.heap.size = f := ⟨_, rfl⟩
    rw [hf1] at X2 A2 hs1 ⊢
    have hf2 : f1 < w2.heap.size := A2.lt
    have hB2 := B2.size
    clear X0 H1 B1 t2 s2 b1 hf1 HA
    refine (kU f1 _ A2).mono ?_
    rintro e w3 ⟨rfl, b3⟩
    have H3 := H2.below b3 H2.lt
    have H3 := H3.below (alloc_below w3 (.cells Try.zeroCells97 97)) H3.lt
    have X3 := (GN.below X2 b3 (GN.lt X2)).alloc (.cells Try.zeroCells97 97)
    have B3 := B2.trans (b3.mono B2.size)
    have Y0 := GB.made0 w3
    have hs3 := b3.size
    have B4 := B3.alloc B3.size (.cells Try.zeroCells97 97)
    have hB3 := B3.size
    have ca3 := H3.1
    clear H2 X2 A2 B2 b3
    go_wp2_with (first
        | (refine wpN_store rfl (.tmp 6) (.tmp 27) rfl w3.heap.size _ _ u rfl rfl Y0 (by omega) ?_; intro w4 Y4 t4 s4; have H4 := H3.tn t4 (by simp; omega); have X4 := GN.tn X3 t4 (by simp; omega); have B5 := t4.below B4 B4.size (by simp; omega); have ca4 := H4.1; have Y4' := GN.ga Y4 (by omega); have A4 := GN.ga X4 (by omega)))
    have HZ := H4
    have AZ := A4
    have BZ := B5
    clear H3 X3 Y0 B4 B3 ca3 ca4 kD kU
    refine wp_region_held_drew (S := fun W => SGG W a false m ∧ GA W f1 0 q) (by kernel_rfl) ⟨HZ.drew, AZ.drew⟩ ?_
    intro hHeld
    refine takeH 0 (some 41) (.pointer (some ⟨a, 0, none⟩)) rfl rfl (by kernel_rfl) (by kernel_rfl) (by kernel_rfl) (fun _ _ _ h => h) (Or.inl ⟨rfl, fun W hW => by obtain ⟨⟨_ca, _⟩, _⟩ := hW; go_simp⟩) (by assumption) ?_
    simp only [Act.put, List.setIfInBounds_toArray, List.set_cons_zero, List.set_cons_succ]
    refine takeH 1 (some 42) (.pointer (some ⟨a, 0, none⟩)) rfl rfl (by kernel_rfl) (by kernel_rfl) (by kernel_rfl) (fun _ _ _ h => h) (Or.inl ⟨rfl, fun W hW => by obtain ⟨⟨_ca, _⟩, _⟩ := hW; go_simp⟩) (by assumption) ?_
    simp only [Act.put, List.setIfInBounds_toArray, List.set_cons_zero, List.set_cons_succ]
    refine takeH 2 (some 43) (.pointer (some ⟨a, 0, none⟩)) rfl rfl (by kernel_rfl) (by kernel_rfl) (by kernel_rfl) (fun _ _ _ h => h) (Or.inl ⟨rfl, fun W hW => by obtain ⟨⟨_ca, _⟩, _⟩ := hW; go_simp⟩) (by assumption) ?_
    simp only [Act.put, List.setIfInBounds_toArray, List.set_cons_zero, List.set_cons_succ]
    refine takeH 3 (some 44) (.bool false) rfl rfl (by kernel_rfl) (by kernel_rfl) (by kernel_rfl) (fun _ _ _ h => h) (Or.inl ⟨rfl, fun W hW => by obtain ⟨⟨_ca, _⟩, _⟩ := hW; go_simp⟩) (by assumption) ?_
    simp only [Act.put, List.setIfInBounds_toArray, List.set_cons_zero, List.set_cons_succ]
    refine takeH 4 (some 45) (.agg (gC q)) rfl rfl (by kernel_rfl) (by kernel_rfl) (by kernel_rfl) (fun _ _ _ h => h) (yg_load rfl (.tmp 5) rfl f1 0 q rfl (fun W h => h.2)) (by assumption) ?_
    simp only [Act.put, List.setIfInBounds_toArray, List.set_cons_zero, List.set_cons_succ]
    refine oneH 5 rfl (by kernel_rfl) (fun K' hK => ?_)
    go_simp
    refine (kN _).mono ?_
    rintro e w9 ⟨c, rfl, hc, s9, b9⟩
    have S9 : SGG w9 a false m ∧ GA w9 f1 0 q := ⟨hHeld.1.below b9 hHeld.1.lt, hHeld.2.below b9 hHeld.2.lt⟩
    refine hK _ _ S9 ?_
    clear hK hHeld
    refine takeH 6 (some 4) (.pointer (some ⟨c, 0, none⟩)) rfl rfl (by kernel_rfl) (by kernel_rfl) (by kernel_rfl) (fun _ _ _ h => h) (yg_assign rfl (.tmp 46) rfl _ rfl) (by assumption) ?_
    simp only [Act.put, List.setIfInBounds_toArray, List.set_cons_zero, List.set_cons_succ]
    refine wpAnyH_done (by kernel_rfl) ?_ _
    have hsz := BZ.size
    go_wp2
    go_ret
    exact ⟨c, rfl, Nat.le_trans hsz hc, s9, BZ.drew.trans (b9.mono BZ.drew.size)⟩
  · simp only [if_true] at vx
    have hcl := cmpI_le hle
    by_cases hex : x.natAbs / 2 ^ j * 2 ^ j = x.natAbs
    · have hz : -((x.natAbs / 2 ^ j : Nat) : Int) = x / 2 ^ j := by rw [fn.1 hex, vx]
      have kN := fun W => newSigned_c true (x.natAbs / 2 ^ j) W (by omega)
      simp only [if_true, hz] at kN
      have hc0 : cmpI (x.natAbs / 2 ^ j * 2 ^ j) x.natAbs = 0 := by rw [hex]; unfold cmpI; simp
      simp only [hc0] at kO
      clear fn hle hz vx hj hcl hex hc0
      generalize x.natAbs / 2 ^ j * 2 ^ j = u at *
      generalize x.natAbs / 2 ^ j = q at *
      generalize x.natAbs = m at *
      generalize x / 2 ^ j = z at *
      go_enter Try.func34, Try.ntmps34
      go_wp2_with fail
      refine (kD _ HA.2).mono ?_
      rintro e w1 ⟨rfl, b1⟩
      have H1 := HA.below b1 hna
      have X0 := GB.made0 w1
      have H1 := H1.below (alloc_below w1 (.cells Try.zeroCells97 97)) H1.lt
      have B1 := b1.alloc b1.size (.cells Try.zeroCells97 97)
      have hs1 := b1.size
      go_wp2_with (first
        | (refine wpN_store rfl (.tmp 5) (.tmp 24) rfl w1.heap.size _ _ q rfl rfl X0 (by omega) ?_; intro w2 X2 t2 s2)
        | (go_at_call 68; fail))
      have H2 := H1.tn t2 (by simp; have := b1.size; omega)
      have B2 := t2.below B1 B1.size (by simp; omega)
      have A2 := GN.ga X2 (by omega)
      obtain ⟨f1, hf1⟩ : ∃ f, w1.heap.size = f := ⟨_, rfl⟩
      rw [hf1] at X2 A2 hs1 ⊢
      have hf2 : f1 < w2.heap.size := A2.lt
      have hB2 := B2.size
      clear X0 H1 B1 t2 s2 b1 hf1 HA
      refine (kU f1 _ A2).mono ?_
      rintro e w3 ⟨rfl, b3⟩
      have H3 := H2.below b3 H2.lt
      have H3 := H3.below (alloc_below w3 (.cells Try.zeroCells97 97)) H3.lt
      have X3 := (GN.below X2 b3 (GN.lt X2)).alloc (.cells Try.zeroCells97 97)
      have B3 := B2.trans (b3.mono B2.size)
      have Y0 := GB.made0 w3
      have hs3 := b3.size
      have B4 := B3.alloc B3.size (.cells Try.zeroCells97 97)
      have hB3 := B3.size
      have ca3 := H3.1
      clear H2 X2 A2 B2 b3
      go_wp2_with (first
        | (refine wpN_store rfl (.tmp 6) (.tmp 27) rfl w3.heap.size _ _ u rfl rfl Y0 (by omega) ?_; intro w4 Y4 t4 s4; have H4 := H3.tn t4 (by simp; omega); have X4 := GN.tn X3 t4 (by simp; omega); have B5 := t4.below B4 B4.size (by simp; omega); have ca4 := H4.1; have Y4' := GN.ga Y4 (by omega); have A4 := GN.ga X4 (by omega))
        | (go_at_call 70; refine (kO _ _ Y4' H4.2).mono ?_; rintro e w5 ⟨rfl, b5⟩))
      have HZ := H4.below b5 H4.lt
      have AZ := A4.below b5 A4.lt
      have BZ := B5.trans (b5.mono B5.size)
      clear H3 X3 Y0 B4 B3 ca3 ca4 kD kU kO
      refine wp_region_held_drew (S := fun W => SGG W a true m ∧ GA W f1 0 q) (by kernel_rfl) ⟨HZ.drew, AZ.drew⟩ ?_
      intro hHeld
      refine takeH 0 (some 41) (.pointer (some ⟨a, 0, none⟩)) rfl rfl (by kernel_rfl) (by kernel_rfl) (by kernel_rfl) (fun _ _ _ h => h) (Or.inl ⟨rfl, fun W hW => by obtain ⟨⟨_ca, _⟩, _⟩ := hW; go_simp⟩) (by assumption) ?_
      simp only [Act.put, List.setIfInBounds_toArray, List.set_cons_zero, List.set_cons_succ]
      refine takeH 1 (some 42) (.pointer (some ⟨a, 0, none⟩)) rfl rfl (by kernel_rfl) (by kernel_rfl) (by kernel_rfl) (fun _ _ _ h => h) (Or.inl ⟨rfl, fun W hW => by obtain ⟨⟨_ca, _⟩, _⟩ := hW; go_simp⟩) (by assumption) ?_
      simp only [Act.put, List.setIfInBounds_toArray, List.set_cons_zero, List.set_cons_succ]
      refine takeH 2 (some 43) (.pointer (some ⟨a, 0, none⟩)) rfl rfl (by kernel_rfl) (by kernel_rfl) (by kernel_rfl) (fun _ _ _ h => h) (Or.inl ⟨rfl, fun W hW => by obtain ⟨⟨_ca, _⟩, _⟩ := hW; go_simp⟩) (by assumption) ?_
      simp only [Act.put, List.setIfInBounds_toArray, List.set_cons_zero, List.set_cons_succ]
      refine takeH 3 (some 44) (.bool true) rfl rfl (by kernel_rfl) (by kernel_rfl) (by kernel_rfl) (fun _ _ _ h => h) (Or.inl ⟨rfl, fun W hW => by obtain ⟨⟨_ca, _⟩, _⟩ := hW; go_simp⟩) (by assumption) ?_
      simp only [Act.put, List.setIfInBounds_toArray, List.set_cons_zero, List.set_cons_succ]
      refine takeH 4 (some 45) (.agg (gC q)) rfl rfl (by kernel_rfl) (by kernel_rfl) (by kernel_rfl) (fun _ _ _ h => h) (yg_load rfl (.tmp 5) rfl f1 0 q rfl (fun W h => h.2)) (by assumption) ?_
      simp only [Act.put, List.setIfInBounds_toArray, List.set_cons_zero, List.set_cons_succ]
      refine oneH 5 rfl (by kernel_rfl) (fun K' hK => ?_)
      go_simp
      refine (kN _).mono ?_
      rintro e w9 ⟨c, rfl, hc, s9, b9⟩
      have S9 : SGG w9 a true m ∧ GA w9 f1 0 q := ⟨hHeld.1.below b9 hHeld.1.lt, hHeld.2.below b9 hHeld.2.lt⟩
      refine hK _ _ S9 ?_
      clear hK hHeld
      refine takeH 6 (some 4) (.pointer (some ⟨c, 0, none⟩)) rfl rfl (by kernel_rfl) (by kernel_rfl) (by kernel_rfl) (fun _ _ _ h => h) (yg_assign rfl (.tmp 46) rfl _ rfl) (by assumption) ?_
      simp only [Act.put, List.setIfInBounds_toArray, List.set_cons_zero, List.set_cons_succ]
      refine wpAnyH_done (by kernel_rfl) ?_ _
      have hsz := BZ.size
      go_wp2
      go_ret
      exact ⟨c, rfl, Nat.le_trans hsz hc, s9, BZ.drew.trans (b9.mono BZ.drew.size)⟩
    · have hz : -((x.natAbs / 2 ^ j + 1 : Nat) : Int) = x / 2 ^ j := by rw [fn.2 hex, vx]
      have hq1 := succ_lenG (x.natAbs / 2 ^ j)
      have kN := fun W => newSigned_c true (x.natAbs / 2 ^ j + 1) W (by omega)
      simp only [if_true, hz] at kN
      have kX := fun W => gNext (x.natAbs / 2 ^ j) W (by omega)
      have hc0 : cmpI (x.natAbs / 2 ^ j * 2 ^ j) x.natAbs = -1 := by unfold cmpI; rw [if_pos (by omega)]
      simp only [hc0] at kO
      clear fn hle hz vx hj hcl hex hc0
      generalize x.natAbs / 2 ^ j * 2 ^ j = u at *
      generalize x.natAbs / 2 ^ j = q at *
      generalize x.natAbs = m at *
      generalize x / 2 ^ j = z at *
      go_enter Try.func34, Try.ntmps34
      go_wp2_with fail
      refine (kD _ HA.2).mono ?_
      rintro e w1 ⟨rfl, b1⟩
      have H1 := HA.below b1 hna
      have X0 := GB.made0 w1
      have H1 := H1.below (alloc_below w1 (.cells Try.zeroCells97 97)) H1.lt
      have B1 := b1.alloc b1.size (.cells Try.zeroCells97 97)
      have hs1 := b1.size
      go_wp2_with (first
        | (refine wpN_store rfl (.tmp 5) (.tmp 24) rfl w1.heap.size _ _ q rfl rfl X0 (by omega) ?_; intro w2 X2 t2 s2)
        | (go_at_call 68; fail))
      have H2 := H1.tn t2 (by simp; have := b1.size; omega)
      have B2 := t2.below B1 B1.size (by simp; omega)
      have A2 := GN.ga X2 (by omega)
      obtain ⟨f1, hf1⟩ : ∃ f, w1.heap.size = f := ⟨_, rfl⟩
      rw [hf1] at X2 A2 hs1 ⊢
      have hf2 : f1 < w2.heap.size := A2.lt
      have hB2 := B2.size
      clear X0 H1 B1 t2 s2 b1 hf1 HA
      refine (kU f1 _ A2).mono ?_
      rintro e w3 ⟨rfl, b3⟩
      have H3 := H2.below b3 H2.lt
      have H3 := H3.below (alloc_below w3 (.cells Try.zeroCells97 97)) H3.lt
      have X3 := (GN.below X2 b3 (GN.lt X2)).alloc (.cells Try.zeroCells97 97)
      have B3 := B2.trans (b3.mono B2.size)
      have Y0 := GB.made0 w3
      have hs3 := b3.size
      have B4 := B3.alloc B3.size (.cells Try.zeroCells97 97)
      have hB3 := B3.size
      have ca3 := H3.1
      clear H2 X2 A2 B2 b3
      go_wp2_with (first
        | (refine wpN_store rfl (.tmp 6) (.tmp 27) rfl w3.heap.size _ _ u rfl rfl Y0 (by omega) ?_; intro w4 Y4 t4 s4; have H4 := H3.tn t4 (by simp; omega); have X4 := GN.tn X3 t4 (by simp; omega); have B5 := t4.below B4 B4.size (by simp; omega); have ca4 := H4.1; have Y4' := GN.ga Y4 (by omega); have A4 := GN.ga X4 (by omega))
        | (go_at_call 70; refine (kO _ _ Y4' H4.2).mono ?_; rintro e w5 ⟨rfl, b5⟩; have H5 := H4.below b5 H4.lt; have X5 := GN.below X4 b5 (GN.lt X4); have A5 := A4.below b5 A4.lt; have B6 := B5.trans (b5.mono B5.size))
        | (refine wpA_load rfl (.tmp 5) rfl f1 0 q rfl A5 ?_)
        | (go_at_call 71; refine (kX _).mono ?_; rintro e w6 ⟨rfl, b6⟩; have H6 := H5.below b6 H5.lt; have X6 := GN.below X5 b6 (GN.lt X5); have X6' : GB w6 f1 (pad (limbs q)) ((limbs q).length : Int) := X6; have B7 := B6.trans (b6.mono B6.size))
        | (refine wpN_store rfl (.tmp 5) (.tmp 40) rfl f1 _ _ (q + 1) rfl rfl X6' (by omega) ?_; intro w7 X7 t7 s7))
      have HZ := H6.tn t7 (by simp; omega)
      have AZ := GN.ga X7 (by omega)
      have BZ := t7.below B7 B7.size (by simp; omega)
      clear H3 X3 Y0 B4 B3 ca3 ca4 kD kU kO kX
      refine wp_region_held_drew (S := fun W => SGG W a true m ∧ GA W f1 0 (q + 1)) (by kernel_rfl) ⟨HZ.drew, AZ.drew⟩ ?_
      intro hHeld
      refine takeH 0 (some 41) (.pointer (some ⟨a, 0, none⟩)) rfl rfl (by kernel_rfl) (by kernel_rfl) (by kernel_rfl) (fun _ _ _ h => h) (Or.inl ⟨rfl, fun W hW => by obtain ⟨⟨_ca, _⟩, _⟩ := hW; go_simp⟩) (by assumption) ?_
      simp only [Act.put, List.setIfInBounds_toArray, List.set_cons_zero, List.set_cons_succ]
      refine takeH 1 (some 42) (.pointer (some ⟨a, 0, none⟩)) rfl rfl (by kernel_rfl) (by kernel_rfl) (by kernel_rfl) (fun _ _ _ h => h) (Or.inl ⟨rfl, fun W hW => by obtain ⟨⟨_ca, _⟩, _⟩ := hW; go_simp⟩) (by assumption) ?_
      simp only [Act.put, List.setIfInBounds_toArray, List.set_cons_zero, List.set_cons_succ]
      refine takeH 2 (some 43) (.pointer (some ⟨a, 0, none⟩)) rfl rfl (by kernel_rfl) (by kernel_rfl) (by kernel_rfl) (fun _ _ _ h => h) (Or.inl ⟨rfl, fun W hW => by obtain ⟨⟨_ca, _⟩, _⟩ := hW; go_simp⟩) (by assumption) ?_
      simp only [Act.put, List.setIfInBounds_toArray, List.set_cons_zero, List.set_cons_succ]
      refine takeH 3 (some 44) (.bool true) rfl rfl (by kernel_rfl) (by kernel_rfl) (by kernel_rfl) (fun _ _ _ h => h) (Or.inl ⟨rfl, fun W hW => by obtain ⟨⟨_ca, _⟩, _⟩ := hW; go_simp⟩) (by assumption) ?_
      simp only [Act.put, List.setIfInBounds_toArray, List.set_cons_zero, List.set_cons_succ]
      refine takeH 4 (some 45) (.agg (gC (q + 1))) rfl rfl (by kernel_rfl) (by kernel_rfl) (by kernel_rfl) (fun _ _ _ h => h) (yg_load rfl (.tmp 5) rfl f1 0 (q + 1) rfl (fun W h => h.2)) (by assumption) ?_
      simp only [Act.put, List.setIfInBounds_toArray, List.set_cons_zero, List.set_cons_succ]
      refine oneH 5 rfl (by kernel_rfl) (fun K' hK => ?_)
      go_simp
      refine (kN _).mono ?_
      rintro e w9 ⟨c, rfl, hc, s9, b9⟩
      have S9 : SGG w9 a true m ∧ GA w9 f1 0 (q + 1) := ⟨hHeld.1.below b9 hHeld.1.lt, hHeld.2.below b9 hHeld.2.lt⟩
      refine hK _ _ S9 ?_
      clear hK hHeld
      refine takeH 6 (some 4) (.pointer (some ⟨c, 0, none⟩)) rfl rfl (by kernel_rfl) (by kernel_rfl) (by kernel_rfl) (fun _ _ _ h => h) (yg_assign rfl (.tmp 46) rfl _ rfl) (by assumption) ?_
      simp only [Act.put, List.setIfInBounds_toArray, List.set_cons_zero, List.set_cons_succ]
      refine wpAnyH_done (by kernel_rfl) ?_ _
      have hsz := BZ.size
      go_wp2
      go_ret
      exact ⟨c, rfl, Nat.le_trans hsz hc, s9, BZ.drew.trans (b9.mono BZ.drew.size)⟩

end Go.Proofs.Ytlpfjpbnedankaa

/- In a seat where SgPlus lies (times stripped or not), SgPM is it. -/
