/- The program's plus, minus and times of numbers with a sign, each by its contract. -/
import Derived.Test.YtjelmbkngjlefaaSWhole
import Derived.Test.YtjelmbkngjlefaaGB
namespace Go.Proofs.Ytjelmbkngjlefaa
open Go.RowKit
set_option linter.unusedSimpArgs false

/-- A sign and a great number behind a pointer. -/
def SGG (w : World) (b : Nat) (g : Bool) (m : Nat) : Prop := w.cell? ⟨b, 0, none⟩ = some (.bool g) ∧ GA w b 1 m
theorem SGG.lt {w : World} {b m : Nat} {g : Bool} (h : SGG w b g m) : b < w.heap.size := h.2.lt
theorem SGG.drew {w : World} {b m : Nat} {g : Bool} (h : SGG w b g m) : SGG w.drew b g m := ⟨h.1, h.2.drew⟩
theorem SGG.below {w w' : World} {b B m : Nat} {g : Bool} (h : SGG w b g m) (hb : Below B w w') (hB : b < B) : SGG w' b g m := ⟨(hb.cell (p := ⟨b, 0, none⟩) hB).trans h.1, h.2.below hb hB⟩
theorem SG.sgg {w : World} {b : Nat} {z : Int} (h : SG w b z) : SGG w b (decide (z < 0)) z.natAbs := ⟨h.sign, h.mag⟩
theorem sval (x : Int) : (if decide (x < 0) = true then -(x.natAbs : Int) else (x.natAbs : Int)) = x := by
  by_cases h : x < 0
  · simp [h]; omega
  · simp [h]; omega
theorem plus_same {g : Bool} {m n : Nat} {x y : Int} (hx : (if g = true then -(m : Int) else (m : Int)) = x) (hy : (if g = true then -(n : Int) else (n : Int)) = y) : (if g = true then -((m + n : Nat) : Int) else ((m + n : Nat) : Int)) = x + y := by
  cases g <;> simp at hx hy ⊢ <;> omega
theorem plus_other {g h : Bool} {m n : Nat} {x y : Int} (hg : g ≠ h) (hx : (if g = true then -(m : Int) else (m : Int)) = x) (hy : (if h = true then -(n : Int) else (n : Int)) = y) :
    (n ≤ m → (if g = true then -((m - n : Nat) : Int) else ((m - n : Nat) : Int)) = x + y) ∧ (m ≤ n → (if h = true then -((n - m : Nat) : Int) else ((n - m : Nat) : Int)) = x + y) := by
  cases g <;> cases h <;> simp at hg hx hy ⊢ <;> omega
theorem sg_mul {g h : Bool} {m n : Nat} {x y : Int} (hx : (if g = true then -(m : Int) else (m : Int)) = x) (hy : (if h = true then -(n : Int) else (n : Int)) = y) : (if (g != h) = true then -((m * n : Nat) : Int) else ((m * n : Nat) : Int)) = x * y := by
  subst hx hy
  cases g <;> cases h <;> simp [Int.neg_mul, Int.mul_neg]

set_option maxRecDepth 20000 in
set_option maxHeartbeats 3200000 in
theorem sgTimes (a b : Nat) (x y : Int) (w : World) (ha : SG w a x) (hb : SG w b y) (hl : (limbs x.natAbs).length + (limbs y.natAbs).length ≤ 98) :
    Calls Try.prog 65 #[.pointer (some ⟨a, 0, none⟩), .pointer (some ⟨b, 0, none⟩)] w fun e w' => ∃ c, e = .returned (.pointer (some ⟨c, 0, none⟩)) ∧ w.heap.size ≤ c ∧ SG w' c (x * y) ∧ Below w.heap.size w w' := by
  have HA := ha.sgg
  have HB := hb.sgg
  have hv := sg_mul (sval x) (sval y)
  have kT := fun W (q1 : GA W a 1 x.natAbs) (q2 : GA W b 1 y.natAbs) => gTimes a 1 b 1 x.natAbs y.natAbs W hl q1 q2
  have hl3 : (limbs (x.natAbs * y.natAbs)).length ≤ 98 := by have := mul_limbs_len x.natAbs y.natAbs; omega
  have kN := fun W => newSigned_c (decide (x < 0) != decide (y < 0)) (x.natAbs * y.natAbs) W hl3
  simp only [hv] at kN
  generalize x.natAbs = m at *
  generalize y.natAbs = n at *
  generalize decide (x < 0) = g at *
  generalize decide (y < 0) = h at *
  have hna := ha.lt
  have hnb := hb.lt
  obtain ⟨N, hN⟩ : ∃ N, m * n = N := ⟨_, rfl⟩
  simp only [hN] at kN kT
  generalize x * y = z at *
  have hBd : Below w.heap.size w w.drew := (Below.refl w.heap.size w).drew
  obtain ⟨gh, hgh⟩ : ∃ q, (g != h) = q := ⟨_, rfl⟩
  simp only [hgh] at kN
  have HG : Hid ((g != h) = gh) := hgh
  clear ha hb hv hl hN hl3 hgh
  go_enter Try.func65, Try.ntmps65
  go_wp2_with fail
  refine wp_region_held_drew (S := fun W => SGG W a g m ∧ SGG W b h n) (by kernel_rfl) ⟨HA.drew, HB.drew⟩ ?_
  intro hHeld
  refine takeH 0 (some 5) (.pointer (some ⟨a, 0, none⟩)) rfl rfl (by kernel_rfl) (by kernel_rfl) (by kernel_rfl) (fun _ _ _ h => h) (Or.inl ⟨rfl, fun W hW => by obtain ⟨⟨_ca, _⟩, ⟨_cb, _⟩⟩ := hW; go_simp⟩) (by assumption) ?_
  simp only [Act.put, List.setIfInBounds_toArray, List.set_cons_zero, List.set_cons_succ]
  refine takeH 1 (some 6) (.pointer (some ⟨a, 0, none⟩)) rfl rfl (by kernel_rfl) (by kernel_rfl) (by kernel_rfl) (fun _ _ _ h => h) (Or.inl ⟨rfl, fun W hW => by obtain ⟨⟨_ca, _⟩, ⟨_cb, _⟩⟩ := hW; go_simp⟩) (by assumption) ?_
  simp only [Act.put, List.setIfInBounds_toArray, List.set_cons_zero, List.set_cons_succ]
  refine takeH 2 (some 7) (.pointer (some ⟨a, 0, none⟩)) rfl rfl (by kernel_rfl) (by kernel_rfl) (by kernel_rfl) (fun _ _ _ h => h) (Or.inl ⟨rfl, fun W hW => by obtain ⟨⟨_ca, _⟩, ⟨_cb, _⟩⟩ := hW; go_simp⟩) (by assumption) ?_
  simp only [Act.put, List.setIfInBounds_toArray, List.set_cons_zero, List.set_cons_succ]
  refine takeH 3 (some 8) (.bool g) rfl rfl (by kernel_rfl) (by kernel_rfl) (by kernel_rfl) (fun _ _ _ h => h) (Or.inl ⟨rfl, fun W hW => by obtain ⟨⟨_ca, _⟩, ⟨_cb, _⟩⟩ := hW; go_simp⟩) (by assumption) ?_
  simp only [Act.put, List.setIfInBounds_toArray, List.set_cons_zero, List.set_cons_succ]
  refine takeH 4 (some 9) (.pointer (some ⟨b, 0, none⟩)) rfl rfl (by kernel_rfl) (by kernel_rfl) (by kernel_rfl) (fun _ _ _ h => h) (Or.inl ⟨rfl, fun W hW => by obtain ⟨⟨_ca, _⟩, ⟨_cb, _⟩⟩ := hW; go_simp⟩) (by assumption) ?_
  simp only [Act.put, List.setIfInBounds_toArray, List.set_cons_zero, List.set_cons_succ]
  refine takeH 5 (some 10) (.pointer (some ⟨b, 0, none⟩)) rfl rfl (by kernel_rfl) (by kernel_rfl) (by kernel_rfl) (fun _ _ _ h => h) (Or.inl ⟨rfl, fun W hW => by obtain ⟨⟨_ca, _⟩, ⟨_cb, _⟩⟩ := hW; go_simp⟩) (by assumption) ?_
  simp only [Act.put, List.setIfInBounds_toArray, List.set_cons_zero, List.set_cons_succ]
  refine takeH 6 (some 11) (.pointer (some ⟨b, 0, none⟩)) rfl rfl (by kernel_rfl) (by kernel_rfl) (by kernel_rfl) (fun _ _ _ h => h) (Or.inl ⟨rfl, fun W hW => by obtain ⟨⟨_ca, _⟩, ⟨_cb, _⟩⟩ := hW; go_simp⟩) (by assumption) ?_
  simp only [Act.put, List.setIfInBounds_toArray, List.set_cons_zero, List.set_cons_succ]
  refine takeH 7 (some 12) (.bool h) rfl rfl (by kernel_rfl) (by kernel_rfl) (by kernel_rfl) (fun _ _ _ h => h) (Or.inl ⟨rfl, fun W hW => by obtain ⟨⟨_ca, _⟩, ⟨_cb, _⟩⟩ := hW; go_simp⟩) (by assumption) ?_
  simp only [Act.put, List.setIfInBounds_toArray, List.set_cons_zero, List.set_cons_succ]
  refine takeH 8 (some 13) (.bool gh) rfl rfl (by kernel_rfl) (by kernel_rfl) (by kernel_rfl) (fun _ _ _ h => h) (Or.inl ⟨rfl, fun W hW => by have hq := HG.out; cases g <;> cases h <;> simp at hq <;> subst hq <;> go_simp⟩) (by assumption) ?_
  simp only [Act.put, List.setIfInBounds_toArray, List.set_cons_zero, List.set_cons_succ]
  refine takeH 9 (some 14) (.pointer (some ⟨a, 0, none⟩)) rfl rfl (by kernel_rfl) (by kernel_rfl) (by kernel_rfl) (fun _ _ _ h => h) (Or.inl ⟨rfl, fun W hW => by obtain ⟨⟨_ca, _⟩, ⟨_cb, _⟩⟩ := hW; go_simp⟩) (by assumption) ?_
  simp only [Act.put, List.setIfInBounds_toArray, List.set_cons_zero, List.set_cons_succ]
  refine takeH 10 (some 15) (.pointer (some ⟨a, 0, none⟩)) rfl rfl (by kernel_rfl) (by kernel_rfl) (by kernel_rfl) (fun _ _ _ h => h) (Or.inl ⟨rfl, fun W hW => by obtain ⟨⟨_ca, _⟩, ⟨_cb, _⟩⟩ := hW; go_simp⟩) (by assumption) ?_
  simp only [Act.put, List.setIfInBounds_toArray, List.set_cons_zero, List.set_cons_succ]
  refine takeH 11 (some 16) (.pointer (some ⟨a, 1, none⟩)) rfl rfl (by kernel_rfl) (by kernel_rfl) (by kernel_rfl) (fun _ _ _ h => h) (Or.inl ⟨rfl, fun W hW => by obtain ⟨⟨_ca, _⟩, ⟨_cb, _⟩⟩ := hW; go_simp⟩) (by assumption) ?_
  simp only [Act.put, List.setIfInBounds_toArray, List.set_cons_zero, List.set_cons_succ]
  refine takeH 12 (some 17) (.pointer (some ⟨b, 0, none⟩)) rfl rfl (by kernel_rfl) (by kernel_rfl) (by kernel_rfl) (fun _ _ _ h => h) (Or.inl ⟨rfl, fun W hW => by obtain ⟨⟨_ca, _⟩, ⟨_cb, _⟩⟩ := hW; go_simp⟩) (by assumption) ?_
  simp only [Act.put, List.setIfInBounds_toArray, List.set_cons_zero, List.set_cons_succ]
  refine takeH 13 (some 18) (.pointer (some ⟨b, 0, none⟩)) rfl rfl (by kernel_rfl) (by kernel_rfl) (by kernel_rfl) (fun _ _ _ h => h) (Or.inl ⟨rfl, fun W hW => by obtain ⟨⟨_ca, _⟩, ⟨_cb, _⟩⟩ := hW; go_simp⟩) (by assumption) ?_
  simp only [Act.put, List.setIfInBounds_toArray, List.set_cons_zero, List.set_cons_succ]
  refine takeH 14 (some 19) (.pointer (some ⟨b, 1, none⟩)) rfl rfl (by kernel_rfl) (by kernel_rfl) (by kernel_rfl) (fun _ _ _ h => h) (Or.inl ⟨rfl, fun W hW => by obtain ⟨⟨_ca, _⟩, ⟨_cb, _⟩⟩ := hW; go_simp⟩) (by assumption) ?_
  simp only [Act.put, List.setIfInBounds_toArray, List.set_cons_zero, List.set_cons_succ]
  refine oneH 15 rfl (by kernel_rfl) (fun K' hK => ?_)
  go_simp
  refine (kT _ hHeld.1.2 hHeld.2.2).mono ?_
  rintro e w4 ⟨rfl, bw4⟩
  have Sw4 : SGG w4 a g m ∧ SGG w4 b h n := ⟨hHeld.1.below bw4 hHeld.1.lt, hHeld.2.below bw4 hHeld.2.lt⟩
  refine hK _ _ Sw4 ?_
  clear hK
  refine oneH 16 rfl (by kernel_rfl) (fun K' hK => ?_)
  go_simp
  refine (kN _).mono ?_
  rintro e w5 ⟨c, rfl, hc, s5, bw5⟩
  have Sw5 : SGG w5 a g m ∧ SGG w5 b h n := ⟨Sw4.1.below bw5 Sw4.1.lt, Sw4.2.below bw5 Sw4.2.lt⟩
  refine hK _ _ Sw5 ?_
  clear hK
  refine takeH 17 (some 4) (.pointer (some ⟨c, 0, none⟩)) rfl rfl (by kernel_rfl) (by kernel_rfl) (by kernel_rfl) (fun _ _ _ h => h) (yg_assign rfl (.tmp 21) rfl _ rfl) (by assumption) ?_
  simp only [Act.put, List.setIfInBounds_toArray, List.set_cons_zero, List.set_cons_succ]
  refine wpAnyH_done (by kernel_rfl) ?_ _
  have hs4 : w.heap.size ≤ w4.heap.size := bw4.size
  go_wp2
  go_ret
  exact ⟨c, rfl, by omega, s5, hBd.trans ((bw4.mono hBd.size).trans (bw5.mono hs4))⟩

end Go.Proofs.Ytjelmbkngjlefaa
