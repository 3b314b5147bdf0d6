/- productsOf of the program, by its contract. -/
import Derived.Test.YtlpfjpbnedankaaProdB0
import Derived.Test.YtlpfjpbnedankaaFB
import Derived.Test.YtlpfjpbnedankaaSC
namespace Go.Proofs.Ytlpfjpbnedankaa
open Go.RowKit
set_option linter.unusedSimpArgs false
set_option linter.unusedVariables false

def loK (d0 d1 d2 d3 : Int) : Nat → Int
  | 0 => d0
  | 1 => lesserI d0 d1
  | 2 => lesserI (lesserI d0 d1) d2
  | _ => lesserI (lesserI (lesserI d0 d1) d2) d3
def hiK (d0 d1 d2 d3 : Int) : Nat → Int
  | 0 => d0
  | 1 => moreI d0 d1
  | 2 => moreI (moreI d0 d1) d2
  | _ => moreI (moreI (moreI d0 d1) d2) d3
theorem lesser_yes {a b c : Int} (h : b < a) (e : c = lesserI a b) : c = b := by rw [e]; unfold lesserI; rw [if_pos h]
theorem lesser_no {a b c : Int} (h : ¬ b < a) (e : c = lesserI a b) : c = a := by rw [e]; unfold lesserI; rw [if_neg h]
theorem more_yes {a b c : Int} (h : a < b) (e : c = moreI a b) : c = b := by rw [e]; unfold moreI; rw [if_pos h]
theorem more_no {a b c : Int} (h : ¬ a < b) (e : c = moreI a b) : c = a := by rw [e]; unfold moreI; rw [if_neg h]
theorem ordLt (a b : Nat) (x y : Int) (w : World) (ha : SG w a x) (hb : SG w b y) (h : x < y) :
    Calls Try.prog 93 #[.pointer (some ⟨a, 0, none⟩), .pointer (some ⟨b, 0, none⟩)] w fun e w' => e = .returned (.int .i64 (-1)) ∧ Below w.heap.size w w' := by
  have k := sOrder a b x y w ha hb
  rw [if_pos h] at k
  exact k
theorem ordGe (a b : Nat) (x y : Int) (w : World) (ha : SG w a x) (hb : SG w b y) (h : ¬ x < y) :
    Calls Try.prog 93 #[.pointer (some ⟨a, 0, none⟩), .pointer (some ⟨b, 0, none⟩)] w fun e w' => ∃ r, e = .returned (.int .i64 r) ∧ 0 ≤ r ∧ r ≤ 1 ∧ Below w.heap.size w w' := by
  have k := sOrder a b x y w ha hb
  rw [if_neg h] at k
  refine k.mono fun e w' ⟨h1, h2⟩ => ⟨_, h1, ?_, ?_, h2⟩ <;> split <;> omega
theorem ordGt (a b : Nat) (x y : Int) (w : World) (ha : SG w a x) (hb : SG w b y) (h : y < x) :
    Calls Try.prog 93 #[.pointer (some ⟨a, 0, none⟩), .pointer (some ⟨b, 0, none⟩)] w fun e w' => e = .returned (.int .i64 1) ∧ Below w.heap.size w w' := by
  have k := sOrder a b x y w ha hb
  rw [if_neg (by omega), if_pos h] at k
  exact k
theorem ordLe (a b : Nat) (x y : Int) (w : World) (ha : SG w a x) (hb : SG w b y) (h : ¬ y < x) :
    Calls Try.prog 93 #[.pointer (some ⟨a, 0, none⟩), .pointer (some ⟨b, 0, none⟩)] w fun e w' => ∃ r, e = .returned (.int .i64 r) ∧ -1 ≤ r ∧ r ≤ 0 ∧ Below w.heap.size w w' := by
  have k := sOrder a b x y w ha hb
  rw [if_neg h] at k
  refine k.mono fun e w' ⟨h1, h2⟩ => ⟨_, h1, ?_, ?_, h2⟩ <;> split <;> omega
theorem arr_eq (g1 g2 g3 g4 : Bool) (W : World) : Sem.run Try.prog (Op.equalIn 10000 127 (.agg #[.bool g1, .bool g2, .bool g3, .bool g4]) (.agg #[.bool false, .bool false, .bool false, .bool false])) W = .ok (!(g1 || g2 || g3 || g4)) W := by
  cases g1 <;> cases g2 <;> cases g3 <;> cases g4 <;> kernel_rfl
set_option maxRecDepth 20000 in
set_option maxHeartbeats 6400000 in
theorem productsOf_pos (p q r s : Nat) (x1 y1 x2 y2 : Int) (w : World) (sp : SG w p x1) (sq : SG w q y1) (sr : SG w r x2) (ss : SG w s y2) (h1 : 0 ≤ x1) (h2 : 0 ≤ y1) (h3 : 0 ≤ x2) (h4 : 0 ≤ y2) (m1 : (limbs x1.natAbs).length ≤ 49) (m2 : (limbs y1.natAbs).length ≤ 49) (m3 : (limbs x2.natAbs).length ≤ 49) (m4 : (limbs y2.natAbs).length ≤ 49) :
    Calls Try.prog 61 #[.agg #[.pointer (some ⟨p, 0, none⟩), .pointer (some ⟨q, 0, none⟩)], .agg #[.pointer (some ⟨r, 0, none⟩), .pointer (some ⟨s, 0, none⟩)]] w (spanE (x1 * x2) (y1 * y2) w) := by
  have hg1 : some (Value.bool (decide (x1 < 0))) = some (Value.bool false) := by rw [decide_eq_false (by omega)]
  have hg2 : some (Value.bool (decide (y1 < 0))) = some (Value.bool false) := by rw [decide_eq_false (by omega)]
  have hg3 : some (Value.bool (decide (x2 < 0))) = some (Value.bool false) := by rw [decide_eq_false (by omega)]
  have hg4 : some (Value.bool (decide (y2 < 0))) = some (Value.bool false) := by rw [decide_eq_false (by omega)]
  have kS := fun W h1' h2' => sgTimes p r x1 x2 W h1' h2' (by omega)
  have kP := fun W h1' h2' => sgTimes q s y1 y2 W h1' h2' (by omega)
  unfold spanE
  clear m1 m2 m3 m4 h1 h2 h3 h4
  generalize x1 * x2 = d1 at *
  generalize y1 * y2 = d2 at *
  have B0_0 : Below w.heap.size w w := Below.refl _ _
  obtain ⟨v1, hv1⟩ : ∃ v, v = w.alloc (.cells #[.pointer (some ⟨p, 0, none⟩), .pointer (some ⟨q, 0, none⟩)] 52) := ⟨_, rfl⟩
  have z1 : v1.heap.size = w.heap.size + 1 := by rw [hv1]; simp
  have bv1 : Below w.heap.size w v1 := by rw [hv1]; exact below1 _ _
  have B0_1 := B0_0.trans (bv1.mono B0_0.size)
  have X0_1 : BoxL v1 w.heap.size w.heap.size [.pointer (some ⟨p, 0, none⟩), .pointer (some ⟨q, 0, none⟩)] := by rw [hv1]; have h := BoxL.made w [.pointer (some ⟨p, 0, none⟩), .pointer (some ⟨q, 0, none⟩)] 52; exact h
  obtain ⟨v2, hv2⟩ : ∃ v, v = v1.alloc (.cells #[.pointer (some ⟨r, 0, none⟩), .pointer (some ⟨s, 0, none⟩)] 52) := ⟨_, rfl⟩
  have z2 : v2.heap.size = w.heap.size + 1 + 1 := by rw [hv2]; simp [z1]
  have bv2 : Below v1.heap.size v1 v2 := by rw [hv2]; exact below1 _ _
  have B0_2 := B0_1.trans (bv2.mono B0_1.size)
  have X0_2 := X0_1.below bv2 (Nat.le_refl _)
  have Y0_2 : BoxL v2 (w.heap.size + 1) (w.heap.size + 1) [.pointer (some ⟨r, 0, none⟩), .pointer (some ⟨s, 0, none⟩)] := by rw [hv2]; have h := BoxL.made v1 [.pointer (some ⟨r, 0, none⟩), .pointer (some ⟨s, 0, none⟩)] 52; rw [z1] at h; exact h
  obtain ⟨v3, hv3⟩ : ∃ v, v = v2.alloc (.cells #[.pointer none, .pointer none] 52) := ⟨_, rfl⟩
  have z3 : v3.heap.size = w.heap.size + 1 + 1 + 1 := by rw [hv3]; simp [z2]
  have bv3 : Below v2.heap.size v2 v3 := by rw [hv3]; exact below1 _ _
  have B0_3 := B0_2.trans (bv3.mono B0_2.size)
  have X0_3 := X0_2.below bv3 (Nat.le_refl _)
  have Y0_3 := Y0_2.below bv3 (Nat.le_refl _)
  have R0_3 : BoxL v3 (w.heap.size + 1 + 1) (w.heap.size + 1 + 1) [.pointer none, .pointer none] := by rw [hv3]; have h := BoxL.made v2 [.pointer none, .pointer none] 52; rw [z2] at h; exact h
  have X0 := X0_3
  have Y0 := Y0_3.mono (by omega : w.heap.size ≤ w.heap.size + 1)
  have R0 := R0_3.mono (by omega : w.heap.size ≤ w.heap.size + 1 + 1)
  have B0 := B0_3
  have sp0 := sp.below B0 sp.lt
  have lt_sp := sp.lt
  have sq0 := sq.below B0 sq.lt
  have lt_sq := sq.lt
  have sr0 := sr.below B0 sr.lt
  have lt_sr := sr.lt
  have ss0 := ss.below B0 ss.lt
  have lt_ss := ss.lt
  clear B0_0 B0_1 B0_2 B0_3 bv1 bv2 bv3 X0_1 X0_2 X0_3 Y0_2 Y0_3 R0_3
  clear sp sq sr ss
  go_enter Try.func61, Try.ntmps61
  go_wp2_with fail
  have hvv : ((w.alloc (.cells #[.pointer (some ⟨p, 0, none⟩), .pointer (some ⟨q, 0, none⟩)] 52)).alloc (.cells #[.pointer (some ⟨r, 0, none⟩), .pointer (some ⟨s, 0, none⟩)] 52)).alloc (.cells #[.pointer none, .pointer none] 52) = v3 := by rw [hv3]; rw [hv2]; rw [hv1]
  rw [hvv]
  clear hvv hv1 hv2 hv3 z1 z2
  clear v1 v2
  have hz0 : w.heap.size + 3 ≤ v3.heap.size := by omega
  clear z3
  obtain ⟨w1, hw1⟩ : ∃ v, Hid (v = v3.drew) := ⟨_, rfl⟩
  have bd : Below v3.heap.size v3 w1 := by rw [hw1.out]; exact (Below.refl v3.heap.size v3).drew
  have B1 := B0.trans (bd.mono B0.size)
  have X1 := X0.below bd (Nat.le_refl _)
  have Y1 := Y0.below bd (Nat.le_refl _)
  have R1 := R0.below bd (Nat.le_refl _)
  have sp1 := sp0.below bd sp0.lt
  have sq1 := sq0.below bd sq0.lt
  have sr1 := sr0.below bd sr0.lt
  have ss1 := ss0.below bd ss0.lt
  clear B0 X0 Y0 R0 sp0 sq0 sr0 ss0 bd
  have hH : (fun W : World => W.cell? ⟨w.heap.size, 0, none⟩ = some (.pointer (some ⟨p, 0, none⟩)) ∧ W.cell? ⟨w.heap.size, 1, none⟩ = some (.pointer (some ⟨q, 0, none⟩)) ∧ W.cell? ⟨w.heap.size + 1, 0, none⟩ = some (.pointer (some ⟨r, 0, none⟩)) ∧ W.cell? ⟨w.heap.size + 1, 1, none⟩ = some (.pointer (some ⟨s, 0, none⟩)) ∧ W.cell? ⟨p, 0, none⟩ = some (.bool false) ∧ W.cell? ⟨q, 0, none⟩ = some (.bool false) ∧ W.cell? ⟨r, 0, none⟩ = some (.bool false) ∧ W.cell? ⟨s, 0, none⟩ = some (.bool false)) w1 := ⟨X1.c 0 _ rfl, X1.c 1 _ rfl, Y1.c 0 _ rfl, Y1.c 1 _ rfl, sp1.sign.trans hg1, sq1.sign.trans hg2, sr1.sign.trans hg3, ss1.sign.trans hg4⟩
  refine wp_region_held_drew (S := fun W => W.cell? ⟨w.heap.size, 0, none⟩ = some (.pointer (some ⟨p, 0, none⟩)) ∧ W.cell? ⟨w.heap.size, 1, none⟩ = some (.pointer (some ⟨q, 0, none⟩)) ∧ W.cell? ⟨w.heap.size + 1, 0, none⟩ = some (.pointer (some ⟨r, 0, none⟩)) ∧ W.cell? ⟨w.heap.size + 1, 1, none⟩ = some (.pointer (some ⟨s, 0, none⟩)) ∧ W.cell? ⟨p, 0, none⟩ = some (.bool false) ∧ W.cell? ⟨q, 0, none⟩ = some (.bool false) ∧ W.cell? ⟨r, 0, none⟩ = some (.bool false) ∧ W.cell? ⟨s, 0, none⟩ = some (.bool false)) (by kernel_rfl) (by rw [← hw1.out]; exact hH) ?_
  intro _
  rw [← hw1.out]
  clear hw1
  refine takeH 0 (some 10) (.pointer (some ⟨w.heap.size, 0, none⟩)) rfl rfl (by kernel_rfl) (by kernel_rfl) (by kernel_rfl) (fun _ _ _ h => h) (Or.inl ⟨rfl, fun W hW => by go_simp⟩) hH ?_
  simp only [Act.put, List.setIfInBounds_toArray, List.set_cons_zero, List.set_cons_succ]
  refine takeH 1 (some 11) (.pointer (some ⟨p, 0, none⟩)) rfl rfl (by kernel_rfl) (by kernel_rfl) (by kernel_rfl) (fun _ _ _ h => h) (Or.inl ⟨rfl, fun W hW => by obtain ⟨l0, l1, l2, l3, l4, l5, l6, l7⟩ := hW; go_simp⟩) hH ?_
  simp only [Act.put, List.setIfInBounds_toArray, List.set_cons_zero, List.set_cons_succ]
  refine takeH 2 (some 12) (.pointer (some ⟨p, 0, none⟩)) rfl rfl (by kernel_rfl) (by kernel_rfl) (by kernel_rfl) (fun _ _ _ h => h) (Or.inl ⟨rfl, fun W hW => by go_simp⟩) hH ?_
  simp only [Act.put, List.setIfInBounds_toArray, List.set_cons_zero, List.set_cons_succ]
  refine takeH 3 (some 13) (.pointer (some ⟨p, 0, none⟩)) rfl rfl (by kernel_rfl) (by kernel_rfl) (by kernel_rfl) (fun _ _ _ h => h) (Or.inl ⟨rfl, fun W hW => by go_simp⟩) hH ?_
  simp only [Act.put, List.setIfInBounds_toArray, List.set_cons_zero, List.set_cons_succ]
  refine takeH 4 (some 14) (.bool false) rfl rfl (by kernel_rfl) (by kernel_rfl) (by kernel_rfl) (fun _ _ _ h => h) (Or.inl ⟨rfl, fun W hW => by obtain ⟨l0, l1, l2, l3, l4, l5, l6, l7⟩ := hW; go_simp⟩) hH ?_
  simp only [Act.put, List.setIfInBounds_toArray, List.set_cons_zero, List.set_cons_succ]
  refine takeH 5 (some 15) (.pointer (some ⟨w.heap.size, 1, none⟩)) rfl rfl (by kernel_rfl) (by kernel_rfl) (by kernel_rfl) (fun _ _ _ h => h) (Or.inl ⟨rfl, fun W hW => by go_simp⟩) hH ?_
  simp only [Act.put, List.setIfInBounds_toArray, List.set_cons_zero, List.set_cons_succ]
  refine takeH 6 (some 16) (.pointer (some ⟨q, 0, none⟩)) rfl rfl (by kernel_rfl) (by kernel_rfl) (by kernel_rfl) (fun _ _ _ h => h) (Or.inl ⟨rfl, fun W hW => by obtain ⟨l0, l1, l2, l3, l4, l5, l6, l7⟩ := hW; go_simp⟩) hH ?_
  simp only [Act.put, List.setIfInBounds_toArray, List.set_cons_zero, List.set_cons_succ]
  refine takeH 7 (some 17) (.pointer (some ⟨q, 0, none⟩)) rfl rfl (by kernel_rfl) (by kernel_rfl) (by kernel_rfl) (fun _ _ _ h => h) (Or.inl ⟨rfl, fun W hW => by go_simp⟩) hH ?_
  simp only [Act.put, List.setIfInBounds_toArray, List.set_cons_zero, List.set_cons_succ]
  refine takeH 8 (some 18) (.pointer (some ⟨q, 0, none⟩)) rfl rfl (by kernel_rfl) (by kernel_rfl) (by kernel_rfl) (fun _ _ _ h => h) (Or.inl ⟨rfl, fun W hW => by go_simp⟩) hH ?_
  simp only [Act.put, List.setIfInBounds_toArray, List.set_cons_zero, List.set_cons_succ]
  refine takeH 9 (some 19) (.bool false) rfl rfl (by kernel_rfl) (by kernel_rfl) (by kernel_rfl) (fun _ _ _ h => h) (Or.inl ⟨rfl, fun W hW => by obtain ⟨l0, l1, l2, l3, l4, l5, l6, l7⟩ := hW; go_simp⟩) hH ?_
  simp only [Act.put, List.setIfInBounds_toArray, List.set_cons_zero, List.set_cons_succ]
  refine takeH 10 (some 20) (.pointer (some ⟨w.heap.size + 1, 0, none⟩)) rfl rfl (by kernel_rfl) (by kernel_rfl) (by kernel_rfl) (fun _ _ _ h => h) (Or.inl ⟨rfl, fun W hW => by go_simp⟩) hH ?_
  simp only [Act.put, List.setIfInBounds_toArray, List.set_cons_zero, List.set_cons_succ]
  refine takeH 11 (some 21) (.pointer (some ⟨r, 0, none⟩)) rfl rfl (by kernel_rfl) (by kernel_rfl) (by kernel_rfl) (fun _ _ _ h => h) (Or.inl ⟨rfl, fun W hW => by obtain ⟨l0, l1, l2, l3, l4, l5, l6, l7⟩ := hW; go_simp⟩) hH ?_
  simp only [Act.put, List.setIfInBounds_toArray, List.set_cons_zero, List.set_cons_succ]
  refine takeH 12 (some 22) (.pointer (some ⟨r, 0, none⟩)) rfl rfl (by kernel_rfl) (by kernel_rfl) (by kernel_rfl) (fun _ _ _ h => h) (Or.inl ⟨rfl, fun W hW => by go_simp⟩) hH ?_
  simp only [Act.put, List.setIfInBounds_toArray, List.set_cons_zero, List.set_cons_succ]
  refine takeH 13 (some 23) (.pointer (some ⟨r, 0, none⟩)) rfl rfl (by kernel_rfl) (by kernel_rfl) (by kernel_rfl) (fun _ _ _ h => h) (Or.inl ⟨rfl, fun W hW => by go_simp⟩) hH ?_
  simp only [Act.put, List.setIfInBounds_toArray, List.set_cons_zero, List.set_cons_succ]
  refine takeH 14 (some 24) (.bool false) rfl rfl (by kernel_rfl) (by kernel_rfl) (by kernel_rfl) (fun _ _ _ h => h) (Or.inl ⟨rfl, fun W hW => by obtain ⟨l0, l1, l2, l3, l4, l5, l6, l7⟩ := hW; go_simp⟩) hH ?_
  simp only [Act.put, List.setIfInBounds_toArray, List.set_cons_zero, List.set_cons_succ]
  refine takeH 15 (some 25) (.pointer (some ⟨w.heap.size + 1, 1, none⟩)) rfl rfl (by kernel_rfl) (by kernel_rfl) (by kernel_rfl) (fun _ _ _ h => h) (Or.inl ⟨rfl, fun W hW => by go_simp⟩) hH ?_
  simp only [Act.put, List.setIfInBounds_toArray, List.set_cons_zero, List.set_cons_succ]
  refine takeH 16 (some 26) (.pointer (some ⟨s, 0, none⟩)) rfl rfl (by kernel_rfl) (by kernel_rfl) (by kernel_rfl) (fun _ _ _ h => h) (Or.inl ⟨rfl, fun W hW => by obtain ⟨l0, l1, l2, l3, l4, l5, l6, l7⟩ := hW; go_simp⟩) hH ?_
  simp only [Act.put, List.setIfInBounds_toArray, List.set_cons_zero, List.set_cons_succ]
  refine takeH 17 (some 27) (.pointer (some ⟨s, 0, none⟩)) rfl rfl (by kernel_rfl) (by kernel_rfl) (by kernel_rfl) (fun _ _ _ h => h) (Or.inl ⟨rfl, fun W hW => by go_simp⟩) hH ?_
  simp only [Act.put, List.setIfInBounds_toArray, List.set_cons_zero, List.set_cons_succ]
  refine takeH 18 (some 28) (.pointer (some ⟨s, 0, none⟩)) rfl rfl (by kernel_rfl) (by kernel_rfl) (by kernel_rfl) (fun _ _ _ h => h) (Or.inl ⟨rfl, fun W hW => by go_simp⟩) hH ?_
  simp only [Act.put, List.setIfInBounds_toArray, List.set_cons_zero, List.set_cons_succ]
  refine takeH 19 (some 29) (.bool false) rfl rfl (by kernel_rfl) (by kernel_rfl) (by kernel_rfl) (fun _ _ _ h => h) (Or.inl ⟨rfl, fun W hW => by obtain ⟨l0, l1, l2, l3, l4, l5, l6, l7⟩ := hW; go_simp⟩) hH ?_
  simp only [Act.put, List.setIfInBounds_toArray, List.set_cons_zero, List.set_cons_succ]
  refine takeH 20 (some 30) (.agg #[.bool false, .bool false, .bool false, .bool false]) rfl rfl (by kernel_rfl) (by kernel_rfl) (by kernel_rfl) (fun _ _ _ h => h) (Or.inl ⟨rfl, fun W hW => by go_simp⟩) hH ?_
  simp only [Act.put, List.setIfInBounds_toArray, List.set_cons_zero, List.set_cons_succ]
  refine oneH 21 rfl (by kernel_rfl) (fun K' hK => ?_)
  go_simp
  clear hH
  obtain ⟨w2, hw2⟩ : ∃ v, v = w1.alloc (.cells #[.bool false, .bool false, .bool false, .bool false] 127) := ⟨_, rfl⟩
  have bb2 : Below w1.heap.size w1 w2 := by rw [hw2]; exact below1 _ _
  obtain ⟨q2, hq2⟩ : ∃ q, q = w1.heap.size := ⟨_, rfl⟩
  have S2 : BoxL w2 w.heap.size q2 [.bool false, .bool false, .bool false, .bool false] := by rw [hw2, hq2]; exact (BoxL.made w1 [.bool false, .bool false, .bool false, .bool false] 127).mono B1.size
  rw [← hw2]
  (try rw [← hq2])
  clear hw2
  have B2 := B1.trans (bb2.mono B1.size)
  have X2 := X1.below bb2 (Nat.le_refl _)
  have Y2 := Y1.below bb2 (Nat.le_refl _)
  have R2 := R1.below bb2 (Nat.le_refl _)
  have sp2 := sp1.below bb2 sp1.lt
  have sq2 := sq1.below bb2 sq1.lt
  have sr2 := sr1.below bb2 sr1.lt
  have ss2 := ss1.below bb2 ss1.lt
  have lt_X_S : w.heap.size < q2 := by rw [hq2]; exact X1.hi
  have lt_Y_S : w.heap.size + 1 < q2 := by rw [hq2]; exact Y1.hi
  have lt_R_S : w.heap.size + 1 + 1 < q2 := by rw [hq2]; exact R1.hi
  have ne_S_sp : ¬ (p = q2) := fun e => by have h1 := sp1.lt; omega
  have ne_S_sq : ¬ (q = q2) := fun e => by have h1 := sq1.lt; omega
  have ne_S_sr : ¬ (r = q2) := fun e => by have h1 := sr1.lt; omega
  have ne_S_ss : ¬ (s = q2) := fun e => by have h1 := ss1.lt; omega
  clear B1 X1 Y1 R1 sp1 sq1 sr1 ss1 bb2 hq2
  have hH : (fun W : World => W.cell? ⟨w.heap.size, 0, none⟩ = some (.pointer (some ⟨p, 0, none⟩)) ∧ W.cell? ⟨w.heap.size, 1, none⟩ = some (.pointer (some ⟨q, 0, none⟩)) ∧ W.cell? ⟨w.heap.size + 1, 0, none⟩ = some (.pointer (some ⟨r, 0, none⟩)) ∧ W.cell? ⟨w.heap.size + 1, 1, none⟩ = some (.pointer (some ⟨s, 0, none⟩)) ∧ W.cell? ⟨p, 0, none⟩ = some (.bool false) ∧ W.cell? ⟨q, 0, none⟩ = some (.bool false) ∧ W.cell? ⟨r, 0, none⟩ = some (.bool false) ∧ W.cell? ⟨s, 0, none⟩ = some (.bool false)) w2 := ⟨X2.c 0 _ rfl, X2.c 1 _ rfl, Y2.c 0 _ rfl, Y2.c 1 _ rfl, sp2.sign.trans hg1, sq2.sign.trans hg2, sr2.sign.trans hg3, ss2.sign.trans hg4⟩
  refine hK _ _ hH ?_
  clear hK
  have c_S_0 := S2.c 0 _ rfl
  have f_S_0 := S2.f 0 _ rfl
  have c_S_1 := S2.c 1 _ rfl
  have f_S_1 := S2.f 1 _ rfl
  have c_S_2 := S2.c 2 _ rfl
  have f_S_2 := S2.f 2 _ rfl
  have c_S_3 := S2.c 3 _ rfl
  have f_S_3 := S2.f 3 _ rfl
  refine oneH 22 rfl (by kernel_rfl) (fun K' hK => ?_)
  go_simp
  obtain ⟨w3, hw3⟩ : ∃ v, v = (((w2.setCell ⟨q2, 0, none⟩ (.bool false)).setCell ⟨q2, 1, none⟩ (.bool false)).setCell ⟨q2, 2, none⟩ (.bool false)).setCell ⟨q2, 3, none⟩ (.bool false) := ⟨_, rfl⟩
  have t3 : Tn [q2] w2 w3 := by rw [hw3]; exact ((((tnL w2 q2 0 (.bool false)).trans (tnL _ q2 1 (.bool false))).trans (tnL _ q2 2 (.bool false))).trans (tnL _ q2 3 (.bool false)))
  have S3 : BoxL w3 w.heap.size q2 [.bool false, .bool false, .bool false, .bool false] := by rw [hw3]; exact ((((S2.set 0 (.bool false) (by simp)).set 1 (.bool false) (by simp)).set 2 (.bool false) (by simp)).set 3 (.bool false) (by simp))
  have lo3 := S2.lo
  rw [← hw3]
  clear hw3
  have B3 := t3.below B2 B2.size (fun q hq => by simp at hq; omega)
  have X3 := X2.tn t3 (not_one (by omega))
  have Y3 := Y2.tn t3 (not_one (by omega))
  have R3 := R2.tn t3 (not_one (by omega))
  have sp3 := sp2.tnL t3 (not_one (by omega))
  have sq3 := sq2.tnL t3 (not_one (by omega))
  have sr3 := sr2.tnL t3 (not_one (by omega))
  have ss3 := ss2.tnL t3 (not_one (by omega))
  clear B2 X2 Y2 R2 sp2 sq2 sr2 ss2 S2 t3 lo3
  clear c_S_0 f_S_0 c_S_1 f_S_1 c_S_2 f_S_2 c_S_3 f_S_3
  clear hH
  have hH : (fun W : World => W.cell? ⟨w.heap.size, 0, none⟩ = some (.pointer (some ⟨p, 0, none⟩)) ∧ W.cell? ⟨w.heap.size, 1, none⟩ = some (.pointer (some ⟨q, 0, none⟩)) ∧ W.cell? ⟨w.heap.size + 1, 0, none⟩ = some (.pointer (some ⟨r, 0, none⟩)) ∧ W.cell? ⟨w.heap.size + 1, 1, none⟩ = some (.pointer (some ⟨s, 0, none⟩)) ∧ W.cell? ⟨p, 0, none⟩ = some (.bool false) ∧ W.cell? ⟨q, 0, none⟩ = some (.bool false) ∧ W.cell? ⟨r, 0, none⟩ = some (.bool false) ∧ W.cell? ⟨s, 0, none⟩ = some (.bool false)) w3 := ⟨X3.c 0 _ rfl, X3.c 1 _ rfl, Y3.c 0 _ rfl, Y3.c 1 _ rfl, sp3.sign.trans hg1, sq3.sign.trans hg2, sr3.sign.trans hg3, ss3.sign.trans hg4⟩
  refine hK _ _ hH ?_
  clear hK
  clear hH
  refine wpAnyH_done (by kernel_rfl) ?_ _
  have hE := arr_eq false false false false
  have c_S_0 := S3.c 0 _ rfl
  have c_S_1 := S3.c 1 _ rfl
  have c_S_2 := S3.c 2 _ rfl
  have c_S_3 := S3.c 3 _ rfl
  go_wp2_with fail
  clear c_S_0 c_S_1 c_S_2 c_S_3
  clear hE
  obtain ⟨w4, hw4⟩ : ∃ v, Hid (v = w3.drew) := ⟨_, rfl⟩
  have bd : Below w3.heap.size w3 w4 := by rw [hw4.out]; exact (Below.refl w3.heap.size w3).drew
  have B4 := B3.trans (bd.mono B3.size)
  have X4 := X3.below bd (Nat.le_refl _)
  have Y4 := Y3.below bd (Nat.le_refl _)
  have R4 := R3.below bd (Nat.le_refl _)
  have sp4 := sp3.below bd sp3.lt
  have sq4 := sq3.below bd sq3.lt
  have sr4 := sr3.below bd sr3.lt
  have ss4 := ss3.below bd ss3.lt
  have S4 := S3.below bd (Nat.le_refl _)
  clear B3 X3 Y3 R3 sp3 sq3 sr3 ss3 S3 bd
  have hH : (fun W : World => W.cell? ⟨w.heap.size, 0, none⟩ = some (.pointer (some ⟨p, 0, none⟩)) ∧ W.cell? ⟨w.heap.size, 1, none⟩ = some (.pointer (some ⟨q, 0, none⟩)) ∧ W.cell? ⟨w.heap.size + 1, 0, none⟩ = some (.pointer (some ⟨r, 0, none⟩)) ∧ W.cell? ⟨w.heap.size + 1, 1, none⟩ = some (.pointer (some ⟨s, 0, none⟩))) w4 := ⟨X4.c 0 _ rfl, X4.c 1 _ rfl, Y4.c 0 _ rfl, Y4.c 1 _ rfl⟩
  refine wp_region_held_drew (S := fun W => W.cell? ⟨w.heap.size, 0, none⟩ = some (.pointer (some ⟨p, 0, none⟩)) ∧ W.cell? ⟨w.heap.size, 1, none⟩ = some (.pointer (some ⟨q, 0, none⟩)) ∧ W.cell? ⟨w.heap.size + 1, 0, none⟩ = some (.pointer (some ⟨r, 0, none⟩)) ∧ W.cell? ⟨w.heap.size + 1, 1, none⟩ = some (.pointer (some ⟨s, 0, none⟩))) (by kernel_rfl) (by rw [← hw4.out]; exact hH) ?_
  intro _
  rw [← hw4.out]
  clear hw4
  refine takeH 0 (some 34) (.pointer (some ⟨w.heap.size, 0, none⟩)) rfl rfl (by kernel_rfl) (by kernel_rfl) (by kernel_rfl) (fun _ _ _ h => h) (Or.inl ⟨rfl, fun W hW => by go_simp⟩) hH ?_
  simp only [Act.put, List.setIfInBounds_toArray, List.set_cons_zero, List.set_cons_succ]
  refine takeH 1 (some 35) (.pointer (some ⟨p, 0, none⟩)) rfl rfl (by kernel_rfl) (by kernel_rfl) (by kernel_rfl) (fun _ _ _ h => h) (Or.inl ⟨rfl, fun W hW => by obtain ⟨l0, l1, l2, l3⟩ := hW; go_simp⟩) hH ?_
  simp only [Act.put, List.setIfInBounds_toArray, List.set_cons_zero, List.set_cons_succ]
  refine takeH 2 (some 36) (.pointer (some ⟨w.heap.size + 1, 0, none⟩)) rfl rfl (by kernel_rfl) (by kernel_rfl) (by kernel_rfl) (fun _ _ _ h => h) (Or.inl ⟨rfl, fun W hW => by go_simp⟩) hH ?_
  simp only [Act.put, List.setIfInBounds_toArray, List.set_cons_zero, List.set_cons_succ]
  refine takeH 3 (some 37) (.pointer (some ⟨r, 0, none⟩)) rfl rfl (by kernel_rfl) (by kernel_rfl) (by kernel_rfl) (fun _ _ _ h => h) (Or.inl ⟨rfl, fun W hW => by obtain ⟨l0, l1, l2, l3⟩ := hW; go_simp⟩) hH ?_
  simp only [Act.put, List.setIfInBounds_toArray, List.set_cons_zero, List.set_cons_succ]
  refine takeH 5 (some 39) (.pointer (some ⟨w.heap.size, 1, none⟩)) rfl rfl (by kernel_rfl) (by kernel_rfl) (by kernel_rfl) (fun _ _ _ h => h) (Or.inl ⟨rfl, fun W hW => by go_simp⟩) hH ?_
  simp only [Act.put, List.setIfInBounds_toArray, List.set_cons_zero, List.set_cons_succ]
  refine takeH 6 (some 40) (.pointer (some ⟨q, 0, none⟩)) rfl rfl (by kernel_rfl) (by kernel_rfl) (by kernel_rfl) (fun _ _ _ h => h) (Or.inl ⟨rfl, fun W hW => by obtain ⟨l0, l1, l2, l3⟩ := hW; go_simp⟩) hH ?_
  simp only [Act.put, List.setIfInBounds_toArray, List.set_cons_zero, List.set_cons_succ]
  refine takeH 7 (some 41) (.pointer (some ⟨w.heap.size + 1, 1, none⟩)) rfl rfl (by kernel_rfl) (by kernel_rfl) (by kernel_rfl) (fun _ _ _ h => h) (Or.inl ⟨rfl, fun W hW => by go_simp⟩) hH ?_
  simp only [Act.put, List.setIfInBounds_toArray, List.set_cons_zero, List.set_cons_succ]
  refine takeH 8 (some 42) (.pointer (some ⟨s, 0, none⟩)) rfl rfl (by kernel_rfl) (by kernel_rfl) (by kernel_rfl) (fun _ _ _ h => h) (Or.inl ⟨rfl, fun W hW => by obtain ⟨l0, l1, l2, l3⟩ := hW; go_simp⟩) hH ?_
  simp only [Act.put, List.setIfInBounds_toArray, List.set_cons_zero, List.set_cons_succ]
  refine oneH 4 rfl (by kernel_rfl) (fun K' hK => ?_)
  go_simp
  refine (kS _ sp4 sr4).mono ?_
  rintro e w5 ⟨c, rfl, hc, sc, bb5⟩
  have ge_sc : w.heap.size ≤ c := Nat.le_trans B4.size hc
  have ne_X_sc : ¬ (c = w.heap.size) := fun e => by have h1 := X4.hi; omega
  have ne_Y_sc : ¬ (c = w.heap.size + 1) := fun e => by have h1 := Y4.hi; omega
  have ne_R_sc : ¬ (c = w.heap.size + 1 + 1) := fun e => by have h1 := R4.hi; omega
  have ne_S_sc : ¬ (c = q2) := fun e => by have h1 := S4.hi; omega
  clear hc
  have B5 := B4.trans (bb5.mono B4.size)
  have X5 := X4.below bb5 (Nat.le_refl _)
  have Y5 := Y4.below bb5 (Nat.le_refl _)
  have R5 := R4.below bb5 (Nat.le_refl _)
  have sp5 := sp4.below bb5 sp4.lt
  have sq5 := sq4.below bb5 sq4.lt
  have sr5 := sr4.below bb5 sr4.lt
  have ss5 := ss4.below bb5 ss4.lt
  have S5 := S4.below bb5 (Nat.le_refl _)
  clear B4 X4 Y4 R4 sp4 sq4 sr4 ss4 S4 bb5 hH
  have sc5 := sc
  clear sc
  have hH : (fun W : World => W.cell? ⟨w.heap.size, 0, none⟩ = some (.pointer (some ⟨p, 0, none⟩)) ∧ W.cell? ⟨w.heap.size, 1, none⟩ = some (.pointer (some ⟨q, 0, none⟩)) ∧ W.cell? ⟨w.heap.size + 1, 0, none⟩ = some (.pointer (some ⟨r, 0, none⟩)) ∧ W.cell? ⟨w.heap.size + 1, 1, none⟩ = some (.pointer (some ⟨s, 0, none⟩))) w5 := ⟨X5.c 0 _ rfl, X5.c 1 _ rfl, Y5.c 0 _ rfl, Y5.c 1 _ rfl⟩
  refine hK _ _ hH ?_
  clear hK
  refine oneH 9 rfl (by kernel_rfl) (fun K' hK => ?_)
  go_simp
  refine (kP _ sq5 ss5).mono ?_
  rintro e w6 ⟨d, rfl, hd, sd, bb6⟩
  have ge_sd : w.heap.size ≤ d := Nat.le_trans B5.size hd
  have ne_X_sd : ¬ (d = w.heap.size) := fun e => by have h1 := X5.hi; omega
  have ne_Y_sd : ¬ (d = w.heap.size + 1) := fun e => by have h1 := Y5.hi; omega
  have ne_R_sd : ¬ (d = w.heap.size + 1 + 1) := fun e => by have h1 := R5.hi; omega
  have ne_S_sd : ¬ (d = q2) := fun e => by have h1 := S5.hi; omega
  clear hd
  have B6 := B5.trans (bb6.mono B5.size)
  have X6 := X5.below bb6 (Nat.le_refl _)
  have Y6 := Y5.below bb6 (Nat.le_refl _)
  have R6 := R5.below bb6 (Nat.le_refl _)
  have sp6 := sp5.below bb6 sp5.lt
  have sq6 := sq5.below bb6 sq5.lt
  have sr6 := sr5.below bb6 sr5.lt
  have ss6 := ss5.below bb6 ss5.lt
  have S6 := S5.below bb6 (Nat.le_refl _)
  have sc6 := sc5.below bb6 sc5.lt
  clear B5 X5 Y5 R5 sp5 sq5 sr5 ss5 S5 sc5 bb6 hH
  have sd6 := sd
  clear sd
  have hH : (fun W : World => W.cell? ⟨w.heap.size, 0, none⟩ = some (.pointer (some ⟨p, 0, none⟩)) ∧ W.cell? ⟨w.heap.size, 1, none⟩ = some (.pointer (some ⟨q, 0, none⟩)) ∧ W.cell? ⟨w.heap.size + 1, 0, none⟩ = some (.pointer (some ⟨r, 0, none⟩)) ∧ W.cell? ⟨w.heap.size + 1, 1, none⟩ = some (.pointer (some ⟨s, 0, none⟩))) w6 := ⟨X6.c 0 _ rfl, X6.c 1 _ rfl, Y6.c 0 _ rfl, Y6.c 1 _ rfl⟩
  refine hK _ _ hH ?_
  clear hK
  refine takeH 10 (some 44) (.agg #[.pointer (some ⟨c, 0, none⟩), .pointer (some ⟨d, 0, none⟩)]) rfl rfl (by kernel_rfl) (by kernel_rfl) (by kernel_rfl) (fun _ _ _ h => h) (Or.inl ⟨rfl, fun W hW => by go_simp⟩) hH ?_
  simp only [Act.put, List.setIfInBounds_toArray, List.set_cons_zero, List.set_cons_succ]
  have c_R_0 := R6.c 0 _ rfl
  have f_R_0 := R6.f 0 _ rfl
  have c_R_1 := R6.c 1 _ rfl
  have f_R_1 := R6.f 1 _ rfl
  refine oneH 11 rfl (by kernel_rfl) (fun K' hK => ?_)
  go_simp
  obtain ⟨w7, hw7⟩ : ∃ v, v = (w6.setCell ⟨w.heap.size + 1 + 1, 0, none⟩ (.pointer (some ⟨c, 0, none⟩))).setCell ⟨w.heap.size + 1 + 1, 1, none⟩ (.pointer (some ⟨d, 0, none⟩)) := ⟨_, rfl⟩
  have t7 : Tn [w.heap.size + 1 + 1] w6 w7 := by rw [hw7]; exact ((tnL w6 (w.heap.size + 1 + 1) 0 (.pointer (some ⟨c, 0, none⟩))).trans (tnL _ (w.heap.size + 1 + 1) 1 (.pointer (some ⟨d, 0, none⟩))))
  have R7 : BoxL w7 w.heap.size (w.heap.size + 1 + 1) [.pointer (some ⟨c, 0, none⟩), .pointer (some ⟨d, 0, none⟩)] := by rw [hw7]; exact ((R6.set 0 (.pointer (some ⟨c, 0, none⟩)) (by simp)).set 1 (.pointer (some ⟨d, 0, none⟩)) (by simp))
  have lo7 := R6.lo
  rw [← hw7]
  clear hw7
  have B7 := t7.below B6 B6.size (fun q hq => by simp at hq; omega)
  have X7 := X6.tn t7 (not_one (by omega))
  have Y7 := Y6.tn t7 (not_one (by omega))
  have sp7 := sp6.tnL t7 (not_one (by omega))
  have sq7 := sq6.tnL t7 (not_one (by omega))
  have sr7 := sr6.tnL t7 (not_one (by omega))
  have ss7 := ss6.tnL t7 (not_one (by omega))
  have S7 := S6.tn t7 (not_one (by omega))
  have sc7 := sc6.tnL t7 (not_one (by omega))
  have sd7 := sd6.tnL t7 (not_one (by omega))
  clear B6 X6 Y6 R6 sp6 sq6 sr6 ss6 S6 sc6 sd6 t7 lo7
  clear c_R_0 f_R_0 c_R_1 f_R_1
  clear hH
  have hH : (fun W : World => W.cell? ⟨w.heap.size, 0, none⟩ = some (.pointer (some ⟨p, 0, none⟩)) ∧ W.cell? ⟨w.heap.size, 1, none⟩ = some (.pointer (some ⟨q, 0, none⟩)) ∧ W.cell? ⟨w.heap.size + 1, 0, none⟩ = some (.pointer (some ⟨r, 0, none⟩)) ∧ W.cell? ⟨w.heap.size + 1, 1, none⟩ = some (.pointer (some ⟨s, 0, none⟩))) w7 := ⟨X7.c 0 _ rfl, X7.c 1 _ rfl, Y7.c 0 _ rfl, Y7.c 1 _ rfl⟩
  refine hK _ _ hH ?_
  clear hK
  clear hH
  refine wpAnyH_done (by kernel_rfl) ?_ _
  clear kS kP
  have c_R_0 := R7.c 0 _ rfl
  have c_R_1 := R7.c 1 _ rfl
  go_wp2
  (try simp only [Exit.inBlock, Exit.then])
  refine bodyPost_ret (v := .agg #[.pointer (some ⟨c, 0, none⟩), .pointer (some ⟨d, 0, none⟩)]) ?_ rfl ⟨_, _, rfl, sc7, sd7, B7⟩
  rw [results_cell1 rfl]
  go_simp
set_option maxRecDepth 20000 in
set_option maxHeartbeats 6400000 in
theorem productsOf_any (p q r s : Nat) (x1 y1 x2 y2 : Int) (w : World) (sp : SG w p x1) (sq : SG w q y1) (sr : SG w r x2) (ss : SG w s y2) (hn : ¬ (0 ≤ x1 ∧ 0 ≤ y1 ∧ 0 ≤ x2 ∧ 0 ≤ y2)) (m1 : (limbs x1.natAbs).length ≤ 49) (m2 : (limbs y1.natAbs).length ≤ 49) (m3 : (limbs x2.natAbs).length ≤ 49) (m4 : (limbs y2.natAbs).length ≤ 49) :
    Calls Try.prog 61 #[.agg #[.pointer (some ⟨p, 0, none⟩), .pointer (some ⟨q, 0, none⟩)], .agg #[.pointer (some ⟨r, 0, none⟩), .pointer (some ⟨s, 0, none⟩)]] w (spanE (prLo x1 y1 x2 y2) (prHi x1 y1 x2 y2) w) := by
  obtain ⟨g1, hg1⟩ : ∃ g, decide (x1 < 0) = g := ⟨_, rfl⟩
  obtain ⟨g2, hg2⟩ : ∃ g, decide (y1 < 0) = g := ⟨_, rfl⟩
  obtain ⟨g3, hg3⟩ : ∃ g, decide (x2 < 0) = g := ⟨_, rfl⟩
  obtain ⟨g4, hg4⟩ : ∃ g, decide (y2 < 0) = g := ⟨_, rfl⟩
  have hor : (!(g1 || g2 || g3 || g4)) = false := by
    rw [← hg1, ← hg2, ← hg3, ← hg4]
    simp
    omega
  have hE := arr_eq g1 g2 g3 g4
  rw [hor] at hE
  clear hor hn
  replace hg1 : some (Value.bool (decide (x1 < 0))) = some (Value.bool g1) := by rw [hg1]
  replace hg2 : some (Value.bool (decide (y1 < 0))) = some (Value.bool g2) := by rw [hg2]
  replace hg3 : some (Value.bool (decide (x2 < 0))) = some (Value.bool g3) := by rw [hg3]
  replace hg4 : some (Value.bool (decide (y2 < 0))) = some (Value.bool g4) := by rw [hg4]
  have k0 := fun W h1' h2' => sgTimes p r x1 x2 W h1' h2' (by omega)
  have k1 := fun W h1' h2' => sgTimes p s x1 y2 W h1' h2' (by omega)
  have k2 := fun W h1' h2' => sgTimes q r y1 x2 W h1' h2' (by omega)
  have k3 := fun W h1' h2' => sgTimes q s y1 y2 W h1' h2' (by omega)
  unfold spanE prLo prHi
  clear m1 m2 m3 m4
  generalize x1 * x2 = d0 at *
  generalize x1 * y2 = d1 at *
  generalize y1 * x2 = d2 at *
  generalize y1 * y2 = d3 at *
  have B0_0 : Below w.heap.size w w := Below.refl _ _
  obtain ⟨v1, hv1⟩ : ∃ v, v = w.alloc (.cells #[.pointer (some ⟨p, 0, none⟩), .pointer (some ⟨q, 0, none⟩)] 52) := ⟨_, rfl⟩
  have z1 : v1.heap.size = w.heap.size + 1 := by rw [hv1]; simp
  have bv1 : Below w.heap.size w v1 := by rw [hv1]; exact below1 _ _
  have B0_1 := B0_0.trans (bv1.mono B0_0.size)
  have X0_1 : BoxL v1 w.heap.size w.heap.size [.pointer (some ⟨p, 0, none⟩), .pointer (some ⟨q, 0, none⟩)] := by rw [hv1]; have h := BoxL.made w [.pointer (some ⟨p, 0, none⟩), .pointer (some ⟨q, 0, none⟩)] 52; exact h
  obtain ⟨v2, hv2⟩ : ∃ v, v = v1.alloc (.cells #[.pointer (some ⟨r, 0, none⟩), .pointer (some ⟨s, 0, none⟩)] 52) := ⟨_, rfl⟩
  have z2 : v2.heap.size = w.heap.size + 1 + 1 := by rw [hv2]; simp [z1]
  have bv2 : Below v1.heap.size v1 v2 := by rw [hv2]; exact below1 _ _
  have B0_2 := B0_1.trans (bv2.mono B0_1.size)
  have X0_2 := X0_1.below bv2 (Nat.le_refl _)
  have Y0_2 : BoxL v2 (w.heap.size + 1) (w.heap.size + 1) [.pointer (some ⟨r, 0, none⟩), .pointer (some ⟨s, 0, none⟩)] := by rw [hv2]; have h := BoxL.made v1 [.pointer (some ⟨r, 0, none⟩), .pointer (some ⟨s, 0, none⟩)] 52; rw [z1] at h; exact h
  obtain ⟨v3, hv3⟩ : ∃ v, v = v2.alloc (.cells #[.pointer none, .pointer none] 52) := ⟨_, rfl⟩
  have z3 : v3.heap.size = w.heap.size + 1 + 1 + 1 := by rw [hv3]; simp [z2]
  have bv3 : Below v2.heap.size v2 v3 := by rw [hv3]; exact below1 _ _
  have B0_3 := B0_2.trans (bv3.mono B0_2.size)
  have X0_3 := X0_2.below bv3 (Nat.le_refl _)
  have Y0_3 := Y0_2.below bv3 (Nat.le_refl _)
  have R0_3 : BoxL v3 (w.heap.size + 1 + 1) (w.heap.size + 1 + 1) [.pointer none, .pointer none] := by rw [hv3]; have h := BoxL.made v2 [.pointer none, .pointer none] 52; rw [z2] at h; exact h
  have X0 := X0_3
  have Y0 := Y0_3.mono (by omega : w.heap.size ≤ w.heap.size + 1)
  have R0 := R0_3.mono (by omega : w.heap.size ≤ w.heap.size + 1 + 1)
  have B0 := B0_3
  have sp0 := sp.below B0 sp.lt
  have lt_sp := sp.lt
  have sq0 := sq.below B0 sq.lt
  have lt_sq := sq.lt
  have sr0 := sr.below B0 sr.lt
  have lt_sr := sr.lt
  have ss0 := ss.below B0 ss.lt
  have lt_ss := ss.lt
  clear B0_0 B0_1 B0_2 B0_3 bv1 bv2 bv3 X0_1 X0_2 X0_3 Y0_2 Y0_3 R0_3
  clear sp sq sr ss
  go_enter Try.func61, Try.ntmps61
  go_wp2_with fail
  have hvv : ((w.alloc (.cells #[.pointer (some ⟨p, 0, none⟩), .pointer (some ⟨q, 0, none⟩)] 52)).alloc (.cells #[.pointer (some ⟨r, 0, none⟩), .pointer (some ⟨s, 0, none⟩)] 52)).alloc (.cells #[.pointer none, .pointer none] 52) = v3 := by rw [hv3]; rw [hv2]; rw [hv1]
  rw [hvv]
  clear hvv hv1 hv2 hv3 z1 z2
  clear v1 v2
  have hz0 : w.heap.size + 3 ≤ v3.heap.size := by omega
  clear z3
  obtain ⟨w1, hw1⟩ : ∃ v, Hid (v = v3.drew) := ⟨_, rfl⟩
  have bd : Below v3.heap.size v3 w1 := by rw [hw1.out]; exact (Below.refl v3.heap.size v3).drew
  have B1 := B0.trans (bd.mono B0.size)
  have X1 := X0.below bd (Nat.le_refl _)
  have Y1 := Y0.below bd (Nat.le_refl _)
  have R1 := R0.below bd (Nat.le_refl _)
  have sp1 := sp0.below bd sp0.lt
  have sq1 := sq0.below bd sq0.lt
  have sr1 := sr0.below bd sr0.lt
  have ss1 := ss0.below bd ss0.lt
  clear B0 X0 Y0 R0 sp0 sq0 sr0 ss0 bd
  have hH : (fun W : World => W.cell? ⟨w.heap.size, 0, none⟩ = some (.pointer (some ⟨p, 0, none⟩)) ∧ W.cell? ⟨w.heap.size, 1, none⟩ = some (.pointer (some ⟨q, 0, none⟩)) ∧ W.cell? ⟨w.heap.size + 1, 0, none⟩ = some (.pointer (some ⟨r, 0, none⟩)) ∧ W.cell? ⟨w.heap.size + 1, 1, none⟩ = some (.pointer (some ⟨s, 0, none⟩)) ∧ W.cell? ⟨p, 0, none⟩ = some (.bool g1) ∧ W.cell? ⟨q, 0, none⟩ = some (.bool g2) ∧ W.cell? ⟨r, 0, none⟩ = some (.bool g3) ∧ W.cell? ⟨s, 0, none⟩ = some (.bool g4)) w1 := ⟨X1.c 0 _ rfl, X1.c 1 _ rfl, Y1.c 0 _ rfl, Y1.c 1 _ rfl, sp1.sign.trans hg1, sq1.sign.trans hg2, sr1.sign.trans hg3, ss1.sign.trans hg4⟩
  refine wp_region_held_drew (S := fun W => W.cell? ⟨w.heap.size, 0, none⟩ = some (.pointer (some ⟨p, 0, none⟩)) ∧ W.cell? ⟨w.heap.size, 1, none⟩ = some (.pointer (some ⟨q, 0, none⟩)) ∧ W.cell? ⟨w.heap.size + 1, 0, none⟩ = some (.pointer (some ⟨r, 0, none⟩)) ∧ W.cell? ⟨w.heap.size + 1, 1, none⟩ = some (.pointer (some ⟨s, 0, none⟩)) ∧ W.cell? ⟨p, 0, none⟩ = some (.bool g1) ∧ W.cell? ⟨q, 0, none⟩ = some (.bool g2) ∧ W.cell? ⟨r, 0, none⟩ = some (.bool g3) ∧ W.cell? ⟨s, 0, none⟩ = some (.bool g4)) (by kernel_rfl) (by rw [← hw1.out]; exact hH) ?_
  intro _
  rw [← hw1.out]
  clear hw1
  refine takeH 0 (some 10) (.pointer (some ⟨w.heap.size, 0, none⟩)) rfl rfl (by kernel_rfl) (by kernel_rfl) (by kernel_rfl) (fun _ _ _ h => h) (Or.inl ⟨rfl, fun W hW => by go_simp⟩) hH ?_
  simp only [Act.put, List.setIfInBounds_toArray, List.set_cons_zero, List.set_cons_succ]
  refine takeH 1 (some 11) (.pointer (some ⟨p, 0, none⟩)) rfl rfl (by kernel_rfl) (by kernel_rfl) (by kernel_rfl) (fun _ _ _ h => h) (Or.inl ⟨rfl, fun W hW => by obtain ⟨l0, l1, l2, l3, l4, l5, l6, l7⟩ := hW; go_simp⟩) hH ?_
  simp only [Act.put, List.setIfInBounds_toArray, List.set_cons_zero, List.set_cons_succ]
  refine takeH 2 (some 12) (.pointer (some ⟨p, 0, none⟩)) rfl rfl (by kernel_rfl) (by kernel_rfl) (by kernel_rfl) (fun _ _ _ h => h) (Or.inl ⟨rfl, fun W hW => by go_simp⟩) hH ?_
  simp only [Act.put, List.setIfInBounds_toArray, List.set_cons_zero, List.set_cons_succ]
  refine takeH 3 (some 13) (.pointer (some ⟨p, 0, none⟩)) rfl rfl (by kernel_rfl) (by kernel_rfl) (by kernel_rfl) (fun _ _ _ h => h) (Or.inl ⟨rfl, fun W hW => by go_simp⟩) hH ?_
  simp only [Act.put, List.setIfInBounds_toArray, List.set_cons_zero, List.set_cons_succ]
  refine takeH 4 (some 14) (.bool g1) rfl rfl (by kernel_rfl) (by kernel_rfl) (by kernel_rfl) (fun _ _ _ h => h) (Or.inl ⟨rfl, fun W hW => by obtain ⟨l0, l1, l2, l3, l4, l5, l6, l7⟩ := hW; go_simp⟩) hH ?_
  simp only [Act.put, List.setIfInBounds_toArray, List.set_cons_zero, List.set_cons_succ]
  refine takeH 5 (some 15) (.pointer (some ⟨w.heap.size, 1, none⟩)) rfl rfl (by kernel_rfl) (by kernel_rfl) (by kernel_rfl) (fun _ _ _ h => h) (Or.inl ⟨rfl, fun W hW => by go_simp⟩) hH ?_
  simp only [Act.put, List.setIfInBounds_toArray, List.set_cons_zero, List.set_cons_succ]
  refine takeH 6 (some 16) (.pointer (some ⟨q, 0, none⟩)) rfl rfl (by kernel_rfl) (by kernel_rfl) (by kernel_rfl) (fun _ _ _ h => h) (Or.inl ⟨rfl, fun W hW => by obtain ⟨l0, l1, l2, l3, l4, l5, l6, l7⟩ := hW; go_simp⟩) hH ?_
  simp only [Act.put, List.setIfInBounds_toArray, List.set_cons_zero, List.set_cons_succ]
  refine takeH 7 (some 17) (.pointer (some ⟨q, 0, none⟩)) rfl rfl (by kernel_rfl) (by kernel_rfl) (by kernel_rfl) (fun _ _ _ h => h) (Or.inl ⟨rfl, fun W hW => by go_simp⟩) hH ?_
  simp only [Act.put, List.setIfInBounds_toArray, List.set_cons_zero, List.set_cons_succ]
  refine takeH 8 (some 18) (.pointer (some ⟨q, 0, none⟩)) rfl rfl (by kernel_rfl) (by kernel_rfl) (by kernel_rfl) (fun _ _ _ h => h) (Or.inl ⟨rfl, fun W hW => by go_simp⟩) hH ?_
  simp only [Act.put, List.setIfInBounds_toArray, List.set_cons_zero, List.set_cons_succ]
  refine takeH 9 (some 19) (.bool g2) rfl rfl (by kernel_rfl) (by kernel_rfl) (by kernel_rfl) (fun _ _ _ h => h) (Or.inl ⟨rfl, fun W hW => by obtain ⟨l0, l1, l2, l3, l4, l5, l6, l7⟩ := hW; go_simp⟩) hH ?_
  simp only [Act.put, List.setIfInBounds_toArray, List.set_cons_zero, List.set_cons_succ]
  refine takeH 10 (some 20) (.pointer (some ⟨w.heap.size + 1, 0, none⟩)) rfl rfl (by kernel_rfl) (by kernel_rfl) (by kernel_rfl) (fun _ _ _ h => h) (Or.inl ⟨rfl, fun W hW => by go_simp⟩) hH ?_
  simp only [Act.put, List.setIfInBounds_toArray, List.set_cons_zero, List.set_cons_succ]
  refine takeH 11 (some 21) (.pointer (some ⟨r, 0, none⟩)) rfl rfl (by kernel_rfl) (by kernel_rfl) (by kernel_rfl) (fun _ _ _ h => h) (Or.inl ⟨rfl, fun W hW => by obtain ⟨l0, l1, l2, l3, l4, l5, l6, l7⟩ := hW; go_simp⟩) hH ?_
  simp only [Act.put, List.setIfInBounds_toArray, List.set_cons_zero, List.set_cons_succ]
  refine takeH 12 (some 22) (.pointer (some ⟨r, 0, none⟩)) rfl rfl (by kernel_rfl) (by kernel_rfl) (by kernel_rfl) (fun _ _ _ h => h) (Or.inl ⟨rfl, fun W hW => by go_simp⟩) hH ?_
  simp only [Act.put, List.setIfInBounds_toArray, List.set_cons_zero, List.set_cons_succ]
  refine takeH 13 (some 23) (.pointer (some ⟨r, 0, none⟩)) rfl rfl (by kernel_rfl) (by kernel_rfl) (by kernel_rfl) (fun _ _ _ h => h) (Or.inl ⟨rfl, fun W hW => by go_simp⟩) hH ?_
  simp only [Act.put, List.setIfInBounds_toArray, List.set_cons_zero, List.set_cons_succ]
  refine takeH 14 (some 24) (.bool g3) rfl rfl (by kernel_rfl) (by kernel_rfl) (by kernel_rfl) (fun _ _ _ h => h) (Or.inl ⟨rfl, fun W hW => by obtain ⟨l0, l1, l2, l3, l4, l5, l6, l7⟩ := hW; go_simp⟩) hH ?_
  simp only [Act.put, List.setIfInBounds_toArray, List.set_cons_zero, List.set_cons_succ]
  refine takeH 15 (some 25) (.pointer (some ⟨w.heap.size + 1, 1, none⟩)) rfl rfl (by kernel_rfl) (by kernel_rfl) (by kernel_rfl) (fun _ _ _ h => h) (Or.inl ⟨rfl, fun W hW => by go_simp⟩) hH ?_
  simp only [Act.put, List.setIfInBounds_toArray, List.set_cons_zero, List.set_cons_succ]
  refine takeH 16 (some 26) (.pointer (some ⟨s, 0, none⟩)) rfl rfl (by kernel_rfl) (by kernel_rfl) (by kernel_rfl) (fun _ _ _ h => h) (Or.inl ⟨rfl, fun W hW => by obtain ⟨l0, l1, l2, l3, l4, l5, l6, l7⟩ := hW; go_simp⟩) hH ?_
  simp only [Act.put, List.setIfInBounds_toArray, List.set_cons_zero, List.set_cons_succ]
  refine takeH 17 (some 27) (.pointer (some ⟨s, 0, none⟩)) rfl rfl (by kernel_rfl) (by kernel_rfl) (by kernel_rfl) (fun _ _ _ h => h) (Or.inl ⟨rfl, fun W hW => by go_simp⟩) hH ?_
  simp only [Act.put, List.setIfInBounds_toArray, List.set_cons_zero, List.set_cons_succ]
  refine takeH 18 (some 28) (.pointer (some ⟨s, 0, none⟩)) rfl rfl (by kernel_rfl) (by kernel_rfl) (by kernel_rfl) (fun _ _ _ h => h) (Or.inl ⟨rfl, fun W hW => by go_simp⟩) hH ?_
  simp only [Act.put, List.setIfInBounds_toArray, List.set_cons_zero, List.set_cons_succ]
  refine takeH 19 (some 29) (.bool g4) rfl rfl (by kernel_rfl) (by kernel_rfl) (by kernel_rfl) (fun _ _ _ h => h) (Or.inl ⟨rfl, fun W hW => by obtain ⟨l0, l1, l2, l3, l4, l5, l6, l7⟩ := hW; go_simp⟩) hH ?_
  simp only [Act.put, List.setIfInBounds_toArray, List.set_cons_zero, List.set_cons_succ]
  refine takeH 20 (some 30) (.agg #[.bool g1, .bool g2, .bool g3, .bool g4]) rfl rfl (by kernel_rfl) (by kernel_rfl) (by kernel_rfl) (fun _ _ _ h => h) (Or.inl ⟨rfl, fun W hW => by go_simp⟩) hH ?_
  simp only [Act.put, List.setIfInBounds_toArray, List.set_cons_zero, List.set_cons_succ]
  refine oneH 21 rfl (by kernel_rfl) (fun K' hK => ?_)
  go_simp
  clear hH
  obtain ⟨w2, hw2⟩ : ∃ v, v = w1.alloc (.cells #[.bool false, .bool false, .bool false, .bool false] 127) := ⟨_, rfl⟩
  have bb2 : Below w1.heap.size w1 w2 := by rw [hw2]; exact below1 _ _
  obtain ⟨q2, hq2⟩ : ∃ q, q = w1.heap.size := ⟨_, rfl⟩
  have S2 : BoxL w2 w.heap.size q2 [.bool false, .bool false, .bool false, .bool false] := by rw [hw2, hq2]; exact (BoxL.made w1 [.bool false, .bool false, .bool false, .bool false] 127).mono B1.size
  rw [← hw2]
  (try rw [← hq2])
  clear hw2
  have B2 := B1.trans (bb2.mono B1.size)
  have X2 := X1.below bb2 (Nat.le_refl _)
  have Y2 := Y1.below bb2 (Nat.le_refl _)
  have R2 := R1.below bb2 (Nat.le_refl _)
  have sp2 := sp1.below bb2 sp1.lt
  have sq2 := sq1.below bb2 sq1.lt
  have sr2 := sr1.below bb2 sr1.lt
  have ss2 := ss1.below bb2 ss1.lt
  have lt_X_S : w.heap.size < q2 := by rw [hq2]; exact X1.hi
  have lt_Y_S : w.heap.size + 1 < q2 := by rw [hq2]; exact Y1.hi
  have lt_R_S : w.heap.size + 1 + 1 < q2 := by rw [hq2]; exact R1.hi
  have ne_S_sp : ¬ (p = q2) := fun e => by have h1 := sp1.lt; omega
  have ne_S_sq : ¬ (q = q2) := fun e => by have h1 := sq1.lt; omega
  have ne_S_sr : ¬ (r = q2) := fun e => by have h1 := sr1.lt; omega
  have ne_S_ss : ¬ (s = q2) := fun e => by have h1 := ss1.lt; omega
  clear B1 X1 Y1 R1 sp1 sq1 sr1 ss1 bb2 hq2
  have hH : (fun W : World => W.cell? ⟨w.heap.size, 0, none⟩ = some (.pointer (some ⟨p, 0, none⟩)) ∧ W.cell? ⟨w.heap.size, 1, none⟩ = some (.pointer (some ⟨q, 0, none⟩)) ∧ W.cell? ⟨w.heap.size + 1, 0, none⟩ = some (.pointer (some ⟨r, 0, none⟩)) ∧ W.cell? ⟨w.heap.size + 1, 1, none⟩ = some (.pointer (some ⟨s, 0, none⟩)) ∧ W.cell? ⟨p, 0, none⟩ = some (.bool g1) ∧ W.cell? ⟨q, 0, none⟩ = some (.bool g2) ∧ W.cell? ⟨r, 0, none⟩ = some (.bool g3) ∧ W.cell? ⟨s, 0, none⟩ = some (.bool g4)) w2 := ⟨X2.c 0 _ rfl, X2.c 1 _ rfl, Y2.c 0 _ rfl, Y2.c 1 _ rfl, sp2.sign.trans hg1, sq2.sign.trans hg2, sr2.sign.trans hg3, ss2.sign.trans hg4⟩
  refine hK _ _ hH ?_
  clear hK
  have c_S_0 := S2.c 0 _ rfl
  have f_S_0 := S2.f 0 _ rfl
  have c_S_1 := S2.c 1 _ rfl
  have f_S_1 := S2.f 1 _ rfl
  have c_S_2 := S2.c 2 _ rfl
  have f_S_2 := S2.f 2 _ rfl
  have c_S_3 := S2.c 3 _ rfl
  have f_S_3 := S2.f 3 _ rfl
  refine oneH 22 rfl (by kernel_rfl) (fun K' hK => ?_)
  go_simp
  obtain ⟨w3, hw3⟩ : ∃ v, v = (((w2.setCell ⟨q2, 0, none⟩ (.bool g1)).setCell ⟨q2, 1, none⟩ (.bool g2)).setCell ⟨q2, 2, none⟩ (.bool g3)).setCell ⟨q2, 3, none⟩ (.bool g4) := ⟨_, rfl⟩
  have t3 : Tn [q2] w2 w3 := by rw [hw3]; exact ((((tnL w2 q2 0 (.bool g1)).trans (tnL _ q2 1 (.bool g2))).trans (tnL _ q2 2 (.bool g3))).trans (tnL _ q2 3 (.bool g4)))
  have S3 : BoxL w3 w.heap.size q2 [.bool g1, .bool g2, .bool g3, .bool g4] := by rw [hw3]; exact ((((S2.set 0 (.bool g1) (by simp)).set 1 (.bool g2) (by simp)).set 2 (.bool g3) (by simp)).set 3 (.bool g4) (by simp))
  have lo3 := S2.lo
  rw [← hw3]
  clear hw3
  have B3 := t3.below B2 B2.size (fun q hq => by simp at hq; omega)
  have X3 := X2.tn t3 (not_one (by omega))
  have Y3 := Y2.tn t3 (not_one (by omega))
  have R3 := R2.tn t3 (not_one (by omega))
  have sp3 := sp2.tnL t3 (not_one (by omega))
  have sq3 := sq2.tnL t3 (not_one (by omega))
  have sr3 := sr2.tnL t3 (not_one (by omega))
  have ss3 := ss2.tnL t3 (not_one (by omega))
  clear B2 X2 Y2 R2 sp2 sq2 sr2 ss2 S2 t3 lo3
  clear c_S_0 f_S_0 c_S_1 f_S_1 c_S_2 f_S_2 c_S_3 f_S_3
  clear hH
  have hH : (fun W : World => W.cell? ⟨w.heap.size, 0, none⟩ = some (.pointer (some ⟨p, 0, none⟩)) ∧ W.cell? ⟨w.heap.size, 1, none⟩ = some (.pointer (some ⟨q, 0, none⟩)) ∧ W.cell? ⟨w.heap.size + 1, 0, none⟩ = some (.pointer (some ⟨r, 0, none⟩)) ∧ W.cell? ⟨w.heap.size + 1, 1, none⟩ = some (.pointer (some ⟨s, 0, none⟩)) ∧ W.cell? ⟨p, 0, none⟩ = some (.bool g1) ∧ W.cell? ⟨q, 0, none⟩ = some (.bool g2) ∧ W.cell? ⟨r, 0, none⟩ = some (.bool g3) ∧ W.cell? ⟨s, 0, none⟩ = some (.bool g4)) w3 := ⟨X3.c 0 _ rfl, X3.c 1 _ rfl, Y3.c 0 _ rfl, Y3.c 1 _ rfl, sp3.sign.trans hg1, sq3.sign.trans hg2, sr3.sign.trans hg3, ss3.sign.trans hg4⟩
  refine hK _ _ hH ?_
  clear hK
  clear hH
  refine wpAnyH_done (by kernel_rfl) ?_ _
  have c_S_0 := S3.c 0 _ rfl
  have c_S_1 := S3.c 1 _ rfl
  have c_S_2 := S3.c 2 _ rfl
  have c_S_3 := S3.c 3 _ rfl
  go_wp2_with fail
  clear c_S_0 c_S_1 c_S_2 c_S_3
  clear hE hg1 hg2 hg3 hg4
  clear S3
  obtain ⟨w4, hw4⟩ : ∃ v, Hid (v = w3.drew) := ⟨_, rfl⟩
  have bd : Below w3.heap.size w3 w4 := by rw [hw4.out]; exact (Below.refl w3.heap.size w3).drew
  have B4 := B3.trans (bd.mono B3.size)
  have X4 := X3.below bd (Nat.le_refl _)
  have Y4 := Y3.below bd (Nat.le_refl _)
  have R4 := R3.below bd (Nat.le_refl _)
  have sp4 := sp3.below bd sp3.lt
  have sq4 := sq3.below bd sq3.lt
  have sr4 := sr3.below bd sr3.lt
  have ss4 := ss3.below bd ss3.lt
  clear B3 X3 Y3 R3 sp3 sq3 sr3 ss3 bd
  apply wpCutNNNNN (F := fun c0 c1 c2 c3 q9 W => Below w.heap.size w W  ∧ BoxL W w.heap.size q9 [.pointer (some ⟨c0, 0, none⟩), .pointer (some ⟨c1, 0, none⟩), .pointer (some ⟨c2, 0, none⟩), .pointer (some ⟨c3, 0, none⟩)] ∧ BoxL W w.heap.size (w.heap.size + 1 + 1) [.pointer none, .pointer none] ∧ BoxL W w.heap.size w.heap.size [.pointer (some ⟨p, 0, none⟩), .pointer (some ⟨q, 0, none⟩)] ∧ BoxL W w.heap.size (w.heap.size + 1) [.pointer (some ⟨r, 0, none⟩), .pointer (some ⟨s, 0, none⟩)] ∧ SG W c0 d0 ∧ SG W c1 d1 ∧ SG W c2 d2 ∧ SG W c3 d3 ∧ SG W p x1 ∧ SG W q y1 ∧ SG W r x2 ∧ SG W s y2 ∧ w.heap.size ≤ c0 ∧ w.heap.size ≤ c1 ∧ w.heap.size ≤ c2 ∧ w.heap.size ≤ c3 ∧ w.heap.size + 1 + 1 < q9 ∧ w.heap.size < q9 ∧ w.heap.size + 1 < q9 ∧ ¬ (c0 = q9) ∧ ¬ (c1 = q9) ∧ ¬ (c2 = q9) ∧ ¬ (c3 = q9) ∧ ¬ (p = q9) ∧ ¬ (q = q9) ∧ ¬ (r = q9) ∧ ¬ (s = q9) ∧ ¬ (c0 = w.heap.size + 1 + 1) ∧ ¬ (c1 = w.heap.size + 1 + 1) ∧ ¬ (c2 = w.heap.size + 1 + 1) ∧ ¬ (c3 = w.heap.size + 1 + 1) ∧ ¬ (c0 = w.heap.size) ∧ ¬ (c1 = w.heap.size) ∧ ¬ (c2 = w.heap.size) ∧ ¬ (c3 = w.heap.size) ∧ ¬ (c0 = w.heap.size + 1) ∧ ¬ (c1 = w.heap.size + 1) ∧ ¬ (c2 = w.heap.size + 1) ∧ ¬ (c3 = w.heap.size + 1))
  case hA =>
    have hH : (fun W : World => W.cell? ⟨w.heap.size, 0, none⟩ = some (.pointer (some ⟨p, 0, none⟩)) ∧ W.cell? ⟨w.heap.size, 1, none⟩ = some (.pointer (some ⟨q, 0, none⟩)) ∧ W.cell? ⟨w.heap.size + 1, 0, none⟩ = some (.pointer (some ⟨r, 0, none⟩)) ∧ W.cell? ⟨w.heap.size + 1, 1, none⟩ = some (.pointer (some ⟨s, 0, none⟩))) w4 := ⟨X4.c 0 _ rfl, X4.c 1 _ rfl, Y4.c 0 _ rfl, Y4.c 1 _ rfl⟩
    refine wp_region_held_drew (S := fun W => W.cell? ⟨w.heap.size, 0, none⟩ = some (.pointer (some ⟨p, 0, none⟩)) ∧ W.cell? ⟨w.heap.size, 1, none⟩ = some (.pointer (some ⟨q, 0, none⟩)) ∧ W.cell? ⟨w.heap.size + 1, 0, none⟩ = some (.pointer (some ⟨r, 0, none⟩)) ∧ W.cell? ⟨w.heap.size + 1, 1, none⟩ = some (.pointer (some ⟨s, 0, none⟩))) (by kernel_rfl) (by rw [← hw4.out]; exact hH) ?_
    intro _
    rw [← hw4.out]
    refine takeH 0 (some 45) (.pointer (some ⟨w.heap.size, 0, none⟩)) rfl rfl (by kernel_rfl) (by kernel_rfl) (by kernel_rfl) (fun _ _ _ h => h) (Or.inl ⟨rfl, fun W hW => by go_simp⟩) hH ?_
    simp only [Act.put, List.setIfInBounds_toArray, List.set_cons_zero, List.set_cons_succ]
    refine takeH 1 (some 46) (.pointer (some ⟨p, 0, none⟩)) rfl rfl (by kernel_rfl) (by kernel_rfl) (by kernel_rfl) (fun _ _ _ h => h) (Or.inl ⟨rfl, fun W hW => by obtain ⟨l0, l1, l2, l3⟩ := hW; go_simp⟩) hH ?_
    simp only [Act.put, List.setIfInBounds_toArray, List.set_cons_zero, List.set_cons_succ]
    refine takeH 2 (some 47) (.pointer (some ⟨w.heap.size + 1, 0, none⟩)) rfl rfl (by kernel_rfl) (by kernel_rfl) (by kernel_rfl) (fun _ _ _ h => h) (Or.inl ⟨rfl, fun W hW => by go_simp⟩) hH ?_
    simp only [Act.put, List.setIfInBounds_toArray, List.set_cons_zero, List.set_cons_succ]
    refine takeH 3 (some 48) (.pointer (some ⟨r, 0, none⟩)) rfl rfl (by kernel_rfl) (by kernel_rfl) (by kernel_rfl) (fun _ _ _ h => h) (Or.inl ⟨rfl, fun W hW => by obtain ⟨l0, l1, l2, l3⟩ := hW; go_simp⟩) hH ?_
    simp only [Act.put, List.setIfInBounds_toArray, List.set_cons_zero, List.set_cons_succ]
    refine takeH 5 (some 50) (.pointer (some ⟨w.heap.size, 0, none⟩)) rfl rfl (by kernel_rfl) (by kernel_rfl) (by kernel_rfl) (fun _ _ _ h => h) (Or.inl ⟨rfl, fun W hW => by go_simp⟩) hH ?_
    simp only [Act.put, List.setIfInBounds_toArray, List.set_cons_zero, List.set_cons_succ]
    refine takeH 6 (some 51) (.pointer (some ⟨p, 0, none⟩)) rfl rfl (by kernel_rfl) (by kernel_rfl) (by kernel_rfl) (fun _ _ _ h => h) (Or.inl ⟨rfl, fun W hW => by obtain ⟨l0, l1, l2, l3⟩ := hW; go_simp⟩) hH ?_
    simp only [Act.put, List.setIfInBounds_toArray, List.set_cons_zero, List.set_cons_succ]
    refine takeH 7 (some 52) (.pointer (some ⟨w.heap.size + 1, 1, none⟩)) rfl rfl (by kernel_rfl) (by kernel_rfl) (by kernel_rfl) (fun _ _ _ h => h) (Or.inl ⟨rfl, fun W hW => by go_simp⟩) hH ?_
    simp only [Act.put, List.setIfInBounds_toArray, List.set_cons_zero, List.set_cons_succ]
    refine takeH 8 (some 53) (.pointer (some ⟨s, 0, none⟩)) rfl rfl (by kernel_rfl) (by kernel_rfl) (by kernel_rfl) (fun _ _ _ h => h) (Or.inl ⟨rfl, fun W hW => by obtain ⟨l0, l1, l2, l3⟩ := hW; go_simp⟩) hH ?_
    simp only [Act.put, List.setIfInBounds_toArray, List.set_cons_zero, List.set_cons_succ]
    refine takeH 10 (some 55) (.pointer (some ⟨w.heap.size, 1, none⟩)) rfl rfl (by kernel_rfl) (by kernel_rfl) (by kernel_rfl) (fun _ _ _ h => h) (Or.inl ⟨rfl, fun W hW => by go_simp⟩) hH ?_
    simp only [Act.put, List.setIfInBounds_toArray, List.set_cons_zero, List.set_cons_succ]
    refine takeH 11 (some 56) (.pointer (some ⟨q, 0, none⟩)) rfl rfl (by kernel_rfl) (by kernel_rfl) (by kernel_rfl) (fun _ _ _ h => h) (Or.inl ⟨rfl, fun W hW => by obtain ⟨l0, l1, l2, l3⟩ := hW; go_simp⟩) hH ?_
    simp only [Act.put, List.setIfInBounds_toArray, List.set_cons_zero, List.set_cons_succ]
    refine takeH 12 (some 57) (.pointer (some ⟨w.heap.size + 1, 0, none⟩)) rfl rfl (by kernel_rfl) (by kernel_rfl) (by kernel_rfl) (fun _ _ _ h => h) (Or.inl ⟨rfl, fun W hW => by go_simp⟩) hH ?_
    simp only [Act.put, List.setIfInBounds_toArray, List.set_cons_zero, List.set_cons_succ]
    refine takeH 13 (some 58) (.pointer (some ⟨r, 0, none⟩)) rfl rfl (by kernel_rfl) (by kernel_rfl) (by kernel_rfl) (fun _ _ _ h => h) (Or.inl ⟨rfl, fun W hW => by obtain ⟨l0, l1, l2, l3⟩ := hW; go_simp⟩) hH ?_
    simp only [Act.put, List.setIfInBounds_toArray, List.set_cons_zero, List.set_cons_succ]
    refine takeH 15 (some 60) (.pointer (some ⟨w.heap.size, 1, none⟩)) rfl rfl (by kernel_rfl) (by kernel_rfl) (by kernel_rfl) (fun _ _ _ h => h) (Or.inl ⟨rfl, fun W hW => by go_simp⟩) hH ?_
    simp only [Act.put, List.setIfInBounds_toArray, List.set_cons_zero, List.set_cons_succ]
    refine takeH 16 (some 61) (.pointer (some ⟨q, 0, none⟩)) rfl rfl (by kernel_rfl) (by kernel_rfl) (by kernel_rfl) (fun _ _ _ h => h) (Or.inl ⟨rfl, fun W hW => by obtain ⟨l0, l1, l2, l3⟩ := hW; go_simp⟩) hH ?_
    simp only [Act.put, List.setIfInBounds_toArray, List.set_cons_zero, List.set_cons_succ]
    refine takeH 17 (some 62) (.pointer (some ⟨w.heap.size + 1, 1, none⟩)) rfl rfl (by kernel_rfl) (by kernel_rfl) (by kernel_rfl) (fun _ _ _ h => h) (Or.inl ⟨rfl, fun W hW => by go_simp⟩) hH ?_
    simp only [Act.put, List.setIfInBounds_toArray, List.set_cons_zero, List.set_cons_succ]
    refine takeH 18 (some 63) (.pointer (some ⟨s, 0, none⟩)) rfl rfl (by kernel_rfl) (by kernel_rfl) (by kernel_rfl) (fun _ _ _ h => h) (Or.inl ⟨rfl, fun W hW => by obtain ⟨l0, l1, l2, l3⟩ := hW; go_simp⟩) hH ?_
    simp only [Act.put, List.setIfInBounds_toArray, List.set_cons_zero, List.set_cons_succ]
    refine wpAnyH_ready (rs := [4, 21]) (by kernel_rfl) (by simp) ?_
    refine AllReadyH.cons rfl (fun K hK => ?_) ?_
    · go_simp
      refine (k0 _ sp4 sr4).mono ?_
      rintro e w5 ⟨c0, rfl, hc, sa, bb5⟩
      have ge_sa : w.heap.size ≤ c0 := Nat.le_trans B4.size hc
      have ne_X_sa : ¬ (c0 = w.heap.size) := fun e => by have h1 := X4.hi; omega
      have ne_Y_sa : ¬ (c0 = w.heap.size + 1) := fun e => by have h1 := Y4.hi; omega
      have ne_R_sa : ¬ (c0 = w.heap.size + 1 + 1) := fun e => by have h1 := R4.hi; omega
      clear hc
      have B5 := B4.trans (bb5.mono B4.size)
      have X5 := X4.below bb5 (Nat.le_refl _)
      have Y5 := Y4.below bb5 (Nat.le_refl _)
      have R5 := R4.below bb5 (Nat.le_refl _)
      have sp5 := sp4.below bb5 sp4.lt
      have sq5 := sq4.below bb5 sq4.lt
      have sr5 := sr4.below bb5 sr4.lt
      have ss5 := ss4.below bb5 ss4.lt
      clear bb5 hH
      have sa5 := sa
      clear sa
      have hH : (fun W : World => W.cell? ⟨w.heap.size, 0, none⟩ = some (.pointer (some ⟨p, 0, none⟩)) ∧ W.cell? ⟨w.heap.size, 1, none⟩ = some (.pointer (some ⟨q, 0, none⟩)) ∧ W.cell? ⟨w.heap.size + 1, 0, none⟩ = some (.pointer (some ⟨r, 0, none⟩)) ∧ W.cell? ⟨w.heap.size + 1, 1, none⟩ = some (.pointer (some ⟨s, 0, none⟩))) w5 := ⟨X5.c 0 _ rfl, X5.c 1 _ rfl, Y5.c 0 _ rfl, Y5.c 1 _ rfl⟩
      refine hK.out _ _ hH (fun _ => ?_)
      clear hK K
      refine wpAnyH_ready (rs := [9, 21]) (by kernel_rfl) (by simp) ?_
      refine AllReadyH.cons rfl (fun K hK => ?_) ?_
      · go_simp
        refine (k1 _ sp5 ss5).mono ?_
        rintro e w6 ⟨c1, rfl, hc, sb, bb6⟩
        have ge_sb : w.heap.size ≤ c1 := Nat.le_trans B5.size hc
        have ne_X_sb : ¬ (c1 = w.heap.size) := fun e => by have h1 := X5.hi; omega
        have ne_Y_sb : ¬ (c1 = w.heap.size + 1) := fun e => by have h1 := Y5.hi; omega
        have ne_R_sb : ¬ (c1 = w.heap.size + 1 + 1) := fun e => by have h1 := R5.hi; omega
        clear hc
        have B6 := B5.trans (bb6.mono B5.size)
        have X6 := X5.below bb6 (Nat.le_refl _)
        have Y6 := Y5.below bb6 (Nat.le_refl _)
        have R6 := R5.below bb6 (Nat.le_refl _)
        have sp6 := sp5.below bb6 sp5.lt
        have sq6 := sq5.below bb6 sq5.lt
        have sr6 := sr5.below bb6 sr5.lt
        have ss6 := ss5.below bb6 ss5.lt
        have sa6 := sa5.below bb6 sa5.lt
        clear B5 X5 Y5 R5 sp5 sq5 sr5 ss5 sa5 bb6 hH
        have sb6 := sb
        clear sb
        have hH : (fun W : World => W.cell? ⟨w.heap.size, 0, none⟩ = some (.pointer (some ⟨p, 0, none⟩)) ∧ W.cell? ⟨w.heap.size, 1, none⟩ = some (.pointer (some ⟨q, 0, none⟩)) ∧ W.cell? ⟨w.heap.size + 1, 0, none⟩ = some (.pointer (some ⟨r, 0, none⟩)) ∧ W.cell? ⟨w.heap.size + 1, 1, none⟩ = some (.pointer (some ⟨s, 0, none⟩))) w6 := ⟨X6.c 0 _ rfl, X6.c 1 _ rfl, Y6.c 0 _ rfl, Y6.c 1 _ rfl⟩
        refine hK.out _ _ hH (fun _ => ?_)
        clear hK K
        refine wpAnyH_ready (rs := [14, 21]) (by kernel_rfl) (by simp) ?_
        refine AllReadyH.cons rfl (fun K hK => ?_) ?_
        · go_simp
          refine (k2 _ sq6 sr6).mono ?_
          rintro e w7 ⟨c2, rfl, hc, sc, bb7⟩
          have ge_sc : w.heap.size ≤ c2 := Nat.le_trans B6.size hc
          have ne_X_sc : ¬ (c2 = w.heap.size) := fun e => by have h1 := X6.hi; omega
          have ne_Y_sc : ¬ (c2 = w.heap.size + 1) := fun e => by have h1 := Y6.hi; omega
          have ne_R_sc : ¬ (c2 = w.heap.size + 1 + 1) := fun e => by have h1 := R6.hi; omega
          clear hc
          have B7 := B6.trans (bb7.mono B6.size)
          have X7 := X6.below bb7 (Nat.le_refl _)
          have Y7 := Y6.below bb7 (Nat.le_refl _)
          have R7 := R6.below bb7 (Nat.le_refl _)
          have sp7 := sp6.below bb7 sp6.lt
          have sq7 := sq6.below bb7 sq6.lt
          have sr7 := sr6.below bb7 sr6.lt
          have ss7 := ss6.below bb7 ss6.lt
          have sa7 := sa6.below bb7 sa6.lt
          have sb7 := sb6.below bb7 sb6.lt
          clear B6 X6 Y6 R6 sp6 sq6 sr6 ss6 sa6 sb6 bb7 hH
          have sc7 := sc
          clear sc
          have hH : (fun W : World => W.cell? ⟨w.heap.size, 0, none⟩ = some (.pointer (some ⟨p, 0, none⟩)) ∧ W.cell? ⟨w.heap.size, 1, none⟩ = some (.pointer (some ⟨q, 0, none⟩)) ∧ W.cell? ⟨w.heap.size + 1, 0, none⟩ = some (.pointer (some ⟨r, 0, none⟩)) ∧ W.cell? ⟨w.heap.size + 1, 1, none⟩ = some (.pointer (some ⟨s, 0, none⟩))) w7 := ⟨X7.c 0 _ rfl, X7.c 1 _ rfl, Y7.c 0 _ rfl, Y7.c 1 _ rfl⟩
          refine hK.out _ _ hH (fun _ => ?_)
          clear hK K
          refine wpAnyH_ready (rs := [19, 21]) (by kernel_rfl) (by simp) ?_
          refine AllReadyH.cons rfl (fun K hK => ?_) ?_
          · go_simp
            refine (k3 _ sq7 ss7).mono ?_
            rintro e w8 ⟨c3, rfl, hc, sd, bb8⟩
            have ge_sd : w.heap.size ≤ c3 := Nat.le_trans B7.size hc
            have ne_X_sd : ¬ (c3 = w.heap.size) := fun e => by have h1 := X7.hi; omega
            have ne_Y_sd : ¬ (c3 = w.heap.size + 1) := fun e => by have h1 := Y7.hi; omega
            have ne_R_sd : ¬ (c3 = w.heap.size + 1 + 1) := fun e => by have h1 := R7.hi; omega
            clear hc
            have B8 := B7.trans (bb8.mono B7.size)
            have X8 := X7.below bb8 (Nat.le_refl _)
            have Y8 := Y7.below bb8 (Nat.le_refl _)
            have R8 := R7.below bb8 (Nat.le_refl _)
            have sp8 := sp7.below bb8 sp7.lt
            have sq8 := sq7.below bb8 sq7.lt
            have sr8 := sr7.below bb8 sr7.lt
            have ss8 := ss7.below bb8 ss7.lt
            have sa8 := sa7.below bb8 sa7.lt
            have sb8 := sb7.below bb8 sb7.lt
            have sc8 := sc7.below bb8 sc7.lt
            clear B7 X7 Y7 R7 sp7 sq7 sr7 ss7 sa7 sb7 sc7 bb8 hH
            have sd8 := sd
            clear sd
            have hH : (fun W : World => W.cell? ⟨w.heap.size, 0, none⟩ = some (.pointer (some ⟨p, 0, none⟩)) ∧ W.cell? ⟨w.heap.size, 1, none⟩ = some (.pointer (some ⟨q, 0, none⟩)) ∧ W.cell? ⟨w.heap.size + 1, 0, none⟩ = some (.pointer (some ⟨r, 0, none⟩)) ∧ W.cell? ⟨w.heap.size + 1, 1, none⟩ = some (.pointer (some ⟨s, 0, none⟩))) w8 := ⟨X8.c 0 _ rfl, X8.c 1 _ rfl, Y8.c 0 _ rfl, Y8.c 1 _ rfl⟩
            refine hK.out _ _ hH (fun _ => ?_)
            clear hK K
            refine takeH 20 (some 65) (.agg #[.pointer (some ⟨c0, 0, none⟩), .pointer (some ⟨c1, 0, none⟩), .pointer (some ⟨c2, 0, none⟩), .pointer (some ⟨c3, 0, none⟩)]) rfl rfl (by kernel_rfl) (by kernel_rfl) (by kernel_rfl) (fun _ _ _ h => h) (Or.inl ⟨rfl, fun W hW => by go_simp⟩) hH ?_
            simp only [Act.put, List.setIfInBounds_toArray, List.set_cons_zero, List.set_cons_succ]
            refine oneH 21 rfl (by kernel_rfl) (fun K' hK => ?_)
            go_simp
            clear hH
            obtain ⟨w9, hw9⟩ : ∃ v, v = w8.alloc (.cells #[.pointer none, .pointer none, .pointer none, .pointer none] 128) := ⟨_, rfl⟩
            have bb9 : Below w8.heap.size w8 w9 := by rw [hw9]; exact below1 _ _
            obtain ⟨q9, hq9⟩ : ∃ q, q = w8.heap.size := ⟨_, rfl⟩
            have A9 : BoxL w9 w.heap.size q9 [.pointer none, .pointer none, .pointer none, .pointer none] := by rw [hw9, hq9]; exact (BoxL.made w8 [.pointer none, .pointer none, .pointer none, .pointer none] 128).mono B8.size
            rw [← hw9]
            (try rw [← hq9])
            clear hw9
            have B9 := B8.trans (bb9.mono B8.size)
            have X9 := X8.below bb9 (Nat.le_refl _)
            have Y9 := Y8.below bb9 (Nat.le_refl _)
            have R9 := R8.below bb9 (Nat.le_refl _)
            have sp9 := sp8.below bb9 sp8.lt
            have sq9 := sq8.below bb9 sq8.lt
            have sr9 := sr8.below bb9 sr8.lt
            have ss9 := ss8.below bb9 ss8.lt
            have sa9 := sa8.below bb9 sa8.lt
            have sb9 := sb8.below bb9 sb8.lt
            have sc9 := sc8.below bb9 sc8.lt
            have sd9 := sd8.below bb9 sd8.lt
            have lt_X_A : w.heap.size < q9 := by rw [hq9]; exact X8.hi
            have lt_Y_A : w.heap.size + 1 < q9 := by rw [hq9]; exact Y8.hi
            have lt_R_A : w.heap.size + 1 + 1 < q9 := by rw [hq9]; exact R8.hi
            have ne_A_sp : ¬ (p = q9) := fun e => by have h1 := sp8.lt; omega
            have ne_A_sq : ¬ (q = q9) := fun e => by have h1 := sq8.lt; omega
            have ne_A_sr : ¬ (r = q9) := fun e => by have h1 := sr8.lt; omega
            have ne_A_ss : ¬ (s = q9) := fun e => by have h1 := ss8.lt; omega
            have ne_A_sa : ¬ (c0 = q9) := fun e => by have h1 := sa8.lt; omega
            have ne_A_sb : ¬ (c1 = q9) := fun e => by have h1 := sb8.lt; omega
            have ne_A_sc : ¬ (c2 = q9) := fun e => by have h1 := sc8.lt; omega
            have ne_A_sd : ¬ (c3 = q9) := fun e => by have h1 := sd8.lt; omega
            clear B8 X8 Y8 R8 sp8 sq8 sr8 ss8 sa8 sb8 sc8 sd8 bb9 hq9
            have hH : (fun W : World => W.cell? ⟨w.heap.size, 0, none⟩ = some (.pointer (some ⟨p, 0, none⟩)) ∧ W.cell? ⟨w.heap.size, 1, none⟩ = some (.pointer (some ⟨q, 0, none⟩)) ∧ W.cell? ⟨w.heap.size + 1, 0, none⟩ = some (.pointer (some ⟨r, 0, none⟩)) ∧ W.cell? ⟨w.heap.size + 1, 1, none⟩ = some (.pointer (some ⟨s, 0, none⟩))) w9 := ⟨X9.c 0 _ rfl, X9.c 1 _ rfl, Y9.c 0 _ rfl, Y9.c 1 _ rfl⟩
            refine hK _ _ hH ?_
            clear hK
            have c_A_0 := A9.c 0 _ rfl
            have f_A_0 := A9.f 0 _ rfl
            have c_A_1 := A9.c 1 _ rfl
            have f_A_1 := A9.f 1 _ rfl
            have c_A_2 := A9.c 2 _ rfl
            have f_A_2 := A9.f 2 _ rfl
            have c_A_3 := A9.c 3 _ rfl
            have f_A_3 := A9.f 3 _ rfl
            refine oneH 22 rfl (by kernel_rfl) (fun K' hK => ?_)
            go_simp
            obtain ⟨w10, hw10⟩ : ∃ v, v = (((w9.setCell ⟨q9, 0, none⟩ (.pointer (some ⟨c0, 0, none⟩))).setCell ⟨q9, 1, none⟩ (.pointer (some ⟨c1, 0, none⟩))).setCell ⟨q9, 2, none⟩ (.pointer (some ⟨c2, 0, none⟩))).setCell ⟨q9, 3, none⟩ (.pointer (some ⟨c3, 0, none⟩)) := ⟨_, rfl⟩
            have t10 : Tn [q9] w9 w10 := by rw [hw10]; exact ((((tnL w9 q9 0 (.pointer (some ⟨c0, 0, none⟩))).trans (tnL _ q9 1 (.pointer (some ⟨c1, 0, none⟩)))).trans (tnL _ q9 2 (.pointer (some ⟨c2, 0, none⟩)))).trans (tnL _ q9 3 (.pointer (some ⟨c3, 0, none⟩))))
            have A10 : BoxL w10 w.heap.size q9 [.pointer (some ⟨c0, 0, none⟩), .pointer (some ⟨c1, 0, none⟩), .pointer (some ⟨c2, 0, none⟩), .pointer (some ⟨c3, 0, none⟩)] := by rw [hw10]; exact ((((A9.set 0 (.pointer (some ⟨c0, 0, none⟩)) (by simp)).set 1 (.pointer (some ⟨c1, 0, none⟩)) (by simp)).set 2 (.pointer (some ⟨c2, 0, none⟩)) (by simp)).set 3 (.pointer (some ⟨c3, 0, none⟩)) (by simp))
            have lo10 := A9.lo
            rw [← hw10]
            clear hw10
            have B10 := t10.below B9 B9.size (fun q hq => by simp at hq; omega)
            have X10 := X9.tn t10 (not_one (by omega))
            have Y10 := Y9.tn t10 (not_one (by omega))
            have R10 := R9.tn t10 (not_one (by omega))
            have sp10 := sp9.tnL t10 (not_one (by omega))
            have sq10 := sq9.tnL t10 (not_one (by omega))
            have sr10 := sr9.tnL t10 (not_one (by omega))
            have ss10 := ss9.tnL t10 (not_one (by omega))
            have sa10 := sa9.tnL t10 (not_one (by omega))
            have sb10 := sb9.tnL t10 (not_one (by omega))
            have sc10 := sc9.tnL t10 (not_one (by omega))
            have sd10 := sd9.tnL t10 (not_one (by omega))
            clear B9 X9 Y9 R9 sp9 sq9 sr9 ss9 sa9 sb9 sc9 sd9 A9 t10 lo10
            clear c_A_0 f_A_0 c_A_1 f_A_1 c_A_2 f_A_2 c_A_3 f_A_3
            clear hH
            have hH : (fun W : World => W.cell? ⟨w.heap.size, 0, none⟩ = some (.pointer (some ⟨p, 0, none⟩)) ∧ W.cell? ⟨w.heap.size, 1, none⟩ = some (.pointer (some ⟨q, 0, none⟩)) ∧ W.cell? ⟨w.heap.size + 1, 0, none⟩ = some (.pointer (some ⟨r, 0, none⟩)) ∧ W.cell? ⟨w.heap.size + 1, 1, none⟩ = some (.pointer (some ⟨s, 0, none⟩))) w10 := ⟨X10.c 0 _ rfl, X10.c 1 _ rfl, Y10.c 0 _ rfl, Y10.c 1 _ rfl⟩
            refine hK _ _ hH ?_
            clear hK
            clear hH
            refine wpAnyH_done (by kernel_rfl) ?_ _
            exact CutNNNNN.mk c0 c1 c2 c3 q9 rfl ⟨B10, A10, R10, X10, Y10, sa10, sb10, sc10, sd10, sp10, sq10, sr10, ss10, ge_sa, ge_sb, ge_sc, ge_sd, lt_R_A, lt_X_A, lt_Y_A, ne_A_sa, ne_A_sb, ne_A_sc, ne_A_sd, ne_A_sp, ne_A_sq, ne_A_sr, ne_A_ss, ne_R_sa, ne_R_sb, ne_R_sc, ne_R_sd, ne_X_sa, ne_X_sb, ne_X_sc, ne_X_sd, ne_Y_sa, ne_Y_sb, ne_Y_sc, ne_Y_sd⟩
          refine AllReadyH.cons rfl (fun K hK => ?_) ?_
          · go_simp
            clear hH
            obtain ⟨w8, hw8⟩ : ∃ v, v = w7.alloc (.cells #[.pointer none, .pointer none, .pointer none, .pointer none] 128) := ⟨_, rfl⟩
            have bb8 : Below w7.heap.size w7 w8 := by rw [hw8]; exact below1 _ _
            obtain ⟨q8, hq8⟩ : ∃ q, q = w7.heap.size := ⟨_, rfl⟩
            have A8 : BoxL w8 w.heap.size q8 [.pointer none, .pointer none, .pointer none, .pointer none] := by rw [hw8, hq8]; exact (BoxL.made w7 [.pointer none, .pointer none, .pointer none, .pointer none] 128).mono B7.size
            rw [← hw8]
            (try rw [← hq8])
            clear hw8
            have B8 := B7.trans (bb8.mono B7.size)
            have X8 := X7.below bb8 (Nat.le_refl _)
            have Y8 := Y7.below bb8 (Nat.le_refl _)
            have R8 := R7.below bb8 (Nat.le_refl _)
            have sp8 := sp7.below bb8 sp7.lt
            have sq8 := sq7.below bb8 sq7.lt
            have sr8 := sr7.below bb8 sr7.lt
            have ss8 := ss7.below bb8 ss7.lt
            have sa8 := sa7.below bb8 sa7.lt
            have sb8 := sb7.below bb8 sb7.lt
            have sc8 := sc7.below bb8 sc7.lt
            have lt_X_A : w.heap.size < q8 := by rw [hq8]; exact X7.hi
            have lt_Y_A : w.heap.size + 1 < q8 := by rw [hq8]; exact Y7.hi
            have lt_R_A : w.heap.size + 1 + 1 < q8 := by rw [hq8]; exact R7.hi
            have ne_A_sp : ¬ (p = q8) := fun e => by have h1 := sp7.lt; omega
            have ne_A_sq : ¬ (q = q8) := fun e => by have h1 := sq7.lt; omega
            have ne_A_sr : ¬ (r = q8) := fun e => by have h1 := sr7.lt; omega
            have ne_A_ss : ¬ (s = q8) := fun e => by have h1 := ss7.lt; omega
            have ne_A_sa : ¬ (c0 = q8) := fun e => by have h1 := sa7.lt; omega
            have ne_A_sb : ¬ (c1 = q8) := fun e => by have h1 := sb7.lt; omega
            have ne_A_sc : ¬ (c2 = q8) := fun e => by have h1 := sc7.lt; omega
            clear B7 X7 Y7 R7 sp7 sq7 sr7 ss7 sa7 sb7 sc7 bb8 hq8
            have hH : (fun W : World => W.cell? ⟨w.heap.size, 0, none⟩ = some (.pointer (some ⟨p, 0, none⟩)) ∧ W.cell? ⟨w.heap.size, 1, none⟩ = some (.pointer (some ⟨q, 0, none⟩)) ∧ W.cell? ⟨w.heap.size + 1, 0, none⟩ = some (.pointer (some ⟨r, 0, none⟩)) ∧ W.cell? ⟨w.heap.size + 1, 1, none⟩ = some (.pointer (some ⟨s, 0, none⟩))) w8 := ⟨X8.c 0 _ rfl, X8.c 1 _ rfl, Y8.c 0 _ rfl, Y8.c 1 _ rfl⟩
            refine hK.out _ _ hH (fun _ => ?_)
            clear hK K
            refine oneH 19 rfl (by kernel_rfl) (fun K' hK => ?_)
            go_simp
            refine (k3 _ sq8 ss8).mono ?_
            rintro e w9 ⟨c3, rfl, hc, sd, bb9⟩
            have ge_sd : w.heap.size ≤ c3 := Nat.le_trans B8.size hc
            have ne_X_sd : ¬ (c3 = w.heap.size) := fun e => by have h1 := X8.hi; omega
            have ne_Y_sd : ¬ (c3 = w.heap.size + 1) := fun e => by have h1 := Y8.hi; omega
            have ne_R_sd : ¬ (c3 = w.heap.size + 1 + 1) := fun e => by have h1 := R8.hi; omega
            have ne_A_sd : ¬ (c3 = q8) := fun e => by have h1 := A8.hi; omega
            clear hc
            have B9 := B8.trans (bb9.mono B8.size)
            have X9 := X8.below bb9 (Nat.le_refl _)
            have Y9 := Y8.below bb9 (Nat.le_refl _)
            have R9 := R8.below bb9 (Nat.le_refl _)
            have sp9 := sp8.below bb9 sp8.lt
            have sq9 := sq8.below bb9 sq8.lt
            have sr9 := sr8.below bb9 sr8.lt
            have ss9 := ss8.below bb9 ss8.lt
            have sa9 := sa8.below bb9 sa8.lt
            have sb9 := sb8.below bb9 sb8.lt
            have sc9 := sc8.below bb9 sc8.lt
            have A9 := A8.below bb9 (Nat.le_refl _)
            clear B8 X8 Y8 R8 sp8 sq8 sr8 ss8 sa8 sb8 sc8 A8 bb9 hH
            have sd9 := sd
            clear sd
            have hH : (fun W : World => W.cell? ⟨w.heap.size, 0, none⟩ = some (.pointer (some ⟨p, 0, none⟩)) ∧ W.cell? ⟨w.heap.size, 1, none⟩ = some (.pointer (some ⟨q, 0, none⟩)) ∧ W.cell? ⟨w.heap.size + 1, 0, none⟩ = some (.pointer (some ⟨r, 0, none⟩)) ∧ W.cell? ⟨w.heap.size + 1, 1, none⟩ = some (.pointer (some ⟨s, 0, none⟩))) w9 := ⟨X9.c 0 _ rfl, X9.c 1 _ rfl, Y9.c 0 _ rfl, Y9.c 1 _ rfl⟩
            refine hK _ _ hH ?_
            clear hK
            refine takeH 20 (some 65) (.agg #[.pointer (some ⟨c0, 0, none⟩), .pointer (some ⟨c1, 0, none⟩), .pointer (some ⟨c2, 0, none⟩), .pointer (some ⟨c3, 0, none⟩)]) rfl rfl (by kernel_rfl) (by kernel_rfl) (by kernel_rfl) (fun _ _ _ h => h) (Or.inl ⟨rfl, fun W hW => by go_simp⟩) hH ?_
            simp only [Act.put, List.setIfInBounds_toArray, List.set_cons_zero, List.set_cons_succ]
            have c_A_0 := A9.c 0 _ rfl
            have f_A_0 := A9.f 0 _ rfl
            have c_A_1 := A9.c 1 _ rfl
            have f_A_1 := A9.f 1 _ rfl
            have c_A_2 := A9.c 2 _ rfl
            have f_A_2 := A9.f 2 _ rfl
            have c_A_3 := A9.c 3 _ rfl
            have f_A_3 := A9.f 3 _ rfl
            refine oneH 22 rfl (by kernel_rfl) (fun K' hK => ?_)
            go_simp
            obtain ⟨w10, hw10⟩ : ∃ v, v = (((w9.setCell ⟨q8, 0, none⟩ (.pointer (some ⟨c0, 0, none⟩))).setCell ⟨q8, 1, none⟩ (.pointer (some ⟨c1, 0, none⟩))).setCell ⟨q8, 2, none⟩ (.pointer (some ⟨c2, 0, none⟩))).setCell ⟨q8, 3, none⟩ (.pointer (some ⟨c3, 0, none⟩)) := ⟨_, rfl⟩
            have t10 : Tn [q8] w9 w10 := by rw [hw10]; exact ((((tnL w9 q8 0 (.pointer (some ⟨c0, 0, none⟩))).trans (tnL _ q8 1 (.pointer (some ⟨c1, 0, none⟩)))).trans (tnL _ q8 2 (.pointer (some ⟨c2, 0, none⟩)))).trans (tnL _ q8 3 (.pointer (some ⟨c3, 0, none⟩))))
            have A10 : BoxL w10 w.heap.size q8 [.pointer (some ⟨c0, 0, none⟩), .pointer (some ⟨c1, 0, none⟩), .pointer (some ⟨c2, 0, none⟩), .pointer (some ⟨c3, 0, none⟩)] := by rw [hw10]; exact ((((A9.set 0 (.pointer (some ⟨c0, 0, none⟩)) (by simp)).set 1 (.pointer (some ⟨c1, 0, none⟩)) (by simp)).set 2 (.pointer (some ⟨c2, 0, none⟩)) (by simp)).set 3 (.pointer (some ⟨c3, 0, none⟩)) (by simp))
            have lo10 := A9.lo
            rw [← hw10]
            clear hw10
            have B10 := t10.below B9 B9.size (fun q hq => by simp at hq; omega)
            have X10 := X9.tn t10 (not_one (by omega))
            have Y10 := Y9.tn t10 (not_one (by omega))
            have R10 := R9.tn t10 (not_one (by omega))
            have sp10 := sp9.tnL t10 (not_one (by omega))
            have sq10 := sq9.tnL t10 (not_one (by omega))
            have sr10 := sr9.tnL t10 (not_one (by omega))
            have ss10 := ss9.tnL t10 (not_one (by omega))
            have sa10 := sa9.tnL t10 (not_one (by omega))
            have sb10 := sb9.tnL t10 (not_one (by omega))
            have sc10 := sc9.tnL t10 (not_one (by omega))
            have sd10 := sd9.tnL t10 (not_one (by omega))
            clear B9 X9 Y9 R9 sp9 sq9 sr9 ss9 sa9 sb9 sc9 A9 sd9 t10 lo10
            clear c_A_0 f_A_0 c_A_1 f_A_1 c_A_2 f_A_2 c_A_3 f_A_3
            clear hH
            have hH : (fun W : World => W.cell? ⟨w.heap.size, 0, none⟩ = some (.pointer (some ⟨p, 0, none⟩)) ∧ W.cell? ⟨w.heap.size, 1, none⟩ = some (.pointer (some ⟨q, 0, none⟩)) ∧ W.cell? ⟨w.heap.size + 1, 0, none⟩ = some (.pointer (some ⟨r, 0, none⟩)) ∧ W.cell? ⟨w.heap.size + 1, 1, none⟩ = some (.pointer (some ⟨s, 0, none⟩))) w10 := ⟨X10.c 0 _ rfl, X10.c 1 _ rfl, Y10.c 0 _ rfl, Y10.c 1 _ rfl⟩
            refine hK _ _ hH ?_
            clear hK
            clear hH
            refine wpAnyH_done (by kernel_rfl) ?_ _
            exact CutNNNNN.mk c0 c1 c2 c3 q8 rfl ⟨B10, A10, R10, X10, Y10, sa10, sb10, sc10, sd10, sp10, sq10, sr10, ss10, ge_sa, ge_sb, ge_sc, ge_sd, lt_R_A, lt_X_A, lt_Y_A, ne_A_sa, ne_A_sb, ne_A_sc, ne_A_sd, ne_A_sp, ne_A_sq, ne_A_sr, ne_A_ss, ne_R_sa, ne_R_sb, ne_R_sc, ne_R_sd, ne_X_sa, ne_X_sb, ne_X_sc, ne_X_sd, ne_Y_sa, ne_Y_sb, ne_Y_sc, ne_Y_sd⟩
          exact AllReadyH.nil
        refine AllReadyH.cons rfl (fun K hK => ?_) ?_
        · go_simp
          clear hH
          obtain ⟨w7, hw7⟩ : ∃ v, v = w6.alloc (.cells #[.pointer none, .pointer none, .pointer none, .pointer none] 128) := ⟨_, rfl⟩
          have bb7 : Below w6.heap.size w6 w7 := by rw [hw7]; exact below1 _ _
          obtain ⟨q7, hq7⟩ : ∃ q, q = w6.heap.size := ⟨_, rfl⟩
          have A7 : BoxL w7 w.heap.size q7 [.pointer none, .pointer none, .pointer none, .pointer none] := by rw [hw7, hq7]; exact (BoxL.made w6 [.pointer none, .pointer none, .pointer none, .pointer none] 128).mono B6.size
          rw [← hw7]
          (try rw [← hq7])
          clear hw7
          have B7 := B6.trans (bb7.mono B6.size)
          have X7 := X6.below bb7 (Nat.le_refl _)
          have Y7 := Y6.below bb7 (Nat.le_refl _)
          have R7 := R6.below bb7 (Nat.le_refl _)
          have sp7 := sp6.below bb7 sp6.lt
          have sq7 := sq6.below bb7 sq6.lt
          have sr7 := sr6.below bb7 sr6.lt
          have ss7 := ss6.below bb7 ss6.lt
          have sa7 := sa6.below bb7 sa6.lt
          have sb7 := sb6.below bb7 sb6.lt
          have lt_X_A : w.heap.size < q7 := by rw [hq7]; exact X6.hi
          have lt_Y_A : w.heap.size + 1 < q7 := by rw [hq7]; exact Y6.hi
          have lt_R_A : w.heap.size + 1 + 1 < q7 := by rw [hq7]; exact R6.hi
          have ne_A_sp : ¬ (p = q7) := fun e => by have h1 := sp6.lt; omega
          have ne_A_sq : ¬ (q = q7) := fun e => by have h1 := sq6.lt; omega
          have ne_A_sr : ¬ (r = q7) := fun e => by have h1 := sr6.lt; omega
          have ne_A_ss : ¬ (s = q7) := fun e => by have h1 := ss6.lt; omega
          have ne_A_sa : ¬ (c0 = q7) := fun e => by have h1 := sa6.lt; omega
          have ne_A_sb : ¬ (c1 = q7) := fun e => by have h1 := sb6.lt; omega
          clear B6 X6 Y6 R6 sp6 sq6 sr6 ss6 sa6 sb6 bb7 hq7
          have hH : (fun W : World => W.cell? ⟨w.heap.size, 0, none⟩ = some (.pointer (some ⟨p, 0, none⟩)) ∧ W.cell? ⟨w.heap.size, 1, none⟩ = some (.pointer (some ⟨q, 0, none⟩)) ∧ W.cell? ⟨w.heap.size + 1, 0, none⟩ = some (.pointer (some ⟨r, 0, none⟩)) ∧ W.cell? ⟨w.heap.size + 1, 1, none⟩ = some (.pointer (some ⟨s, 0, none⟩))) w7 := ⟨X7.c 0 _ rfl, X7.c 1 _ rfl, Y7.c 0 _ rfl, Y7.c 1 _ rfl⟩
          refine hK.out _ _ hH (fun _ => ?_)
          clear hK K
          refine oneH 14 rfl (by kernel_rfl) (fun K' hK => ?_)
          go_simp
          refine (k2 _ sq7 sr7).mono ?_
          rintro e w8 ⟨c2, rfl, hc, sc, bb8⟩
          have ge_sc : w.heap.size ≤ c2 := Nat.le_trans B7.size hc
          have ne_X_sc : ¬ (c2 = w.heap.size) := fun e => by have h1 := X7.hi; omega
          have ne_Y_sc : ¬ (c2 = w.heap.size + 1) := fun e => by have h1 := Y7.hi; omega
          have ne_R_sc : ¬ (c2 = w.heap.size + 1 + 1) := fun e => by have h1 := R7.hi; omega
          have ne_A_sc : ¬ (c2 = q7) := fun e => by have h1 := A7.hi; omega
          clear hc
          have B8 := B7.trans (bb8.mono B7.size)
          have X8 := X7.below bb8 (Nat.le_refl _)
          have Y8 := Y7.below bb8 (Nat.le_refl _)
          have R8 := R7.below bb8 (Nat.le_refl _)
          have sp8 := sp7.below bb8 sp7.lt
          have sq8 := sq7.below bb8 sq7.lt
          have sr8 := sr7.below bb8 sr7.lt
          have ss8 := ss7.below bb8 ss7.lt
          have sa8 := sa7.below bb8 sa7.lt
          have sb8 := sb7.below bb8 sb7.lt
          have A8 := A7.below bb8 (Nat.le_refl _)
          clear B7 X7 Y7 R7 sp7 sq7 sr7 ss7 sa7 sb7 A7 bb8 hH
          have sc8 := sc
          clear sc
          have hH : (fun W : World => W.cell? ⟨w.heap.size, 0, none⟩ = some (.pointer (some ⟨p, 0, none⟩)) ∧ W.cell? ⟨w.heap.size, 1, none⟩ = some (.pointer (some ⟨q, 0, none⟩)) ∧ W.cell? ⟨w.heap.size + 1, 0, none⟩ = some (.pointer (some ⟨r, 0, none⟩)) ∧ W.cell? ⟨w.heap.size + 1, 1, none⟩ = some (.pointer (some ⟨s, 0, none⟩))) w8 := ⟨X8.c 0 _ rfl, X8.c 1 _ rfl, Y8.c 0 _ rfl, Y8.c 1 _ rfl⟩
          refine hK _ _ hH ?_
          clear hK
          refine oneH 19 rfl (by kernel_rfl) (fun K' hK => ?_)
          go_simp
          refine (k3 _ sq8 ss8).mono ?_
          rintro e w9 ⟨c3, rfl, hc, sd, bb9⟩
          have ge_sd : w.heap.size ≤ c3 := Nat.le_trans B8.size hc
          have ne_X_sd : ¬ (c3 = w.heap.size) := fun e => by have h1 := X8.hi; omega
          have ne_Y_sd : ¬ (c3 = w.heap.size + 1) := fun e => by have h1 := Y8.hi; omega
          have ne_R_sd : ¬ (c3 = w.heap.size + 1 + 1) := fun e => by have h1 := R8.hi; omega
          have ne_A_sd : ¬ (c3 = q7) := fun e => by have h1 := A8.hi; omega
          clear hc
          have B9 := B8.trans (bb9.mono B8.size)
          have X9 := X8.below bb9 (Nat.le_refl _)
          have Y9 := Y8.below bb9 (Nat.le_refl _)
          have R9 := R8.below bb9 (Nat.le_refl _)
          have sp9 := sp8.below bb9 sp8.lt
          have sq9 := sq8.below bb9 sq8.lt
          have sr9 := sr8.below bb9 sr8.lt
          have ss9 := ss8.below bb9 ss8.lt
          have sa9 := sa8.below bb9 sa8.lt
          have sb9 := sb8.below bb9 sb8.lt
          have A9 := A8.below bb9 (Nat.le_refl _)
          have sc9 := sc8.below bb9 sc8.lt
          clear B8 X8 Y8 R8 sp8 sq8 sr8 ss8 sa8 sb8 A8 sc8 bb9 hH
          have sd9 := sd
          clear sd
          have hH : (fun W : World => W.cell? ⟨w.heap.size, 0, none⟩ = some (.pointer (some ⟨p, 0, none⟩)) ∧ W.cell? ⟨w.heap.size, 1, none⟩ = some (.pointer (some ⟨q, 0, none⟩)) ∧ W.cell? ⟨w.heap.size + 1, 0, none⟩ = some (.pointer (some ⟨r, 0, none⟩)) ∧ W.cell? ⟨w.heap.size + 1, 1, none⟩ = some (.pointer (some ⟨s, 0, none⟩))) w9 := ⟨X9.c 0 _ rfl, X9.c 1 _ rfl, Y9.c 0 _ rfl, Y9.c 1 _ rfl⟩
          refine hK _ _ hH ?_
          clear hK
          refine takeH 20 (some 65) (.agg #[.pointer (some ⟨c0, 0, none⟩), .pointer (some ⟨c1, 0, none⟩), .pointer (some ⟨c2, 0, none⟩), .pointer (some ⟨c3, 0, none⟩)]) rfl rfl (by kernel_rfl) (by kernel_rfl) (by kernel_rfl) (fun _ _ _ h => h) (Or.inl ⟨rfl, fun W hW => by go_simp⟩) hH ?_
          simp only [Act.put, List.setIfInBounds_toArray, List.set_cons_zero, List.set_cons_succ]
          have c_A_0 := A9.c 0 _ rfl
          have f_A_0 := A9.f 0 _ rfl
          have c_A_1 := A9.c 1 _ rfl
          have f_A_1 := A9.f 1 _ rfl
          have c_A_2 := A9.c 2 _ rfl
          have f_A_2 := A9.f 2 _ rfl
          have c_A_3 := A9.c 3 _ rfl
          have f_A_3 := A9.f 3 _ rfl
          refine oneH 22 rfl (by kernel_rfl) (fun K' hK => ?_)
          go_simp
          obtain ⟨w10, hw10⟩ : ∃ v, v = (((w9.setCell ⟨q7, 0, none⟩ (.pointer (some ⟨c0, 0, none⟩))).setCell ⟨q7, 1, none⟩ (.pointer (some ⟨c1, 0, none⟩))).setCell ⟨q7, 2, none⟩ (.pointer (some ⟨c2, 0, none⟩))).setCell ⟨q7, 3, none⟩ (.pointer (some ⟨c3, 0, none⟩)) := ⟨_, rfl⟩
          have t10 : Tn [q7] w9 w10 := by rw [hw10]; exact ((((tnL w9 q7 0 (.pointer (some ⟨c0, 0, none⟩))).trans (tnL _ q7 1 (.pointer (some ⟨c1, 0, none⟩)))).trans (tnL _ q7 2 (.pointer (some ⟨c2, 0, none⟩)))).trans (tnL _ q7 3 (.pointer (some ⟨c3, 0, none⟩))))
          have A10 : BoxL w10 w.heap.size q7 [.pointer (some ⟨c0, 0, none⟩), .pointer (some ⟨c1, 0, none⟩), .pointer (some ⟨c2, 0, none⟩), .pointer (some ⟨c3, 0, none⟩)] := by rw [hw10]; exact ((((A9.set 0 (.pointer (some ⟨c0, 0, none⟩)) (by simp)).set 1 (.pointer (some ⟨c1, 0, none⟩)) (by simp)).set 2 (.pointer (some ⟨c2, 0, none⟩)) (by simp)).set 3 (.pointer (some ⟨c3, 0, none⟩)) (by simp))
          have lo10 := A9.lo
          rw [← hw10]
          clear hw10
          have B10 := t10.below B9 B9.size (fun q hq => by simp at hq; omega)
          have X10 := X9.tn t10 (not_one (by omega))
          have Y10 := Y9.tn t10 (not_one (by omega))
          have R10 := R9.tn t10 (not_one (by omega))
          have sp10 := sp9.tnL t10 (not_one (by omega))
          have sq10 := sq9.tnL t10 (not_one (by omega))
          have sr10 := sr9.tnL t10 (not_one (by omega))
          have ss10 := ss9.tnL t10 (not_one (by omega))
          have sa10 := sa9.tnL t10 (not_one (by omega))
          have sb10 := sb9.tnL t10 (not_one (by omega))
          have sc10 := sc9.tnL t10 (not_one (by omega))
          have sd10 := sd9.tnL t10 (not_one (by omega))
          clear B9 X9 Y9 R9 sp9 sq9 sr9 ss9 sa9 sb9 A9 sc9 sd9 t10 lo10
          clear c_A_0 f_A_0 c_A_1 f_A_1 c_A_2 f_A_2 c_A_3 f_A_3
          clear hH
          have hH : (fun W : World => W.cell? ⟨w.heap.size, 0, none⟩ = some (.pointer (some ⟨p, 0, none⟩)) ∧ W.cell? ⟨w.heap.size, 1, none⟩ = some (.pointer (some ⟨q, 0, none⟩)) ∧ W.cell? ⟨w.heap.size + 1, 0, none⟩ = some (.pointer (some ⟨r, 0, none⟩)) ∧ W.cell? ⟨w.heap.size + 1, 1, none⟩ = some (.pointer (some ⟨s, 0, none⟩))) w10 := ⟨X10.c 0 _ rfl, X10.c 1 _ rfl, Y10.c 0 _ rfl, Y10.c 1 _ rfl⟩
          refine hK _ _ hH ?_
          clear hK
          clear hH
          refine wpAnyH_done (by kernel_rfl) ?_ _
          exact CutNNNNN.mk c0 c1 c2 c3 q7 rfl ⟨B10, A10, R10, X10, Y10, sa10, sb10, sc10, sd10, sp10, sq10, sr10, ss10, ge_sa, ge_sb, ge_sc, ge_sd, lt_R_A, lt_X_A, lt_Y_A, ne_A_sa, ne_A_sb, ne_A_sc, ne_A_sd, ne_A_sp, ne_A_sq, ne_A_sr, ne_A_ss, ne_R_sa, ne_R_sb, ne_R_sc, ne_R_sd, ne_X_sa, ne_X_sb, ne_X_sc, ne_X_sd, ne_Y_sa, ne_Y_sb, ne_Y_sc, ne_Y_sd⟩
        exact AllReadyH.nil
      refine AllReadyH.cons rfl (fun K hK => ?_) ?_
      · go_simp
        clear hH
        obtain ⟨w6, hw6⟩ : ∃ v, v = w5.alloc (.cells #[.pointer none, .pointer none, .pointer none, .pointer none] 128) := ⟨_, rfl⟩
        have bb6 : Below w5.heap.size w5 w6 := by rw [hw6]; exact below1 _ _
        obtain ⟨q6, hq6⟩ : ∃ q, q = w5.heap.size := ⟨_, rfl⟩
        have A6 : BoxL w6 w.heap.size q6 [.pointer none, .pointer none, .pointer none, .pointer none] := by rw [hw6, hq6]; exact (BoxL.made w5 [.pointer none, .pointer none, .pointer none, .pointer none] 128).mono B5.size
        rw [← hw6]
        (try rw [← hq6])
        clear hw6
        have B6 := B5.trans (bb6.mono B5.size)
        have X6 := X5.below bb6 (Nat.le_refl _)
        have Y6 := Y5.below bb6 (Nat.le_refl _)
        have R6 := R5.below bb6 (Nat.le_refl _)
        have sp6 := sp5.below bb6 sp5.lt
        have sq6 := sq5.below bb6 sq5.lt
        have sr6 := sr5.below bb6 sr5.lt
        have ss6 := ss5.below bb6 ss5.lt
        have sa6 := sa5.below bb6 sa5.lt
        have lt_X_A : w.heap.size < q6 := by rw [hq6]; exact X5.hi
        have lt_Y_A : w.heap.size + 1 < q6 := by rw [hq6]; exact Y5.hi
        have lt_R_A : w.heap.size + 1 + 1 < q6 := by rw [hq6]; exact R5.hi
        have ne_A_sp : ¬ (p = q6) := fun e => by have h1 := sp5.lt; omega
        have ne_A_sq : ¬ (q = q6) := fun e => by have h1 := sq5.lt; omega
        have ne_A_sr : ¬ (r = q6) := fun e => by have h1 := sr5.lt; omega
        have ne_A_ss : ¬ (s = q6) := fun e => by have h1 := ss5.lt; omega
        have ne_A_sa : ¬ (c0 = q6) := fun e => by have h1 := sa5.lt; omega
        clear B5 X5 Y5 R5 sp5 sq5 sr5 ss5 sa5 bb6 hq6
        have hH : (fun W : World => W.cell? ⟨w.heap.size, 0, none⟩ = some (.pointer (some ⟨p, 0, none⟩)) ∧ W.cell? ⟨w.heap.size, 1, none⟩ = some (.pointer (some ⟨q, 0, none⟩)) ∧ W.cell? ⟨w.heap.size + 1, 0, none⟩ = some (.pointer (some ⟨r, 0, none⟩)) ∧ W.cell? ⟨w.heap.size + 1, 1, none⟩ = some (.pointer (some ⟨s, 0, none⟩))) w6 := ⟨X6.c 0 _ rfl, X6.c 1 _ rfl, Y6.c 0 _ rfl, Y6.c 1 _ rfl⟩
        refine hK.out _ _ hH (fun _ => ?_)
        clear hK K
        refine oneH 9 rfl (by kernel_rfl) (fun K' hK => ?_)
        go_simp
        refine (k1 _ sp6 ss6).mono ?_
        rintro e w7 ⟨c1, rfl, hc, sb, bb7⟩
        have ge_sb : w.heap.size ≤ c1 := Nat.le_trans B6.size hc
        have ne_X_sb : ¬ (c1 = w.heap.size) := fun e => by have h1 := X6.hi; omega
        have ne_Y_sb : ¬ (c1 = w.heap.size + 1) := fun e => by have h1 := Y6.hi; omega
        have ne_R_sb : ¬ (c1 = w.heap.size + 1 + 1) := fun e => by have h1 := R6.hi; omega
        have ne_A_sb : ¬ (c1 = q6) := fun e => by have h1 := A6.hi; omega
        clear hc
        have B7 := B6.trans (bb7.mono B6.size)
        have X7 := X6.below bb7 (Nat.le_refl _)
        have Y7 := Y6.below bb7 (Nat.le_refl _)
        have R7 := R6.below bb7 (Nat.le_refl _)
        have sp7 := sp6.below bb7 sp6.lt
        have sq7 := sq6.below bb7 sq6.lt
        have sr7 := sr6.below bb7 sr6.lt
        have ss7 := ss6.below bb7 ss6.lt
        have sa7 := sa6.below bb7 sa6.lt
        have A7 := A6.below bb7 (Nat.le_refl _)
        clear B6 X6 Y6 R6 sp6 sq6 sr6 ss6 sa6 A6 bb7 hH
        have sb7 := sb
        clear sb
        have hH : (fun W : World => W.cell? ⟨w.heap.size, 0, none⟩ = some (.pointer (some ⟨p, 0, none⟩)) ∧ W.cell? ⟨w.heap.size, 1, none⟩ = some (.pointer (some ⟨q, 0, none⟩)) ∧ W.cell? ⟨w.heap.size + 1, 0, none⟩ = some (.pointer (some ⟨r, 0, none⟩)) ∧ W.cell? ⟨w.heap.size + 1, 1, none⟩ = some (.pointer (some ⟨s, 0, none⟩))) w7 := ⟨X7.c 0 _ rfl, X7.c 1 _ rfl, Y7.c 0 _ rfl, Y7.c 1 _ rfl⟩
        refine hK _ _ hH ?_
        clear hK
        refine oneH 14 rfl (by kernel_rfl) (fun K' hK => ?_)
        go_simp
        refine (k2 _ sq7 sr7).mono ?_
        rintro e w8 ⟨c2, rfl, hc, sc, bb8⟩
        have ge_sc : w.heap.size ≤ c2 := Nat.le_trans B7.size hc
        have ne_X_sc : ¬ (c2 = w.heap.size) := fun e => by have h1 := X7.hi; omega
        have ne_Y_sc : ¬ (c2 = w.heap.size + 1) := fun e => by have h1 := Y7.hi; omega
        have ne_R_sc : ¬ (c2 = w.heap.size + 1 + 1) := fun e => by have h1 := R7.hi; omega
        have ne_A_sc : ¬ (c2 = q6) := fun e => by have h1 := A7.hi; omega
        clear hc
        have B8 := B7.trans (bb8.mono B7.size)
        have X8 := X7.below bb8 (Nat.le_refl _)
        have Y8 := Y7.below bb8 (Nat.le_refl _)
        have R8 := R7.below bb8 (Nat.le_refl _)
        have sp8 := sp7.below bb8 sp7.lt
        have sq8 := sq7.below bb8 sq7.lt
        have sr8 := sr7.below bb8 sr7.lt
        have ss8 := ss7.below bb8 ss7.lt
        have sa8 := sa7.below bb8 sa7.lt
        have A8 := A7.below bb8 (Nat.le_refl _)
        have sb8 := sb7.below bb8 sb7.lt
        clear B7 X7 Y7 R7 sp7 sq7 sr7 ss7 sa7 A7 sb7 bb8 hH
        have sc8 := sc
        clear sc
        have hH : (fun W : World => W.cell? ⟨w.heap.size, 0, none⟩ = some (.pointer (some ⟨p, 0, none⟩)) ∧ W.cell? ⟨w.heap.size, 1, none⟩ = some (.pointer (some ⟨q, 0, none⟩)) ∧ W.cell? ⟨w.heap.size + 1, 0, none⟩ = some (.pointer (some ⟨r, 0, none⟩)) ∧ W.cell? ⟨w.heap.size + 1, 1, none⟩ = some (.pointer (some ⟨s, 0, none⟩))) w8 := ⟨X8.c 0 _ rfl, X8.c 1 _ rfl, Y8.c 0 _ rfl, Y8.c 1 _ rfl⟩
        refine hK _ _ hH ?_
        clear hK
        refine oneH 19 rfl (by kernel_rfl) (fun K' hK => ?_)
        go_simp
        refine (k3 _ sq8 ss8).mono ?_
        rintro e w9 ⟨c3, rfl, hc, sd, bb9⟩
        have ge_sd : w.heap.size ≤ c3 := Nat.le_trans B8.size hc
        have ne_X_sd : ¬ (c3 = w.heap.size) := fun e => by have h1 := X8.hi; omega
        have ne_Y_sd : ¬ (c3 = w.heap.size + 1) := fun e => by have h1 := Y8.hi; omega
        have ne_R_sd : ¬ (c3 = w.heap.size + 1 + 1) := fun e => by have h1 := R8.hi; omega
        have ne_A_sd : ¬ (c3 = q6) := fun e => by have h1 := A8.hi; omega
        clear hc
        have B9 := B8.trans (bb9.mono B8.size)
        have X9 := X8.below bb9 (Nat.le_refl _)
        have Y9 := Y8.below bb9 (Nat.le_refl _)
        have R9 := R8.below bb9 (Nat.le_refl _)
        have sp9 := sp8.below bb9 sp8.lt
        have sq9 := sq8.below bb9 sq8.lt
        have sr9 := sr8.below bb9 sr8.lt
        have ss9 := ss8.below bb9 ss8.lt
        have sa9 := sa8.below bb9 sa8.lt
        have A9 := A8.below bb9 (Nat.le_refl _)
        have sb9 := sb8.below bb9 sb8.lt
        have sc9 := sc8.below bb9 sc8.lt
        clear B8 X8 Y8 R8 sp8 sq8 sr8 ss8 sa8 A8 sb8 sc8 bb9 hH
        have sd9 := sd
        clear sd
        have hH : (fun W : World => W.cell? ⟨w.heap.size, 0, none⟩ = some (.pointer (some ⟨p, 0, none⟩)) ∧ W.cell? ⟨w.heap.size, 1, none⟩ = some (.pointer (some ⟨q, 0, none⟩)) ∧ W.cell? ⟨w.heap.size + 1, 0, none⟩ = some (.pointer (some ⟨r, 0, none⟩)) ∧ W.cell? ⟨w.heap.size + 1, 1, none⟩ = some (.pointer (some ⟨s, 0, none⟩))) w9 := ⟨X9.c 0 _ rfl, X9.c 1 _ rfl, Y9.c 0 _ rfl, Y9.c 1 _ rfl⟩
        refine hK _ _ hH ?_
        clear hK
        refine takeH 20 (some 65) (.agg #[.pointer (some ⟨c0, 0, none⟩), .pointer (some ⟨c1, 0, none⟩), .pointer (some ⟨c2, 0, none⟩), .pointer (some ⟨c3, 0, none⟩)]) rfl rfl (by kernel_rfl) (by kernel_rfl) (by kernel_rfl) (fun _ _ _ h => h) (Or.inl ⟨rfl, fun W hW => by go_simp⟩) hH ?_
        simp only [Act.put, List.setIfInBounds_toArray, List.set_cons_zero, List.set_cons_succ]
        have c_A_0 := A9.c 0 _ rfl
        have f_A_0 := A9.f 0 _ rfl
        have c_A_1 := A9.c 1 _ rfl
        have f_A_1 := A9.f 1 _ rfl
        have c_A_2 := A9.c 2 _ rfl
        have f_A_2 := A9.f 2 _ rfl
        have c_A_3 := A9.c 3 _ rfl
        have f_A_3 := A9.f 3 _ rfl
        refine oneH 22 rfl (by kernel_rfl) (fun K' hK => ?_)
        go_simp
        obtain ⟨w10, hw10⟩ : ∃ v, v = (((w9.setCell ⟨q6, 0, none⟩ (.pointer (some ⟨c0, 0, none⟩))).setCell ⟨q6, 1, none⟩ (.pointer (some ⟨c1, 0, none⟩))).setCell ⟨q6, 2, none⟩ (.pointer (some ⟨c2, 0, none⟩))).setCell ⟨q6, 3, none⟩ (.pointer (some ⟨c3, 0, none⟩)) := ⟨_, rfl⟩
        have t10 : Tn [q6] w9 w10 := by rw [hw10]; exact ((((tnL w9 q6 0 (.pointer (some ⟨c0, 0, none⟩))).trans (tnL _ q6 1 (.pointer (some ⟨c1, 0, none⟩)))).trans (tnL _ q6 2 (.pointer (some ⟨c2, 0, none⟩)))).trans (tnL _ q6 3 (.pointer (some ⟨c3, 0, none⟩))))
        have A10 : BoxL w10 w.heap.size q6 [.pointer (some ⟨c0, 0, none⟩), .pointer (some ⟨c1, 0, none⟩), .pointer (some ⟨c2, 0, none⟩), .pointer (some ⟨c3, 0, none⟩)] := by rw [hw10]; exact ((((A9.set 0 (.pointer (some ⟨c0, 0, none⟩)) (by simp)).set 1 (.pointer (some ⟨c1, 0, none⟩)) (by simp)).set 2 (.pointer (some ⟨c2, 0, none⟩)) (by simp)).set 3 (.pointer (some ⟨c3, 0, none⟩)) (by simp))
        have lo10 := A9.lo
        rw [← hw10]
        clear hw10
        have B10 := t10.below B9 B9.size (fun q hq => by simp at hq; omega)
        have X10 := X9.tn t10 (not_one (by omega))
        have Y10 := Y9.tn t10 (not_one (by omega))
        have R10 := R9.tn t10 (not_one (by omega))
        have sp10 := sp9.tnL t10 (not_one (by omega))
        have sq10 := sq9.tnL t10 (not_one (by omega))
        have sr10 := sr9.tnL t10 (not_one (by omega))
        have ss10 := ss9.tnL t10 (not_one (by omega))
        have sa10 := sa9.tnL t10 (not_one (by omega))
        have sb10 := sb9.tnL t10 (not_one (by omega))
        have sc10 := sc9.tnL t10 (not_one (by omega))
        have sd10 := sd9.tnL t10 (not_one (by omega))
        clear B9 X9 Y9 R9 sp9 sq9 sr9 ss9 sa9 A9 sb9 sc9 sd9 t10 lo10
        clear c_A_0 f_A_0 c_A_1 f_A_1 c_A_2 f_A_2 c_A_3 f_A_3
        clear hH
        have hH : (fun W : World => W.cell? ⟨w.heap.size, 0, none⟩ = some (.pointer (some ⟨p, 0, none⟩)) ∧ W.cell? ⟨w.heap.size, 1, none⟩ = some (.pointer (some ⟨q, 0, none⟩)) ∧ W.cell? ⟨w.heap.size + 1, 0, none⟩ = some (.pointer (some ⟨r, 0, none⟩)) ∧ W.cell? ⟨w.heap.size + 1, 1, none⟩ = some (.pointer (some ⟨s, 0, none⟩))) w10 := ⟨X10.c 0 _ rfl, X10.c 1 _ rfl, Y10.c 0 _ rfl, Y10.c 1 _ rfl⟩
        refine hK _ _ hH ?_
        clear hK
        clear hH
        refine wpAnyH_done (by kernel_rfl) ?_ _
        exact CutNNNNN.mk c0 c1 c2 c3 q6 rfl ⟨B10, A10, R10, X10, Y10, sa10, sb10, sc10, sd10, sp10, sq10, sr10, ss10, ge_sa, ge_sb, ge_sc, ge_sd, lt_R_A, lt_X_A, lt_Y_A, ne_A_sa, ne_A_sb, ne_A_sc, ne_A_sd, ne_A_sp, ne_A_sq, ne_A_sr, ne_A_ss, ne_R_sa, ne_R_sb, ne_R_sc, ne_R_sd, ne_X_sa, ne_X_sb, ne_X_sc, ne_X_sd, ne_Y_sa, ne_Y_sb, ne_Y_sc, ne_Y_sd⟩
      exact AllReadyH.nil
    refine AllReadyH.cons rfl (fun K hK => ?_) ?_
    · go_simp
      clear hH
      obtain ⟨w5, hw5⟩ : ∃ v, v = w4.alloc (.cells #[.pointer none, .pointer none, .pointer none, .pointer none] 128) := ⟨_, rfl⟩
      have bb5 : Below w4.heap.size w4 w5 := by rw [hw5]; exact below1 _ _
      obtain ⟨q5, hq5⟩ : ∃ q, q = w4.heap.size := ⟨_, rfl⟩
      have A5 : BoxL w5 w.heap.size q5 [.pointer none, .pointer none, .pointer none, .pointer none] := by rw [hw5, hq5]; exact (BoxL.made w4 [.pointer none, .pointer none, .pointer none, .pointer none] 128).mono B4.size
      rw [← hw5]
      (try rw [← hq5])
      clear hw5
      have B5 := B4.trans (bb5.mono B4.size)
      have X5 := X4.below bb5 (Nat.le_refl _)
      have Y5 := Y4.below bb5 (Nat.le_refl _)
      have R5 := R4.below bb5 (Nat.le_refl _)
      have sp5 := sp4.below bb5 sp4.lt
      have sq5 := sq4.below bb5 sq4.lt
      have sr5 := sr4.below bb5 sr4.lt
      have ss5 := ss4.below bb5 ss4.lt
      have lt_X_A : w.heap.size < q5 := by rw [hq5]; exact X4.hi
      have lt_Y_A : w.heap.size + 1 < q5 := by rw [hq5]; exact Y4.hi
      have lt_R_A : w.heap.size + 1 + 1 < q5 := by rw [hq5]; exact R4.hi
      have ne_A_sp : ¬ (p = q5) := fun e => by have h1 := sp4.lt; omega
      have ne_A_sq : ¬ (q = q5) := fun e => by have h1 := sq4.lt; omega
      have ne_A_sr : ¬ (r = q5) := fun e => by have h1 := sr4.lt; omega
      have ne_A_ss : ¬ (s = q5) := fun e => by have h1 := ss4.lt; omega
      clear bb5 hq5
      have hH : (fun W : World => W.cell? ⟨w.heap.size, 0, none⟩ = some (.pointer (some ⟨p, 0, none⟩)) ∧ W.cell? ⟨w.heap.size, 1, none⟩ = some (.pointer (some ⟨q, 0, none⟩)) ∧ W.cell? ⟨w.heap.size + 1, 0, none⟩ = some (.pointer (some ⟨r, 0, none⟩)) ∧ W.cell? ⟨w.heap.size + 1, 1, none⟩ = some (.pointer (some ⟨s, 0, none⟩))) w5 := ⟨X5.c 0 _ rfl, X5.c 1 _ rfl, Y5.c 0 _ rfl, Y5.c 1 _ rfl⟩
      refine hK.out _ _ hH (fun _ => ?_)
      clear hK K
      refine oneH 4 rfl (by kernel_rfl) (fun K' hK => ?_)
      go_simp
      refine (k0 _ sp5 sr5).mono ?_
      rintro e w6 ⟨c0, rfl, hc, sa, bb6⟩
      have ge_sa : w.heap.size ≤ c0 := Nat.le_trans B5.size hc
      have ne_X_sa : ¬ (c0 = w.heap.size) := fun e => by have h1 := X5.hi; omega
      have ne_Y_sa : ¬ (c0 = w.heap.size + 1) := fun e => by have h1 := Y5.hi; omega
      have ne_R_sa : ¬ (c0 = w.heap.size + 1 + 1) := fun e => by have h1 := R5.hi; omega
      have ne_A_sa : ¬ (c0 = q5) := fun e => by have h1 := A5.hi; omega
      clear hc
      have B6 := B5.trans (bb6.mono B5.size)
      have X6 := X5.below bb6 (Nat.le_refl _)
      have Y6 := Y5.below bb6 (Nat.le_refl _)
      have R6 := R5.below bb6 (Nat.le_refl _)
      have sp6 := sp5.below bb6 sp5.lt
      have sq6 := sq5.below bb6 sq5.lt
      have sr6 := sr5.below bb6 sr5.lt
      have ss6 := ss5.below bb6 ss5.lt
      have A6 := A5.below bb6 (Nat.le_refl _)
      clear B5 X5 Y5 R5 sp5 sq5 sr5 ss5 A5 bb6 hH
      have sa6 := sa
      clear sa
      have hH : (fun W : World => W.cell? ⟨w.heap.size, 0, none⟩ = some (.pointer (some ⟨p, 0, none⟩)) ∧ W.cell? ⟨w.heap.size, 1, none⟩ = some (.pointer (some ⟨q, 0, none⟩)) ∧ W.cell? ⟨w.heap.size + 1, 0, none⟩ = some (.pointer (some ⟨r, 0, none⟩)) ∧ W.cell? ⟨w.heap.size + 1, 1, none⟩ = some (.pointer (some ⟨s, 0, none⟩))) w6 := ⟨X6.c 0 _ rfl, X6.c 1 _ rfl, Y6.c 0 _ rfl, Y6.c 1 _ rfl⟩
      refine hK _ _ hH ?_
      clear hK
      refine oneH 9 rfl (by kernel_rfl) (fun K' hK => ?_)
      go_simp
      refine (k1 _ sp6 ss6).mono ?_
      rintro e w7 ⟨c1, rfl, hc, sb, bb7⟩
      have ge_sb : w.heap.size ≤ c1 := Nat.le_trans B6.size hc
      have ne_X_sb : ¬ (c1 = w.heap.size) := fun e => by have h1 := X6.hi; omega
      have ne_Y_sb : ¬ (c1 = w.heap.size + 1) := fun e => by have h1 := Y6.hi; omega
      have ne_R_sb : ¬ (c1 = w.heap.size + 1 + 1) := fun e => by have h1 := R6.hi; omega
      have ne_A_sb : ¬ (c1 = q5) := fun e => by have h1 := A6.hi; omega
      clear hc
      have B7 := B6.trans (bb7.mono B6.size)
      have X7 := X6.below bb7 (Nat.le_refl _)
      have Y7 := Y6.below bb7 (Nat.le_refl _)
      have R7 := R6.below bb7 (Nat.le_refl _)
      have sp7 := sp6.below bb7 sp6.lt
      have sq7 := sq6.below bb7 sq6.lt
      have sr7 := sr6.below bb7 sr6.lt
      have ss7 := ss6.below bb7 ss6.lt
      have A7 := A6.below bb7 (Nat.le_refl _)
      have sa7 := sa6.below bb7 sa6.lt
      clear B6 X6 Y6 R6 sp6 sq6 sr6 ss6 A6 sa6 bb7 hH
      have sb7 := sb
      clear sb
      have hH : (fun W : World => W.cell? ⟨w.heap.size, 0, none⟩ = some (.pointer (some ⟨p, 0, none⟩)) ∧ W.cell? ⟨w.heap.size, 1, none⟩ = some (.pointer (some ⟨q, 0, none⟩)) ∧ W.cell? ⟨w.heap.size + 1, 0, none⟩ = some (.pointer (some ⟨r, 0, none⟩)) ∧ W.cell? ⟨w.heap.size + 1, 1, none⟩ = some (.pointer (some ⟨s, 0, none⟩))) w7 := ⟨X7.c 0 _ rfl, X7.c 1 _ rfl, Y7.c 0 _ rfl, Y7.c 1 _ rfl⟩
      refine hK _ _ hH ?_
      clear hK
      refine oneH 14 rfl (by kernel_rfl) (fun K' hK => ?_)
      go_simp
      refine (k2 _ sq7 sr7).mono ?_
      rintro e w8 ⟨c2, rfl, hc, sc, bb8⟩
      have ge_sc : w.heap.size ≤ c2 := Nat.le_trans B7.size hc
      have ne_X_sc : ¬ (c2 = w.heap.size) := fun e => by have h1 := X7.hi; omega
      have ne_Y_sc : ¬ (c2 = w.heap.size + 1) := fun e => by have h1 := Y7.hi; omega
      have ne_R_sc : ¬ (c2 = w.heap.size + 1 + 1) := fun e => by have h1 := R7.hi; omega
      have ne_A_sc : ¬ (c2 = q5) := fun e => by have h1 := A7.hi; omega
      clear hc
      have B8 := B7.trans (bb8.mono B7.size)
      have X8 := X7.below bb8 (Nat.le_refl _)
      have Y8 := Y7.below bb8 (Nat.le_refl _)
      have R8 := R7.below bb8 (Nat.le_refl _)
      have sp8 := sp7.below bb8 sp7.lt
      have sq8 := sq7.below bb8 sq7.lt
      have sr8 := sr7.below bb8 sr7.lt
      have ss8 := ss7.below bb8 ss7.lt
      have A8 := A7.below bb8 (Nat.le_refl _)
      have sa8 := sa7.below bb8 sa7.lt
      have sb8 := sb7.below bb8 sb7.lt
      clear B7 X7 Y7 R7 sp7 sq7 sr7 ss7 A7 sa7 sb7 bb8 hH
      have sc8 := sc
      clear sc
      have hH : (fun W : World => W.cell? ⟨w.heap.size, 0, none⟩ = some (.pointer (some ⟨p, 0, none⟩)) ∧ W.cell? ⟨w.heap.size, 1, none⟩ = some (.pointer (some ⟨q, 0, none⟩)) ∧ W.cell? ⟨w.heap.size + 1, 0, none⟩ = some (.pointer (some ⟨r, 0, none⟩)) ∧ W.cell? ⟨w.heap.size + 1, 1, none⟩ = some (.pointer (some ⟨s, 0, none⟩))) w8 := ⟨X8.c 0 _ rfl, X8.c 1 _ rfl, Y8.c 0 _ rfl, Y8.c 1 _ rfl⟩
      refine hK _ _ hH ?_
      clear hK
      refine oneH 19 rfl (by kernel_rfl) (fun K' hK => ?_)
      go_simp
      refine (k3 _ sq8 ss8).mono ?_
      rintro e w9 ⟨c3, rfl, hc, sd, bb9⟩
      have ge_sd : w.heap.size ≤ c3 := Nat.le_trans B8.size hc
      have ne_X_sd : ¬ (c3 = w.heap.size) := fun e => by have h1 := X8.hi; omega
      have ne_Y_sd : ¬ (c3 = w.heap.size + 1) := fun e => by have h1 := Y8.hi; omega
      have ne_R_sd : ¬ (c3 = w.heap.size + 1 + 1) := fun e => by have h1 := R8.hi; omega
      have ne_A_sd : ¬ (c3 = q5) := fun e => by have h1 := A8.hi; omega
      clear hc
      have B9 := B8.trans (bb9.mono B8.size)
      have X9 := X8.below bb9 (Nat.le_refl _)
      have Y9 := Y8.below bb9 (Nat.le_refl _)
      have R9 := R8.below bb9 (Nat.le_refl _)
      have sp9 := sp8.below bb9 sp8.lt
      have sq9 := sq8.below bb9 sq8.lt
      have sr9 := sr8.below bb9 sr8.lt
      have ss9 := ss8.below bb9 ss8.lt
      have A9 := A8.below bb9 (Nat.le_refl _)
      have sa9 := sa8.below bb9 sa8.lt
      have sb9 := sb8.below bb9 sb8.lt
      have sc9 := sc8.below bb9 sc8.lt
      clear B8 X8 Y8 R8 sp8 sq8 sr8 ss8 A8 sa8 sb8 sc8 bb9 hH
      have sd9 := sd
      clear sd
      have hH : (fun W : World => W.cell? ⟨w.heap.size, 0, none⟩ = some (.pointer (some ⟨p, 0, none⟩)) ∧ W.cell? ⟨w.heap.size, 1, none⟩ = some (.pointer (some ⟨q, 0, none⟩)) ∧ W.cell? ⟨w.heap.size + 1, 0, none⟩ = some (.pointer (some ⟨r, 0, none⟩)) ∧ W.cell? ⟨w.heap.size + 1, 1, none⟩ = some (.pointer (some ⟨s, 0, none⟩))) w9 := ⟨X9.c 0 _ rfl, X9.c 1 _ rfl, Y9.c 0 _ rfl, Y9.c 1 _ rfl⟩
      refine hK _ _ hH ?_
      clear hK
      refine takeH 20 (some 65) (.agg #[.pointer (some ⟨c0, 0, none⟩), .pointer (some ⟨c1, 0, none⟩), .pointer (some ⟨c2, 0, none⟩), .pointer (some ⟨c3, 0, none⟩)]) rfl rfl (by kernel_rfl) (by kernel_rfl) (by kernel_rfl) (fun _ _ _ h => h) (Or.inl ⟨rfl, fun W hW => by go_simp⟩) hH ?_
      simp only [Act.put, List.setIfInBounds_toArray, List.set_cons_zero, List.set_cons_succ]
      have c_A_0 := A9.c 0 _ rfl
      have f_A_0 := A9.f 0 _ rfl
      have c_A_1 := A9.c 1 _ rfl
      have f_A_1 := A9.f 1 _ rfl
      have c_A_2 := A9.c 2 _ rfl
      have f_A_2 := A9.f 2 _ rfl
      have c_A_3 := A9.c 3 _ rfl
      have f_A_3 := A9.f 3 _ rfl
      refine oneH 22 rfl (by kernel_rfl) (fun K' hK => ?_)
      go_simp
      obtain ⟨w10, hw10⟩ : ∃ v, v = (((w9.setCell ⟨q5, 0, none⟩ (.pointer (some ⟨c0, 0, none⟩))).setCell ⟨q5, 1, none⟩ (.pointer (some ⟨c1, 0, none⟩))).setCell ⟨q5, 2, none⟩ (.pointer (some ⟨c2, 0, none⟩))).setCell ⟨q5, 3, none⟩ (.pointer (some ⟨c3, 0, none⟩)) := ⟨_, rfl⟩
      have t10 : Tn [q5] w9 w10 := by rw [hw10]; exact ((((tnL w9 q5 0 (.pointer (some ⟨c0, 0, none⟩))).trans (tnL _ q5 1 (.pointer (some ⟨c1, 0, none⟩)))).trans (tnL _ q5 2 (.pointer (some ⟨c2, 0, none⟩)))).trans (tnL _ q5 3 (.pointer (some ⟨c3, 0, none⟩))))
      have A10 : BoxL w10 w.heap.size q5 [.pointer (some ⟨c0, 0, none⟩), .pointer (some ⟨c1, 0, none⟩), .pointer (some ⟨c2, 0, none⟩), .pointer (some ⟨c3, 0, none⟩)] := by rw [hw10]; exact ((((A9.set 0 (.pointer (some ⟨c0, 0, none⟩)) (by simp)).set 1 (.pointer (some ⟨c1, 0, none⟩)) (by simp)).set 2 (.pointer (some ⟨c2, 0, none⟩)) (by simp)).set 3 (.pointer (some ⟨c3, 0, none⟩)) (by simp))
      have lo10 := A9.lo
      rw [← hw10]
      clear hw10
      have B10 := t10.below B9 B9.size (fun q hq => by simp at hq; omega)
      have X10 := X9.tn t10 (not_one (by omega))
      have Y10 := Y9.tn t10 (not_one (by omega))
      have R10 := R9.tn t10 (not_one (by omega))
      have sp10 := sp9.tnL t10 (not_one (by omega))
      have sq10 := sq9.tnL t10 (not_one (by omega))
      have sr10 := sr9.tnL t10 (not_one (by omega))
      have ss10 := ss9.tnL t10 (not_one (by omega))
      have sa10 := sa9.tnL t10 (not_one (by omega))
      have sb10 := sb9.tnL t10 (not_one (by omega))
      have sc10 := sc9.tnL t10 (not_one (by omega))
      have sd10 := sd9.tnL t10 (not_one (by omega))
      clear B9 X9 Y9 R9 sp9 sq9 sr9 ss9 A9 sa9 sb9 sc9 sd9 t10 lo10
      clear c_A_0 f_A_0 c_A_1 f_A_1 c_A_2 f_A_2 c_A_3 f_A_3
      clear hH
      have hH : (fun W : World => W.cell? ⟨w.heap.size, 0, none⟩ = some (.pointer (some ⟨p, 0, none⟩)) ∧ W.cell? ⟨w.heap.size, 1, none⟩ = some (.pointer (some ⟨q, 0, none⟩)) ∧ W.cell? ⟨w.heap.size + 1, 0, none⟩ = some (.pointer (some ⟨r, 0, none⟩)) ∧ W.cell? ⟨w.heap.size + 1, 1, none⟩ = some (.pointer (some ⟨s, 0, none⟩))) w10 := ⟨X10.c 0 _ rfl, X10.c 1 _ rfl, Y10.c 0 _ rfl, Y10.c 1 _ rfl⟩
      refine hK _ _ hH ?_
      clear hK
      clear hH
      refine wpAnyH_done (by kernel_rfl) ?_ _
      exact CutNNNNN.mk c0 c1 c2 c3 q5 rfl ⟨B10, A10, R10, X10, Y10, sa10, sb10, sc10, sd10, sp10, sq10, sr10, ss10, ge_sa, ge_sb, ge_sc, ge_sd, lt_R_A, lt_X_A, lt_Y_A, ne_A_sa, ne_A_sb, ne_A_sc, ne_A_sd, ne_A_sp, ne_A_sq, ne_A_sr, ne_A_ss, ne_R_sa, ne_R_sb, ne_R_sc, ne_R_sd, ne_X_sa, ne_X_sb, ne_X_sc, ne_X_sd, ne_Y_sa, ne_Y_sb, ne_Y_sc, ne_Y_sd⟩
    exact AllReadyH.nil
  case hB =>
    rintro c0 c1 c2 c3 q9 w11 ⟨B11, A11, R11, X11, Y11, sa11, sb11, sc11, sd11, sp11, sq11, sr11, ss11, ge_sa, ge_sb, ge_sc, ge_sd, lt_R_A, lt_X_A, lt_Y_A, ne_A_sa, ne_A_sb, ne_A_sc, ne_A_sd, ne_A_sp, ne_A_sq, ne_A_sr, ne_A_ss, ne_R_sa, ne_R_sb, ne_R_sc, ne_R_sd, ne_X_sa, ne_X_sb, ne_X_sc, ne_X_sd, ne_Y_sa, ne_Y_sb, ne_Y_sc, ne_Y_sd⟩
    clear k0 k1 k2 k3
    clear sp11 sq11 sr11 ss11 X11 Y11
    have hz9 := R11.hi
    have c_A_0 := A11.c 0 _ rfl
    have c_A_1 := A11.c 1 _ rfl
    have c_A_2 := A11.c 2 _ rfl
    have c_A_3 := A11.c 3 _ rfl
    go_wp2_with fail
    clear c_A_0 c_A_1 c_A_2 c_A_3
    obtain ⟨w12, hw12⟩ : ∃ v, v = w11.alloc (.cells #[.pointer (some ⟨c0, 0, none⟩), .pointer (some ⟨c0, 0, none⟩)] 52) := ⟨_, rfl⟩
    have bb12 : Below w11.heap.size w11 w12 := by rw [hw12]; exact below1 _ _
    obtain ⟨q12, hq12⟩ : ∃ q, q = w11.heap.size := ⟨_, rfl⟩
    have L12 : BoxL w12 w.heap.size q12 [.pointer (some ⟨c0, 0, none⟩), .pointer (some ⟨c0, 0, none⟩)] := by rw [hw12, hq12]; exact (BoxL.made w11 [.pointer (some ⟨c0, 0, none⟩), .pointer (some ⟨c0, 0, none⟩)] 52).mono B11.size
    rw [← hw12]
    (try rw [← hq12])
    clear hw12
    have B12 := B11.trans (bb12.mono B11.size)
    have R12 := R11.below bb12 (Nat.le_refl _)
    have sa12 := sa11.below bb12 sa11.lt
    have sb12 := sb11.below bb12 sb11.lt
    have sc12 := sc11.below bb12 sc11.lt
    have sd12 := sd11.below bb12 sd11.lt
    have A12 := A11.below bb12 (Nat.le_refl _)
    have lt_R_L : w.heap.size + 1 + 1 < q12 := by rw [hq12]; exact R11.hi
    have ne_L_sa : ¬ (c0 = q12) := fun e => by have h1 := sa11.lt; omega
    have ne_L_sb : ¬ (c1 = q12) := fun e => by have h1 := sb11.lt; omega
    have ne_L_sc : ¬ (c2 = q12) := fun e => by have h1 := sc11.lt; omega
    have ne_L_sd : ¬ (c3 = q12) := fun e => by have h1 := sd11.lt; omega
    have lt_A_L : q9 < q12 := by rw [hq12]; exact A11.hi
    clear B11 R11 sa11 sb11 sc11 sd11 A11 bb12 hq12
    go_loopw [73] (fun i wr => ∃ k a b : Nat, k ≤ 3 ∧ i = .int .i64 k ∧ BoxL wr w.heap.size q12 [.pointer (some ⟨a, 0, none⟩), .pointer (some ⟨b, 0, none⟩)] ∧ SG wr a (loK d0 d1 d2 d3 k) ∧ SG wr b (hiK d0 d1 d2 d3 k) ∧ (¬ a = q12 ∧ ¬ b = q12 ∧ ¬ a = w.heap.size + 1 + 1 ∧ ¬ b = w.heap.size + 1 + 1) ∧ BoxL wr w.heap.size q9 [.pointer (some ⟨c0, 0, none⟩), .pointer (some ⟨c1, 0, none⟩), .pointer (some ⟨c2, 0, none⟩), .pointer (some ⟨c3, 0, none⟩)] ∧ BoxL wr w.heap.size (w.heap.size + 1 + 1) [.pointer none, .pointer none] ∧ SG wr c0 d0 ∧ SG wr c1 d1 ∧ SG wr c2 d2 ∧ SG wr c3 d3 ∧ Below w.heap.size w wr) (fun i _ => 3 - (intOf i).toNat)
    case atStart => exact ⟨0, c0, c0, by omega, rfl, L12, sa12, sa12, ⟨by omega, by omega, by omega, by omega⟩, A12, R12, sa12, sb12, sc12, sd12, B12⟩
    case round =>
      clear B12 R12 sa12 sb12 sc12 sd12 A12 L12
      obtain ⟨k, a, b, hk, rfl, L12, sl12, sh12, ⟨n1, n2, n3, n4⟩, A12, R12, sa12, sb12, sc12, sd12, B12⟩ := hrel
      rcases (by omega : k = 0 ∨ k = 1 ∨ k = 2 ∨ k = 3) with rfl | rfl | rfl | rfl
      · obtain ⟨lo, hlo⟩ : ∃ z, loK d0 d1 d2 d3 0 = z := ⟨_, rfl⟩
        obtain ⟨hi, hhi⟩ : ∃ z, hiK d0 d1 d2 d3 0 = z := ⟨_, rfl⟩
        rw [hlo] at sl12
        rw [hhi] at sh12
        have HL : Hid (loK d0 d1 d2 d3 1 = lesserI lo d1) := by show _ = _; rw [← hlo]; rfl
        have HH : Hid (hiK d0 d1 d2 d3 1 = moreI hi d1) := by show _ = _; rw [← hhi]; rfl
        clear hlo hhi
        by_cases hl : d1 < lo
        · have HE := lesser_yes hl HL.out
          replace HE : Hid (_ = _) := HE
          have kO := fun W h1 h2 => ordLt c1 a d1 lo W h1 h2 hl
          clear hl HL
          by_cases hh : hi < d1
          · have HF := more_yes hh HH.out
            replace HF : Hid (_ = _) := HF
            have kP := fun W h1 h2 => ordGt c1 b d1 hi W h1 h2 hh
            clear hh HH
            have c_A_0 := A12.c 0 _ rfl
            have c_A_1 := A12.c 1 _ rfl
            have c_A_2 := A12.c 2 _ rfl
            have c_A_3 := A12.c 3 _ rfl
            have c_L_0 := L12.c 0 _ rfl
            have c_L_1 := L12.c 1 _ rfl
            go_wp2_with fail
            refine (kO _ sb12 sl12).mono ?_
            rintro e w13 ⟨rfl, bb13⟩
            clear c_A_0 c_A_1 c_A_2 c_A_3 c_L_0 c_L_1
            have B13 := B12.trans (bb13.mono B12.size)
            have R13 := R12.below bb13 (Nat.le_refl _)
            have sa13 := sa12.below bb13 sa12.lt
            have sb13 := sb12.below bb13 sb12.lt
            have sc13 := sc12.below bb13 sc12.lt
            have sd13 := sd12.below bb13 sd12.lt
            have A13 := A12.below bb13 (Nat.le_refl _)
            have L13 := L12.below bb13 (Nat.le_refl _)
            have sl13 := sl12.below bb13 sl12.lt
            have sh13 := sh12.below bb13 sh12.lt
            clear B12 R12 sa12 sb12 sc12 sd12 A12 L12 sl12 sh12 bb13
            clear kO
            have c_A_0 := A13.c 0 _ rfl
            have f_A_0 := A13.f 0 _ rfl
            have c_A_1 := A13.c 1 _ rfl
            have f_A_1 := A13.f 1 _ rfl
            have c_A_2 := A13.c 2 _ rfl
            have f_A_2 := A13.f 2 _ rfl
            have c_A_3 := A13.c 3 _ rfl
            have f_A_3 := A13.f 3 _ rfl
            have c_L_0 := L13.c 0 _ rfl
            have f_L_0 := L13.f 0 _ rfl
            have c_L_1 := L13.c 1 _ rfl
            have f_L_1 := L13.f 1 _ rfl
            go_wp2_with fail
            clear c_A_0 f_A_0 c_A_1 f_A_1 c_A_2 f_A_2 c_A_3 f_A_3 c_L_0 f_L_0 c_L_1 f_L_1
            obtain ⟨w14, hw14⟩ : ∃ v, v = w13.setCell ⟨q12, 0, none⟩ (.pointer (some ⟨c1, 0, none⟩)) := ⟨_, rfl⟩
            have t14 : Tn [q12] w13 w14 := by rw [hw14]; exact (tnL w13 q12 0 (.pointer (some ⟨c1, 0, none⟩)))
            have L14 : BoxL w14 w.heap.size q12 [.pointer (some ⟨c1, 0, none⟩), .pointer (some ⟨b, 0, none⟩)] := by rw [hw14]; exact (L13.set 0 (.pointer (some ⟨c1, 0, none⟩)) (by simp))
            have lo14 := L13.lo
            rw [← hw14]
            clear hw14
            have B14 := t14.below B13 B13.size (fun q hq => by simp at hq; omega)
            have R14 := R13.tn t14 (not_one (by omega))
            have sa14 := sa13.tnL t14 (not_one (by omega))
            have sb14 := sb13.tnL t14 (not_one (by omega))
            have sc14 := sc13.tnL t14 (not_one (by omega))
            have sd14 := sd13.tnL t14 (not_one (by omega))
            have A14 := A13.tn t14 (not_one (by omega))
            have sl14 := sl13.tnL t14 (not_one (by omega))
            have sh14 := sh13.tnL t14 (not_one (by omega))
            clear B13 R13 sa13 sb13 sc13 sd13 A13 L13 sl13 sh13 t14 lo14
            refine (kP _ sb14 sh14).mono ?_
            rintro e w15 ⟨rfl, bb15⟩
            have B15 := B14.trans (bb15.mono B14.size)
            have R15 := R14.below bb15 (Nat.le_refl _)
            have sa15 := sa14.below bb15 sa14.lt
            have sb15 := sb14.below bb15 sb14.lt
            have sc15 := sc14.below bb15 sc14.lt
            have sd15 := sd14.below bb15 sd14.lt
            have A15 := A14.below bb15 (Nat.le_refl _)
            have L15 := L14.below bb15 (Nat.le_refl _)
            have sl15 := sl14.below bb15 sl14.lt
            have sh15 := sh14.below bb15 sh14.lt
            clear B14 R14 sa14 sb14 sc14 sd14 A14 L14 sl14 sh14 bb15
            clear kP
            have c_L_0 := L15.c 0 _ rfl
            have f_L_0 := L15.f 0 _ rfl
            have c_L_1 := L15.c 1 _ rfl
            have f_L_1 := L15.f 1 _ rfl
            obtain ⟨w16, hw16⟩ : ∃ v, v = w15.setCell ⟨q12, 1, none⟩ (.pointer (some ⟨c1, 0, none⟩)) := ⟨_, rfl⟩
            have t16 : Tn [q12] w15 w16 := by rw [hw16]; exact (tnL w15 q12 1 (.pointer (some ⟨c1, 0, none⟩)))
            have L16 : BoxL w16 w.heap.size q12 [.pointer (some ⟨c1, 0, none⟩), .pointer (some ⟨c1, 0, none⟩)] := by rw [hw16]; exact (L15.set 1 (.pointer (some ⟨c1, 0, none⟩)) (by simp))
            have lo16 := L15.lo
            have B16 := t16.below B15 B15.size (fun q hq => by simp at hq; omega)
            have R16 := R15.tn t16 (not_one (by omega))
            have sa16 := sa15.tnL t16 (not_one (by omega))
            have sb16 := sb15.tnL t16 (not_one (by omega))
            have sc16 := sc15.tnL t16 (not_one (by omega))
            have sd16 := sd15.tnL t16 (not_one (by omega))
            have A16 := A15.tn t16 (not_one (by omega))
            have sl16 := sl15.tnL t16 (not_one (by omega))
            have sh16 := sh15.tnL t16 (not_one (by omega))
            clear B15 R15 sa15 sb15 sc15 sd15 A15 L15 sl15 sh15 t16 lo16
            subst hw16
            go_wp2
            go_roundw
            case rel => exact ⟨1, c1, c1, by omega, by first | rfl | go_num, L16, by rw [HE.out]; exact sb16, by rw [HF.out]; exact sb16, ⟨by omega, by omega, by omega, by omega⟩, A16, R16, sa16, sb16, sc16, sd16, B16⟩
            case measure => simp [intOf]
          · have HF := more_no hh HH.out
            replace HF : Hid (_ = _) := HF
            have kP := fun W h1 h2 => ordLe c1 b d1 hi W h1 h2 hh
            clear hh HH
            have c_A_0 := A12.c 0 _ rfl
            have c_A_1 := A12.c 1 _ rfl
            have c_A_2 := A12.c 2 _ rfl
            have c_A_3 := A12.c 3 _ rfl
            have c_L_0 := L12.c 0 _ rfl
            have c_L_1 := L12.c 1 _ rfl
            go_wp2_with fail
            refine (kO _ sb12 sl12).mono ?_
            rintro e w13 ⟨rfl, bb13⟩
            clear c_A_0 c_A_1 c_A_2 c_A_3 c_L_0 c_L_1
            have B13 := B12.trans (bb13.mono B12.size)
            have R13 := R12.below bb13 (Nat.le_refl _)
            have sa13 := sa12.below bb13 sa12.lt
            have sb13 := sb12.below bb13 sb12.lt
            have sc13 := sc12.below bb13 sc12.lt
            have sd13 := sd12.below bb13 sd12.lt
            have A13 := A12.below bb13 (Nat.le_refl _)
            have L13 := L12.below bb13 (Nat.le_refl _)
            have sl13 := sl12.below bb13 sl12.lt
            have sh13 := sh12.below bb13 sh12.lt
            clear B12 R12 sa12 sb12 sc12 sd12 A12 L12 sl12 sh12 bb13
            clear kO
            have c_A_0 := A13.c 0 _ rfl
            have f_A_0 := A13.f 0 _ rfl
            have c_A_1 := A13.c 1 _ rfl
            have f_A_1 := A13.f 1 _ rfl
            have c_A_2 := A13.c 2 _ rfl
            have f_A_2 := A13.f 2 _ rfl
            have c_A_3 := A13.c 3 _ rfl
            have f_A_3 := A13.f 3 _ rfl
            have c_L_0 := L13.c 0 _ rfl
            have f_L_0 := L13.f 0 _ rfl
            have c_L_1 := L13.c 1 _ rfl
            have f_L_1 := L13.f 1 _ rfl
            go_wp2_with fail
            clear c_A_0 f_A_0 c_A_1 f_A_1 c_A_2 f_A_2 c_A_3 f_A_3 c_L_0 f_L_0 c_L_1 f_L_1
            obtain ⟨w14, hw14⟩ : ∃ v, v = w13.setCell ⟨q12, 0, none⟩ (.pointer (some ⟨c1, 0, none⟩)) := ⟨_, rfl⟩
            have t14 : Tn [q12] w13 w14 := by rw [hw14]; exact (tnL w13 q12 0 (.pointer (some ⟨c1, 0, none⟩)))
            have L14 : BoxL w14 w.heap.size q12 [.pointer (some ⟨c1, 0, none⟩), .pointer (some ⟨b, 0, none⟩)] := by rw [hw14]; exact (L13.set 0 (.pointer (some ⟨c1, 0, none⟩)) (by simp))
            have lo14 := L13.lo
            rw [← hw14]
            clear hw14
            have B14 := t14.below B13 B13.size (fun q hq => by simp at hq; omega)
            have R14 := R13.tn t14 (not_one (by omega))
            have sa14 := sa13.tnL t14 (not_one (by omega))
            have sb14 := sb13.tnL t14 (not_one (by omega))
            have sc14 := sc13.tnL t14 (not_one (by omega))
            have sd14 := sd13.tnL t14 (not_one (by omega))
            have A14 := A13.tn t14 (not_one (by omega))
            have sl14 := sl13.tnL t14 (not_one (by omega))
            have sh14 := sh13.tnL t14 (not_one (by omega))
            clear B13 R13 sa13 sb13 sc13 sd13 A13 L13 sl13 sh13 t14 lo14
            refine (kP _ sb14 sh14).mono ?_
            rintro e w15 ⟨r4, rfl, r5, r6, bb15⟩
            have B15 := B14.trans (bb15.mono B14.size)
            have R15 := R14.below bb15 (Nat.le_refl _)
            have sa15 := sa14.below bb15 sa14.lt
            have sb15 := sb14.below bb15 sb14.lt
            have sc15 := sc14.below bb15 sc14.lt
            have sd15 := sd14.below bb15 sd14.lt
            have A15 := A14.below bb15 (Nat.le_refl _)
            have L15 := L14.below bb15 (Nat.le_refl _)
            have sl15 := sl14.below bb15 sl14.lt
            have sh15 := sh14.below bb15 sh14.lt
            clear B14 R14 sa14 sb14 sc14 sd14 A14 L14 sl14 sh14 bb15
            clear kP
            go_wp2
            go_roundw
            case rel => exact ⟨1, c1, b, by omega, by first | rfl | go_num, L15, by rw [HE.out]; exact sb15, by rw [HF.out]; exact sh15, ⟨by omega, by omega, by omega, by omega⟩, A15, R15, sa15, sb15, sc15, sd15, B15⟩
            case measure => simp [intOf]
        · have HE := lesser_no hl HL.out
          replace HE : Hid (_ = _) := HE
          have kO := fun W h1 h2 => ordGe c1 a d1 lo W h1 h2 hl
          clear hl HL
          by_cases hh : hi < d1
          · have HF := more_yes hh HH.out
            replace HF : Hid (_ = _) := HF
            have kP := fun W h1 h2 => ordGt c1 b d1 hi W h1 h2 hh
            clear hh HH
            have c_A_0 := A12.c 0 _ rfl
            have c_A_1 := A12.c 1 _ rfl
            have c_A_2 := A12.c 2 _ rfl
            have c_A_3 := A12.c 3 _ rfl
            have c_L_0 := L12.c 0 _ rfl
            have c_L_1 := L12.c 1 _ rfl
            go_wp2_with fail
            refine (kO _ sb12 sl12).mono ?_
            rintro e w13 ⟨r1, rfl, r2, r3, bb13⟩
            clear c_A_0 c_A_1 c_A_2 c_A_3 c_L_0 c_L_1
            have B13 := B12.trans (bb13.mono B12.size)
            have R13 := R12.below bb13 (Nat.le_refl _)
            have sa13 := sa12.below bb13 sa12.lt
            have sb13 := sb12.below bb13 sb12.lt
            have sc13 := sc12.below bb13 sc12.lt
            have sd13 := sd12.below bb13 sd12.lt
            have A13 := A12.below bb13 (Nat.le_refl _)
            have L13 := L12.below bb13 (Nat.le_refl _)
            have sl13 := sl12.below bb13 sl12.lt
            have sh13 := sh12.below bb13 sh12.lt
            clear B12 R12 sa12 sb12 sc12 sd12 A12 L12 sl12 sh12 bb13
            clear kO
            have c_A_0 := A13.c 0 _ rfl
            have c_A_1 := A13.c 1 _ rfl
            have c_A_2 := A13.c 2 _ rfl
            have c_A_3 := A13.c 3 _ rfl
            have c_L_0 := L13.c 0 _ rfl
            have c_L_1 := L13.c 1 _ rfl
            go_wp2_with fail
            clear c_A_0 c_A_1 c_A_2 c_A_3 c_L_0 c_L_1
            refine (kP _ sb13 sh13).mono ?_
            rintro e w14 ⟨rfl, bb14⟩
            have B14 := B13.trans (bb14.mono B13.size)
            have R14 := R13.below bb14 (Nat.le_refl _)
            have sa14 := sa13.below bb14 sa13.lt
            have sb14 := sb13.below bb14 sb13.lt
            have sc14 := sc13.below bb14 sc13.lt
            have sd14 := sd13.below bb14 sd13.lt
            have A14 := A13.below bb14 (Nat.le_refl _)
            have L14 := L13.below bb14 (Nat.le_refl _)
            have sl14 := sl13.below bb14 sl13.lt
            have sh14 := sh13.below bb14 sh13.lt
            clear B13 R13 sa13 sb13 sc13 sd13 A13 L13 sl13 sh13 bb14
            clear kP
            have c_L_0 := L14.c 0 _ rfl
            have f_L_0 := L14.f 0 _ rfl
            have c_L_1 := L14.c 1 _ rfl
            have f_L_1 := L14.f 1 _ rfl
            obtain ⟨w15, hw15⟩ : ∃ v, v = w14.setCell ⟨q12, 1, none⟩ (.pointer (some ⟨c1, 0, none⟩)) := ⟨_, rfl⟩
            have t15 : Tn [q12] w14 w15 := by rw [hw15]; exact (tnL w14 q12 1 (.pointer (some ⟨c1, 0, none⟩)))
            have L15 : BoxL w15 w.heap.size q12 [.pointer (some ⟨a, 0, none⟩), .pointer (some ⟨c1, 0, none⟩)] := by rw [hw15]; exact (L14.set 1 (.pointer (some ⟨c1, 0, none⟩)) (by simp))
            have lo15 := L14.lo
            have B15 := t15.below B14 B14.size (fun q hq => by simp at hq; omega)
            have R15 := R14.tn t15 (not_one (by omega))
            have sa15 := sa14.tnL t15 (not_one (by omega))
            have sb15 := sb14.tnL t15 (not_one (by omega))
            have sc15 := sc14.tnL t15 (not_one (by omega))
            have sd15 := sd14.tnL t15 (not_one (by omega))
            have A15 := A14.tn t15 (not_one (by omega))
            have sl15 := sl14.tnL t15 (not_one (by omega))
            have sh15 := sh14.tnL t15 (not_one (by omega))
            clear B14 R14 sa14 sb14 sc14 sd14 A14 L14 sl14 sh14 t15 lo15
            subst hw15
            go_wp2
            go_roundw
            case rel => exact ⟨1, a, c1, by omega, by first | rfl | go_num, L15, by rw [HE.out]; exact sl15, by rw [HF.out]; exact sb15, ⟨by omega, by omega, by omega, by omega⟩, A15, R15, sa15, sb15, sc15, sd15, B15⟩
            case measure => simp [intOf]
          · have HF := more_no hh HH.out
            replace HF : Hid (_ = _) := HF
            have kP := fun W h1 h2 => ordLe c1 b d1 hi W h1 h2 hh
            clear hh HH
            have c_A_0 := A12.c 0 _ rfl
            have c_A_1 := A12.c 1 _ rfl
            have c_A_2 := A12.c 2 _ rfl
            have c_A_3 := A12.c 3 _ rfl
            have c_L_0 := L12.c 0 _ rfl
            have c_L_1 := L12.c 1 _ rfl
            go_wp2_with fail
            refine (kO _ sb12 sl12).mono ?_
            rintro e w13 ⟨r1, rfl, r2, r3, bb13⟩
            clear c_A_0 c_A_1 c_A_2 c_A_3 c_L_0 c_L_1
            have B13 := B12.trans (bb13.mono B12.size)
            have R13 := R12.below bb13 (Nat.le_refl _)
            have sa13 := sa12.below bb13 sa12.lt
            have sb13 := sb12.below bb13 sb12.lt
            have sc13 := sc12.below bb13 sc12.lt
            have sd13 := sd12.below bb13 sd12.lt
            have A13 := A12.below bb13 (Nat.le_refl _)
            have L13 := L12.below bb13 (Nat.le_refl _)
            have sl13 := sl12.below bb13 sl12.lt
            have sh13 := sh12.below bb13 sh12.lt
            clear B12 R12 sa12 sb12 sc12 sd12 A12 L12 sl12 sh12 bb13
            clear kO
            have c_A_0 := A13.c 0 _ rfl
            have c_A_1 := A13.c 1 _ rfl
            have c_A_2 := A13.c 2 _ rfl
            have c_A_3 := A13.c 3 _ rfl
            have c_L_0 := L13.c 0 _ rfl
            have c_L_1 := L13.c 1 _ rfl
            go_wp2_with fail
            clear c_A_0 c_A_1 c_A_2 c_A_3 c_L_0 c_L_1
            refine (kP _ sb13 sh13).mono ?_
            rintro e w14 ⟨r4, rfl, r5, r6, bb14⟩
            have B14 := B13.trans (bb14.mono B13.size)
            have R14 := R13.below bb14 (Nat.le_refl _)
            have sa14 := sa13.below bb14 sa13.lt
            have sb14 := sb13.below bb14 sb13.lt
            have sc14 := sc13.below bb14 sc13.lt
            have sd14 := sd13.below bb14 sd13.lt
            have A14 := A13.below bb14 (Nat.le_refl _)
            have L14 := L13.below bb14 (Nat.le_refl _)
            have sl14 := sl13.below bb14 sl13.lt
            have sh14 := sh13.below bb14 sh13.lt
            clear B13 R13 sa13 sb13 sc13 sd13 A13 L13 sl13 sh13 bb14
            clear kP
            go_wp2
            go_roundw
            case rel => exact ⟨1, a, b, by omega, by first | rfl | go_num, L14, by rw [HE.out]; exact sl14, by rw [HF.out]; exact sh14, ⟨by omega, by omega, by omega, by omega⟩, A14, R14, sa14, sb14, sc14, sd14, B14⟩
            case measure => simp [intOf]
      · obtain ⟨lo, hlo⟩ : ∃ z, loK d0 d1 d2 d3 1 = z := ⟨_, rfl⟩
        obtain ⟨hi, hhi⟩ : ∃ z, hiK d0 d1 d2 d3 1 = z := ⟨_, rfl⟩
        rw [hlo] at sl12
        rw [hhi] at sh12
        have HL : Hid (loK d0 d1 d2 d3 2 = lesserI lo d2) := by show _ = _; rw [← hlo]; rfl
        have HH : Hid (hiK d0 d1 d2 d3 2 = moreI hi d2) := by show _ = _; rw [← hhi]; rfl
        clear hlo hhi
        by_cases hl : d2 < lo
        · have HE := lesser_yes hl HL.out
          replace HE : Hid (_ = _) := HE
          have kO := fun W h1 h2 => ordLt c2 a d2 lo W h1 h2 hl
          clear hl HL
          by_cases hh : hi < d2
          · have HF := more_yes hh HH.out
            replace HF : Hid (_ = _) := HF
            have kP := fun W h1 h2 => ordGt c2 b d2 hi W h1 h2 hh
            clear hh HH
            have c_A_0 := A12.c 0 _ rfl
            have c_A_1 := A12.c 1 _ rfl
            have c_A_2 := A12.c 2 _ rfl
            have c_A_3 := A12.c 3 _ rfl
            have c_L_0 := L12.c 0 _ rfl
            have c_L_1 := L12.c 1 _ rfl
            go_wp2_with fail
            refine (kO _ sc12 sl12).mono ?_
            rintro e w13 ⟨rfl, bb13⟩
            clear c_A_0 c_A_1 c_A_2 c_A_3 c_L_0 c_L_1
            have B13 := B12.trans (bb13.mono B12.size)
            have R13 := R12.below bb13 (Nat.le_refl _)
            have sa13 := sa12.below bb13 sa12.lt
            have sb13 := sb12.below bb13 sb12.lt
            have sc13 := sc12.below bb13 sc12.lt
            have sd13 := sd12.below bb13 sd12.lt
            have A13 := A12.below bb13 (Nat.le_refl _)
            have L13 := L12.below bb13 (Nat.le_refl _)
            have sl13 := sl12.below bb13 sl12.lt
            have sh13 := sh12.below bb13 sh12.lt
            clear B12 R12 sa12 sb12 sc12 sd12 A12 L12 sl12 sh12 bb13
            clear kO
            have c_A_0 := A13.c 0 _ rfl
            have f_A_0 := A13.f 0 _ rfl
            have c_A_1 := A13.c 1 _ rfl
            have f_A_1 := A13.f 1 _ rfl
            have c_A_2 := A13.c 2 _ rfl
            have f_A_2 := A13.f 2 _ rfl
            have c_A_3 := A13.c 3 _ rfl
            have f_A_3 := A13.f 3 _ rfl
            have c_L_0 := L13.c 0 _ rfl
            have f_L_0 := L13.f 0 _ rfl
            have c_L_1 := L13.c 1 _ rfl
            have f_L_1 := L13.f 1 _ rfl
            go_wp2_with fail
            clear c_A_0 f_A_0 c_A_1 f_A_1 c_A_2 f_A_2 c_A_3 f_A_3 c_L_0 f_L_0 c_L_1 f_L_1
            obtain ⟨w14, hw14⟩ : ∃ v, v = w13.setCell ⟨q12, 0, none⟩ (.pointer (some ⟨c2, 0, none⟩)) := ⟨_, rfl⟩
            have t14 : Tn [q12] w13 w14 := by rw [hw14]; exact (tnL w13 q12 0 (.pointer (some ⟨c2, 0, none⟩)))
            have L14 : BoxL w14 w.heap.size q12 [.pointer (some ⟨c2, 0, none⟩), .pointer (some ⟨b, 0, none⟩)] := by rw [hw14]; exact (L13.set 0 (.pointer (some ⟨c2, 0, none⟩)) (by simp))
            have lo14 := L13.lo
            rw [← hw14]
            clear hw14
            have B14 := t14.below B13 B13.size (fun q hq => by simp at hq; omega)
            have R14 := R13.tn t14 (not_one (by omega))
            have sa14 := sa13.tnL t14 (not_one (by omega))
            have sb14 := sb13.tnL t14 (not_one (by omega))
            have sc14 := sc13.tnL t14 (not_one (by omega))
            have sd14 := sd13.tnL t14 (not_one (by omega))
            have A14 := A13.tn t14 (not_one (by omega))
            have sl14 := sl13.tnL t14 (not_one (by omega))
            have sh14 := sh13.tnL t14 (not_one (by omega))
            clear B13 R13 sa13 sb13 sc13 sd13 A13 L13 sl13 sh13 t14 lo14
            refine (kP _ sc14 sh14).mono ?_
            rintro e w15 ⟨rfl, bb15⟩
            have B15 := B14.trans (bb15.mono B14.size)
            have R15 := R14.below bb15 (Nat.le_refl _)
            have sa15 := sa14.below bb15 sa14.lt
            have sb15 := sb14.below bb15 sb14.lt
            have sc15 := sc14.below bb15 sc14.lt
            have sd15 := sd14.below bb15 sd14.lt
            have A15 := A14.below bb15 (Nat.le_refl _)
            have L15 := L14.below bb15 (Nat.le_refl _)
            have sl15 := sl14.below bb15 sl14.lt
            have sh15 := sh14.below bb15 sh14.lt
            clear B14 R14 sa14 sb14 sc14 sd14 A14 L14 sl14 sh14 bb15
            clear kP
            have c_L_0 := L15.c 0 _ rfl
            have f_L_0 := L15.f 0 _ rfl
            have c_L_1 := L15.c 1 _ rfl
            have f_L_1 := L15.f 1 _ rfl
            obtain ⟨w16, hw16⟩ : ∃ v, v = w15.setCell ⟨q12, 1, none⟩ (.pointer (some ⟨c2, 0, none⟩)) := ⟨_, rfl⟩
            have t16 : Tn [q12] w15 w16 := by rw [hw16]; exact (tnL w15 q12 1 (.pointer (some ⟨c2, 0, none⟩)))
            have L16 : BoxL w16 w.heap.size q12 [.pointer (some ⟨c2, 0, none⟩), .pointer (some ⟨c2, 0, none⟩)] := by rw [hw16]; exact (L15.set 1 (.pointer (some ⟨c2, 0, none⟩)) (by simp))
            have lo16 := L15.lo
            have B16 := t16.below B15 B15.size (fun q hq => by simp at hq; omega)
            have R16 := R15.tn t16 (not_one (by omega))
            have sa16 := sa15.tnL t16 (not_one (by omega))
            have sb16 := sb15.tnL t16 (not_one (by omega))
            have sc16 := sc15.tnL t16 (not_one (by omega))
            have sd16 := sd15.tnL t16 (not_one (by omega))
            have A16 := A15.tn t16 (not_one (by omega))
            have sl16 := sl15.tnL t16 (not_one (by omega))
            have sh16 := sh15.tnL t16 (not_one (by omega))
            clear B15 R15 sa15 sb15 sc15 sd15 A15 L15 sl15 sh15 t16 lo16
            subst hw16
            go_wp2
            go_roundw
            case rel => exact ⟨2, c2, c2, by omega, by first | rfl | go_num, L16, by rw [HE.out]; exact sc16, by rw [HF.out]; exact sc16, ⟨by omega, by omega, by omega, by omega⟩, A16, R16, sa16, sb16, sc16, sd16, B16⟩
            case measure => simp [intOf]
          · have HF := more_no hh HH.out
            replace HF : Hid (_ = _) := HF
            have kP := fun W h1 h2 => ordLe c2 b d2 hi W h1 h2 hh
            clear hh HH
            have c_A_0 := A12.c 0 _ rfl
            have c_A_1 := A12.c 1 _ rfl
            have c_A_2 := A12.c 2 _ rfl
            have c_A_3 := A12.c 3 _ rfl
            have c_L_0 := L12.c 0 _ rfl
            have c_L_1 := L12.c 1 _ rfl
            go_wp2_with fail
            refine (kO _ sc12 sl12).mono ?_
            rintro e w13 ⟨rfl, bb13⟩
            clear c_A_0 c_A_1 c_A_2 c_A_3 c_L_0 c_L_1
            have B13 := B12.trans (bb13.mono B12.size)
            have R13 := R12.below bb13 (Nat.le_refl _)
            have sa13 := sa12.below bb13 sa12.lt
            have sb13 := sb12.below bb13 sb12.lt
            have sc13 := sc12.below bb13 sc12.lt
            have sd13 := sd12.below bb13 sd12.lt
            have A13 := A12.below bb13 (Nat.le_refl _)
            have L13 := L12.below bb13 (Nat.le_refl _)
            have sl13 := sl12.below bb13 sl12.lt
            have sh13 := sh12.below bb13 sh12.lt
            clear B12 R12 sa12 sb12 sc12 sd12 A12 L12 sl12 sh12 bb13
            clear kO
            have c_A_0 := A13.c 0 _ rfl
            have f_A_0 := A13.f 0 _ rfl
            have c_A_1 := A13.c 1 _ rfl
            have f_A_1 := A13.f 1 _ rfl
            have c_A_2 := A13.c 2 _ rfl
            have f_A_2 := A13.f 2 _ rfl
            have c_A_3 := A13.c 3 _ rfl
            have f_A_3 := A13.f 3 _ rfl
            have c_L_0 := L13.c 0 _ rfl
            have f_L_0 := L13.f 0 _ rfl
            have c_L_1 := L13.c 1 _ rfl
            have f_L_1 := L13.f 1 _ rfl
            go_wp2_with fail
            clear c_A_0 f_A_0 c_A_1 f_A_1 c_A_2 f_A_2 c_A_3 f_A_3 c_L_0 f_L_0 c_L_1 f_L_1
            obtain ⟨w14, hw14⟩ : ∃ v, v = w13.setCell ⟨q12, 0, none⟩ (.pointer (some ⟨c2, 0, none⟩)) := ⟨_, rfl⟩
            have t14 : Tn [q12] w13 w14 := by rw [hw14]; exact (tnL w13 q12 0 (.pointer (some ⟨c2, 0, none⟩)))
            have L14 : BoxL w14 w.heap.size q12 [.pointer (some ⟨c2, 0, none⟩), .pointer (some ⟨b, 0, none⟩)] := by rw [hw14]; exact (L13.set 0 (.pointer (some ⟨c2, 0, none⟩)) (by simp))
            have lo14 := L13.lo
            rw [← hw14]
            clear hw14
            have B14 := t14.below B13 B13.size (fun q hq => by simp at hq; omega)
            have R14 := R13.tn t14 (not_one (by omega))
            have sa14 := sa13.tnL t14 (not_one (by omega))
            have sb14 := sb13.tnL t14 (not_one (by omega))
            have sc14 := sc13.tnL t14 (not_one (by omega))
            have sd14 := sd13.tnL t14 (not_one (by omega))
            have A14 := A13.tn t14 (not_one (by omega))
            have sl14 := sl13.tnL t14 (not_one (by omega))
            have sh14 := sh13.tnL t14 (not_one (by omega))
            clear B13 R13 sa13 sb13 sc13 sd13 A13 L13 sl13 sh13 t14 lo14
            refine (kP _ sc14 sh14).mono ?_
            rintro e w15 ⟨r4, rfl, r5, r6, bb15⟩
            have B15 := B14.trans (bb15.mono B14.size)
            have R15 := R14.below bb15 (Nat.le_refl _)
            have sa15 := sa14.below bb15 sa14.lt
            have sb15 := sb14.below bb15 sb14.lt
            have sc15 := sc14.below bb15 sc14.lt
            have sd15 := sd14.below bb15 sd14.lt
            have A15 := A14.below bb15 (Nat.le_refl _)
            have L15 := L14.below bb15 (Nat.le_refl _)
            have sl15 := sl14.below bb15 sl14.lt
            have sh15 := sh14.below bb15 sh14.lt
            clear B14 R14 sa14 sb14 sc14 sd14 A14 L14 sl14 sh14 bb15
            clear kP
            go_wp2
            go_roundw
            case rel => exact ⟨2, c2, b, by omega, by first | rfl | go_num, L15, by rw [HE.out]; exact sc15, by rw [HF.out]; exact sh15, ⟨by omega, by omega, by omega, by omega⟩, A15, R15, sa15, sb15, sc15, sd15, B15⟩
            case measure => simp [intOf]
        · have HE := lesser_no hl HL.out
          replace HE : Hid (_ = _) := HE
          have kO := fun W h1 h2 => ordGe c2 a d2 lo W h1 h2 hl
          clear hl HL
          by_cases hh : hi < d2
          · have HF := more_yes hh HH.out
            replace HF : Hid (_ = _) := HF
            have kP := fun W h1 h2 => ordGt c2 b d2 hi W h1 h2 hh
            clear hh HH
            have c_A_0 := A12.c 0 _ rfl
            have c_A_1 := A12.c 1 _ rfl
            have c_A_2 := A12.c 2 _ rfl
            have c_A_3 := A12.c 3 _ rfl
            have c_L_0 := L12.c 0 _ rfl
            have c_L_1 := L12.c 1 _ rfl
            go_wp2_with fail
            refine (kO _ sc12 sl12).mono ?_
            rintro e w13 ⟨r1, rfl, r2, r3, bb13⟩
            clear c_A_0 c_A_1 c_A_2 c_A_3 c_L_0 c_L_1
            have B13 := B12.trans (bb13.mono B12.size)
            have R13 := R12.below bb13 (Nat.le_refl _)
            have sa13 := sa12.below bb13 sa12.lt
            have sb13 := sb12.below bb13 sb12.lt
            have sc13 := sc12.below bb13 sc12.lt
            have sd13 := sd12.below bb13 sd12.lt
            have A13 := A12.below bb13 (Nat.le_refl _)
            have L13 := L12.below bb13 (Nat.le_refl _)
            have sl13 := sl12.below bb13 sl12.lt
            have sh13 := sh12.below bb13 sh12.lt
            clear B12 R12 sa12 sb12 sc12 sd12 A12 L12 sl12 sh12 bb13
            clear kO
            have c_A_0 := A13.c 0 _ rfl
            have c_A_1 := A13.c 1 _ rfl
            have c_A_2 := A13.c 2 _ rfl
            have c_A_3 := A13.c 3 _ rfl
            have c_L_0 := L13.c 0 _ rfl
            have c_L_1 := L13.c 1 _ rfl
            go_wp2_with fail
            clear c_A_0 c_A_1 c_A_2 c_A_3 c_L_0 c_L_1
            refine (kP _ sc13 sh13).mono ?_
            rintro e w14 ⟨rfl, bb14⟩
            have B14 := B13.trans (bb14.mono B13.size)
            have R14 := R13.below bb14 (Nat.le_refl _)
            have sa14 := sa13.below bb14 sa13.lt
            have sb14 := sb13.below bb14 sb13.lt
            have sc14 := sc13.below bb14 sc13.lt
            have sd14 := sd13.below bb14 sd13.lt
            have A14 := A13.below bb14 (Nat.le_refl _)
            have L14 := L13.below bb14 (Nat.le_refl _)
            have sl14 := sl13.below bb14 sl13.lt
            have sh14 := sh13.below bb14 sh13.lt
            clear B13 R13 sa13 sb13 sc13 sd13 A13 L13 sl13 sh13 bb14
            clear kP
            have c_L_0 := L14.c 0 _ rfl
            have f_L_0 := L14.f 0 _ rfl
            have c_L_1 := L14.c 1 _ rfl
            have f_L_1 := L14.f 1 _ rfl
            obtain ⟨w15, hw15⟩ : ∃ v, v = w14.setCell ⟨q12, 1, none⟩ (.pointer (some ⟨c2, 0, none⟩)) := ⟨_, rfl⟩
            have t15 : Tn [q12] w14 w15 := by rw [hw15]; exact (tnL w14 q12 1 (.pointer (some ⟨c2, 0, none⟩)))
            have L15 : BoxL w15 w.heap.size q12 [.pointer (some ⟨a, 0, none⟩), .pointer (some ⟨c2, 0, none⟩)] := by rw [hw15]; exact (L14.set 1 (.pointer (some ⟨c2, 0, none⟩)) (by simp))
            have lo15 := L14.lo
            have B15 := t15.below B14 B14.size (fun q hq => by simp at hq; omega)
            have R15 := R14.tn t15 (not_one (by omega))
            have sa15 := sa14.tnL t15 (not_one (by omega))
            have sb15 := sb14.tnL t15 (not_one (by omega))
            have sc15 := sc14.tnL t15 (not_one (by omega))
            have sd15 := sd14.tnL t15 (not_one (by omega))
            have A15 := A14.tn t15 (not_one (by omega))
            have sl15 := sl14.tnL t15 (not_one (by omega))
            have sh15 := sh14.tnL t15 (not_one (by omega))
            clear B14 R14 sa14 sb14 sc14 sd14 A14 L14 sl14 sh14 t15 lo15
            subst hw15
            go_wp2
            go_roundw
            case rel => exact ⟨2, a, c2, by omega, by first | rfl | go_num, L15, by rw [HE.out]; exact sl15, by rw [HF.out]; exact sc15, ⟨by omega, by omega, by omega, by omega⟩, A15, R15, sa15, sb15, sc15, sd15, B15⟩
            case measure => simp [intOf]
          · have HF := more_no hh HH.out
            replace HF : Hid (_ = _) := HF
            have kP := fun W h1 h2 => ordLe c2 b d2 hi W h1 h2 hh
            clear hh HH
            have c_A_0 := A12.c 0 _ rfl
            have c_A_1 := A12.c 1 _ rfl
            have c_A_2 := A12.c 2 _ rfl
            have c_A_3 := A12.c 3 _ rfl
            have c_L_0 := L12.c 0 _ rfl
            have c_L_1 := L12.c 1 _ rfl
            go_wp2_with fail
            refine (kO _ sc12 sl12).mono ?_
            rintro e w13 ⟨r1, rfl, r2, r3, bb13⟩
            clear c_A_0 c_A_1 c_A_2 c_A_3 c_L_0 c_L_1
            have B13 := B12.trans (bb13.mono B12.size)
            have R13 := R12.below bb13 (Nat.le_refl _)
            have sa13 := sa12.below bb13 sa12.lt
            have sb13 := sb12.below bb13 sb12.lt
            have sc13 := sc12.below bb13 sc12.lt
            have sd13 := sd12.below bb13 sd12.lt
            have A13 := A12.below bb13 (Nat.le_refl _)
            have L13 := L12.below bb13 (Nat.le_refl _)
            have sl13 := sl12.below bb13 sl12.lt
            have sh13 := sh12.below bb13 sh12.lt
            clear B12 R12 sa12 sb12 sc12 sd12 A12 L12 sl12 sh12 bb13
            clear kO
            have c_A_0 := A13.c 0 _ rfl
            have c_A_1 := A13.c 1 _ rfl
            have c_A_2 := A13.c 2 _ rfl
            have c_A_3 := A13.c 3 _ rfl
            have c_L_0 := L13.c 0 _ rfl
            have c_L_1 := L13.c 1 _ rfl
            go_wp2_with fail
            clear c_A_0 c_A_1 c_A_2 c_A_3 c_L_0 c_L_1
            refine (kP _ sc13 sh13).mono ?_
            rintro e w14 ⟨r4, rfl, r5, r6, bb14⟩
            have B14 := B13.trans (bb14.mono B13.size)
            have R14 := R13.below bb14 (Nat.le_refl _)
            have sa14 := sa13.below bb14 sa13.lt
            have sb14 := sb13.below bb14 sb13.lt
            have sc14 := sc13.below bb14 sc13.lt
            have sd14 := sd13.below bb14 sd13.lt
            have A14 := A13.below bb14 (Nat.le_refl _)
            have L14 := L13.below bb14 (Nat.le_refl _)
            have sl14 := sl13.below bb14 sl13.lt
            have sh14 := sh13.below bb14 sh13.lt
            clear B13 R13 sa13 sb13 sc13 sd13 A13 L13 sl13 sh13 bb14
            clear kP
            go_wp2
            go_roundw
            case rel => exact ⟨2, a, b, by omega, by first | rfl | go_num, L14, by rw [HE.out]; exact sl14, by rw [HF.out]; exact sh14, ⟨by omega, by omega, by omega, by omega⟩, A14, R14, sa14, sb14, sc14, sd14, B14⟩
            case measure => simp [intOf]
      · obtain ⟨lo, hlo⟩ : ∃ z, loK d0 d1 d2 d3 2 = z := ⟨_, rfl⟩
        obtain ⟨hi, hhi⟩ : ∃ z, hiK d0 d1 d2 d3 2 = z := ⟨_, rfl⟩
        rw [hlo] at sl12
        rw [hhi] at sh12
        have HL : Hid (loK d0 d1 d2 d3 3 = lesserI lo d3) := by show _ = _; rw [← hlo]; rfl
        have HH : Hid (hiK d0 d1 d2 d3 3 = moreI hi d3) := by show _ = _; rw [← hhi]; rfl
        clear hlo hhi
        by_cases hl : d3 < lo
        · have HE := lesser_yes hl HL.out
          replace HE : Hid (_ = _) := HE
          have kO := fun W h1 h2 => ordLt c3 a d3 lo W h1 h2 hl
          clear hl HL
          by_cases hh : hi < d3
          · have HF := more_yes hh HH.out
            replace HF : Hid (_ = _) := HF
            have kP := fun W h1 h2 => ordGt c3 b d3 hi W h1 h2 hh
            clear hh HH
            have c_A_0 := A12.c 0 _ rfl
            have c_A_1 := A12.c 1 _ rfl
            have c_A_2 := A12.c 2 _ rfl
            have c_A_3 := A12.c 3 _ rfl
            have c_L_0 := L12.c 0 _ rfl
            have c_L_1 := L12.c 1 _ rfl
            go_wp2_with fail
            refine (kO _ sd12 sl12).mono ?_
            rintro e w13 ⟨rfl, bb13⟩
            clear c_A_0 c_A_1 c_A_2 c_A_3 c_L_0 c_L_1
            have B13 := B12.trans (bb13.mono B12.size)
            have R13 := R12.below bb13 (Nat.le_refl _)
            have sa13 := sa12.below bb13 sa12.lt
            have sb13 := sb12.below bb13 sb12.lt
            have sc13 := sc12.below bb13 sc12.lt
            have sd13 := sd12.below bb13 sd12.lt
            have A13 := A12.below bb13 (Nat.le_refl _)
            have L13 := L12.below bb13 (Nat.le_refl _)
            have sl13 := sl12.below bb13 sl12.lt
            have sh13 := sh12.below bb13 sh12.lt
            clear B12 R12 sa12 sb12 sc12 sd12 A12 L12 sl12 sh12 bb13
            clear kO
            have c_A_0 := A13.c 0 _ rfl
            have f_A_0 := A13.f 0 _ rfl
            have c_A_1 := A13.c 1 _ rfl
            have f_A_1 := A13.f 1 _ rfl
            have c_A_2 := A13.c 2 _ rfl
            have f_A_2 := A13.f 2 _ rfl
            have c_A_3 := A13.c 3 _ rfl
            have f_A_3 := A13.f 3 _ rfl
            have c_L_0 := L13.c 0 _ rfl
            have f_L_0 := L13.f 0 _ rfl
            have c_L_1 := L13.c 1 _ rfl
            have f_L_1 := L13.f 1 _ rfl
            go_wp2_with fail
            clear c_A_0 f_A_0 c_A_1 f_A_1 c_A_2 f_A_2 c_A_3 f_A_3 c_L_0 f_L_0 c_L_1 f_L_1
            obtain ⟨w14, hw14⟩ : ∃ v, v = w13.setCell ⟨q12, 0, none⟩ (.pointer (some ⟨c3, 0, none⟩)) := ⟨_, rfl⟩
            have t14 : Tn [q12] w13 w14 := by rw [hw14]; exact (tnL w13 q12 0 (.pointer (some ⟨c3, 0, none⟩)))
            have L14 : BoxL w14 w.heap.size q12 [.pointer (some ⟨c3, 0, none⟩), .pointer (some ⟨b, 0, none⟩)] := by rw [hw14]; exact (L13.set 0 (.pointer (some ⟨c3, 0, none⟩)) (by simp))
            have lo14 := L13.lo
            rw [← hw14]
            clear hw14
            have B14 := t14.below B13 B13.size (fun q hq => by simp at hq; omega)
            have R14 := R13.tn t14 (not_one (by omega))
            have sa14 := sa13.tnL t14 (not_one (by omega))
            have sb14 := sb13.tnL t14 (not_one (by omega))
            have sc14 := sc13.tnL t14 (not_one (by omega))
            have sd14 := sd13.tnL t14 (not_one (by omega))
            have A14 := A13.tn t14 (not_one (by omega))
            have sl14 := sl13.tnL t14 (not_one (by omega))
            have sh14 := sh13.tnL t14 (not_one (by omega))
            clear B13 R13 sa13 sb13 sc13 sd13 A13 L13 sl13 sh13 t14 lo14
            refine (kP _ sd14 sh14).mono ?_
            rintro e w15 ⟨rfl, bb15⟩
            have B15 := B14.trans (bb15.mono B14.size)
            have R15 := R14.below bb15 (Nat.le_refl _)
            have sa15 := sa14.below bb15 sa14.lt
            have sb15 := sb14.below bb15 sb14.lt
            have sc15 := sc14.below bb15 sc14.lt
            have sd15 := sd14.below bb15 sd14.lt
            have A15 := A14.below bb15 (Nat.le_refl _)
            have L15 := L14.below bb15 (Nat.le_refl _)
            have sl15 := sl14.below bb15 sl14.lt
            have sh15 := sh14.below bb15 sh14.lt
            clear B14 R14 sa14 sb14 sc14 sd14 A14 L14 sl14 sh14 bb15
            clear kP
            have c_L_0 := L15.c 0 _ rfl
            have f_L_0 := L15.f 0 _ rfl
            have c_L_1 := L15.c 1 _ rfl
            have f_L_1 := L15.f 1 _ rfl
            obtain ⟨w16, hw16⟩ : ∃ v, v = w15.setCell ⟨q12, 1, none⟩ (.pointer (some ⟨c3, 0, none⟩)) := ⟨_, rfl⟩
            have t16 : Tn [q12] w15 w16 := by rw [hw16]; exact (tnL w15 q12 1 (.pointer (some ⟨c3, 0, none⟩)))
            have L16 : BoxL w16 w.heap.size q12 [.pointer (some ⟨c3, 0, none⟩), .pointer (some ⟨c3, 0, none⟩)] := by rw [hw16]; exact (L15.set 1 (.pointer (some ⟨c3, 0, none⟩)) (by simp))
            have lo16 := L15.lo
            have B16 := t16.below B15 B15.size (fun q hq => by simp at hq; omega)
            have R16 := R15.tn t16 (not_one (by omega))
            have sa16 := sa15.tnL t16 (not_one (by omega))
            have sb16 := sb15.tnL t16 (not_one (by omega))
            have sc16 := sc15.tnL t16 (not_one (by omega))
            have sd16 := sd15.tnL t16 (not_one (by omega))
            have A16 := A15.tn t16 (not_one (by omega))
            have sl16 := sl15.tnL t16 (not_one (by omega))
            have sh16 := sh15.tnL t16 (not_one (by omega))
            clear B15 R15 sa15 sb15 sc15 sd15 A15 L15 sl15 sh15 t16 lo16
            subst hw16
            go_wp2
            go_roundw
            case rel => exact ⟨3, c3, c3, by omega, by first | rfl | go_num, L16, by rw [HE.out]; exact sd16, by rw [HF.out]; exact sd16, ⟨by omega, by omega, by omega, by omega⟩, A16, R16, sa16, sb16, sc16, sd16, B16⟩
            case measure => simp [intOf]
          · have HF := more_no hh HH.out
            replace HF : Hid (_ = _) := HF
            have kP := fun W h1 h2 => ordLe c3 b d3 hi W h1 h2 hh
            clear hh HH
            have c_A_0 := A12.c 0 _ rfl
            have c_A_1 := A12.c 1 _ rfl
            have c_A_2 := A12.c 2 _ rfl
            have c_A_3 := A12.c 3 _ rfl
            have c_L_0 := L12.c 0 _ rfl
            have c_L_1 := L12.c 1 _ rfl
            go_wp2_with fail
            refine (kO _ sd12 sl12).mono ?_
            rintro e w13 ⟨rfl, bb13⟩
            clear c_A_0 c_A_1 c_A_2 c_A_3 c_L_0 c_L_1
            have B13 := B12.trans (bb13.mono B12.size)
            have R13 := R12.below bb13 (Nat.le_refl _)
            have sa13 := sa12.below bb13 sa12.lt
            have sb13 := sb12.below bb13 sb12.lt
            have sc13 := sc12.below bb13 sc12.lt
            have sd13 := sd12.below bb13 sd12.lt
            have A13 := A12.below bb13 (Nat.le_refl _)
            have L13 := L12.below bb13 (Nat.le_refl _)
            have sl13 := sl12.below bb13 sl12.lt
            have sh13 := sh12.below bb13 sh12.lt
            clear B12 R12 sa12 sb12 sc12 sd12 A12 L12 sl12 sh12 bb13
            clear kO
            have c_A_0 := A13.c 0 _ rfl
            have f_A_0 := A13.f 0 _ rfl
            have c_A_1 := A13.c 1 _ rfl
            have f_A_1 := A13.f 1 _ rfl
            have c_A_2 := A13.c 2 _ rfl
            have f_A_2 := A13.f 2 _ rfl
            have c_A_3 := A13.c 3 _ rfl
            have f_A_3 := A13.f 3 _ rfl
            have c_L_0 := L13.c 0 _ rfl
            have f_L_0 := L13.f 0 _ rfl
            have c_L_1 := L13.c 1 _ rfl
            have f_L_1 := L13.f 1 _ rfl
            go_wp2_with fail
            clear c_A_0 f_A_0 c_A_1 f_A_1 c_A_2 f_A_2 c_A_3 f_A_3 c_L_0 f_L_0 c_L_1 f_L_1
            obtain ⟨w14, hw14⟩ : ∃ v, v = w13.setCell ⟨q12, 0, none⟩ (.pointer (some ⟨c3, 0, none⟩)) := ⟨_, rfl⟩
            have t14 : Tn [q12] w13 w14 := by rw [hw14]; exact (tnL w13 q12 0 (.pointer (some ⟨c3, 0, none⟩)))
            have L14 : BoxL w14 w.heap.size q12 [.pointer (some ⟨c3, 0, none⟩), .pointer (some ⟨b, 0, none⟩)] := by rw [hw14]; exact (L13.set 0 (.pointer (some ⟨c3, 0, none⟩)) (by simp))
            have lo14 := L13.lo
            rw [← hw14]
            clear hw14
            have B14 := t14.below B13 B13.size (fun q hq => by simp at hq; omega)
            have R14 := R13.tn t14 (not_one (by omega))
            have sa14 := sa13.tnL t14 (not_one (by omega))
            have sb14 := sb13.tnL t14 (not_one (by omega))
            have sc14 := sc13.tnL t14 (not_one (by omega))
            have sd14 := sd13.tnL t14 (not_one (by omega))
            have A14 := A13.tn t14 (not_one (by omega))
            have sl14 := sl13.tnL t14 (not_one (by omega))
            have sh14 := sh13.tnL t14 (not_one (by omega))
            clear B13 R13 sa13 sb13 sc13 sd13 A13 L13 sl13 sh13 t14 lo14
            refine (kP _ sd14 sh14).mono ?_
            rintro e w15 ⟨r4, rfl, r5, r6, bb15⟩
            have B15 := B14.trans (bb15.mono B14.size)
            have R15 := R14.below bb15 (Nat.le_refl _)
            have sa15 := sa14.below bb15 sa14.lt
            have sb15 := sb14.below bb15 sb14.lt
            have sc15 := sc14.below bb15 sc14.lt
            have sd15 := sd14.below bb15 sd14.lt
            have A15 := A14.below bb15 (Nat.le_refl _)
            have L15 := L14.below bb15 (Nat.le_refl _)
            have sl15 := sl14.below bb15 sl14.lt
            have sh15 := sh14.below bb15 sh14.lt
            clear B14 R14 sa14 sb14 sc14 sd14 A14 L14 sl14 sh14 bb15
            clear kP
            go_wp2
            go_roundw
            case rel => exact ⟨3, c3, b, by omega, by first | rfl | go_num, L15, by rw [HE.out]; exact sd15, by rw [HF.out]; exact sh15, ⟨by omega, by omega, by omega, by omega⟩, A15, R15, sa15, sb15, sc15, sd15, B15⟩
            case measure => simp [intOf]
        · have HE := lesser_no hl HL.out
          replace HE : Hid (_ = _) := HE
          have kO := fun W h1 h2 => ordGe c3 a d3 lo W h1 h2 hl
          clear hl HL
          by_cases hh : hi < d3
          · have HF := more_yes hh HH.out
            replace HF : Hid (_ = _) := HF
            have kP := fun W h1 h2 => ordGt c3 b d3 hi W h1 h2 hh
            clear hh HH
            have c_A_0 := A12.c 0 _ rfl
            have c_A_1 := A12.c 1 _ rfl
            have c_A_2 := A12.c 2 _ rfl
            have c_A_3 := A12.c 3 _ rfl
            have c_L_0 := L12.c 0 _ rfl
            have c_L_1 := L12.c 1 _ rfl
            go_wp2_with fail
            refine (kO _ sd12 sl12).mono ?_
            rintro e w13 ⟨r1, rfl, r2, r3, bb13⟩
            clear c_A_0 c_A_1 c_A_2 c_A_3 c_L_0 c_L_1
            have B13 := B12.trans (bb13.mono B12.size)
            have R13 := R12.below bb13 (Nat.le_refl _)
            have sa13 := sa12.below bb13 sa12.lt
            have sb13 := sb12.below bb13 sb12.lt
            have sc13 := sc12.below bb13 sc12.lt
            have sd13 := sd12.below bb13 sd12.lt
            have A13 := A12.below bb13 (Nat.le_refl _)
            have L13 := L12.below bb13 (Nat.le_refl _)
            have sl13 := sl12.below bb13 sl12.lt
            have sh13 := sh12.below bb13 sh12.lt
            clear B12 R12 sa12 sb12 sc12 sd12 A12 L12 sl12 sh12 bb13
            clear kO
            have c_A_0 := A13.c 0 _ rfl
            have c_A_1 := A13.c 1 _ rfl
            have c_A_2 := A13.c 2 _ rfl
            have c_A_3 := A13.c 3 _ rfl
            have c_L_0 := L13.c 0 _ rfl
            have c_L_1 := L13.c 1 _ rfl
            go_wp2_with fail
            clear c_A_0 c_A_1 c_A_2 c_A_3 c_L_0 c_L_1
            refine (kP _ sd13 sh13).mono ?_
            rintro e w14 ⟨rfl, bb14⟩
            have B14 := B13.trans (bb14.mono B13.size)
            have R14 := R13.below bb14 (Nat.le_refl _)
            have sa14 := sa13.below bb14 sa13.lt
            have sb14 := sb13.below bb14 sb13.lt
            have sc14 := sc13.below bb14 sc13.lt
            have sd14 := sd13.below bb14 sd13.lt
            have A14 := A13.below bb14 (Nat.le_refl _)
            have L14 := L13.below bb14 (Nat.le_refl _)
            have sl14 := sl13.below bb14 sl13.lt
            have sh14 := sh13.below bb14 sh13.lt
            clear B13 R13 sa13 sb13 sc13 sd13 A13 L13 sl13 sh13 bb14
            clear kP
            have c_L_0 := L14.c 0 _ rfl
            have f_L_0 := L14.f 0 _ rfl
            have c_L_1 := L14.c 1 _ rfl
            have f_L_1 := L14.f 1 _ rfl
            obtain ⟨w15, hw15⟩ : ∃ v, v = w14.setCell ⟨q12, 1, none⟩ (.pointer (some ⟨c3, 0, none⟩)) := ⟨_, rfl⟩
            have t15 : Tn [q12] w14 w15 := by rw [hw15]; exact (tnL w14 q12 1 (.pointer (some ⟨c3, 0, none⟩)))
            have L15 : BoxL w15 w.heap.size q12 [.pointer (some ⟨a, 0, none⟩), .pointer (some ⟨c3, 0, none⟩)] := by rw [hw15]; exact (L14.set 1 (.pointer (some ⟨c3, 0, none⟩)) (by simp))
            have lo15 := L14.lo
            have B15 := t15.below B14 B14.size (fun q hq => by simp at hq; omega)
            have R15 := R14.tn t15 (not_one (by omega))
            have sa15 := sa14.tnL t15 (not_one (by omega))
            have sb15 := sb14.tnL t15 (not_one (by omega))
            have sc15 := sc14.tnL t15 (not_one (by omega))
            have sd15 := sd14.tnL t15 (not_one (by omega))
            have A15 := A14.tn t15 (not_one (by omega))
            have sl15 := sl14.tnL t15 (not_one (by omega))
            have sh15 := sh14.tnL t15 (not_one (by omega))
            clear B14 R14 sa14 sb14 sc14 sd14 A14 L14 sl14 sh14 t15 lo15
            subst hw15
            go_wp2
            go_roundw
            case rel => exact ⟨3, a, c3, by omega, by first | rfl | go_num, L15, by rw [HE.out]; exact sl15, by rw [HF.out]; exact sd15, ⟨by omega, by omega, by omega, by omega⟩, A15, R15, sa15, sb15, sc15, sd15, B15⟩
            case measure => simp [intOf]
          · have HF := more_no hh HH.out
            replace HF : Hid (_ = _) := HF
            have kP := fun W h1 h2 => ordLe c3 b d3 hi W h1 h2 hh
            clear hh HH
            have c_A_0 := A12.c 0 _ rfl
            have c_A_1 := A12.c 1 _ rfl
            have c_A_2 := A12.c 2 _ rfl
            have c_A_3 := A12.c 3 _ rfl
            have c_L_0 := L12.c 0 _ rfl
            have c_L_1 := L12.c 1 _ rfl
            go_wp2_with fail
            refine (kO _ sd12 sl12).mono ?_
            rintro e w13 ⟨r1, rfl, r2, r3, bb13⟩
            clear c_A_0 c_A_1 c_A_2 c_A_3 c_L_0 c_L_1
            have B13 := B12.trans (bb13.mono B12.size)
            have R13 := R12.below bb13 (Nat.le_refl _)
            have sa13 := sa12.below bb13 sa12.lt
            have sb13 := sb12.below bb13 sb12.lt
            have sc13 := sc12.below bb13 sc12.lt
            have sd13 := sd12.below bb13 sd12.lt
            have A13 := A12.below bb13 (Nat.le_refl _)
            have L13 := L12.below bb13 (Nat.le_refl _)
            have sl13 := sl12.below bb13 sl12.lt
            have sh13 := sh12.below bb13 sh12.lt
            clear B12 R12 sa12 sb12 sc12 sd12 A12 L12 sl12 sh12 bb13
            clear kO
            have c_A_0 := A13.c 0 _ rfl
            have c_A_1 := A13.c 1 _ rfl
            have c_A_2 := A13.c 2 _ rfl
            have c_A_3 := A13.c 3 _ rfl
            have c_L_0 := L13.c 0 _ rfl
            have c_L_1 := L13.c 1 _ rfl
            go_wp2_with fail
            clear c_A_0 c_A_1 c_A_2 c_A_3 c_L_0 c_L_1
            refine (kP _ sd13 sh13).mono ?_
            rintro e w14 ⟨r4, rfl, r5, r6, bb14⟩
            have B14 := B13.trans (bb14.mono B13.size)
            have R14 := R13.below bb14 (Nat.le_refl _)
            have sa14 := sa13.below bb14 sa13.lt
            have sb14 := sb13.below bb14 sb13.lt
            have sc14 := sc13.below bb14 sc13.lt
            have sd14 := sd13.below bb14 sd13.lt
            have A14 := A13.below bb14 (Nat.le_refl _)
            have L14 := L13.below bb14 (Nat.le_refl _)
            have sl14 := sl13.below bb14 sl13.lt
            have sh14 := sh13.below bb14 sh13.lt
            clear B13 R13 sa13 sb13 sc13 sd13 A13 L13 sl13 sh13 bb14
            clear kP
            go_wp2
            go_roundw
            case rel => exact ⟨3, a, b, by omega, by first | rfl | go_num, L14, by rw [HE.out]; exact sl14, by rw [HF.out]; exact sh14, ⟨by omega, by omega, by omega, by omega⟩, A14, R14, sa14, sb14, sc14, sd14, B14⟩
            case measure => simp [intOf]
      · have hl : loK d0 d1 d2 d3 3 = lesserI (lesserI (lesserI d0 d1) d2) d3 := rfl
        have hh : hiK d0 d1 d2 d3 3 = moreI (moreI (moreI d0 d1) d2) d3 := rfl
        rw [hl] at sl12
        rw [hh] at sh12
        clear hl hh
        have c_L_0 := L12.c 0 _ rfl
        have c_L_1 := L12.c 1 _ rfl
        have c_R_0 := R12.c 0 _ rfl
        have f_R_0 := R12.f 0 _ rfl
        have c_R_1 := R12.c 1 _ rfl
        have f_R_1 := R12.f 1 _ rfl
        obtain ⟨w13, hw13⟩ : ∃ v, v = (wr.setCell ⟨w.heap.size + 1 + 1, 0, none⟩ (.pointer (some ⟨a, 0, none⟩))).setCell ⟨w.heap.size + 1 + 1, 1, none⟩ (.pointer (some ⟨b, 0, none⟩)) := ⟨_, rfl⟩
        have t13 : Tn [w.heap.size + 1 + 1] wr w13 := by rw [hw13]; exact ((tnL wr (w.heap.size + 1 + 1) 0 (.pointer (some ⟨a, 0, none⟩))).trans (tnL _ (w.heap.size + 1 + 1) 1 (.pointer (some ⟨b, 0, none⟩))))
        have R13 : BoxL w13 w.heap.size (w.heap.size + 1 + 1) [.pointer (some ⟨a, 0, none⟩), .pointer (some ⟨b, 0, none⟩)] := by rw [hw13]; exact ((R12.set 0 (.pointer (some ⟨a, 0, none⟩)) (by simp)).set 1 (.pointer (some ⟨b, 0, none⟩)) (by simp))
        have lo13 := R12.lo
        have B13 := t13.below B12 B12.size (fun q hq => by simp at hq; omega)
        have sa13 := sa12.tnL t13 (not_one (by omega))
        have sb13 := sb12.tnL t13 (not_one (by omega))
        have sc13 := sc12.tnL t13 (not_one (by omega))
        have sd13 := sd12.tnL t13 (not_one (by omega))
        have A13 := A12.tn t13 (not_one (by omega))
        have L13 := L12.tn t13 (not_one (by omega))
        have sl13 := sl12.tnL t13 (not_one (by omega))
        have sh13 := sh12.tnL t13 (not_one (by omega))
        clear B12 R12 sa12 sb12 sc12 sd12 A12 L12 sl12 sh12 t13 lo13
        subst hw13
        go_wp2
        (try simp only [Exit.inBlock, Exit.then])
        refine bodyPost_ret (v := .agg #[.pointer (some ⟨a, 0, none⟩), .pointer (some ⟨b, 0, none⟩)]) ?_ rfl ⟨_, _, rfl, sl13, sh13, B13⟩
        rw [results_cell1 rfl]
        go_simp

theorem productsOf_c (p q r s : Nat) (x1 y1 x2 y2 : Int) (w : World) (sp : SG w p x1) (sq : SG w q y1) (sr : SG w r x2) (ss : SG w s y2) (h1 : x1 ≤ y1) (h2 : x2 ≤ y2) (m1 : (limbs x1.natAbs).length ≤ 49) (m2 : (limbs y1.natAbs).length ≤ 49) (m3 : (limbs x2.natAbs).length ≤ 49) (m4 : (limbs y2.natAbs).length ≤ 49) :
    Calls Try.prog 61 #[.agg #[.pointer (some ⟨p, 0, none⟩), .pointer (some ⟨q, 0, none⟩)], .agg #[.pointer (some ⟨r, 0, none⟩), .pointer (some ⟨s, 0, none⟩)]] w (spanE (prLo x1 y1 x2 y2) (prHi x1 y1 x2 y2) w) := by
  by_cases hp : 0 ≤ x1 ∧ 0 ≤ y1 ∧ 0 ≤ x2 ∧ 0 ≤ y2
  · obtain ⟨e1, e2⟩ := pr_nonneg x1 y1 x2 y2 hp.1 h1 hp.2.2.1 h2
    rw [e1, e2]
    exact productsOf_pos p q r s x1 y1 x2 y2 w sp sq sr ss hp.1 hp.2.1 hp.2.2.1 hp.2.2.2 m1 m2 m3 m4
  · exact productsOf_any p q r s x1 y1 x2 y2 w sp sq sr ss hp m1 m2 m3 m4

end Go.Proofs.Ytlpfjpbnedankaa
