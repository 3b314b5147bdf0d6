/- Several small texts in one: NormB, CrossB, LawSpM. -/
import Derived.Test.YtlpfjpbnedankaaSPB
import Derived.Test.YtlpfjpbnedankaaSgB
import Derived.Test.YtlpfjpbnedankaaSQ
import Derived.Test.YtlpfjpbnedankaaSW
import Derived.Test.YtlpfjpbnedankaaLB
/- NormSquare of the specification and of the program, each by its contract. -/
namespace Go.Proofs.Ytlpfjpbnedankaa
open Go.RowKit
set_option linter.unusedSimpArgs false

def normR (a : Ph) : Wh := if okP a = true then mkW (valW a.1.1 * valW a.1.1 + valW a.1.2 * valW a.1.2) else (false, [])
theorem okW_lenV {a : Wh} (h : okW a = true) : (limbs (valW a).natAbs).length ≤ 48 := by
  have h3 := ((okW_iff a).1 h).1.1
  have : (mkW (valW a)).2.length ≤ 48 := by rw [← mkW_of h]; exact h3
  exact this
theorem two_prods (x y u v : Int) (hx : (limbs x.natAbs).length ≤ 48) (hy : (limbs y.natAbs).length ≤ 48) (hu : (limbs u.natAbs).length ≤ 48) (hv : (limbs v.natAbs).length ≤ 48) : (x * y).natAbs + (u * v).natAbs < 16777216 ^ 97 := by
  have e : ∀ z : Int, (limbs z.natAbs).length ≤ 48 → z.natAbs ≤ 16777216 ^ 48 := fun z h => Nat.le_of_lt (Nat.lt_of_lt_of_le (limbs_lt z.natAbs) (Nat.pow_le_pow_right (by decide) h))
  have h1 := Nat.mul_le_mul (e x hx) (e y hy)
  have h2 := Nat.mul_le_mul (e u hu) (e v hv)
  rw [Int.natAbs_mul, Int.natAbs_mul]
  have h3 : (16777216 : Nat) ^ 48 * 16777216 ^ 48 + 16777216 ^ 48 * 16777216 ^ 48 < 16777216 ^ 97 := by decide +kernel
  exact Nat.lt_of_le_of_lt (Nat.add_le_add h1 h2) h3

theorem normR_len (a : Ph) : (normR a).2.length ≤ 1048576 := by
  unfold normR
  split
  · rename_i h
    unfold okP at h
    simp only [Bool.and_eq_true] at h
    have k := two_prods _ _ _ _ (okW_lenV h.1.1) (okW_lenV h.1.1) (okW_lenV h.1.2) (okW_lenV h.1.2)
    show (limbs (valW a.1.1 * valW a.1.1 + valW a.1.2 * valW a.1.2).natAbs).length ≤ 1048576
    refine Nat.le_trans (limbs_len_le _ 97 ?_) (by decide)
    exact Nat.lt_of_le_of_lt (Int.natAbs_add_le _ _) k
  · simp

set_option maxRecDepth 20000 in
set_option maxHeartbeats 6400000 in
theorem square_c (p q : Nat) (x y : Int) (w : World) (sp : SG w p x) (sq : SG w q y) (m1 : (limbs x.natAbs).length ≤ 48) (m2 : (limbs y.natAbs).length ≤ 48) :
    Calls Try.prog 36 #[.agg #[.pointer (some ⟨p, 0, none⟩), .pointer (some ⟨q, 0, none⟩)]] w fun e w' => ∃ c, e = .returned (.pointer (some ⟨c, 0, none⟩)) ∧ SG w' c (x * x + y * y) ∧ Below w.heap.size w w' := by
  have kS := fun W h1 h2 => sgTimes p p x x W h1 h2 (by omega)
  have kP := fun W h1 h2 => sgTimes q q y y W h1 h2 (by omega)
  have p0 : (limbs (x * x).natAbs).length ≤ 97 := by rw [Int.natAbs_mul]; exact Nat.le_trans (mul_limbs_len _ _) (by omega)
  have p1 : (limbs (y * y).natAbs).length ≤ 97 := by rw [Int.natAbs_mul]; exact Nat.le_trans (mul_limbs_len _ _) (by omega)
  have kL := fun c d W h1 h2 => sgPlus c d (x * x) (y * y) W h1 h2 p0 p1
  generalize x * x + y * y = zz at *
  generalize x * x = z1 at *
  generalize y * y = z2 at *
  clear m1 m2 p0 p1
  have E0 := (BoxW.made w (.pointer (some ⟨p, 0, none⟩)) (.pointer (some ⟨q, 0, none⟩)) 63)
  have B0 := below1 w (.cells #[.pointer (some ⟨p, 0, none⟩), .pointer (some ⟨q, 0, none⟩)] 63)
  have sp0 := sp.below B0 sp.lt
  have sq0 := sq.below B0 sq.lt
  clear  sp sq
  go_enter Try.func36, Try.ntmps36
  go_wp2_with fail
  generalize (w.alloc (.cells #[.pointer (some ⟨p, 0, none⟩), .pointer (some ⟨q, 0, none⟩)] 63)) = w0 at *
  have bd := (Below.refl w0.heap.size w0).drew
  have E3 := E0.below bd (Nat.le_refl _)
  have B3 := B0.trans (bd.mono B0.size)
  have sp3 := sp0.below bd sp0.lt
  have sq3 := sq0.below bd sq0.lt
  refine wp_region_held_drew (S := fun W => W.cell? ⟨w.heap.size, 0, none⟩ = some (.pointer (some ⟨p, 0, none⟩)) ∧ W.cell? ⟨w.heap.size, 1, none⟩ = some (.pointer (some ⟨q, 0, none⟩))) (by kernel_rfl) ⟨E3.c0, E3.c1⟩ ?_
  intro hHeld
  generalize w0.drew = w3 at *
  refine takeH 0 (some 3) (.pointer (some ⟨w.heap.size, 0, none⟩)) rfl rfl (by kernel_rfl) (by kernel_rfl) (by kernel_rfl) (fun _ _ _ h => h) (Or.inl ⟨rfl, fun W hW => by obtain _ := hW; go_simp⟩) (by assumption) ?_
  simp only [Act.put, List.setIfInBounds_toArray, List.set_cons_zero, List.set_cons_succ]
  refine takeH 1 (some 4) (.pointer (some ⟨p, 0, none⟩)) rfl rfl (by kernel_rfl) (by kernel_rfl) (by kernel_rfl) (fun _ _ _ h => h) (Or.inl ⟨rfl, fun W hW => by obtain ⟨_c, _⟩ := hW; go_simp⟩) (by assumption) ?_
  simp only [Act.put, List.setIfInBounds_toArray, List.set_cons_zero, List.set_cons_succ]
  refine takeH 2 (some 5) (.pointer (some ⟨w.heap.size, 0, none⟩)) rfl rfl (by kernel_rfl) (by kernel_rfl) (by kernel_rfl) (fun _ _ _ h => h) (Or.inl ⟨rfl, fun W hW => by obtain _ := hW; go_simp⟩) (by assumption) ?_
  simp only [Act.put, List.setIfInBounds_toArray, List.set_cons_zero, List.set_cons_succ]
  refine takeH 3 (some 6) (.pointer (some ⟨p, 0, none⟩)) rfl rfl (by kernel_rfl) (by kernel_rfl) (by kernel_rfl) (fun _ _ _ h => h) (Or.inl ⟨rfl, fun W hW => by obtain ⟨_c, _⟩ := hW; go_simp⟩) (by assumption) ?_
  simp only [Act.put, List.setIfInBounds_toArray, List.set_cons_zero, List.set_cons_succ]
  refine takeH 5 (some 8) (.pointer (some ⟨w.heap.size, 1, none⟩)) rfl rfl (by kernel_rfl) (by kernel_rfl) (by kernel_rfl) (fun _ _ _ h => h) (Or.inl ⟨rfl, fun W hW => by obtain _ := hW; go_simp⟩) (by assumption) ?_
  simp only [Act.put, List.setIfInBounds_toArray, List.set_cons_zero, List.set_cons_succ]
  refine takeH 6 (some 9) (.pointer (some ⟨q, 0, none⟩)) rfl rfl (by kernel_rfl) (by kernel_rfl) (by kernel_rfl) (fun _ _ _ h => h) (Or.inl ⟨rfl, fun W hW => by obtain ⟨_, _c⟩ := hW; go_simp⟩) (by assumption) ?_
  simp only [Act.put, List.setIfInBounds_toArray, List.set_cons_zero, List.set_cons_succ]
  refine takeH 7 (some 10) (.pointer (some ⟨w.heap.size, 1, none⟩)) rfl rfl (by kernel_rfl) (by kernel_rfl) (by kernel_rfl) (fun _ _ _ h => h) (Or.inl ⟨rfl, fun W hW => by obtain _ := hW; go_simp⟩) (by assumption) ?_
  simp only [Act.put, List.setIfInBounds_toArray, List.set_cons_zero, List.set_cons_succ]
  refine takeH 8 (some 11) (.pointer (some ⟨q, 0, none⟩)) rfl rfl (by kernel_rfl) (by kernel_rfl) (by kernel_rfl) (fun _ _ _ h => h) (Or.inl ⟨rfl, fun W hW => by obtain ⟨_, _c⟩ := hW; go_simp⟩) (by assumption) ?_
  simp only [Act.put, List.setIfInBounds_toArray, List.set_cons_zero, List.set_cons_succ]
  refine oneH 4 rfl (by kernel_rfl) (fun K' hK => ?_)
  go_simp
  refine (kS _ sp3 sp3).mono ?_
  rintro e w4 ⟨c, rfl, hc, sc, b4⟩
  have E4 := E3.below b4 (Nat.le_refl _)
  have B4 := B3.trans (b4.mono B3.size)
  have sp4 := sp3.below b4 sp3.lt
  have sq4 := sq3.below b4 sq3.lt
  refine hK _ _ ⟨E4.c0, E4.c1⟩ ?_
  clear hK
  refine oneH 9 rfl (by kernel_rfl) (fun K' hK => ?_)
  go_simp
  refine (kP _ sq4 sq4).mono ?_
  rintro e w5 ⟨d, rfl, hd, sd, b5⟩
  have E5 := E4.below b5 (Nat.le_refl _)
  have B5 := B4.trans (b5.mono B4.size)
  have sp5 := sp4.below b5 sp4.lt
  have sq5 := sq4.below b5 sq4.lt
  have sc5 := sc.below b5 sc.lt
  refine hK _ _ ⟨E5.c0, E5.c1⟩ ?_
  clear hK
  refine oneH 10 rfl (by kernel_rfl) (fun K' hK => ?_)
  go_simp
  refine (kL c d _ sc5 sd).mono ?_
  rintro e w6 ⟨r, rfl, hr, sr, b6⟩
  have E6 := E5.below b6 (Nat.le_refl _)
  have B6 := B5.trans (b6.mono B5.size)
  refine hK _ _ ⟨E6.c0, E6.c1⟩ ?_
  clear hK
  refine takeH 11 (some 2) (.pointer (some ⟨r, 0, none⟩)) rfl rfl (by kernel_rfl) (by kernel_rfl) (by kernel_rfl) (fun _ _ _ h => h) (yg_assign rfl (.tmp 13) rfl _ rfl) ⟨E6.c0, E6.c1⟩ ?_
  simp only [Act.put, List.setIfInBounds_toArray, List.set_cons_zero, List.set_cons_succ]
  refine wpAnyH_done (by kernel_rfl) ?_ _
  have HB : Hid (Below w.heap.size w w6) := B6
  have HS : Hid (SG w6 r _) := sr
  clear hHeld E0 E3 E4 E5 E6 B0 B3 B4 B5 B6 b4 b5 b6 bd sc sc5 sd sr kS kP kL sp0 sp3 sp4 sp5 sq0 sq3 sq4 sq5
  go_wp2
  go_ret
  exact ⟨r, rfl, HS.out, HB.out⟩

set_option maxRecDepth 20000 in
set_option maxHeartbeats 3200000 in
theorem unbounded_c (b : Nat) (z : Int) (w : World) (h : SG w b z) :
    Calls Try.prog 37 #[.pointer (some ⟨b, 0, none⟩)] w fun e w' => ∃ v, e = .returned v ∧ ownsW w' w.heap.size v (mkW z) ∧ Below w.heap.size w w' := by
  have hm : mkW z = (decide (z < 0), limbs z.natAbs) := rfl
  rw [hm]
  clear hm
  have hlt := h.lt
  have HP := h.sgg
  have kL := fun W h => gLimbs b 1 z.natAbs W h
  generalize decide (z < 0) = g at *
  generalize z.natAbs = m at *
  have R0 := BoxW.made w (.bool false) (.slice none 0 0) 27
  have B0 := below1 w (.cells #[.bool false, .slice none 0 0] 27)
  have H0 := HP.below B0 HP.lt
  clear h HP
  go_enter Try.func37, Try.ntmps37
  go_wp2_with fail
  generalize w.alloc (.cells #[.bool false, .slice none 0 0] 27) = w0 at *
  have bd := (Below.refl w0.heap.size w0).drew
  have R3 := R0.below bd (Nat.le_refl _)
  have B3 := B0.trans (bd.mono B0.size)
  refine wp_region_held_drew (S := fun W => SGG W b g m) (by kernel_rfl) H0.drew ?_
  intro hHeld
  generalize w0.drew = w3 at *
  refine takeH 0 (some 3) (.pointer (some ⟨b, 0, none⟩)) rfl rfl (by kernel_rfl) (by kernel_rfl) (by kernel_rfl) (fun _ _ _ h => h) (yg_move rfl (.tmp 0) rfl _ rfl) (by assumption) ?_
  simp only [Act.put, List.setIfInBounds_toArray, List.set_cons_zero, List.set_cons_succ]
  refine takeH 1 (some 4) (.pointer (some ⟨b, 0, none⟩)) rfl rfl (by kernel_rfl) (by kernel_rfl) (by kernel_rfl) (fun _ _ _ h => h) (Or.inl ⟨rfl, fun W hW => by obtain _ := hW; go_simp⟩) (by assumption) ?_
  simp only [Act.put, List.setIfInBounds_toArray, List.set_cons_zero, List.set_cons_succ]
  refine takeH 2 (some 5) (.pointer (some ⟨b, 0, none⟩)) rfl rfl (by kernel_rfl) (by kernel_rfl) (by kernel_rfl) (fun _ _ _ h => h) (Or.inl ⟨rfl, fun W hW => by obtain _ := hW; go_simp⟩) (by assumption) ?_
  simp only [Act.put, List.setIfInBounds_toArray, List.set_cons_zero, List.set_cons_succ]
  refine takeH 3 (some 6) (.bool g) rfl rfl (by kernel_rfl) (by kernel_rfl) (by kernel_rfl) (fun _ _ _ h => h) (Or.inl ⟨rfl, fun W hW => by obtain ⟨_c, _⟩ := hW; go_simp⟩) (by assumption) ?_
  simp only [Act.put, List.setIfInBounds_toArray, List.set_cons_zero, List.set_cons_succ]
  refine takeH 4 (some 7) (.pointer (some ⟨b, 0, none⟩)) rfl rfl (by kernel_rfl) (by kernel_rfl) (by kernel_rfl) (fun _ _ _ h => h) (yg_move rfl (.tmp 0) rfl _ rfl) (by assumption) ?_
  simp only [Act.put, List.setIfInBounds_toArray, List.set_cons_zero, List.set_cons_succ]
  refine takeH 5 (some 8) (.pointer (some ⟨b, 0, none⟩)) rfl rfl (by kernel_rfl) (by kernel_rfl) (by kernel_rfl) (fun _ _ _ h => h) (Or.inl ⟨rfl, fun W hW => by obtain _ := hW; go_simp⟩) (by assumption) ?_
  simp only [Act.put, List.setIfInBounds_toArray, List.set_cons_zero, List.set_cons_succ]
  refine takeH 6 (some 9) (.pointer (some ⟨b, 1, none⟩)) rfl rfl (by kernel_rfl) (by kernel_rfl) (by kernel_rfl) (fun _ _ _ h => h) (Or.inl ⟨rfl, fun W hW => by obtain _ := hW; go_simp⟩) (by assumption) ?_
  simp only [Act.put, List.setIfInBounds_toArray, List.set_cons_zero, List.set_cons_succ]
  refine oneH 7 rfl (by kernel_rfl) (fun K' hK => ?_)
  go_simp
  refine (kL _ hHeld.2).mono ?_
  rintro e w4 ⟨v4, rfl, o4, b4⟩
  have H4 := hHeld.below b4 hHeld.lt
  have R4 := R3.below b4 (Nat.le_refl _)
  have B4 := B3.trans (b4.mono B3.size)
  refine hK _ _ H4 ?_
  clear hK
  obtain ⟨ad3, cp3, rfl, -⟩ := o4.row
  have hR := R3.hi
  have q4 : ownsI w4 w3.heap.size (.slice ad3 (limbs m).length cp3) (limbs m) := o4
  have r0 := R4.c0
  have r1 := R4.c1
  have f0 := R4.f0
  have f1 := R4.f1
  refine takeH 8 (some 11) (.agg #[.bool g, .slice ad3 (limbs m).length cp3]) rfl rfl (by kernel_rfl) (by kernel_rfl) (by kernel_rfl) (fun _ _ _ h => h) (Or.inl ⟨rfl, fun W hW => by obtain _ := hW; go_simp⟩) (by assumption) ?_
  simp only [Act.put, List.setIfInBounds_toArray, List.set_cons_zero, List.set_cons_succ]
  have tn := (tnC w4 w.heap.size 0 (.bool g)).trans (tnC _ w.heap.size 1 (.slice ad3 (limbs m).length cp3))
  have H5 := H4.tn tn (fun h => by simp at h; omega)
  refine oneH 9 rfl (by kernel_rfl) (fun K' hK => ?_)
  go_simp
  refine hK _ _ H5 ?_
  clear hK
  refine wpAnyH_done (by kernel_rfl) ?_ _
  have HO : Hid (ownsI _ w3.heap.size (.slice ad3 (limbs m).length cp3) (limbs m)) := ((q4.other w.heap.size 0 (by omega) (.bool g)).other w.heap.size 1 (by omega) (.slice ad3 (limbs m).length cp3))
  have HB : Hid (Below w.heap.size w _) := (B4.setCell (p := ⟨w.heap.size, 0, none⟩) (Nat.le_refl _) (.bool g)).setCell (p := ⟨w.heap.size, 1, none⟩) (Nat.le_refl _) (.slice ad3 (limbs m).length cp3)
  have hb3 := B3.size
  clear hHeld H0 H4 H5 R0 R3 R4 B0 B3 B4 b4 bd o4 q4 kL tn
  go_wp2
  (try simp only [Exit.inBlock, Exit.then])
  refine bodyPost_ret (v := .agg #[.bool g, .slice ad3 (limbs m).length cp3]) ?_ rfl ⟨_, rfl, ⟨_, rfl, ownsI_mono HO.out hb3⟩, HB.out⟩
  rw [results_cell1 rfl]
  go_simp

set_option maxRecDepth 20000 in
set_option maxHeartbeats 6400000 in
theorem iNormSquare (va : Value) (a : Ph) (w : World) (ha : rowP w va a) (hl0 : a.1.1.2.length ≤ 1048576) (hl1 : a.1.2.2.length ≤ 1048576) :
    Calls Try.prog 14 #[va] w fun e w' => ∃ v, e = .returned v ∧ ownsW w' w.heap.size v (normR a) ∧ Below w.heap.size w w' := by
  have kA := fun W (h : Below w.heap.size w W) => spinFrom_b va a W (ha.below h (Nat.le_refl _)) hl0 hl1
  by_cases hok : okP a = true
  case neg =>
    have hf : okP a = false := by simpa using hok
    have HR : Hid (normR a = (false, [])) := by show _ = _; unfold normR; rw [if_neg hok]
    rw [hf] at kA
    obtain ⟨rr, hr⟩ : ∃ r, normR a = r := ⟨_, rfl⟩
    rw [hr] at HR
    rw [hr]
    clear hr
    clear hok hf
    obtain ⟨s, t, rfl, hs, ht⟩ := ha
    obtain ⟨ad, cap, rfl, -⟩ := id hs
    obtain ⟨ae, cbp, rfl, -⟩ := id ht
    obtain ⟨g, eg⟩ : ∃ g, a.1.1.1 = g := ⟨_, rfl⟩
    obtain ⟨g', eg'⟩ : ∃ g, a.1.2.1 = g := ⟨_, rfl⟩
    obtain ⟨len, elen⟩ : ∃ l, a.1.1.2.length = l := ⟨_, rfl⟩
    obtain ⟨len2, elen2⟩ : ∃ l, a.1.2.2.length = l := ⟨_, rfl⟩
    obtain ⟨kk, ekk⟩ : ∃ k, a.2 = k := ⟨_, rfl⟩
    rw [eg, eg', elen, elen2, ekk] at kA
    rw [eg, eg', elen, elen2, ekk]
    clear hs ht eg eg' elen elen2 ekk
    have z1 : (w.alloc (.cells #[.bool g, .slice ad len cap, .bool g', .slice ae len2 cbp, .int .i64 kk] 34)).heap.size = w.heap.size + 1 := by simp
    have X0 := ((Bx5.made w (.bool g) (.slice ad len cap) (.bool g') (.slice ae len2 cbp) (.int .i64 kk) 34).below (below1 _ (.cells #[.bool false, .slice none 0 0] 27)) (Nat.le_refl _))
    have R0 := BoxW.made (w.alloc (.cells #[.bool g, .slice ad len cap, .bool g', .slice ae len2 cbp, .int .i64 kk] 34)) (.bool false) (.slice none 0 0) 27
    rw [z1] at R0
    have B0 := below2 w (.cells #[.bool g, .slice ad len cap, .bool g', .slice ae len2 cbp, .int .i64 kk] 34) (.cells #[.bool false, .slice none 0 0] 27)
    clear z1
    go_enter Try.func14, Try.ntmps14
    go_wp2_with fail
    refine (kA _ B0).mono ?_
    generalize (w.alloc (.cells #[.bool g, .slice ad len cap, .bool g', .slice ae len2 cbp, .int .i64 kk] 34)).alloc (.cells #[.bool false, .slice none 0 0] 27) = w0 at *
    rintro e w1' ⟨x, y, rfl, b1', hA⟩
    have bF := below1 w1' (.cells #[.pointer x, .pointer y, .int .i64 kk] 65)
    have b1 := b1'.trans (bF.mono b1'.size)
    have R1 := R0.below b1 (Nat.le_refl _)
    have B1 := B0.trans (b1.mono B0.size)
    have r0 := R1.c0
    have f0 := R1.f0
    have r1 := R1.c1
    have f1 := R1.f1
    have HB : Hid (Below w.heap.size w _) := ((B1.setCell (p := ⟨w.heap.size + 1, 0, none⟩) (by show w.heap.size ≤ w.heap.size + 1; omega) (.bool false)).setCell (p := ⟨w.heap.size + 1, 1, none⟩) (by show w.heap.size ≤ w.heap.size + 1; omega) (.slice none 0 0))
    clear R0 R1 B0 B1 b1 b1' bF kA X0 hA
    go_wp2
    (try simp only [Exit.inBlock, Exit.then])
    refine bodyPost_ret (v := .agg #[.bool false, .slice none 0 0]) ?_ rfl ⟨_, rfl, by rw [HR.out]; exact ⟨_, rfl, World.ownsRow_nil _ _ _ _⟩, HB.out⟩
    rw [results_cell1 rfl]
    go_simp
  rw [hok] at kA
  have zo := hok
  unfold okP at zo
  simp only [Bool.and_eq_true] at zo
  have l1' := okW_lenV zo.1.1
  have l2' := okW_lenV zo.1.2
  have kQ := fun p q W h1 h2 => square_c p q (valW a.1.1) (valW a.1.2) W h1 h2 (by omega) (by omega)
  have kU := fun c W h => unbounded_c c (valW a.1.1 * valW a.1.1 + valW a.1.2 * valW a.1.2) W h
  have HR : Hid (normR a = mkW (valW a.1.1 * valW a.1.1 + valW a.1.2 * valW a.1.2)) := by show _ = _; unfold normR; rw [if_pos hok]
  clear hok zo l1' l2'
  generalize mkW (valW a.1.1 * valW a.1.1 + valW a.1.2 * valW a.1.2) = mw at *
  generalize valW a.1.1 * valW a.1.1 + valW a.1.2 * valW a.1.2 = z at *
  generalize valW a.1.1 = X at *
  generalize valW a.1.2 = Y at *
  obtain ⟨n1, l1⟩ := mw
  obtain ⟨rr, hr⟩ : ∃ r, normR a = r := ⟨_, rfl⟩
  rw [hr] at HR
  rw [hr]
  clear hr
  obtain ⟨s, t, rfl, hs, ht⟩ := ha
  obtain ⟨ad, cap, rfl, -⟩ := id hs
  obtain ⟨ae, cbp, rfl, -⟩ := id ht
  obtain ⟨g, eg⟩ : ∃ g, a.1.1.1 = g := ⟨_, rfl⟩
  obtain ⟨g', eg'⟩ : ∃ g, a.1.2.1 = g := ⟨_, rfl⟩
  obtain ⟨len, elen⟩ : ∃ l, a.1.1.2.length = l := ⟨_, rfl⟩
  obtain ⟨len2, elen2⟩ : ∃ l, a.1.2.2.length = l := ⟨_, rfl⟩
  obtain ⟨kk, ekk⟩ : ∃ k, a.2 = k := ⟨_, rfl⟩
  rw [eg, eg', elen, elen2, ekk] at kA
  rw [eg, eg', elen, elen2, ekk]
  clear hs ht eg eg' elen elen2 ekk
  have z1 : (w.alloc (.cells #[.bool g, .slice ad len cap, .bool g', .slice ae len2 cbp, .int .i64 kk] 34)).heap.size = w.heap.size + 1 := by simp
  have X0 := ((Bx5.made w (.bool g) (.slice ad len cap) (.bool g') (.slice ae len2 cbp) (.int .i64 kk) 34).below (below1 _ (.cells #[.bool false, .slice none 0 0] 27)) (Nat.le_refl _))
  have R0 := BoxW.made (w.alloc (.cells #[.bool g, .slice ad len cap, .bool g', .slice ae len2 cbp, .int .i64 kk] 34)) (.bool false) (.slice none 0 0) 27
  rw [z1] at R0
  have B0 := below2 w (.cells #[.bool g, .slice ad len cap, .bool g', .slice ae len2 cbp, .int .i64 kk] 34) (.cells #[.bool false, .slice none 0 0] 27)
  clear z1
  go_enter Try.func14, Try.ntmps14
  go_wp2_with fail
  refine (kA _ B0).mono ?_
  generalize (w.alloc (.cells #[.bool g, .slice ad len cap, .bool g', .slice ae len2 cbp, .int .i64 kk] 34)).alloc (.cells #[.bool false, .slice none 0 0] 27) = w0 at *
  rintro e w1' ⟨x, y, rfl, b1', hA⟩
  have bF := below1 w1' (.cells #[.pointer x, .pointer y, .int .i64 kk] 65)
  have b1 := b1'.trans (bF.mono b1'.size)
  have R1 := R0.below b1 (Nat.le_refl _)
  have B1 := B0.trans (b1.mono B0.size)
  obtain ⟨p, q, rfl, rfl, sp, sq⟩ := hA (by first | exact trivial | rfl)
  have sp1 := sp.below bF sp.lt
  have sq1 := sq.below bF sq.lt
  clear X0 R0 B0 b1 b1' kA hA sp sq bF
  go_wp2_with fail
  refine (kQ p q _ sp1 sq1).mono ?_
  rintro e w4 ⟨c, rfl, sc, b4⟩
  have R4 := R1.below b4 (Nat.le_refl _)
  have B4 := B1.trans (b4.mono B1.size)
  clear kQ sp1 sq1 R1 B1 b4
  go_wp2_with fail
  refine (kU c _ sc).mono ?_
  rintro e w5 ⟨v5, rfl, o9, b5⟩
  have R9 := R4.below b5 (Nat.le_refl _)
  have B9 := B4.trans (b5.mono B4.size)
  obtain ⟨s9, rfl, q9⟩ := o9
  obtain ⟨ad3, cp3, rfl, -⟩ := q9.row
  have q9' : ownsI w5 w4.heap.size (.slice ad3 l1.length cp3) l1 := q9
  have hR9 := R4.hi
  have r0 := R9.c0
  have r1 := R9.c1
  have f0 := R9.f0
  have f1 := R9.f1
  have HO : Hid (ownsI _ w4.heap.size (.slice ad3 l1.length cp3) l1) := ((q9'.other (w.heap.size + 1) 0 (by omega) (.bool n1)).other (w.heap.size + 1) 1 (by omega) (.slice ad3 l1.length cp3))
  have HB : Hid (Below w.heap.size w _) := ((B9.setCell (p := ⟨w.heap.size + 1, 0, none⟩) (by show w.heap.size ≤ w.heap.size + 1; omega) (.bool n1)).setCell (p := ⟨w.heap.size + 1, 1, none⟩) (by show w.heap.size ≤ w.heap.size + 1; omega) (.slice ad3 l1.length cp3))
  have hb9 := B4.size
  clear q9 q9' R4 R9 B4 B9 b5 kU sc
  go_wp2
  (try simp only [Exit.inBlock, Exit.then])
  refine bodyPost_ret (v := .agg #[.bool n1, .slice ad3 l1.length cp3]) ?_ rfl ⟨_, rfl, by rw [HR.out]; exact ⟨_, rfl, ownsI_mono HO.out hb9⟩, HB.out⟩
  rw [results_cell1 rfl]
  go_simp

end Go.Proofs.Ytlpfjpbnedankaa

/- Cross of the specification and of the program, each by its contract. -/
namespace Go.Proofs.Ytlpfjpbnedankaa
open Go.RowKit
set_option linter.unusedSimpArgs false

def crossR (a b : Ph) : Wh := if okP a = true ∧ okP b = true then mkW (valW a.1.1 * valW b.1.2 - valW a.1.2 * valW b.1.1) else (false, [])

theorem crossR_len (a b : Ph) : (crossR a b).2.length ≤ 1048576 := by
  unfold crossR
  split
  · rename_i h
    obtain ⟨h, h2⟩ := h
    unfold okP at h h2
    simp only [Bool.and_eq_true] at h h2
    have k := two_prods _ _ _ _ (okW_lenV h.1.1) (okW_lenV h2.1.2) (okW_lenV h.1.2) (okW_lenV h2.1.1)
    show (limbs (valW a.1.1 * valW b.1.2 - valW a.1.2 * valW b.1.1).natAbs).length ≤ 1048576
    refine Nat.le_trans (limbs_len_le _ 97 ?_) (by decide)
    exact Nat.lt_of_le_of_lt (Int.natAbs_sub_le _ _) k
  · simp

set_option maxRecDepth 20000 in
set_option maxHeartbeats 6400000 in
theorem cross_c (p q r s : Nat) (x y u v : Int) (w : World) (sp : SG w p x) (sq : SG w q y) (sr : SG w r u) (ss : SG w s v) (m1 : (limbs x.natAbs).length ≤ 48) (m2 : (limbs y.natAbs).length ≤ 48) (m3 : (limbs u.natAbs).length ≤ 48) (m4 : (limbs v.natAbs).length ≤ 48) :
    Calls Try.prog 55 #[.agg #[.pointer (some ⟨p, 0, none⟩), .pointer (some ⟨q, 0, none⟩)], .agg #[.pointer (some ⟨r, 0, none⟩), .pointer (some ⟨s, 0, none⟩)]] w fun e w' => ∃ c, e = .returned (.pointer (some ⟨c, 0, none⟩)) ∧ SG w' c (x * v - y * u) ∧ Below w.heap.size w w' := by
  have kS := fun W h1 h2 => sgTimes p s x v W h1 h2 (by omega)
  have kP := fun W h1 h2 => sgTimes q r y u W h1 h2 (by omega)
  have p0 : (limbs (x * v).natAbs).length ≤ 97 := by rw [Int.natAbs_mul]; exact Nat.le_trans (mul_limbs_len _ _) (by omega)
  have p1 : (limbs (y * u).natAbs).length ≤ 97 := by rw [Int.natAbs_mul]; exact Nat.le_trans (mul_limbs_len _ _) (by omega)
  have kL := fun c d W h1 h2 => sgMinus c d (x * v) (y * u) W h1 h2 p0 p1
  generalize x * v - y * u = zz at *
  generalize x * v = z1 at *
  generalize y * u = z2 at *
  clear m1 m2 m3 m4 p0 p1
  have s1 : (w.alloc (.cells #[.pointer (some ⟨p, 0, none⟩), .pointer (some ⟨q, 0, none⟩)] 63)).heap.size = w.heap.size + 1 := by simp
  have E0 := ((BoxW.made w (.pointer (some ⟨p, 0, none⟩)) (.pointer (some ⟨q, 0, none⟩)) 63).below (below1 _ (.cells #[.pointer (some ⟨r, 0, none⟩), .pointer (some ⟨s, 0, none⟩)] 63)) (Nat.le_refl _))
  have G0 := (BoxW.made (w.alloc (.cells #[.pointer (some ⟨p, 0, none⟩), .pointer (some ⟨q, 0, none⟩)] 63)) (.pointer (some ⟨r, 0, none⟩)) (.pointer (some ⟨s, 0, none⟩)) 63)
  rw [s1] at G0
  have B0 := below2 w (.cells #[.pointer (some ⟨p, 0, none⟩), .pointer (some ⟨q, 0, none⟩)] 63) (.cells #[.pointer (some ⟨r, 0, none⟩), .pointer (some ⟨s, 0, none⟩)] 63)
  have sp0 := sp.below B0 sp.lt
  have sq0 := sq.below B0 sq.lt
  have sr0 := sr.below B0 sr.lt
  have ss0 := ss.below B0 ss.lt
  clear s1 sp sq sr ss
  go_enter Try.func55, Try.ntmps55
  go_wp2_with fail
  generalize ((w.alloc (.cells #[.pointer (some ⟨p, 0, none⟩), .pointer (some ⟨q, 0, none⟩)] 63)).alloc (.cells #[.pointer (some ⟨r, 0, none⟩), .pointer (some ⟨s, 0, none⟩)] 63)) = w0 at *
  have bd := (Below.refl w0.heap.size w0).drew
  have E3 := E0.below bd (Nat.le_refl _)
  have G3 := G0.below bd (Nat.le_refl _)
  have B3 := B0.trans (bd.mono B0.size)
  have sp3 := sp0.below bd sp0.lt
  have sq3 := sq0.below bd sq0.lt
  have sr3 := sr0.below bd sr0.lt
  have ss3 := ss0.below bd ss0.lt
  refine wp_region_held_drew (S := fun W => W.cell? ⟨w.heap.size, 0, none⟩ = some (.pointer (some ⟨p, 0, none⟩)) ∧ W.cell? ⟨w.heap.size, 1, none⟩ = some (.pointer (some ⟨q, 0, none⟩)) ∧ W.cell? ⟨w.heap.size + 1, 0, none⟩ = some (.pointer (some ⟨r, 0, none⟩)) ∧ W.cell? ⟨w.heap.size + 1, 1, none⟩ = some (.pointer (some ⟨s, 0, none⟩))) (by kernel_rfl) ⟨E3.c0, E3.c1, G3.c0, G3.c1⟩ ?_
  intro hHeld
  generalize w0.drew = w3 at *
  refine takeH 0 (some 5) (.pointer (some ⟨w.heap.size, 0, none⟩)) rfl rfl (by kernel_rfl) (by kernel_rfl) (by kernel_rfl) (fun _ _ _ h => h) (Or.inl ⟨rfl, fun W hW => by obtain _ := hW; go_simp⟩) (by assumption) ?_
  simp only [Act.put, List.setIfInBounds_toArray, List.set_cons_zero, List.set_cons_succ]
  refine takeH 1 (some 6) (.pointer (some ⟨p, 0, none⟩)) rfl rfl (by kernel_rfl) (by kernel_rfl) (by kernel_rfl) (fun _ _ _ h => h) (Or.inl ⟨rfl, fun W hW => by obtain ⟨_c, _⟩ := hW; go_simp⟩) (by assumption) ?_
  simp only [Act.put, List.setIfInBounds_toArray, List.set_cons_zero, List.set_cons_succ]
  refine takeH 2 (some 7) (.pointer (some ⟨w.heap.size + 1, 1, none⟩)) rfl rfl (by kernel_rfl) (by kernel_rfl) (by kernel_rfl) (fun _ _ _ h => h) (Or.inl ⟨rfl, fun W hW => by obtain _ := hW; go_simp⟩) (by assumption) ?_
  simp only [Act.put, List.setIfInBounds_toArray, List.set_cons_zero, List.set_cons_succ]
  refine takeH 3 (some 8) (.pointer (some ⟨s, 0, none⟩)) rfl rfl (by kernel_rfl) (by kernel_rfl) (by kernel_rfl) (fun _ _ _ h => h) (Or.inl ⟨rfl, fun W hW => by obtain ⟨_, _, _, _c⟩ := hW; go_simp⟩) (by assumption) ?_
  simp only [Act.put, List.setIfInBounds_toArray, List.set_cons_zero, List.set_cons_succ]
  refine takeH 5 (some 10) (.pointer (some ⟨w.heap.size, 1, none⟩)) rfl rfl (by kernel_rfl) (by kernel_rfl) (by kernel_rfl) (fun _ _ _ h => h) (Or.inl ⟨rfl, fun W hW => by obtain _ := hW; go_simp⟩) (by assumption) ?_
  simp only [Act.put, List.setIfInBounds_toArray, List.set_cons_zero, List.set_cons_succ]
  refine takeH 6 (some 11) (.pointer (some ⟨q, 0, none⟩)) rfl rfl (by kernel_rfl) (by kernel_rfl) (by kernel_rfl) (fun _ _ _ h => h) (Or.inl ⟨rfl, fun W hW => by obtain ⟨_, _c, _⟩ := hW; go_simp⟩) (by assumption) ?_
  simp only [Act.put, List.setIfInBounds_toArray, List.set_cons_zero, List.set_cons_succ]
  refine takeH 7 (some 12) (.pointer (some ⟨w.heap.size + 1, 0, none⟩)) rfl rfl (by kernel_rfl) (by kernel_rfl) (by kernel_rfl) (fun _ _ _ h => h) (Or.inl ⟨rfl, fun W hW => by obtain _ := hW; go_simp⟩) (by assumption) ?_
  simp only [Act.put, List.setIfInBounds_toArray, List.set_cons_zero, List.set_cons_succ]
  refine takeH 8 (some 13) (.pointer (some ⟨r, 0, none⟩)) rfl rfl (by kernel_rfl) (by kernel_rfl) (by kernel_rfl) (fun _ _ _ h => h) (Or.inl ⟨rfl, fun W hW => by obtain ⟨_, _, _c, _⟩ := hW; go_simp⟩) (by assumption) ?_
  simp only [Act.put, List.setIfInBounds_toArray, List.set_cons_zero, List.set_cons_succ]
  refine oneH 4 rfl (by kernel_rfl) (fun K' hK => ?_)
  go_simp
  refine (kS _ sp3 ss3).mono ?_
  rintro e w4 ⟨c, rfl, hc, sc, b4⟩
  have E4 := E3.below b4 (Nat.le_refl _)
  have G4 := G3.below b4 (Nat.le_refl _)
  have B4 := B3.trans (b4.mono B3.size)
  have sp4 := sp3.below b4 sp3.lt
  have sq4 := sq3.below b4 sq3.lt
  have sr4 := sr3.below b4 sr3.lt
  have ss4 := ss3.below b4 ss3.lt
  refine hK _ _ ⟨E4.c0, E4.c1, G4.c0, G4.c1⟩ ?_
  clear hK
  refine oneH 9 rfl (by kernel_rfl) (fun K' hK => ?_)
  go_simp
  refine (kP _ sq4 sr4).mono ?_
  rintro e w5 ⟨d, rfl, hd, sd, b5⟩
  have E5 := E4.below b5 (Nat.le_refl _)
  have G5 := G4.below b5 (Nat.le_refl _)
  have B5 := B4.trans (b5.mono B4.size)
  have sp5 := sp4.below b5 sp4.lt
  have sq5 := sq4.below b5 sq4.lt
  have sr5 := sr4.below b5 sr4.lt
  have ss5 := ss4.below b5 ss4.lt
  have sc5 := sc.below b5 sc.lt
  refine hK _ _ ⟨E5.c0, E5.c1, G5.c0, G5.c1⟩ ?_
  clear hK
  refine oneH 10 rfl (by kernel_rfl) (fun K' hK => ?_)
  go_simp
  refine (kL c d _ sc5 sd).mono ?_
  rintro e w6 ⟨r, rfl, hr, sr, b6⟩
  have E6 := E5.below b6 (Nat.le_refl _)
  have G6 := G5.below b6 (Nat.le_refl _)
  have B6 := B5.trans (b6.mono B5.size)
  refine hK _ _ ⟨E6.c0, E6.c1, G6.c0, G6.c1⟩ ?_
  clear hK
  refine takeH 11 (some 4) (.pointer (some ⟨r, 0, none⟩)) rfl rfl (by kernel_rfl) (by kernel_rfl) (by kernel_rfl) (fun _ _ _ h => h) (yg_assign rfl (.tmp 15) rfl _ rfl) ⟨E6.c0, E6.c1, G6.c0, G6.c1⟩ ?_
  simp only [Act.put, List.setIfInBounds_toArray, List.set_cons_zero, List.set_cons_succ]
  refine wpAnyH_done (by kernel_rfl) ?_ _
  have HB : Hid (Below w.heap.size w w6) := B6
  have HS : Hid (SG w6 r _) := sr
  clear hHeld E0 E3 E4 E5 E6 G0 G3 G4 G5 G6 B0 B3 B4 B5 B6 b4 b5 b6 bd sc sc5 sd sr kS kP kL sp0 sp3 sp4 sp5 sq0 sq3 sq4 sq5 sr0 sr3 sr4 sr5 ss0 ss3 ss4 ss5
  go_wp2
  go_ret
  exact ⟨r, rfl, HS.out, HB.out⟩

set_option maxRecDepth 20000 in
set_option maxHeartbeats 6400000 in
theorem iCross (va vb : Value) (a b : Ph) (w : World) (ha : rowP w va a) (hb : rowP w vb b) (hl0 : a.1.1.2.length ≤ 1048576) (hl1 : a.1.2.2.length ≤ 1048576) (hl2 : b.1.1.2.length ≤ 1048576) (hl3 : b.1.2.2.length ≤ 1048576) :
    Calls Try.prog 21 #[va, vb] w fun e w' => ∃ v, e = .returned v ∧ ownsW w' w.heap.size v (crossR a b) ∧ Below w.heap.size w w' := by
  have kA := fun W (h : Below w.heap.size w W) => spinFrom_b va a W (ha.below h (Nat.le_refl _)) hl0 hl1
  have kB := fun W (h : Below w.heap.size w W) => spinFrom_b vb b W (hb.below h (Nat.le_refl _)) hl2 hl3
  by_cases hok : okP a = true ∧ okP b = true
  case neg =>
    have HR : Hid (crossR a b = (false, [])) := by show _ = _; unfold crossR; rw [if_neg hok]
    cases hoa : okP a
    · rw [hoa] at kA
      obtain ⟨rr, hr⟩ : ∃ r, crossR a b = r := ⟨_, rfl⟩
      rw [hr] at HR
      rw [hr]
      clear hr
      clear hok hoa
      generalize okP b = ob at *
      obtain ⟨s, t, rfl, hs, ht⟩ := ha
      obtain ⟨ad, cap, rfl, -⟩ := id hs
      obtain ⟨ae, cbp, rfl, -⟩ := id ht
      obtain ⟨g, eg⟩ : ∃ g, a.1.1.1 = g := ⟨_, rfl⟩
      obtain ⟨g', eg'⟩ : ∃ g, a.1.2.1 = g := ⟨_, rfl⟩
      obtain ⟨len, elen⟩ : ∃ l, a.1.1.2.length = l := ⟨_, rfl⟩
      obtain ⟨len2, elen2⟩ : ∃ l, a.1.2.2.length = l := ⟨_, rfl⟩
      obtain ⟨kk, ekk⟩ : ∃ k, a.2 = k := ⟨_, rfl⟩
      obtain ⟨u, v, rfl, hu, hv⟩ := hb
      obtain ⟨bd, cap2, rfl, -⟩ := id hu
      obtain ⟨be, cbp2, rfl, -⟩ := id hv
      obtain ⟨h, eh⟩ : ∃ g, b.1.1.1 = g := ⟨_, rfl⟩
      obtain ⟨h', eh'⟩ : ∃ g, b.1.2.1 = g := ⟨_, rfl⟩
      obtain ⟨lenb, elenb⟩ : ∃ l, b.1.1.2.length = l := ⟨_, rfl⟩
      obtain ⟨lenb2, elenb2⟩ : ∃ l, b.1.2.2.length = l := ⟨_, rfl⟩
      obtain ⟨kj, ekj⟩ : ∃ k, b.2 = k := ⟨_, rfl⟩
      rw [eg, eg', elen, elen2, ekk] at kA
      rw [eh, eh', elenb, elenb2, ekj] at kB
      rw [eg, eg', elen, elen2, ekk, eh, eh', elenb, elenb2, ekj]
      clear hs ht eg eg' elen elen2 ekk hu hv eh eh' elenb elenb2 ekj
      have z1 : (w.alloc (.cells #[.bool g, .slice ad len cap, .bool g', .slice ae len2 cbp, .int .i64 kk] 34)).heap.size = w.heap.size + 1 := by simp
      have z2 : ((w.alloc (.cells #[.bool g, .slice ad len cap, .bool g', .slice ae len2 cbp, .int .i64 kk] 34)).alloc (.cells #[.bool h, .slice bd lenb cap2, .bool h', .slice be lenb2 cbp2, .int .i64 kj] 34)).heap.size = w.heap.size + 1 + 1 := by simp
      have X0 := (((Bx5.made w (.bool g) (.slice ad len cap) (.bool g') (.slice ae len2 cbp) (.int .i64 kk) 34).below (below1 _ (.cells #[.bool h, .slice bd lenb cap2, .bool h', .slice be lenb2 cbp2, .int .i64 kj] 34)) (Nat.le_refl _)).below (below1 _ (.cells #[.bool false, .slice none 0 0] 27)) (Nat.le_refl _))
      have Y0 := ((Bx5.made (w.alloc (.cells #[.bool g, .slice ad len cap, .bool g', .slice ae len2 cbp, .int .i64 kk] 34)) (.bool h) (.slice bd lenb cap2) (.bool h') (.slice be lenb2 cbp2) (.int .i64 kj) 34).below (below1 _ (.cells #[.bool false, .slice none 0 0] 27)) (Nat.le_refl _))
      rw [z1] at Y0
      have R0 := BoxW.made ((w.alloc (.cells #[.bool g, .slice ad len cap, .bool g', .slice ae len2 cbp, .int .i64 kk] 34)).alloc (.cells #[.bool h, .slice bd lenb cap2, .bool h', .slice be lenb2 cbp2, .int .i64 kj] 34)) (.bool false) (.slice none 0 0) 27
      rw [z2] at R0
      have B0 := below3 w (.cells #[.bool g, .slice ad len cap, .bool g', .slice ae len2 cbp, .int .i64 kk] 34) (.cells #[.bool h, .slice bd lenb cap2, .bool h', .slice be lenb2 cbp2, .int .i64 kj] 34) (.cells #[.bool false, .slice none 0 0] 27)
      clear z1 z2
      go_enter Try.func21, Try.ntmps21
      go_wp2_with fail
      refine (kA _ B0).mono ?_
      generalize ((w.alloc (.cells #[.bool g, .slice ad len cap, .bool g', .slice ae len2 cbp, .int .i64 kk] 34)).alloc (.cells #[.bool h, .slice bd lenb cap2, .bool h', .slice be lenb2 cbp2, .int .i64 kj] 34)).alloc (.cells #[.bool false, .slice none 0 0] 27) = w0 at *
      rintro e w1' ⟨x, y, rfl, b1', hA⟩
      have bF := below1 w1' (.cells #[.pointer x, .pointer y, .int .i64 kk] 65)
      have b1 := b1'.trans (bF.mono b1'.size)
      have R1 := R0.below b1 (Nat.le_refl _)
      have B1 := B0.trans (b1.mono B0.size)
      have Y1 := Y0.below b1 (Nat.le_refl _)
      have c0 := Y1.c0
      have c1 := Y1.c1
      have c2 := Y1.c2
      have c3 := Y1.c3
      have c4 := Y1.c4
      have E1 := Bx3.made w1' (.pointer x) (.pointer y) (.int .i64 kk) 65
      have hE1 : w1'.heap.size < (w1'.alloc (.cells #[.pointer x, .pointer y, .int .i64 kk] 65)).heap.size := by simp
      go_wp2_with fail
      clear c0 c1 c2 c3 c4
      refine (kB _ B1).mono ?_
      generalize w1'.alloc (.cells #[.pointer x, .pointer y, .int .i64 kk] 65) = w2 at *
      generalize w1'.heap.size = m1 at *
      rintro e w2' ⟨x2, y2, rfl, b2', hB⟩
      have bG := below1 w2' (.cells #[.pointer x2, .pointer y2, .int .i64 kj] 65)
      have b2 := b2'.trans (bG.mono b2'.size)
      have R1 := R1.below b2 (Nat.le_refl _)
      have B1 := B1.trans (b2.mono B1.size)
      have E2 := E1.below b2 (Nat.le_refl _)
      have r0 := R1.c0
      have f0 := R1.f0
      have r1 := R1.c1
      have f1 := R1.f1
      have HB : Hid (Below w.heap.size w _) := ((B1.setCell (p := ⟨w.heap.size + 1 + 1, 0, none⟩) (by show w.heap.size ≤ w.heap.size + 1 + 1; omega) (.bool false)).setCell (p := ⟨w.heap.size + 1 + 1, 1, none⟩) (by show w.heap.size ≤ w.heap.size + 1 + 1; omega) (.slice none 0 0))
      clear R0 R1 B0 B1 b1 b1' b2 b2' bF bG kA kB X0 Y0 Y1 hA hB E1 E2
      go_wp2
      (try simp only [Exit.inBlock, Exit.then])
      refine bodyPost_ret (v := .agg #[.bool false, .slice none 0 0]) ?_ rfl ⟨_, rfl, by rw [HR.out]; exact ⟨_, rfl, World.ownsRow_nil _ _ _ _⟩, HB.out⟩
      rw [results_cell1 rfl]
      go_simp
    · have hob : okP b = false := by
        cases hob : okP b
        · rfl
        · exact absurd ⟨hoa, hob⟩ hok
      rw [hoa] at kA
      rw [hob] at kB
      obtain ⟨rr, hr⟩ : ∃ r, crossR a b = r := ⟨_, rfl⟩
      rw [hr] at HR
      rw [hr]
      clear hr
      clear hok hoa hob
      obtain ⟨s, t, rfl, hs, ht⟩ := ha
      obtain ⟨ad, cap, rfl, -⟩ := id hs
      obtain ⟨ae, cbp, rfl, -⟩ := id ht
      obtain ⟨g, eg⟩ : ∃ g, a.1.1.1 = g := ⟨_, rfl⟩
      obtain ⟨g', eg'⟩ : ∃ g, a.1.2.1 = g := ⟨_, rfl⟩
      obtain ⟨len, elen⟩ : ∃ l, a.1.1.2.length = l := ⟨_, rfl⟩
      obtain ⟨len2, elen2⟩ : ∃ l, a.1.2.2.length = l := ⟨_, rfl⟩
      obtain ⟨kk, ekk⟩ : ∃ k, a.2 = k := ⟨_, rfl⟩
      obtain ⟨u, v, rfl, hu, hv⟩ := hb
      obtain ⟨bd, cap2, rfl, -⟩ := id hu
      obtain ⟨be, cbp2, rfl, -⟩ := id hv
      obtain ⟨h, eh⟩ : ∃ g, b.1.1.1 = g := ⟨_, rfl⟩
      obtain ⟨h', eh'⟩ : ∃ g, b.1.2.1 = g := ⟨_, rfl⟩
      obtain ⟨lenb, elenb⟩ : ∃ l, b.1.1.2.length = l := ⟨_, rfl⟩
      obtain ⟨lenb2, elenb2⟩ : ∃ l, b.1.2.2.length = l := ⟨_, rfl⟩
      obtain ⟨kj, ekj⟩ : ∃ k, b.2 = k := ⟨_, rfl⟩
      rw [eg, eg', elen, elen2, ekk] at kA
      rw [eh, eh', elenb, elenb2, ekj] at kB
      rw [eg, eg', elen, elen2, ekk, eh, eh', elenb, elenb2, ekj]
      clear hs ht eg eg' elen elen2 ekk hu hv eh eh' elenb elenb2 ekj
      have z1 : (w.alloc (.cells #[.bool g, .slice ad len cap, .bool g', .slice ae len2 cbp, .int .i64 kk] 34)).heap.size = w.heap.size + 1 := by simp
      have z2 : ((w.alloc (.cells #[.bool g, .slice ad len cap, .bool g', .slice ae len2 cbp, .int .i64 kk] 34)).alloc (.cells #[.bool h, .slice bd lenb cap2, .bool h', .slice be lenb2 cbp2, .int .i64 kj] 34)).heap.size = w.heap.size + 1 + 1 := by simp
      have X0 := (((Bx5.made w (.bool g) (.slice ad len cap) (.bool g') (.slice ae len2 cbp) (.int .i64 kk) 34).below (below1 _ (.cells #[.bool h, .slice bd lenb cap2, .bool h', .slice be lenb2 cbp2, .int .i64 kj] 34)) (Nat.le_refl _)).below (below1 _ (.cells #[.bool false, .slice none 0 0] 27)) (Nat.le_refl _))
      have Y0 := ((Bx5.made (w.alloc (.cells #[.bool g, .slice ad len cap, .bool g', .slice ae len2 cbp, .int .i64 kk] 34)) (.bool h) (.slice bd lenb cap2) (.bool h') (.slice be lenb2 cbp2) (.int .i64 kj) 34).below (below1 _ (.cells #[.bool false, .slice none 0 0] 27)) (Nat.le_refl _))
      rw [z1] at Y0
      have R0 := BoxW.made ((w.alloc (.cells #[.bool g, .slice ad len cap, .bool g', .slice ae len2 cbp, .int .i64 kk] 34)).alloc (.cells #[.bool h, .slice bd lenb cap2, .bool h', .slice be lenb2 cbp2, .int .i64 kj] 34)) (.bool false) (.slice none 0 0) 27
      rw [z2] at R0
      have B0 := below3 w (.cells #[.bool g, .slice ad len cap, .bool g', .slice ae len2 cbp, .int .i64 kk] 34) (.cells #[.bool h, .slice bd lenb cap2, .bool h', .slice be lenb2 cbp2, .int .i64 kj] 34) (.cells #[.bool false, .slice none 0 0] 27)
      clear z1 z2
      go_enter Try.func21, Try.ntmps21
      go_wp2_with fail
      refine (kA _ B0).mono ?_
      generalize ((w.alloc (.cells #[.bool g, .slice ad len cap, .bool g', .slice ae len2 cbp, .int .i64 kk] 34)).alloc (.cells #[.bool h, .slice bd lenb cap2, .bool h', .slice be lenb2 cbp2, .int .i64 kj] 34)).alloc (.cells #[.bool false, .slice none 0 0] 27) = w0 at *
      rintro e w1' ⟨x, y, rfl, b1', hA⟩
      have bF := below1 w1' (.cells #[.pointer x, .pointer y, .int .i64 kk] 65)
      have b1 := b1'.trans (bF.mono b1'.size)
      have R1 := R0.below b1 (Nat.le_refl _)
      have B1 := B0.trans (b1.mono B0.size)
      have Y1 := Y0.below b1 (Nat.le_refl _)
      have c0 := Y1.c0
      have c1 := Y1.c1
      have c2 := Y1.c2
      have c3 := Y1.c3
      have c4 := Y1.c4
      have E1 := Bx3.made w1' (.pointer x) (.pointer y) (.int .i64 kk) 65
      have hE1 : w1'.heap.size < (w1'.alloc (.cells #[.pointer x, .pointer y, .int .i64 kk] 65)).heap.size := by simp
      go_wp2_with fail
      clear c0 c1 c2 c3 c4
      refine (kB _ B1).mono ?_
      generalize w1'.alloc (.cells #[.pointer x, .pointer y, .int .i64 kk] 65) = w2 at *
      generalize w1'.heap.size = m1 at *
      rintro e w2' ⟨x2, y2, rfl, b2', hB⟩
      have bG := below1 w2' (.cells #[.pointer x2, .pointer y2, .int .i64 kj] 65)
      have b2 := b2'.trans (bG.mono b2'.size)
      have R1 := R1.below b2 (Nat.le_refl _)
      have B1 := B1.trans (b2.mono B1.size)
      have E2 := E1.below b2 (Nat.le_refl _)
      have r0 := R1.c0
      have f0 := R1.f0
      have r1 := R1.c1
      have f1 := R1.f1
      have HB : Hid (Below w.heap.size w _) := ((B1.setCell (p := ⟨w.heap.size + 1 + 1, 0, none⟩) (by show w.heap.size ≤ w.heap.size + 1 + 1; omega) (.bool false)).setCell (p := ⟨w.heap.size + 1 + 1, 1, none⟩) (by show w.heap.size ≤ w.heap.size + 1 + 1; omega) (.slice none 0 0))
      clear R0 R1 B0 B1 b1 b1' b2 b2' bF bG kA kB X0 Y0 Y1 hA hB E1 E2
      go_wp2
      (try simp only [Exit.inBlock, Exit.then])
      refine bodyPost_ret (v := .agg #[.bool false, .slice none 0 0]) ?_ rfl ⟨_, rfl, by rw [HR.out]; exact ⟨_, rfl, World.ownsRow_nil _ _ _ _⟩, HB.out⟩
      rw [results_cell1 rfl]
      go_simp
  rw [hok.1] at kA
  rw [hok.2] at kB
  have zo := hok.1
  unfold okP at zo
  simp only [Bool.and_eq_true] at zo
  have zp := hok.2
  unfold okP at zp
  simp only [Bool.and_eq_true] at zp
  have l1' := okW_lenV zo.1.1
  have l2' := okW_lenV zo.1.2
  have l3' := okW_lenV zp.1.1
  have l4' := okW_lenV zp.1.2
  have kQ := fun p q r s W h1 h2 h3 h4 => cross_c p q r s (valW a.1.1) (valW a.1.2) (valW b.1.1) (valW b.1.2) W h1 h2 h3 h4 (by omega) (by omega) (by omega) (by omega)
  have kU := fun c W h => unbounded_c c (valW a.1.1 * valW b.1.2 - valW a.1.2 * valW b.1.1) W h
  have HR : Hid (crossR a b = mkW (valW a.1.1 * valW b.1.2 - valW a.1.2 * valW b.1.1)) := by show _ = _; unfold crossR; rw [if_pos hok]
  clear hok zo zp l1' l2' l3' l4'
  generalize mkW (valW a.1.1 * valW b.1.2 - valW a.1.2 * valW b.1.1) = mw at *
  generalize valW a.1.1 * valW b.1.2 - valW a.1.2 * valW b.1.1 = z at *
  generalize valW a.1.1 = X at *
  generalize valW a.1.2 = Y at *
  generalize valW b.1.1 = X2 at *
  generalize valW b.1.2 = Y2 at *
  obtain ⟨n1, l1⟩ := mw
  obtain ⟨rr, hr⟩ : ∃ r, crossR a b = r := ⟨_, rfl⟩
  rw [hr] at HR
  rw [hr]
  clear hr
  obtain ⟨s, t, rfl, hs, ht⟩ := ha
  obtain ⟨ad, cap, rfl, -⟩ := id hs
  obtain ⟨ae, cbp, rfl, -⟩ := id ht
  obtain ⟨g, eg⟩ : ∃ g, a.1.1.1 = g := ⟨_, rfl⟩
  obtain ⟨g', eg'⟩ : ∃ g, a.1.2.1 = g := ⟨_, rfl⟩
  obtain ⟨len, elen⟩ : ∃ l, a.1.1.2.length = l := ⟨_, rfl⟩
  obtain ⟨len2, elen2⟩ : ∃ l, a.1.2.2.length = l := ⟨_, rfl⟩
  obtain ⟨kk, ekk⟩ : ∃ k, a.2 = k := ⟨_, rfl⟩
  obtain ⟨u, v, rfl, hu, hv⟩ := hb
  obtain ⟨bd, cap2, rfl, -⟩ := id hu
  obtain ⟨be, cbp2, rfl, -⟩ := id hv
  obtain ⟨h, eh⟩ : ∃ g, b.1.1.1 = g := ⟨_, rfl⟩
  obtain ⟨h', eh'⟩ : ∃ g, b.1.2.1 = g := ⟨_, rfl⟩
  obtain ⟨lenb, elenb⟩ : ∃ l, b.1.1.2.length = l := ⟨_, rfl⟩
  obtain ⟨lenb2, elenb2⟩ : ∃ l, b.1.2.2.length = l := ⟨_, rfl⟩
  obtain ⟨kj, ekj⟩ : ∃ k, b.2 = k := ⟨_, rfl⟩
  rw [eg, eg', elen, elen2, ekk] at kA
  rw [eh, eh', elenb, elenb2, ekj] at kB
  rw [eg, eg', elen, elen2, ekk, eh, eh', elenb, elenb2, ekj]
  clear hs ht eg eg' elen elen2 ekk hu hv eh eh' elenb elenb2 ekj
  have z1 : (w.alloc (.cells #[.bool g, .slice ad len cap, .bool g', .slice ae len2 cbp, .int .i64 kk] 34)).heap.size = w.heap.size + 1 := by simp
  have z2 : ((w.alloc (.cells #[.bool g, .slice ad len cap, .bool g', .slice ae len2 cbp, .int .i64 kk] 34)).alloc (.cells #[.bool h, .slice bd lenb cap2, .bool h', .slice be lenb2 cbp2, .int .i64 kj] 34)).heap.size = w.heap.size + 1 + 1 := by simp
  have X0 := (((Bx5.made w (.bool g) (.slice ad len cap) (.bool g') (.slice ae len2 cbp) (.int .i64 kk) 34).below (below1 _ (.cells #[.bool h, .slice bd lenb cap2, .bool h', .slice be lenb2 cbp2, .int .i64 kj] 34)) (Nat.le_refl _)).below (below1 _ (.cells #[.bool false, .slice none 0 0] 27)) (Nat.le_refl _))
  have Y0 := ((Bx5.made (w.alloc (.cells #[.bool g, .slice ad len cap, .bool g', .slice ae len2 cbp, .int .i64 kk] 34)) (.bool h) (.slice bd lenb cap2) (.bool h') (.slice be lenb2 cbp2) (.int .i64 kj) 34).below (below1 _ (.cells #[.bool false, .slice none 0 0] 27)) (Nat.le_refl _))
  rw [z1] at Y0
  have R0 := BoxW.made ((w.alloc (.cells #[.bool g, .slice ad len cap, .bool g', .slice ae len2 cbp, .int .i64 kk] 34)).alloc (.cells #[.bool h, .slice bd lenb cap2, .bool h', .slice be lenb2 cbp2, .int .i64 kj] 34)) (.bool false) (.slice none 0 0) 27
  rw [z2] at R0
  have B0 := below3 w (.cells #[.bool g, .slice ad len cap, .bool g', .slice ae len2 cbp, .int .i64 kk] 34) (.cells #[.bool h, .slice bd lenb cap2, .bool h', .slice be lenb2 cbp2, .int .i64 kj] 34) (.cells #[.bool false, .slice none 0 0] 27)
  clear z1 z2
  go_enter Try.func21, Try.ntmps21
  go_wp2_with fail
  refine (kA _ B0).mono ?_
  generalize ((w.alloc (.cells #[.bool g, .slice ad len cap, .bool g', .slice ae len2 cbp, .int .i64 kk] 34)).alloc (.cells #[.bool h, .slice bd lenb cap2, .bool h', .slice be lenb2 cbp2, .int .i64 kj] 34)).alloc (.cells #[.bool false, .slice none 0 0] 27) = w0 at *
  rintro e w1' ⟨x, y, rfl, b1', hA⟩
  have bF := below1 w1' (.cells #[.pointer x, .pointer y, .int .i64 kk] 65)
  have b1 := b1'.trans (bF.mono b1'.size)
  have R1 := R0.below b1 (Nat.le_refl _)
  have B1 := B0.trans (b1.mono B0.size)
  obtain ⟨p, q, rfl, rfl, sp, sq⟩ := hA (by first | exact trivial | rfl)
  have sp1 := sp.below bF sp.lt
  have sq1 := sq.below bF sq.lt
  have Y1 := Y0.below b1 (Nat.le_refl _)
  have c0 := Y1.c0
  have c1 := Y1.c1
  have c2 := Y1.c2
  have c3 := Y1.c3
  have c4 := Y1.c4
  have E1 := Bx3.made w1' (.pointer (some ⟨p, 0, none⟩)) (.pointer (some ⟨q, 0, none⟩)) (.int .i64 kk) 65
  have hE1 : w1'.heap.size < (w1'.alloc (.cells #[.pointer (some ⟨p, 0, none⟩), .pointer (some ⟨q, 0, none⟩), .int .i64 kk] 65)).heap.size := by simp
  go_wp2_with fail
  clear c0 c1 c2 c3 c4
  refine (kB _ B1).mono ?_
  generalize w1'.alloc (.cells #[.pointer (some ⟨p, 0, none⟩), .pointer (some ⟨q, 0, none⟩), .int .i64 kk] 65) = w2 at *
  generalize w1'.heap.size = m1 at *
  rintro e w2' ⟨x2, y2, rfl, b2', hB⟩
  have bG := below1 w2' (.cells #[.pointer x2, .pointer y2, .int .i64 kj] 65)
  have b2 := b2'.trans (bG.mono b2'.size)
  have R1 := R1.below b2 (Nat.le_refl _)
  have B1 := B1.trans (b2.mono B1.size)
  have E2 := E1.below b2 (Nat.le_refl _)
  obtain ⟨r, s, rfl, rfl, sr, ss⟩ := hB (by first | exact trivial | rfl)
  have sp2 := sp1.below b2 sp1.lt
  have sq2 := sq1.below b2 sq1.lt
  have sr2 := sr.below bG sr.lt
  have ss2 := ss.below bG ss.lt
  have e0 := E2.c0
  have e1 := E2.c1
  clear X0 R0 B0 b1 b1' b2 b2' kA kB hA hB sp sq sp1 sq1 sr ss bF bG Y0 Y1 E1
  go_wp2_with fail
  clear e0 e1
  refine (kQ p q r s _ sp2 sq2 sr2 ss2).mono ?_
  rintro e w4 ⟨c, rfl, sc, b4⟩
  have R4 := R1.below b4 (Nat.le_refl _)
  have B4 := B1.trans (b4.mono B1.size)
  clear kQ sp2 sq2 sr2 ss2 R1 B1 b4 E2
  go_wp2_with fail
  refine (kU c _ sc).mono ?_
  rintro e w5 ⟨v5, rfl, o9, b5⟩
  have R9 := R4.below b5 (Nat.le_refl _)
  have B9 := B4.trans (b5.mono B4.size)
  obtain ⟨s9, rfl, q9⟩ := o9
  obtain ⟨ad3, cp3, rfl, -⟩ := q9.row
  have q9' : ownsI w5 w4.heap.size (.slice ad3 l1.length cp3) l1 := q9
  have hR9 := R4.hi
  have r0 := R9.c0
  have r1 := R9.c1
  have f0 := R9.f0
  have f1 := R9.f1
  have HO : Hid (ownsI _ w4.heap.size (.slice ad3 l1.length cp3) l1) := ((q9'.other (w.heap.size + 1 + 1) 0 (by omega) (.bool n1)).other (w.heap.size + 1 + 1) 1 (by omega) (.slice ad3 l1.length cp3))
  have HB : Hid (Below w.heap.size w _) := ((B9.setCell (p := ⟨w.heap.size + 1 + 1, 0, none⟩) (by show w.heap.size ≤ w.heap.size + 1 + 1; omega) (.bool n1)).setCell (p := ⟨w.heap.size + 1 + 1, 1, none⟩) (by show w.heap.size ≤ w.heap.size + 1 + 1; omega) (.slice ad3 l1.length cp3))
  have hb9 := B4.size
  clear q9 q9' R4 R9 B4 B9 b5 kU sc
  go_wp2
  (try simp only [Exit.inBlock, Exit.then])
  refine bodyPost_ret (v := .agg #[.bool n1, .slice ad3 l1.length cp3]) ?_ rfl ⟨_, rfl, by rw [HR.out]; exact ⟨_, rfl, ownsI_mono HO.out hb9⟩, HB.out⟩
  rw [results_cell1 rfl]
  go_simp

end Go.Proofs.Ytlpfjpbnedankaa

/- FnSpun, FnSpinOrder: the mathematics (no walk). -/
namespace Go.Proofs.Ytlpfjpbnedankaa
open Go.RowKit
set_option linter.unusedSimpArgs false
set_option linter.unusedVariables false

theorem step_no {a r : Ph} {i d : Int} (h : stepR a i d = (r, false)) : r = a := by
  unfold stepR at h
  split at h
  · cases h
  · exact (congrArg Prod.fst h).symm
/-- What is known of a step that was made. -/
structure Stepped (a r : Ph) (k : Nat) (d : Int) : Prop where
  oka : okP a = true
  okr : okP r = true
  hk : k ≤ 30
  hd : d = 1 ∨ d = -1
  x : r.1.1 = mkW (stX (valW a.1.1) (valW a.1.2) k d)
  y : r.1.2 = mkW (stY (valW a.1.1) (valW a.1.2) k d)
  n : r.2 = a.2 + k
theorem step_yes {a r : Ph} {i d : Int} (h : stepR a i d = (r, true)) : ∃ k : Nat, i = (k : Int) ∧ Stepped a r k d := by
  unfold stepR at h
  split at h
  · rename_i hc
    obtain ⟨c0, c1, c2, c3⟩ := hc
    have e := (congrArg Prod.fst h).symm
    simp only at e
    subst e
    obtain ⟨k, rfl⟩ : ∃ k : Nat, i = (k : Int) := ⟨i.toNat, by omega⟩
    exact ⟨k, rfl, c0, c3, by omega, c2, by unfold stepP; rw [Int.toNat_natCast], by unfold stepP; rw [Int.toNat_natCast], by unfold stepP; rfl⟩
  · cases h
theorem Stepped.vx {a r : Ph} {k : Nat} {d : Int} (h : Stepped a r k d) : valW r.1.1 = stX (valW a.1.1) (valW a.1.2) k d := by rw [h.x, mkW_val]
theorem Stepped.vy {a r : Ph} {k : Nat} {d : Int} (h : Stepped a r k d) : valW r.1.2 = stY (valW a.1.1) (valW a.1.2) k d := by rw [h.y, mkW_val]
theorem sq_one {d : Int} (h : d = 1 ∨ d = -1) : d * d = 1 := by rcases h with rfl | rfl <;> rfl
theorem int_sq (z : Int) : 0 ≤ z * z := by
  rcases Int.le_total 0 z with h | h
  · exact Int.mul_nonneg h h
  · exact Int.mul_nonneg_of_nonpos_of_nonpos h h
theorem two_sq (k : Nat) : (2 : Int) ^ (2 * k) = 2 ^ k * 2 ^ k := by rw [Nat.two_mul, Int.pow_add]
theorem spun_norm (x y u d : Int) (h : d * d = 1) : (x * u - y * d) * (x * u - y * d) + (y * u + x * d) * (y * u + x * d) = (x * x + y * y) * (u * u) + (x * x + y * y) := by
  have : (x * u - y * d) * (x * u - y * d) + (y * u + x * d) * (y * u + x * d) = (x * x + y * y) * (u * u) + (x * x + y * y) * (d * d) := by grind
  rw [this, h, Int.mul_one]
theorem spun_back (x y u d : Int) (h : d * d = 1) : (x * u - y * d) * u - (y * u + x * d) * (-d) = x * (u * u) + x := by
  have : (x * u - y * d) * u - (y * u + x * d) * (-d) = x * (u * u) + x * (d * d) := by grind
  rw [this, h, Int.mul_one]
theorem spun_cross (x y u d : Int) : x * (y * u + x * d) - y * (x * u - y * d) = (x * x + y * y) * d := by grind
theorem spin_comm_x (x y u d v e : Int) : (x * u - y * d) * v - (y * u + x * d) * e = (x * v - y * e) * u - (y * v + x * e) * d := by grind
theorem spin_comm_y (x y u d v e : Int) : (y * u + x * d) * v + (x * u - y * d) * e = (y * v + x * e) * u + (x * v - y * e) * d := by grind
/-- The square of a length, k steps on, and what the law reckons of it. -/
theorem spun_sum {a r : Ph} {k : Nat} {d : Int} (h : Stepped a r k d) {four sum : Wh} {f1 : Bool} (h1 : wshiftR (normR a) (2 * (k : Int)) = (four, f1)) (h2 : waddR four (normR a) = (sum, true)) (hl : (normR a).2.length ≤ 40) : sum = normR r := by
  have ea : normR a = mkW (valW a.1.1 * valW a.1.1 + valW a.1.2 * valW a.1.2) := by unfold normR; rw [if_pos h.oka]
  have er : normR r = mkW (valW r.1.1 * valW r.1.1 + valW r.1.2 * valW r.1.2) := by unfold normR; rw [if_pos h.okr]
  rw [h.vx, h.vy] at er
  unfold stX stY at er
  rw [spun_norm _ _ _ _ (sq_one h.hd), ← two_sq] at er
  rw [ea] at h1 h2 hl
  rw [er]
  generalize valW a.1.1 * valW a.1.1 + valW a.1.2 * valW a.1.2 = z at *
  have hl' : (limbs z.natAbs).length ≤ 40 := hl
  have hf : (limbs (z * 2 ^ (2 * k)).natAbs).length ≤ 48 := by
    have e : (z * 2 ^ (2 * k)).natAbs = z.natAbs * 2 ^ (2 * k) := by rw [Int.natAbs_mul, Int.natAbs_pow]; rfl
    rw [e]
    refine Nat.le_trans (limbs_len_le _ 43 ?_) (by omega)
    have q1 := limbs_lt z.natAbs
    have q2 := Nat.pow_le_pow_right (by omega : 0 < 16777216) hl'
    have q3 : 2 ^ (2 * k) ≤ 2 ^ 60 := Nat.pow_le_pow_right (by omega) (by have := h.hk; omega)
    have q4 : z.natAbs * 2 ^ (2 * k) ≤ z.natAbs * 2 ^ 60 := Nat.mul_le_mul_left _ q3
    have q5 : z.natAbs * 2 ^ 60 < 16777216 ^ 40 * 2 ^ 60 := Nat.mul_lt_mul_of_pos_right (by omega) (by decide +kernel)
    have q6 : 16777216 ^ 40 * 2 ^ 60 ≤ 16777216 ^ 43 := by decide +kernel
    exact Nat.lt_of_le_of_lt q4 (Nat.lt_of_lt_of_le q5 q6)
  have hs : wshiftR (mkW z) (2 * (k : Int)) = (mkW (z * 2 ^ (2 * k)), true) := by
    unfold wshiftR
    have := h.hk
    rw [if_pos ⟨okW_mk (Nat.le_trans hl' (by omega)), by omega, by omega⟩, mkW_val]
    unfold scaleI
    rw [if_pos (by omega), show (2 * (k : Int)).toNat = 2 * k by omega, fitW_yes hf]
  rw [hs] at h1
  cases h1
  unfold waddR at h2
  split at h2
  · rw [mkW_val, mkW_val] at h2
    exact (fitW_true h2).1
  · cases h2
theorem spun_x {a r b : Ph} {k : Nat} {d : Int} (h : Stepped a r k d) (hb : Stepped r b k (-d)) {u v : Wh} {f1 f2 : Bool} (h1 : wshiftR a.1.1 (2 * (k : Int)) = (u, f1)) (h2 : waddR u a.1.1 = (v, f2)) : v = b.1.1 := by
  have ho := okP_yes h.oka
  have hob := okP_yes hb.okr
  have ex := hb.vx
  rw [h.vx, h.vy] at ex
  unfold stX stY at ex
  rw [spun_back _ _ _ _ (sq_one h.hd), ← two_sq] at ex
  have eb := mkW_of hob.1
  have m := okW_len48 hob.1
  rw [eb]
  rw [ex] at m ⊢
  have ea := mkW_of ho.1
  have hle : (valW a.1.1 * 2 ^ (2 * k)).natAbs ≤ (valW a.1.1 * 2 ^ (2 * k) + valW a.1.1).natAbs := by
    have hp : (0 : Int) < 2 ^ (2 * k) := Int.pow_pos (by omega)
    rcases Int.le_total 0 (valW a.1.1) with q | q
    · have := Int.mul_nonneg q (Int.le_of_lt hp)
      omega
    · have : valW a.1.1 * 2 ^ (2 * k) ≤ 0 := Int.mul_nonpos_of_nonpos_of_nonneg q (Int.le_of_lt hp)
      omega
  have mu := fit_le m hle
  have hs : wshiftR a.1.1 (2 * (k : Int)) = (mkW (valW a.1.1 * 2 ^ (2 * k)), true) := by
    unfold wshiftR
    have := h.hk
    rw [if_pos ⟨ho.1, by omega, by omega⟩]
    unfold scaleI
    rw [if_pos (by omega), show (2 * (k : Int)).toNat = 2 * k by omega, fitW_yes mu]
  rw [hs] at h1
  cases h1
  unfold waddR at h2
  rw [if_pos ⟨okW_mk mu, ho.1⟩, mkW_val, fitW_yes m] at h2
  exact (congrArg Prod.fst h2).symm
theorem spun_sign {a r : Ph} {k : Nat} {d : Int} (h : Stepped a r k d) (hn : (normR a).2.length ≠ 0) : (crossR a r).1 = decide (d < 0) := by
  have ea : normR a = mkW (valW a.1.1 * valW a.1.1 + valW a.1.2 * valW a.1.2) := by unfold normR; rw [if_pos h.oka]
  unfold crossR
  rw [if_pos ⟨h.oka, h.okr⟩, h.vx, h.vy]
  unfold stX stY
  rw [spun_cross]
  rw [ea] at hn
  have hz : 0 ≤ valW a.1.1 * valW a.1.1 + valW a.1.2 * valW a.1.2 := Int.add_nonneg (int_sq _) (int_sq _)
  generalize valW a.1.1 * valW a.1.1 + valW a.1.2 * valW a.1.2 = z at *
  have hz1 : 0 < z := by
    rcases Int.lt_or_eq_of_le hz with q | q
    · exact q
    · exfalso; apply hn; rw [← q]; show (limbs (0 : Int).natAbs).length = 0; rw [show (0 : Int).natAbs = 0 from rfl, limbs_zero]; rfl
  show decide (z * d < 0) = decide (d < 0)
  rcases h.hd with rfl | rfl
  · rw [decide_eq_false (by omega), decide_eq_false (by omega)]
  · rw [decide_eq_true (by omega), decide_eq_true (by omega)]
/-- Two steps in either order. -/
theorem ord_same {s a a2 b b2 : Ph} {k l : Nat} {d e : Int} (h1 : Stepped s a k d) (h2 : Stepped a a2 l e) (h3 : Stepped s b l e) (h4 : Stepped b b2 k d) : a2.1.1 = b2.1.1 ∧ a2.1.2 = b2.1.2 ∧ a2.2 = b2.2 ∧ a2.2 = s.2 + k + l := by
  refine ⟨?_, ?_, ?_, ?_⟩
  · rw [h2.x, h4.x, h1.vx, h1.vy, h3.vx, h3.vy]
    unfold stX stY
    rw [spin_comm_x]
  · rw [h2.y, h4.y, h1.vx, h1.vy, h3.vx, h3.vy]
    unfold stX stY
    rw [spin_comm_y]
  · have := h1.n; have := h2.n; have := h3.n; have := h4.n; omega
  · have := h1.n; have := h2.n; omega

end Go.Proofs.Ytlpfjpbnedankaa
