/- FnTurned: what is rounded below nought is rounded as above it, the other way round: the walk. -/
import Derived.Test.YtlnpfjnpnjiepaaDrRF
import Derived.Test.YtlnpfjnpnjiepaaLT
import Derived.Test.YtlnpfjnpnjiepaaCutW
import Derived.Test.YtlnpfjnpnjiepaaIRoundF
import Derived.Test.YtlnpfjnpnjiepaaSRoundF
import Derived.Test.YtlnpfjnpnjiepaaIWholeNeg
import Derived.Test.YtlnpfjnpnjiepaaSW
import Derived.Test.YtlnpfjnpnjiepaaTurned
namespace Go.Proofs.Ytlnpfjnpnjiepaa
open Go.RowKit
set_option linter.unusedSimpArgs false

theorem turnI_turnI (m : Int) : turnI (turnI m) = m := by
  unfold turnI
  by_cases h0 : m = 0
  · subst h0; simp
  · by_cases h1 : m = 1
    · subst h1; simp
    · simp [h0, h1]
theorem turnI_bd {m : Int} (h0 : 0 ≤ m) (h4 : m ≤ 4) : 0 ≤ turnI m ∧ turnI m ≤ 4 := by
  unfold turnI
  split
  · omega
  · split <;> omega
theorem turned_in {m : Int} (h0 : 0 ≤ m) (h4 : m ≤ 4) : turnedR m = turnI m := by
  unfold turnedR turnI
  split
  · rfl
  · split
    · rfl
    · rw [if_pos (by omega)]
theorem turned_out {m : Int} (h : ¬ (0 ≤ m ∧ m ≤ 4)) : turnedR m = -1 := by
  unfold turnedR
  rw [if_neg (by omega), if_neg (by omega), if_neg (by omega)]
theorem frac_neg (A : Int) (B : Int) (hB : 0 < B) (m : Int) (h0 : 0 ≤ m) (h4 : m ≤ 4) : fracI (-A) B m = -(fracI A B (turnI m)) := by
  obtain ⟨d, rfl⟩ := Int.eq_ofNat_of_zero_le (show 0 ≤ B by omega)
  have hd : 0 < d := by omega
  obtain ⟨t0, t4⟩ := turnI_bd h0 h4
  rw [frac_round (-A) d hd m h0 h4, frac_round A d hd (turnI m) t0 t4, Int.natAbs_neg]
  rcases Int.lt_trichotomy A 0 with h | h | h
  · have e1 : decide (-A < 0) = false := decide_eq_false (by omega)
    have e2 : decide (A < 0) = true := decide_eq_true h
    rw [e1, e2]
    unfold roundN
    simp only [Bool.false_eq_true, if_false, if_true, turnI_turnI, Int.neg_neg]
  · subst h
    simp [roundN]
  · have e1 : decide (-A < 0) = true := decide_eq_true (by omega)
    have e2 : decide (A < 0) = false := decide_eq_false (by omega)
    rw [e1, e2]
    unfold roundN
    simp only [Bool.false_eq_true, if_false, if_true]
theorem frac_abs (A B : Int) (hB : 0 < B) (m : Int) : (fracI A B m).natAbs ≤ A.natAbs := by
  obtain ⟨h1, h2, h3, h4⟩ := ediv_bd A B hB
  have hp := pick_lo (A / B) (decide (A - A / B * B = 0)) (cmpJ ((A - A / B * B) * 2) B) m
  have e : fracI A B m = pickI (A / B) (decide (A - A / B * B = 0)) (cmpJ ((A - A / B * B) * 2) B) m := rfl
  rw [← e] at hp
  by_cases hw : A / B * B = A
  · rw [frac_whole hw]; exact h3
  · have := h4 hw
    have : fracI A B m = A / B ∨ fracI A B m = A / B + 1 := by omega
    rcases this with h | h <;> rw [h] <;> assumption
theorem rfrac_yes {a b : Wh} {m : Int} (ha : okW a = true) (hb : okW b = true) (hB : 0 < valW b) (h0 : 0 ≤ m) (h4 : m ≤ 4) : rfracR a b m = (mkW (fracI (valW a) (valW b) m), true) := by
  rw [rfracR, if_pos ⟨ha, hb, hB, h0, h4⟩, fitW_yes (fit_le (okW_abs ha) (frac_abs _ _ hB m))]
theorem rfrac_not {a b : Wh} {m : Int} (h : ¬ (okW a = true ∧ okW b = true ∧ 0 < valW b ∧ 0 ≤ m ∧ m ≤ 4)) : rfracR a b m = ((false, []), false) := by rw [rfracR, if_neg h]
/-- What FnTurned meets. -/
theorem turn_facts (a b : Wh) (m : Int) : ∃ x ok y fine z want, rfracR (wnegR a) b m = (x, ok) ∧ rfracR a b (turnedR m) = (y, fine) ∧ rfracR a b m = (z, want) ∧ x.2.length ≤ 48 ∧ y.2.length ≤ 48 ∧ (wnegR a).2.length ≤ 48 ∧ (wnegR y).2.length ≤ 48 ∧ z.2.length ≤ 48 ∧
    ((ok = true ∧ fine = true ∧ want = true ∧ x = wnegR y ∧ turnedR (turnedR m) = m) ∨ (ok = false ∧ fine = false ∧ want = false ∧ y = (false, [])) ∨ (okW a = false ∧ ok = true ∧ fine = false ∧ want = false)) := by
  by_cases hc : okW a = true ∧ okW b = true ∧ 0 < valW b ∧ 0 ≤ m ∧ m ≤ 4
  · obtain ⟨ha, hb, hB, h0, h4⟩ := hc
    obtain ⟨t0, t4⟩ := turnI_bd h0 h4
    have hn : wnegR a = mkW (-(valW a)) := by rw [wnegR, if_pos ha]
    have ln : (limbs (-(valW a)).natAbs).length ≤ 48 := by rw [Int.natAbs_neg]; exact okW_abs ha
    have okn : okW (wnegR a) = true := by rw [hn]; exact okW_mk ln
    have ly := fit_le (okW_abs ha) (frac_abs (valW a) _ hB (turnI m))
    have vn : valW (wnegR a) = -(valW a) := by rw [hn, mkW_val]
    have hy : wnegR (mkW (fracI (valW a) (valW b) (turnI m))) = mkW (-(fracI (valW a) (valW b) (turnI m))) := by rw [wnegR, if_pos (okW_mk ly), mkW_val]
    refine ⟨_, _, _, _, _, _, rfrac_yes okn hb hB h0 h4, by rw [turned_in h0 h4]; exact rfrac_yes ha hb hB t0 t4, rfrac_yes ha hb hB h0 h4, ?_, ly, okW_len okn, ?_, fit_le (okW_abs ha) (frac_abs _ _ hB m), .inl ⟨rfl, rfl, rfl, ?_, ?_⟩⟩
    · rw [vn]
      exact fit_le ln (frac_abs _ _ hB m)
    · rw [hy]
      show (limbs (-(fracI (valW a) (valW b) (turnI m))).natAbs).length ≤ 48
      rw [Int.natAbs_neg]; exact ly
    · rw [hy, vn, frac_neg _ _ hB m h0 h4]
    · rw [turned_in h0 h4, turned_in t0 t4, turnI_turnI]
  · have hz := rfrac_not hc
    have hf : rfracR a b (turnedR m) = ((false, []), false) := by
      apply rfrac_not
      rintro ⟨ha, hb, hB, h0, h4⟩
      refine hc ⟨ha, hb, hB, ?_⟩
      apply Classical.byContradiction
      intro hm
      rw [turned_out hm] at h0
      omega
    have e0 : wnegR (false, []) = (false, []) := by
      have h1 : okW (false, []) = true := by decide
      have h2 : valW (false, []) = 0 := by decide
      rw [wnegR, if_pos h1, h2, Int.neg_zero, mkW_zero]
    by_cases ha : okW a = true
    · have hx : rfracR (wnegR a) b m = ((false, []), false) := by
        apply rfrac_not
        rintro ⟨-, hb, hB, h0, h4⟩
        exact hc ⟨ha, hb, hB, h0, h4⟩
      have hn : wnegR a = mkW (-(valW a)) := by rw [wnegR, if_pos ha]
      refine ⟨_, _, _, _, _, _, hx, hf, hz, by simp, by simp, ?_, by rw [e0]; simp, by simp, .inr (.inl ⟨rfl, rfl, rfl, rfl⟩)⟩
      rw [hn]
      show (limbs (-(valW a)).natAbs).length ≤ 48
      rw [Int.natAbs_neg]; exact okW_abs ha
    · have hn : wnegR a = (false, []) := by rw [wnegR, if_neg ha]
      have hoa : okW a = false := by simpa using ha
      by_cases hx : okW b = true ∧ 0 < valW b ∧ 0 ≤ m ∧ m ≤ 4
      · obtain ⟨hb, hB, h0, h4⟩ := hx
        have ok0 : okW (false, []) = true := by decide
        refine ⟨_, _, _, _, _, _, by rw [hn]; exact rfrac_yes ok0 hb hB h0 h4, hf, hz, fit_le (okW_abs ok0) (frac_abs _ _ hB m), by simp, by rw [hn]; simp, by rw [e0]; simp, by simp, .inr (.inr ⟨hoa, rfl, rfl, rfl⟩)⟩
      · refine ⟨_, _, _, _, _, _, by rw [hn]; exact rfrac_not (fun h => hx ⟨h.2.1, h.2.2.1, h.2.2.2.1, h.2.2.2.2⟩), hf, hz, by simp, by simp, by rw [hn]; simp, by rw [e0]; simp, by simp, .inr (.inl ⟨rfl, rfl, rfl, rfl⟩)⟩

/-- A value that is known, in a form that is brought from world to world. -/
def IsV (_ : World) (v u : Value) : Prop := v = u
theorem IsV.below {w w' : World} {v u : Value} {B : Nat} (h : IsV w v u) (_ : Below B w w') (_ : w.heap.size ≤ B) : IsV w' v u := h
theorem turnedV (m : Int) (w : World) : Calls Try.prog 27 #[.int .i64 m] w fun e w' => ∃ v, e = .returned v ∧ IsV w' v (.int .i64 (turnedR m)) ∧ Below w.heap.size w w' :=
  (iTurned m w).mono fun _ _ ⟨h, b⟩ => ⟨_, h, rfl, b⟩

set_option maxRecDepth 20000 in
set_option maxHeartbeats 6400000 in
theorem turned_law_in (a : Option Addr) (len cap : Nat) (zs : List Int) (w : World) (hlen : len ≤ 1048576) (h : CodeIs w a len cap zs) :
    Calls Try.prog 6 #[.slice a len cap] w fun e w' => e = .returned (.bool true) ∧ Below w.heap.size w w' := by
  go_enter Try.func6, Try.ntmps6
  go_wp2_with fail
  refine (big_no a len cap w hlen).mono ?_
  rintro e w ⟨rfl, rfl⟩
  go_wp2_with fail
  refine (drRFrac a len cap zs w hlen h).mono ?_
  rintro e w1 ⟨v1, u1, ra, rb, m, rfl, Ra, Rb, la, lb, m0, m1, B⟩
  clear h
  obtain ⟨s1, rfl, q1⟩ := id Ra
  obtain ⟨ad1, cp1, rfl, -⟩ := q1
  obtain ⟨t1, rfl, p1⟩ := id Rb
  obtain ⟨ae1, cq1, rfl, -⟩ := p1
  have bb := below1 w1 (.cells #[.bool ra.1, .slice ad1 ra.2.length cp1] 26)
  replace Ra := Ra.below bb (Nat.le_refl _)
  replace Rb := Rb.below bb (Nat.le_refl _)
  replace B := B.trans (bb.mono B.size)
  clear bb
  have Xa := BoxW.made w1 (.bool ra.1) (.slice ad1 ra.2.length cp1) 26
  have bb := below1 (w1.alloc (.cells #[.bool ra.1, .slice ad1 ra.2.length cp1] 26)) (.cells #[.bool rb.1, .slice ae1 rb.2.length cq1] 26)
  replace Ra := Ra.below bb (Nat.le_refl _)
  replace Rb := Rb.below bb (Nat.le_refl _)
  replace Xa := Xa.below bb (Nat.le_refl _)
  replace B := B.trans (bb.mono B.size)
  clear bb
  have Xb := BoxW.made (w1.alloc (.cells #[.bool ra.1, .slice ad1 ra.2.length cp1] 26)) (.bool rb.1) (.slice ae1 rb.2.length cq1) 26
  have hsz : (w1.alloc (.cells #[.bool ra.1, .slice ad1 ra.2.length cp1] 26)).heap.size = w1.heap.size + 1 := by simp
  rw [hsz] at Xb
  clear hsz
  obtain ⟨x, ok, y, fine, z, want, f1, f2, f3, lx, ly, ln, lny, lz, f4⟩ := turn_facts ra rb m
  have kN := fun W (h : rowW W (.agg #[.bool ra.1, .slice ad1 ra.2.length cp1]) ra) => iWholeNeg _ ra W h (by omega)
  have kF := fun (v1 v2 : Value) (W : World) (h1 : rowW W v1 (wnegR ra)) (h2 : rowW W v2 rb) => iRoundFrac v1 v2 (wnegR ra) rb m W h1 h2 (by omega) (by omega)
  rw [f1] at kF
  have kY := fun (v1 v2 : Value) (W : World) (h1 : rowW W v1 ra) (h2 : rowW W v2 rb) => iRoundFrac v1 v2 ra rb (turnedR m) W h1 h2 (by omega) (by omega)
  rw [f2] at kY
  have kT := fun W => turnedV m W
  clear f1 f2
  generalize wnegR ra = na at *
  have HT : Hid (turnedR m = turnedR m) := rfl
  obtain ⟨tm, htm⟩ : ∃ t, turnedR m = t := ⟨_, rfl⟩
  rw [htm] at kY kT f4
  have kT2 := fun W => iTurned tm W
  have kT1 := fun W => iTurned m W
  rw [htm] at kT1
  clear htm HT
  have kY : ∀ (v1 v2 v3 : Value) (W : World), rowW W v1 ra → rowW W v2 rb → v3 = .int .i64 tm → Calls Try.prog 24 #[v1, v2, v3] W fun e w' => ∃ v, e = .returned (.tuple #[v, .bool fine]) ∧ ownsW w' W.heap.size v y ∧ Below W.heap.size W w' := by
    intro v1 v2 v3 W h1 h2 h3
    subst h3
    exact kY v1 v2 W h1 h2
  have c0a := Xa.c0
  have c1a := Xa.c1
  have c0b := Xb.c0
  have c1b := Xb.c1
  go_wp2_with fail
  clear c0a c1a c0b c1b
  generalize (w1.alloc (.cells #[.bool ra.1, .slice ad1 ra.2.length cp1] 26)).alloc (.cells #[.bool rb.1, .slice ae1 rb.2.length cq1] 26) = w2 at *
  have oa := Xa
  have ob := Xb
  apply wp_cutW (r := x) (base := w2.heap.size) (W := w2)
  case hA =>
    obtain ⟨vs1, -⟩ : ∃ v : Value, v = v := ⟨undef, rfl⟩
    have C0 : Below w2.heap.size w2 w2.drew := (Below.refl w2.heap.size w2).drew
    have hC0 : w2.heap.size ≤ w2.drew.heap.size := C0.size
    have ka := oa.below C0 (Nat.le_refl _)
    have kb := ob.below C0 (Nat.le_refl _)
    have ka0 := ka.c0
    have ka1 := ka.c1
    have kb0 := kb.c0
    have kb1 := kb.c1
    have CZ : Below w2.heap.size w2 (w2.alloc (.cells #[.bool false, .slice none 0 0] 26)).drew := (below1 w2 (.cells #[.bool false, .slice none 0 0] 26)).drew
    have hCZ : w2.heap.size ≤ (w2.alloc (.cells #[.bool false, .slice none 0 0] 26)).drew.heap.size := CZ.size
    have obz := (BoxW.made w2 (.bool false) (.slice none 0 0) 26).below ((Below.refl (w2.alloc (.cells #[.bool false, .slice none 0 0] 26)).heap.size (w2.alloc (.cells #[.bool false, .slice none 0 0] 26))).drew) (Nat.le_refl _)
    have hbz : w2.heap.size < (w2.alloc (.cells #[.bool false, .slice none 0 0] 26)).drew.heap.size := obz.hi
    have kza := oa.below CZ (Nat.le_refl _)
    have kza0 := kza.c0
    have kza1 := kza.c1
    have kzb := ob.below CZ (Nat.le_refl _)
    have kzb0 := kzb.c0
    have kzb1 := kzb.c1
    have hia := oa.hi
    have hib := ob.hi
    have nza : ¬ (w2.heap.size = w1.heap.size) := by omega
    have nya : ¬ (w1.heap.size = w2.heap.size) := by omega
    have nzb : ¬ (w2.heap.size = w1.heap.size + 1) := by omega
    have nyb : ¬ (w1.heap.size + 1 = w2.heap.size) := by omega
    go_region_held (fun w' => w'.cell? ⟨w1.heap.size, 0, none⟩ = some (.bool ra.1) ∧ w'.cell? ⟨w1.heap.size, 1, none⟩ = some (.slice ad1 ra.2.length cp1) ∧ w'.cell? ⟨w1.heap.size + 1, 0, none⟩ = some (.bool rb.1) ∧ w'.cell? ⟨w1.heap.size + 1, 1, none⟩ = some (.slice ae1 rb.2.length cq1)) (go_keep) (first
      | (go_at_call 16
         (first
           | (refine (kN (w2.drew) (Ra.below C0 (Nat.le_refl _))).mono ?_; rintro e wc1 ⟨vs0, rfl, os0, bb1⟩; have C1 := C0.trans (bb1.mono hC0); have hC1 := Nat.le_trans hC0 bb1.size)
           | (refine (kN ((w2.alloc (.cells #[.bool false, .slice none 0 0] 26)).drew) (Ra.below CZ (Nat.le_refl _))).mono ?_; rintro e wc1 ⟨vs0, rfl, os0, bb1⟩; have C1 := CZ.trans (bb1.mono hCZ); have hC1 := Nat.le_trans hCZ bb1.size; have obx := obz.below bb1 (Nat.le_refl _); have hbx := Nat.lt_of_lt_of_le hbz bb1.size)
           )
         have ka := oa.below C1 (Nat.le_refl _)
         have kb := ob.below C1 (Nat.le_refl _)
         have ka0 := ka.c0
         have ka1 := ka.c1
         have kb0 := kb.c0
         have kb1 := kb.c1)
      | (go_at_call 24
         (first
           | (have qx := obx; refine (kF vs0 _ (wc1) os0.row (Rb.below C1 (Nat.le_refl _))).mono ?_; rintro e wc2 ⟨vF, rfl, oF, bb2⟩; have os0 := os0.below bb2 (Nat.le_refl _); have hBF := hC1; have hXF := qx.hi; have C2 := C1.trans (bb2.mono hC1); have hC2 := Nat.le_trans hC1 bb2.size; have obx := qx.below bb2 (Nat.le_refl _); clear qx)
           | (refine (kF vs0 _ (wc1) os0.row (Rb.below C1 (Nat.le_refl _))).mono ?_; rintro e wc2 ⟨vF, rfl, oF, bb2⟩; have os0 := os0.below bb2 (Nat.le_refl _); have hBF := hC1; have C2 := C1.trans (bb2.mono hC1); have hC2 := Nat.le_trans hC1 bb2.size)
           | (have CA := C1.alloc hC1 (.cells #[.bool false, .slice none 0 0] 26); refine (kF vs0 _ ((wc1.alloc (.cells #[.bool false, .slice none 0 0] 26))) (os0.below (below1 wc1 (.cells #[.bool false, .slice none 0 0] 26)) (Nat.le_refl _)).row (Rb.below CA (Nat.le_refl _))).mono ?_; rintro e wc2 ⟨vF, rfl, oF, bb2⟩; have os0 := (os0.below (below1 wc1 (.cells #[.bool false, .slice none 0 0] 26)) (Nat.le_refl _)).below bb2 (Nat.le_refl _); have hBF : w2.heap.size ≤ (wc1.alloc (.cells #[.bool false, .slice none 0 0] 26)).heap.size := Nat.le_trans hC1 (below1 wc1 (.cells #[.bool false, .slice none 0 0] 26)).size; have hXF : wc1.heap.size < (wc1.alloc (.cells #[.bool false, .slice none 0 0] 26)).heap.size := (by simp); have C2 := CA.trans (bb2.mono (Nat.le_trans hC1 (below1 wc1 (.cells #[.bool false, .slice none 0 0] 26)).size)); have hC2 := Nat.le_trans (Nat.le_trans hC1 (below1 wc1 (.cells #[.bool false, .slice none 0 0] 26)).size) bb2.size; have obx := ((BoxW.made wc1 (.bool false) (.slice none 0 0) 26).mono hC1).below bb2 (Nat.le_refl _); have hbx : wc1.heap.size < (wc1.alloc (.cells #[.bool false, .slice none 0 0] 26)).heap.size := (by simp); have naa : ¬ (wc1.heap.size = w1.heap.size) := (by omega); have nba : ¬ (w1.heap.size = wc1.heap.size) := (by omega); have nab : ¬ (wc1.heap.size = w1.heap.size + 1) := (by omega); have nbb : ¬ (w1.heap.size + 1 = wc1.heap.size) := (by omega))
           )
         have ka := oa.below C2 (Nat.le_refl _)
         have kb := ob.below C2 (Nat.le_refl _)
         have ka0 := ka.c0
         have ka1 := ka.c1
         have kb0 := kb.c0
         have kb1 := kb.c1
         obtain ⟨sF, rfl, hqF⟩ := id oF
         obtain ⟨ad, cp, rfl, -⟩ := hqF.row
         clear hqF
         have nua : ¬ (wc2.heap.size = w1.heap.size) := by omega
         have nva : ¬ (w1.heap.size = wc2.heap.size) := by omega
         have nub : ¬ (wc2.heap.size = w1.heap.size + 1) := by omega
         have nvb : ¬ (w1.heap.size + 1 = wc2.heap.size) := by omega
         (try have ox0 := obx.c0)
         (try have ox1 := obx.c1)
         (try have ox2 := obx.f0)
         (try have ox3 := obx.f1))
      )
    all_goals first
      | (have hcut := cut_old obx oF hBF hXF C2 (.bool x.1) (.slice ad x.2.length cp); exact cutM_in vs0 vs1 ad cp _ rfl hcut)
      | (have hcut := cut_new oF hBF hC2 C2 26 (.bool x.1) (.slice ad x.2.length cp); generalize wc2.heap.size = bx at *; exact cutM_in vs0 vs1 ad cp bx rfl hcut)
  intro vs0 vs1 ad3 cp3 bk3 w3 oN3 oX3 dX3 b3
  replace Ra := Ra.below b3 (Nat.le_refl _)
  replace Rb := Rb.below b3 (Nat.le_refl _)
  replace Xa := Xa.below b3 (Nat.le_refl _)
  replace Xb := Xb.below b3 (Nat.le_refl _)
  replace B := B.trans (b3.mono B.size)
  clear oa ob
  have Rx := oN3.row
  have Xx := oX3
  clear oN3 oX3 dX3 b3
  have c0a := Xa.c0
  have c1a := Xa.c1
  have c0b := Xb.c0
  have c1b := Xb.c1
  have c0x := Xx.c0
  have c1x := Xx.c1
  go_wp2_with fail
  clear c0a c1a c0b c1b c0x c1x
  have oa := Xa
  have ob := Xb
  apply wp_cutW (r := y) (base := w3.heap.size) (W := w3)
  case hA =>
    obtain ⟨vs1, -⟩ : ∃ v : Value, v = v := ⟨undef, rfl⟩
    have C0 : Below w3.heap.size w3 w3.drew := (Below.refl w3.heap.size w3).drew
    have hC0 : w3.heap.size ≤ w3.drew.heap.size := C0.size
    have ka := oa.below C0 (Nat.le_refl _)
    have kb := ob.below C0 (Nat.le_refl _)
    have ka0 := ka.c0
    have ka1 := ka.c1
    have kb0 := kb.c0
    have kb1 := kb.c1
    have CZ : Below w3.heap.size w3 (w3.alloc (.cells #[.bool false, .slice none 0 0] 26)).drew := (below1 w3 (.cells #[.bool false, .slice none 0 0] 26)).drew
    have hCZ : w3.heap.size ≤ (w3.alloc (.cells #[.bool false, .slice none 0 0] 26)).drew.heap.size := CZ.size
    have obz := (BoxW.made w3 (.bool false) (.slice none 0 0) 26).below ((Below.refl (w3.alloc (.cells #[.bool false, .slice none 0 0] 26)).heap.size (w3.alloc (.cells #[.bool false, .slice none 0 0] 26))).drew) (Nat.le_refl _)
    have hbz : w3.heap.size < (w3.alloc (.cells #[.bool false, .slice none 0 0] 26)).drew.heap.size := obz.hi
    have kza := oa.below CZ (Nat.le_refl _)
    have kza0 := kza.c0
    have kza1 := kza.c1
    have kzb := ob.below CZ (Nat.le_refl _)
    have kzb0 := kzb.c0
    have kzb1 := kzb.c1
    have hia := oa.hi
    have hib := ob.hi
    have nza : ¬ (w3.heap.size = w1.heap.size) := by omega
    have nya : ¬ (w1.heap.size = w3.heap.size) := by omega
    have nzb : ¬ (w3.heap.size = w1.heap.size + 1) := by omega
    have nyb : ¬ (w1.heap.size + 1 = w3.heap.size) := by omega
    go_region_held (fun w' => w'.cell? ⟨w1.heap.size, 0, none⟩ = some (.bool ra.1) ∧ w'.cell? ⟨w1.heap.size, 1, none⟩ = some (.slice ad1 ra.2.length cp1) ∧ w'.cell? ⟨w1.heap.size + 1, 0, none⟩ = some (.bool rb.1) ∧ w'.cell? ⟨w1.heap.size + 1, 1, none⟩ = some (.slice ae1 rb.2.length cq1)) (go_keep) (first
      | (go_at_call 27
         (first
           | (refine (kT (w3.drew)).mono ?_; rintro e wc1 ⟨vs0, rfl, os0, bb1⟩; have C1 := C0.trans (bb1.mono hC0); have hC1 := Nat.le_trans hC0 bb1.size)
           | (refine (kT ((w3.alloc (.cells #[.bool false, .slice none 0 0] 26)).drew)).mono ?_; rintro e wc1 ⟨vs0, rfl, os0, bb1⟩; have C1 := CZ.trans (bb1.mono hCZ); have hC1 := Nat.le_trans hCZ bb1.size; have obx := obz.below bb1 (Nat.le_refl _); have hbx := Nat.lt_of_lt_of_le hbz bb1.size)
           )
         have ka := oa.below C1 (Nat.le_refl _)
         have kb := ob.below C1 (Nat.le_refl _)
         have ka0 := ka.c0
         have ka1 := ka.c1
         have kb0 := kb.c0
         have kb1 := kb.c1)
      | (go_at_call 24
         (first
           | (have qx := obx; refine (kY _ _ vs0 (wc1) (Ra.below C1 (Nat.le_refl _)) (Rb.below C1 (Nat.le_refl _)) os0).mono ?_; rintro e wc2 ⟨vF, rfl, oF, bb2⟩; have os0 := os0.below bb2 (Nat.le_refl _); have hBF := hC1; have hXF := qx.hi; have C2 := C1.trans (bb2.mono hC1); have hC2 := Nat.le_trans hC1 bb2.size; have obx := qx.below bb2 (Nat.le_refl _); clear qx)
           | (refine (kY _ _ vs0 (wc1) (Ra.below C1 (Nat.le_refl _)) (Rb.below C1 (Nat.le_refl _)) os0).mono ?_; rintro e wc2 ⟨vF, rfl, oF, bb2⟩; have os0 := os0.below bb2 (Nat.le_refl _); have hBF := hC1; have C2 := C1.trans (bb2.mono hC1); have hC2 := Nat.le_trans hC1 bb2.size)
           | (have CA := C1.alloc hC1 (.cells #[.bool false, .slice none 0 0] 26); refine (kY _ _ vs0 ((wc1.alloc (.cells #[.bool false, .slice none 0 0] 26))) (Ra.below CA (Nat.le_refl _)) (Rb.below CA (Nat.le_refl _)) os0).mono ?_; rintro e wc2 ⟨vF, rfl, oF, bb2⟩; have os0 := (os0.below (below1 wc1 (.cells #[.bool false, .slice none 0 0] 26)) (Nat.le_refl _)).below bb2 (Nat.le_refl _); have hBF : w3.heap.size ≤ (wc1.alloc (.cells #[.bool false, .slice none 0 0] 26)).heap.size := Nat.le_trans hC1 (below1 wc1 (.cells #[.bool false, .slice none 0 0] 26)).size; have hXF : wc1.heap.size < (wc1.alloc (.cells #[.bool false, .slice none 0 0] 26)).heap.size := (by simp); have C2 := CA.trans (bb2.mono (Nat.le_trans hC1 (below1 wc1 (.cells #[.bool false, .slice none 0 0] 26)).size)); have hC2 := Nat.le_trans (Nat.le_trans hC1 (below1 wc1 (.cells #[.bool false, .slice none 0 0] 26)).size) bb2.size; have obx := ((BoxW.made wc1 (.bool false) (.slice none 0 0) 26).mono hC1).below bb2 (Nat.le_refl _); have hbx : wc1.heap.size < (wc1.alloc (.cells #[.bool false, .slice none 0 0] 26)).heap.size := (by simp); have naa : ¬ (wc1.heap.size = w1.heap.size) := (by omega); have nba : ¬ (w1.heap.size = wc1.heap.size) := (by omega); have nab : ¬ (wc1.heap.size = w1.heap.size + 1) := (by omega); have nbb : ¬ (w1.heap.size + 1 = wc1.heap.size) := (by omega))
           )
         have ka := oa.below C2 (Nat.le_refl _)
         have kb := ob.below C2 (Nat.le_refl _)
         have ka0 := ka.c0
         have ka1 := ka.c1
         have kb0 := kb.c0
         have kb1 := kb.c1
         obtain ⟨sF, rfl, hqF⟩ := id oF
         obtain ⟨ad, cp, rfl, -⟩ := hqF.row
         clear hqF
         have nua : ¬ (wc2.heap.size = w1.heap.size) := by omega
         have nva : ¬ (w1.heap.size = wc2.heap.size) := by omega
         have nub : ¬ (wc2.heap.size = w1.heap.size + 1) := by omega
         have nvb : ¬ (w1.heap.size + 1 = wc2.heap.size) := by omega
         (try have ox0 := obx.c0)
         (try have ox1 := obx.c1)
         (try have ox2 := obx.f0)
         (try have ox3 := obx.f1))
      )
    all_goals first
      | (have hcut := cut_old obx oF hBF hXF C2 (.bool y.1) (.slice ad y.2.length cp); exact cutM_in vs0 vs1 ad cp _ rfl hcut)
      | (have hcut := cut_new oF hBF hC2 C2 26 (.bool y.1) (.slice ad y.2.length cp); generalize wc2.heap.size = bx at *; exact cutM_in vs0 vs1 ad cp bx rfl hcut)
  intro vs0 vs1 ad4 cp4 bk4 w4 oN4 oX4 dX4 b4
  replace Ra := Ra.below b4 (Nat.le_refl _)
  replace Rb := Rb.below b4 (Nat.le_refl _)
  replace Rx := Rx.below b4 (Nat.le_refl _)
  replace Xa := Xa.below b4 (Nat.le_refl _)
  replace Xb := Xb.below b4 (Nat.le_refl _)
  replace Xx := Xx.below b4 (Nat.le_refl _)
  replace B := B.trans (b4.mono B.size)
  clear oa ob
  have Ry := oN4.row
  have Xy := oX4
  clear oN4 oX4 dX4 b4
  clear kN kF kY kT
  have c0a := Xa.c0
  have c1a := Xa.c1
  have c0b := Xb.c0
  have c1b := Xb.c1
  have c0x := Xx.c0
  have c1x := Xx.c1
  have c0y := Xy.c0
  have c1y := Xy.c1
  go_wp2_with fail
  clear c0a c1a c0b c1b c0x c1x c0y c1y
  have k5 := sRoundFrac _ _ ra rb m w4 Ra Rb (by omega) (by omega)
  rw [f3] at k5
  refine k5.mono ?_
  rintro e w5 ⟨v5, rfl, o5, b5⟩
  replace Ra := Ra.below b5 (Nat.le_refl _)
  replace Rb := Rb.below b5 (Nat.le_refl _)
  replace Rx := Rx.below b5 (Nat.le_refl _)
  replace Ry := Ry.below b5 (Nat.le_refl _)
  replace Xa := Xa.below b5 (Nat.le_refl _)
  replace Xb := Xb.below b5 (Nat.le_refl _)
  replace Xx := Xx.below b5 (Nat.le_refl _)
  replace Xy := Xy.below b5 (Nat.le_refl _)
  replace B := B.trans (b5.mono B.size)
  clear b5 k5
  obtain ⟨s5, rfl, q5⟩ := o5
  obtain ⟨ad5, cp5, rfl, -⟩ := q5.row
  clear q5
  have d0a := Xa.c0
  have d1a := Xa.c1
  have dha := Xa.hi
  have d0b := Xb.c0
  have d1b := Xb.c1
  have dhb := Xb.hi
  have d0x := Xx.c0
  have d1x := Xx.c1
  have dhx := Xx.hi
  have d0y := Xy.c0
  have d1y := Xy.c1
  have dhy := Xy.hi
  have bb := below1 w5 (.cells #[.bool z.1, .slice ad5 z.2.length cp5] 26)
  replace Ra := Ra.below bb (Nat.le_refl _)
  replace Rb := Rb.below bb (Nat.le_refl _)
  replace Rx := Rx.below bb (Nat.le_refl _)
  replace Ry := Ry.below bb (Nat.le_refl _)
  replace Xa := Xa.below bb (Nat.le_refl _)
  replace Xb := Xb.below bb (Nat.le_refl _)
  replace Xx := Xx.below bb (Nat.le_refl _)
  replace Xy := Xy.below bb (Nat.le_refl _)
  replace B := B.trans (bb.mono B.size)
  clear bb
  have Xz5 := BoxW.made w5 (.bool z.1) (.slice ad5 z.2.length cp5) 26
  clear f3
  rcases f4 with ⟨rfl, rfl, rfl, f5, f6⟩ | ⟨rfl, rfl, rfl, f5⟩ | ⟨f5, rfl, rfl, rfl⟩
  · have HX : Hid (decide (x = wnegR y) = true) := decide_eq_true f5
    have HM : Hid (turnedR tm = m) := f6
    clear f5 f6
    have c0a := Xa.c0
    have c1a := Xa.c1
    have c0b := Xb.c0
    have c1b := Xb.c1
    have c0x := Xx.c0
    have c1x := Xx.c1
    have c0y := Xy.c0
    have c1y := Xy.c1
    have c0z5 := Xz5.c0
    have c1z5 := Xz5.c1
    go_wp2_with fail
    clear c0a c1a c0b c1b c0x c1x c0y c1y c0z5 c1z5
    clear d0a d1a dha d0b d1b dhb d0x d1x dhx d0y d1y dhy
    generalize w5.alloc (.cells #[.bool z.1, .slice ad5 z.2.length cp5] 26) = w6 at *
    have bd := (Below.refl w6.heap.size w6).drew
    replace Rx := Rx.below bd (Nat.le_refl _)
    replace Ry := Ry.below bd (Nat.le_refl _)
    replace Xx := Xx.below bd (Nat.le_refl _)
    replace Xy := Xy.below bd (Nat.le_refl _)
    replace B := B.trans (bd.mono B.size)
    have Sx := (⟨Xx.c0, Xx.c1, Xy.c0, Xy.c1⟩ : _ ∧ _ ∧ _ ∧ _)
    refine wp_region_held_drew (S := fun W => W.cell? ⟨bk3, 0, none⟩ = some (.bool x.1) ∧ W.cell? ⟨bk3, 1, none⟩ = some (.slice ad3 x.2.length cp3) ∧ W.cell? ⟨bk4, 0, none⟩ = some (.bool y.1) ∧ W.cell? ⟨bk4, 1, none⟩ = some (.slice ad4 y.2.length cp4)) (by kernel_rfl) Sx ?_
    intro hHeld
    clear bd
    generalize w6.drew = wq at *
    refine takeH 0 (some 64) (.agg #[.bool x.1, .slice ad3 x.2.length cp3]) rfl rfl (by kernel_rfl) (by kernel_rfl) (by kernel_rfl) (fun _ _ _ h => h) (Or.inl ⟨rfl, fun W hW => by obtain ⟨_a, _b, _, _⟩ := hW; go_simp⟩) (by assumption) ?_
    simp only [Act.put, List.setIfInBounds_toArray, List.set_cons_zero, List.set_cons_succ]
    refine takeH 1 (some 65) (.agg #[.bool y.1, .slice ad4 y.2.length cp4]) rfl rfl (by kernel_rfl) (by kernel_rfl) (by kernel_rfl) (fun _ _ _ h => h) (Or.inl ⟨rfl, fun W hW => by obtain ⟨_, _, _a, _b⟩ := hW; go_simp⟩) (by assumption) ?_
    simp only [Act.put, List.setIfInBounds_toArray, List.set_cons_zero, List.set_cons_succ]
    refine oneH 2 rfl (by kernel_rfl) (fun K' hK => ?_)
    go_simp
    refine (iWholeNeg _ y _ Ry (by omega)).mono ?_
    rintro e wr ⟨vn, rfl, on, bn⟩
    replace Rx := Rx.below bn (Nat.le_refl _)
    replace Xx := Xx.below bn (Nat.le_refl _)
    replace Xy := Xy.below bn (Nat.le_refl _)
    replace B := B.trans (bn.mono B.size)
    refine hK _ _ ⟨Xx.c0, Xx.c1, Xy.c0, Xy.c1⟩ ?_
    clear hK hHeld
    have kS := sameWh _ _ x (wnegR y) _ Rx on.row (by omega)
    rw [HX.out] at kS
    refine oneH 3 rfl (by kernel_rfl) (fun K' hK => ?_)
    go_simp
    refine kS.mono ?_
    rintro e ws ⟨rfl, bs⟩
    replace Xx := Xx.below bs (Nat.le_refl _)
    replace Xy := Xy.below bs (Nat.le_refl _)
    replace B := B.trans (bs.mono B.size)
    refine hK _ _ ⟨Xx.c0, Xx.c1, Xy.c0, Xy.c1⟩ ?_
    clear hK kS on bn bs
    have hHeld := (⟨Xx.c0, Xx.c1, Xy.c0, Xy.c1⟩ : _ ∧ _ ∧ _ ∧ _)
    refine takeH 4 (some 68) (.bool true) rfl rfl (by kernel_rfl) (by kernel_rfl) (by kernel_rfl) (fun _ _ _ h => h) (yg_move rfl (.tmp 67) rfl _ rfl) (by assumption) ?_
    simp only [Act.put, List.setIfInBounds_toArray, List.set_cons_zero, List.set_cons_succ]
    refine takeH 5 (some 69) (.int .i64 m) rfl rfl (by kernel_rfl) (by kernel_rfl) (by kernel_rfl) (fun _ _ _ h => h) (yg_move rfl (.tmp 5) rfl _ rfl) (by assumption) ?_
    simp only [Act.put, List.setIfInBounds_toArray, List.set_cons_zero, List.set_cons_succ]
    refine takeH 8 (some 72) (.int .i64 m) rfl rfl (by kernel_rfl) (by kernel_rfl) (by kernel_rfl) (fun _ _ _ h => h) (yg_move rfl (.tmp 5) rfl _ rfl) (by assumption) ?_
    simp only [Act.put, List.setIfInBounds_toArray, List.set_cons_zero, List.set_cons_succ]
    refine oneH 6 rfl (by kernel_rfl) (fun K' hK => ?_)
    go_simp
    refine (kT1 _).mono ?_
    rintro e wt ⟨rfl, bt⟩
    replace Xx := Xx.below bt (Nat.le_refl _)
    replace Xy := Xy.below bt (Nat.le_refl _)
    replace B := B.trans (bt.mono B.size)
    refine hK _ _ ⟨Xx.c0, Xx.c1, Xy.c0, Xy.c1⟩ ?_
    clear hK hHeld
    have kU := kT2 wt
    rw [HM.out] at kU
    refine oneH 7 rfl (by kernel_rfl) (fun K' hK => ?_)
    go_simp
    refine kU.mono ?_
    rintro e wu ⟨rfl, bu⟩
    replace Xx := Xx.below bu (Nat.le_refl _)
    replace Xy := Xy.below bu (Nat.le_refl _)
    replace B := B.trans (bu.mono B.size)
    refine hK _ _ ⟨Xx.c0, Xx.c1, Xy.c0, Xy.c1⟩ ?_
    clear hK kU
    have hHeld := (⟨Xx.c0, Xx.c1, Xy.c0, Xy.c1⟩ : _ ∧ _ ∧ _ ∧ _)
    refine takeH 9 (some 73) (.bool true) rfl rfl (by kernel_rfl) (by kernel_rfl) (by kernel_rfl) (fun _ _ _ h => h) (Or.inl ⟨rfl, fun W hW => by obtain _ := hW; go_simp⟩) (by assumption) ?_
    simp only [Act.put, List.setIfInBounds_toArray, List.set_cons_zero, List.set_cons_succ]
    refine takeH 10 (some 74) (.bool true) rfl rfl (by kernel_rfl) (by kernel_rfl) (by kernel_rfl) (fun _ _ _ h => h) (Or.inl ⟨rfl, fun W hW => by obtain _ := hW; go_simp⟩) (by assumption) ?_
    simp only [Act.put, List.setIfInBounds_toArray, List.set_cons_zero, List.set_cons_succ]
    refine takeH 11 (some 2) (.bool true) rfl rfl (by kernel_rfl) (by kernel_rfl) (by kernel_rfl) (fun _ _ _ h => h) (yg_assign rfl (.tmp 74) rfl _ rfl) (by assumption) ?_
    simp only [Act.put, List.setIfInBounds_toArray, List.set_cons_zero, List.set_cons_succ]
    refine wpAnyH_done (by kernel_rfl) ?_ _
    clear hHeld
    go_wp2
    go_ret
    exact ⟨rfl, B⟩
  · subst f5
    have c0a := Xa.c0
    have c1a := Xa.c1
    have c0b := Xb.c0
    have c1b := Xb.c1
    have c0x := Xx.c0
    have c1x := Xx.c1
    have c0y := Xy.c0
    have c1y := Xy.c1
    have c0z5 := Xz5.c0
    have c1z5 := Xz5.c1
    go_wp2
    go_ret
    exact ⟨rfl, B⟩
  · have c0a := Xa.c0
    have c1a := Xa.c1
    have c0b := Xb.c0
    have c1b := Xb.c1
    have c0x := Xx.c0
    have c1x := Xx.c1
    have c0y := Xy.c0
    have c1y := Xy.c1
    have c0z5 := Xz5.c0
    have c1z5 := Xz5.c1
    go_wp2_with fail
    clear c0a c1a c0b c1b c0x c1x c0y c1y c0z5 c1z5
    clear d0a d1a dha d0b d1b dhb d0x d1x dhx d0y d1y dhy
    generalize w5.alloc (.cells #[.bool z.1, .slice ad5 z.2.length cp5] 26) = w6 at *
    have k7 := sWholeOk _ ra w6 Ra (by omega)
    rw [f5] at k7
    refine k7.mono ?_
    rintro e w7 ⟨rfl, b7⟩
    replace Ra := Ra.below b7 (Nat.le_refl _)
    replace Rb := Rb.below b7 (Nat.le_refl _)
    replace Rx := Rx.below b7 (Nat.le_refl _)
    replace Ry := Ry.below b7 (Nat.le_refl _)
    replace Xa := Xa.below b7 (Nat.le_refl _)
    replace Xb := Xb.below b7 (Nat.le_refl _)
    replace Xx := Xx.below b7 (Nat.le_refl _)
    replace Xy := Xy.below b7 (Nat.le_refl _)
    replace Xz5 := Xz5.below b7 (Nat.le_refl _)
    replace B := B.trans (b7.mono B.size)
    clear k7 b7
    have c0a := Xa.c0
    have c1a := Xa.c1
    have c0b := Xb.c0
    have c1b := Xb.c1
    have c0x := Xx.c0
    have c1x := Xx.c1
    have c0y := Xy.c0
    have c1y := Xy.c1
    have c0z5 := Xz5.c0
    have c1z5 := Xz5.c1
    go_wp2
    go_ret
    exact ⟨rfl, B⟩

set_option maxRecDepth 20000 in
set_option maxHeartbeats 1600000 in
theorem walkTurned (a0 : Option Addr) (len0 cap0 : Nat) (z0 : List Int) (w : World) (h : IsRow .u8 w a0 len0 cap0 z0) :
    Calls Try.prog 6 #[.slice a0 len0 cap0] w fun e w' => e = .returned (.bool true) ∧ Below w.heap.size w w' := by
  refine law_big _ (fun a len cap w hs => ?_) turned_law_in a0 len0 cap0 z0 w h
  go_enter Try.func6, Try.ntmps6
  go_wp2_with (go_at_call 9; refine (big_yes a len cap w hs).mono ?_; rintro e w ⟨rfl, rfl⟩)
  go_ret
  exact ⟨rfl, Below.refl _ _⟩

end Go.Proofs.Ytlnpfjnpnjiepaa
