/- RawIv of the specification and of the program, each by its contract. -/
import Derived.Test.YtdpcobcaodlgiaaMovedF
import Derived.Test.YtdpcobcaodlgiaaMoveS
import Derived.Test.YtdpcobcaodlgiaaVTop
import Derived.Test.YtdpcobcaodlgiaaSWholeOf
namespace Go.Proofs.Ytdpcobcaodlgiaa
open Go.RowKit
set_option linter.unusedSimpArgs false

def askP (v f p : Int) : Prop := (-2305843009213693952 ≤ v ∧ v ≤ 2305843009213693952) ∧ (0 ≤ f ∧ f ≤ 60) ∧ 1 ≤ p ∧ p ≤ 300
instance (v f p : Int) : Decidable (askP v f p) := by unfold askP; infer_instance
def rawR (v f p : Int) : Vh × Int := if askP v f p then ((mkW (mvLo v (p - f)), mkW (mvHi v (p - f))), 0) else (((false, []), (false, [])), 4)
theorem pow_le2 (k L : Nat) (h : k ≤ L) : (2 : Nat) ^ k ≤ 2 ^ L := Nat.pow_le_pow_right (Nat.succ_pos 1) h
theorem e300 : ∃ E : Nat, (∀ k, k ≤ 300 → (2 : Nat) ^ k ≤ E) ∧ 2305843009213693952 * E + 1 < 16777216 ^ 48 := ⟨_, fun k h => pow_le2 k 300 h, by decide +kernel⟩
theorem mv_small (v d : Int) (hv : v.natAbs ≤ 2305843009213693952) (hd : d ≤ 300) : (limbs (mvLo v d).natAbs).length ≤ 48 ∧ (limbs (mvHi v d).natAbs).length ≤ 48 := by
  obtain ⟨E, hE, hlt⟩ := e300
  have key : ∀ z : Int, z.natAbs ≤ 2305843009213693952 * E + 1 → (limbs z.natAbs).length ≤ 48 := fun z hz => limbs_len_le _ 48 (Nat.lt_of_le_of_lt hz hlt)
  unfold mvLo mvHi
  by_cases h : 0 ≤ d
  · rw [if_pos h, if_pos h]
    obtain ⟨k, rfl⟩ : ∃ k : Nat, d = k := ⟨d.toNat, by omega⟩
    rw [Int.toNat_natCast]
    have h2 := hE k (by omega)
    have h3 : (v * 2 ^ k).natAbs ≤ 2305843009213693952 * E := by
      rw [Int.natAbs_mul, Int.natAbs_pow]
      exact Nat.mul_le_mul hv h2
    exact ⟨key _ (Nat.le_succ_of_le h3), key _ (Nat.le_succ_of_le h3)⟩
  · rw [if_neg h, if_neg h]
    generalize (-d).toNat = k
    have l3 := limbs_len3 (n := v.natAbs) (by omega)
    have h1 := ceil_len (-v) k
    have h2 := ceil_len v k
    rw [Int.natAbs_neg, Int.neg_neg] at h1
    rw [Int.natAbs_neg]
    omega
theorem fitV_sm (x y : Int) (hx : (limbs x.natAbs).length ≤ 48) (hy : (limbs y.natAbs).length ≤ 48) : (fitV x y).1 = (mkW x, mkW y) := by
  unfold fitV fitW
  rw [if_pos hx, if_pos hy]
  simp
theorem rawR_len (v f p : Int) : (rawR v f p).1.1.2.length ≤ 1048576 ∧ (rawR v f p).1.2.2.length ≤ 1048576 := by
  unfold rawR
  split
  · rename_i h
    have := mv_small v (p - f) (by have := h.1; omega) (by have := h.2; omega)
    exact ⟨Nat.le_trans this.1 (by decide), Nat.le_trans this.2 (by decide)⟩
  · simp

theorem argAt (p : Int) (w : World) : Calls Try.prog 73 #[.int .i64 p] w fun e w' => e = .returned (.bool (decide (-2305843009213693952 ≤ p ∧ p ≤ 2305843009213693952))) ∧ w' = w := by
  by_cases h1 : -2305843009213693952 ≤ p
  · by_cases h2 : p ≤ 2305843009213693952
    · rw [decide_eq_true ⟨h1, h2⟩]
      go_enter Try.func73, Try.ntmps73
      go_wp2
      go_ret
      exact ⟨rfl, rfl⟩
    · rw [decide_eq_false (by omega)]
      have h3 : decide (p ≤ 2305843009213693952) = false := decide_eq_false h2
      clear h2
      go_enter Try.func73, Try.ntmps73
      go_wp2
      go_ret
      exact ⟨rfl, rfl⟩
  · rw [decide_eq_false (by omega)]
    have h3 : decide (-2305843009213693952 ≤ p) = false := decide_eq_false h1
    clear h1
    go_enter Try.func73, Try.ntmps73
    go_wp2
    go_ret
    exact ⟨rfl, rfl⟩

theorem pointAt (p : Int) (w : World) : Calls Try.prog 72 #[.int .i64 p] w fun e w' => e = .returned (.bool (decide (0 ≤ p ∧ p ≤ 60))) ∧ w' = w := by
  by_cases h1 : 0 ≤ p
  · by_cases h2 : p ≤ 60
    · rw [decide_eq_true ⟨h1, h2⟩]
      go_enter Try.func72, Try.ntmps72
      go_wp2
      go_ret
      exact ⟨rfl, rfl⟩
    · rw [decide_eq_false (by omega)]
      have h3 : decide (p ≤ 60) = false := decide_eq_false h2
      clear h2
      go_enter Try.func72, Try.ntmps72
      go_wp2
      go_ret
      exact ⟨rfl, rfl⟩
  · rw [decide_eq_false (by omega)]
    have h3 : decide (0 ≤ p) = false := decide_eq_false h1
    clear h1
    go_enter Try.func72, Try.ntmps72
    go_wp2
    go_ret
    exact ⟨rfl, rfl⟩

theorem encAt (p : Int) (w : World) : Calls Try.prog 74 #[.int .i64 p] w fun e w' => e = .returned (.bool (decide (1 ≤ p ∧ p ≤ 300))) ∧ w' = w := by
  by_cases h1 : 1 ≤ p
  · by_cases h2 : p ≤ 300
    · rw [decide_eq_true ⟨h1, h2⟩]
      go_enter Try.func74, Try.ntmps74
      go_wp2
      go_ret
      exact ⟨rfl, rfl⟩
    · rw [decide_eq_false (by omega)]
      have h3 : decide (p ≤ 300) = false := decide_eq_false h2
      clear h2
      go_enter Try.func74, Try.ntmps74
      go_wp2
      go_ret
      exact ⟨rfl, rfl⟩
  · rw [decide_eq_false (by omega)]
    have h3 : decide (1 ≤ p) = false := decide_eq_false h1
    clear h1
    go_enter Try.func74, Try.ntmps74
    go_wp2
    go_ret
    exact ⟨rfl, rfl⟩

theorem askAt (v f p : Int) (w : World) : Calls Try.prog 43 #[.int .i64 v, .int .i64 f, .int .i64 p] w fun e w' => e = .returned (.bool (decide (askP v f p))) ∧ w' = w := by
  by_cases h1 : -2305843009213693952 ≤ v ∧ v ≤ 2305843009213693952
  case neg =>
    have k1 := fun W => argAt v W
    rw [decide_eq_false h1] at k1
    rw [decide_eq_false (fun h => h1 h.1)]
    clear h1
    go_enter Try.func43, Try.ntmps43
    go_wp2_with fail
    refine (k1 _).mono ?_
    rintro e w1 ⟨rfl, rfl⟩
    go_wp2
    go_ret
    exact ⟨rfl, rfl⟩
  have k1 := fun W => argAt v W
  rw [decide_eq_true h1] at k1
  by_cases h2 : 0 ≤ f ∧ f ≤ 60
  case neg =>
    have k2 := fun W => pointAt f W
    rw [decide_eq_false h2] at k2
    rw [decide_eq_false (fun h => h2 h.2.1)]
    clear h1 h2
    go_enter Try.func43, Try.ntmps43
    go_wp2_with fail
    refine (k1 _).mono ?_
    rintro e w1 ⟨rfl, rfl⟩
    go_wp2_with fail
    refine (k2 _).mono ?_
    rintro e w1 ⟨rfl, rfl⟩
    go_wp2
    go_ret
    exact ⟨rfl, rfl⟩
  have k2 := fun W => pointAt f W
  rw [decide_eq_true h2] at k2
  by_cases h3 : 1 ≤ p ∧ p ≤ 300
  · have k3 := fun W => encAt p W
    rw [decide_eq_true h3] at k3
    rw [decide_eq_true ⟨h1, h2, h3⟩]
    clear h1 h2 h3
    go_enter Try.func43, Try.ntmps43
    go_wp2_with fail
    refine (k1 _).mono ?_
    rintro e w1 ⟨rfl, rfl⟩
    go_wp2_with fail
    refine (k2 _).mono ?_
    rintro e w1 ⟨rfl, rfl⟩
    go_wp2_with fail
    refine (k3 _).mono ?_
    rintro e w1 ⟨rfl, rfl⟩
    go_wp2
    go_ret
    exact ⟨rfl, rfl⟩
  · have k3 := fun W => encAt p W
    rw [decide_eq_false h3] at k3
    rw [decide_eq_false (fun h => h3 h.2.2)]
    clear h1 h2 h3
    go_enter Try.func43, Try.ntmps43
    go_wp2_with fail
    refine (k1 _).mono ?_
    rintro e w1 ⟨rfl, rfl⟩
    go_wp2_with fail
    refine (k2 _).mono ?_
    rintro e w1 ⟨rfl, rfl⟩
    go_wp2_with fail
    refine (k3 _).mono ?_
    rintro e w1 ⟨rfl, rfl⟩
    go_wp2
    go_ret
    exact ⟨rfl, rfl⟩

theorem s15p (v f p : Int) (w : World) : Calls Try.prog 40 #[.int .i64 v, .int .i64 f, .int .i64 p] w fun e w' => e = .returned (.bool (decide (askP v f p))) ∧ w' = w := by
  by_cases h1 : -2305843009213693952 ≤ v ∧ v ≤ 2305843009213693952
  case neg =>
    have k1 := fun W => in_no v (-2305843009213693952) 2305843009213693952 W h1
    rw [decide_eq_false (fun h => h1 h.1)]
    clear h1
    go_enter Try.func40, Try.ntmps40
    go_wp2_with fail
    refine (k1 _).mono ?_
    rintro e w1 ⟨rfl, rfl⟩
    go_wp2
    go_ret
    exact ⟨rfl, rfl⟩
  have k1 := fun W => in_yes v (-2305843009213693952) 2305843009213693952 W h1.1 h1.2
  by_cases h2 : 0 ≤ f ∧ f ≤ 60
  case neg =>
    have k2 := fun W => in_no f 0 60 W h2
    rw [decide_eq_false (fun h => h2 h.2.1)]
    clear h1 h2
    go_enter Try.func40, Try.ntmps40
    go_wp2_with fail
    refine (k1 _).mono ?_
    rintro e w1 ⟨rfl, rfl⟩
    go_wp2_with fail
    refine (k2 _).mono ?_
    rintro e w1 ⟨rfl, rfl⟩
    go_wp2
    go_ret
    exact ⟨rfl, rfl⟩
  have k2 := fun W => in_yes f 0 60 W h2.1 h2.2
  by_cases h3 : 1 ≤ p ∧ p ≤ 300
  · have k3 := fun W => in_yes p 1 300 W h3.1 h3.2
    rw [decide_eq_true ⟨h1, h2, h3⟩]
    clear h1 h2 h3
    go_enter Try.func40, Try.ntmps40
    go_wp2_with fail
    refine (k1 _).mono ?_
    rintro e w1 ⟨rfl, rfl⟩
    go_wp2_with fail
    refine (k2 _).mono ?_
    rintro e w1 ⟨rfl, rfl⟩
    go_wp2_with fail
    refine (k3 _).mono ?_
    rintro e w1 ⟨rfl, rfl⟩
    go_wp2
    go_ret
    exact ⟨rfl, rfl⟩
  · have k3 := fun W => in_no p 1 300 W h3
    rw [decide_eq_false (fun h => h3 h.2.2)]
    clear h1 h2 h3
    go_enter Try.func40, Try.ntmps40
    go_wp2_with fail
    refine (k1 _).mono ?_
    rintro e w1 ⟨rfl, rfl⟩
    go_wp2_with fail
    refine (k2 _).mono ?_
    rintro e w1 ⟨rfl, rfl⟩
    go_wp2_with fail
    refine (k3 _).mono ?_
    rintro e w1 ⟨rfl, rfl⟩
    go_wp2
    go_ret
    exact ⟨rfl, rfl⟩

set_option maxRecDepth 20000 in
set_option maxHeartbeats 3200000 in
theorem rawAt_c (v f p : Int) (w : World) (h0 : -9223372036854775808 ≤ v) (h1 : v ≤ 9223372036854775807) (h2 : p - f ≤ 480) (h3 : -600 ≤ p - f) :
    Calls Try.prog 45 #[.int .i64 v, .int .i64 f, .int .i64 p] w (spanF (mvLo v (p - f)) (mvHi v (p - f)) w) := by
  have l3 := limbs_len3 (n := v.natAbs) (by omega)
  have kO := fun W => sOf v W h0 h1
  have kA := fun b W h => alone_c b v W h
  have kM := fun c d W h h' => movedSpan_f c d v v f p W h h' (by omega) (by omega) h2 h3
  unfold spanE at kA
  unfold spanF at *
  generalize mvLo v (p - f) = d1 at *
  generalize mvHi v (p - f) = d2 at *
  clear h0 h1 h2 h3 l3
  have R0 := BoxW.made w (.pointer none) (.pointer none) 54
  have B0 := below1 w (.cells #[.pointer none, .pointer none] 54)
  go_enter Try.func45, Try.ntmps45
  go_wp2_with fail
  refine (kO _).mono ?_
  generalize w.alloc (.cells #[.pointer none, .pointer none] 54) = w0 at *
  rintro e w1 ⟨b, rfl, hb, sb, b1⟩
  have R1 := R0.below b1 (Nat.le_refl _)
  have B1 := B0.trans (b1.mono B0.size)
  clear kO R0 B0 b1
  go_wp2_with fail
  refine (kA b _ sb).mono ?_
  rintro e w2 ⟨c, d, rfl, sc, sd, b2⟩
  have R2 := R1.below b2 (Nat.le_refl _)
  have B2 := B1.trans (b2.mono B1.size)
  clear kA R1 B1 b2 sb
  go_wp2_with fail
  refine (kM c d _ sc sd).mono ?_
  rintro e w3 ⟨c', d', rfl, sc', sd', b3, hc2, hd2⟩
  have R3 := R2.below b3 (Nat.le_refl _)
  have B3 := B2.trans (b3.mono B2.size)
  have hR := R3.hi
  have hne := R2.hi
  have hb2 := B2.size
  have tn := (tnC w3 w.heap.size 0 (.pointer (some ⟨c', 0, none⟩))).trans (tnC _ w.heap.size 1 (.pointer (some ⟨d', 0, none⟩)))
  have HC : Hid (SG _ c' d1) := sc'.tn tn (fun h => by simp at h; omega)
  have HD : Hid (SG _ d' d2) := sd'.tn tn (fun h => by simp at h; omega)
  have HB : Hid (Below w.heap.size w _) := (B3.setCell (p := ⟨w.heap.size, 0, none⟩) (Nat.le_refl _) (.pointer (some ⟨c', 0, none⟩))).setCell (p := ⟨w.heap.size, 1, none⟩) (Nat.le_refl _) (.pointer (some ⟨d', 0, none⟩))
  have HQ : Hid (w.heap.size ≤ c' ∧ w.heap.size ≤ d') := ⟨by omega, by omega⟩
  have r0 := R3.c0
  have f0 := R3.f0
  have r1 := R3.c1
  have f1 := R3.f1
  clear kM R2 B2 sc sd R3 B3 b3 sc' sd' tn
  go_wp2
  (try simp only [Exit.inBlock, Exit.then])
  refine bodyPost_ret (v := .agg #[.pointer (some ⟨c', 0, none⟩), .pointer (some ⟨d', 0, none⟩)]) ?_ rfl ⟨_, _, rfl, HC.out, HD.out, HB.out, HQ.out⟩
  rw [results_cell1 rfl]
  go_simp

set_option maxRecDepth 20000 in
set_option maxHeartbeats 3200000 in
theorem coded_c (c d : Nat) (x y : Int) (w : World) (sc : SG w c x) (sd : SG w d y) :
    Calls Try.prog 44 #[.agg #[.pointer (some ⟨c, 0, none⟩), .pointer (some ⟨d, 0, none⟩)], .int .i64 0] w fun e w' => ∃ v, e = .returned (.tuple #[v, .int .i64 0]) ∧ ownsV w' w.heap.size v (fitV x y).1 ∧ Below w.heap.size w w' := by
  have kf := fun W h1 h2 => ivFrom_c c d x y W h1 h2
  generalize fitV x y = fw at *
  obtain ⟨⟨⟨n1, l1⟩, ⟨n2, l2⟩⟩, ok3⟩ := fw
  have s1 : (w.alloc (.cells #[.pointer (some ⟨c, 0, none⟩), .pointer (some ⟨d, 0, none⟩)] 54)).heap.size = w.heap.size + 1 := by simp
  have R0 := BoxV.made (w.alloc (.cells #[.pointer (some ⟨c, 0, none⟩), .pointer (some ⟨d, 0, none⟩)] 54)) (.bool false) (.slice none 0 0) (.bool false) (.slice none 0 0) 30
  rw [s1] at R0
  have B0 := below2 w (.cells #[.pointer (some ⟨c, 0, none⟩), .pointer (some ⟨d, 0, none⟩)] 54) (.cells #[.bool false, .slice none 0 0, .bool false, .slice none 0 0] 30)
  have sc0 := sc.below B0 sc.lt
  have sd0 := sd.below B0 sd.lt
  clear s1 sc sd
  go_enter Try.func44, Try.ntmps44
  go_wp2_with fail
  refine (kf _ sc0 sd0).mono ?_
  generalize (w.alloc (.cells #[.pointer (some ⟨c, 0, none⟩), .pointer (some ⟨d, 0, none⟩)] 54)).alloc (.cells #[.bool false, .slice none 0 0, .bool false, .slice none 0 0] 30) = w4 at *
  rintro e w6 ⟨v6, rfl, o6, b6⟩
  obtain ⟨s3, s4, rfl, q3, q4, hap⟩ := o6
  obtain ⟨ad3, cp3, rfl, -⟩ := q3.row
  obtain ⟨ad4, cp4, rfl, -⟩ := q4.row
  have q3' : ownsI w6 w4.heap.size (.slice ad3 l1.length cp3) l1 := q3
  have q4' : ownsI w6 w4.heap.size (.slice ad4 l2.length cp4) l2 := q4
  have hR4 := R0.hi
  have bE := below1 w6 (.cells #[.bool n1, .slice ad3 l1.length cp3, .bool n2, .slice ad4 l2.length cp4] 30)
  have E6 := BoxV.made w6 (.bool n1) (.slice ad3 l1.length cp3) (.bool n2) (.slice ad4 l2.length cp4) 30
  have R6 := (R0.below b6 (Nat.le_refl _)).below bE (Nat.le_refl _)
  have B6 := (B0.trans (b6.mono B0.size)).trans (bE.mono (B0.trans (b6.mono B0.size)).size)
  have q5 := ownsI.below q3' bE (Nat.le_refl _)
  have q6 := ownsI.below q4' bE (Nat.le_refl _)
  have hw6 := b6.size
  have hE0 := E6.c0
  have r0 := R6.c0
  have f0 := R6.f0
  have hE1 := E6.c1
  have r1 := R6.c1
  have f1 := R6.f1
  have hE2 := E6.c2
  have r2 := R6.c2
  have f2 := R6.f2
  have hE3 := E6.c3
  have r3 := R6.c3
  have f3 := R6.f3
  have HA : Hid (ownsI _ w4.heap.size (.slice ad3 l1.length cp3) l1) := ((((q5.other (w.heap.size + 1) 0 (by omega) (.bool n1)).other (w.heap.size + 1) 1 (by omega) (.slice ad3 l1.length cp3)).other (w.heap.size + 1) 2 (by omega) (.bool n2)).other (w.heap.size + 1) 3 (by omega) (.slice ad4 l2.length cp4))
  have HZ : Hid (ownsI _ w4.heap.size (.slice ad4 l2.length cp4) l2) := ((((q6.other (w.heap.size + 1) 0 (by omega) (.bool n1)).other (w.heap.size + 1) 1 (by omega) (.slice ad3 l1.length cp3)).other (w.heap.size + 1) 2 (by omega) (.bool n2)).other (w.heap.size + 1) 3 (by omega) (.slice ad4 l2.length cp4))
  have HB : Hid (Below w.heap.size w _) := ((((B6.setCell (p := ⟨w.heap.size + 1, 0, none⟩) (by show w.heap.size ≤ w.heap.size + 1; omega) (.bool n1)).setCell (p := ⟨w.heap.size + 1, 1, none⟩) (by show w.heap.size ≤ w.heap.size + 1; omega) (.slice ad3 l1.length cp3)).setCell (p := ⟨w.heap.size + 1, 2, none⟩) (by show w.heap.size ≤ w.heap.size + 1; omega) (.bool n2)).setCell (p := ⟨w.heap.size + 1, 3, none⟩) (by show w.heap.size ≤ w.heap.size + 1; omega) (.slice ad4 l2.length cp4))
  have HP : Hid (Apart (blkI (.slice ad3 l1.length cp3)) (blkI (.slice ad4 l2.length cp4))) := hap
  have hb4 := B0.size
  have hn1 : ¬ (w6.heap.size = w.heap.size + 1) := by omega
  have hn2 : ¬ (w.heap.size + 1 = w6.heap.size) := by omega
  clear q3 q4 q3' q4' q5 q6 E6 hap R0 R6 B0 B6 b6 bE sc0 sd0 kf
  go_wp2
  (try simp only [Exit.inBlock, Exit.then])
  refine bodyPost_ret (v := .tuple #[.agg #[.bool n1, .slice ad3 l1.length cp3, .bool n2, .slice ad4 l2.length cp4], .int .i64 0]) ?_ rfl ⟨_, rfl, ⟨_, _, rfl, ownsI_mono HA.out hb4, ownsI_mono HZ.out hb4, HP.out⟩, HB.out⟩
  rw [results_cell_tmp rfl]
  go_simp

set_option maxRecDepth 20000 in
set_option maxHeartbeats 3200000 in
theorem iRawIv (v f p : Int) (w : World) (h0 : -9223372036854775808 ≤ v) (h1 : v ≤ 9223372036854775807) :
    Calls Try.prog 20 #[.int .i64 v, .int .i64 f, .int .i64 p] w fun e w' => ∃ u, e = .returned (.tuple #[u, .int .i64 (rawR v f p).2]) ∧ ownsV w' w.heap.size u (rawR v f p).1 ∧ Below w.heap.size w w' := by
  have kA := fun W => askAt v f p W
  have R0 := BoxV.made w (.bool false) (.slice none 0 0) (.bool false) (.slice none 0 0) 30
  have B0 := below1 w (.cells #[.bool false, .slice none 0 0, .bool false, .slice none 0 0] 30)
  by_cases h : askP v f p
  · have hs := mv_small v (p - f) (by have := h.1; omega) (by have := h.2; omega)
    have kR := fun W => rawAt_c v f p W h0 h1 (by have := h.2; omega) (by have := h.2; omega)
    unfold spanF at kR
    have kC := fun c d W h h' => coded_c c d (mvLo v (p - f)) (mvHi v (p - f)) W h h'
    rw [fitV_sm _ _ hs.1 hs.2] at kC
    have HR : Hid (rawR v f p = ((mkW (mvLo v (p - f)), mkW (mvHi v (p - f))), 0)) := if_pos h
    rw [decide_eq_true h] at kA
    obtain ⟨rr, hr⟩ : ∃ r, rawR v f p = r := ⟨_, rfl⟩
    rw [hr] at HR
    rw [hr]
    clear hr h hs h0 h1
    generalize mkW (mvLo v (p - f)) = m1 at *
    generalize mkW (mvHi v (p - f)) = m2 at *
    generalize mvLo v (p - f) = d1 at *
    generalize mvHi v (p - f) = d2 at *
    obtain ⟨n1, l1⟩ := m1
    obtain ⟨n2, l2⟩ := m2
    go_enter Try.func20, Try.ntmps20
    go_wp2_with fail
    refine (kA _).mono ?_
    generalize w.alloc (.cells #[.bool false, .slice none 0 0, .bool false, .slice none 0 0] 30) = w0 at *
    rintro e w1 ⟨rfl, rfl⟩
    go_wp2_with fail
    refine (kR _).mono ?_
    rintro e w2 ⟨c, d, rfl, sc, sd, b2, -, -⟩
    have R2 := R0.below b2 (Nat.le_refl _)
    have B2 := B0.trans (b2.mono B0.size)
    clear kR kA R0 B0 b2
    go_wp2_with fail
    refine (kC c d _ sc sd).mono ?_
    rintro e w6 ⟨v6, rfl, o6, b6⟩
    obtain ⟨s3, s4, rfl, q3, q4, hap⟩ := o6
    obtain ⟨ad3, cp3, rfl, -⟩ := q3.row
    obtain ⟨ad4, cp4, rfl, -⟩ := q4.row
    have q3' : ownsI w6 w2.heap.size (.slice ad3 l1.length cp3) l1 := q3
    have q4' : ownsI w6 w2.heap.size (.slice ad4 l2.length cp4) l2 := q4
    have hR4 := R2.hi
    have R6 := R2.below b6 (Nat.le_refl _)
    have B6 := B2.trans (b6.mono B2.size)
    have r0 := R6.c0
    have f0 := R6.f0
    have r1 := R6.c1
    have f1 := R6.f1
    have r2 := R6.c2
    have f2 := R6.f2
    have r3 := R6.c3
    have f3 := R6.f3
    have HA : Hid (ownsI _ w2.heap.size (.slice ad3 l1.length cp3) l1) := ((((q3'.other (w.heap.size) 0 (by omega) (.bool n1)).other (w.heap.size) 1 (by omega) (.slice ad3 l1.length cp3)).other (w.heap.size) 2 (by omega) (.bool n2)).other (w.heap.size) 3 (by omega) (.slice ad4 l2.length cp4))
    have HZ : Hid (ownsI _ w2.heap.size (.slice ad4 l2.length cp4) l2) := ((((q4'.other (w.heap.size) 0 (by omega) (.bool n1)).other (w.heap.size) 1 (by omega) (.slice ad3 l1.length cp3)).other (w.heap.size) 2 (by omega) (.bool n2)).other (w.heap.size) 3 (by omega) (.slice ad4 l2.length cp4))
    have HB : Hid (Below w.heap.size w _) := ((((B6.setCell (p := ⟨w.heap.size, 0, none⟩) (by show w.heap.size ≤ w.heap.size; omega) (.bool n1)).setCell (p := ⟨w.heap.size, 1, none⟩) (by show w.heap.size ≤ w.heap.size; omega) (.slice ad3 l1.length cp3)).setCell (p := ⟨w.heap.size, 2, none⟩) (by show w.heap.size ≤ w.heap.size; omega) (.bool n2)).setCell (p := ⟨w.heap.size, 3, none⟩) (by show w.heap.size ≤ w.heap.size; omega) (.slice ad4 l2.length cp4))
    have HP : Hid (Apart (blkI (.slice ad3 l1.length cp3)) (blkI (.slice ad4 l2.length cp4))) := hap
    have hb4 := B2.size
    clear q3 q4 q3' q4' hap R2 R6 B2 B6 b6 sc sd kC
    go_wp2
    (try simp only [Exit.inBlock, Exit.then])
    refine bodyPost_ret (v := .tuple #[.agg #[.bool n1, .slice ad3 l1.length cp3, .bool n2, .slice ad4 l2.length cp4], .int .i64 0]) ?_ rfl ⟨_, by rw [HR.out], by rw [HR.out]; exact ⟨_, _, rfl, ownsI_mono HA.out hb4, ownsI_mono HZ.out hb4, HP.out⟩, HB.out⟩
    rw [results_cell_tmp rfl]
    go_simp
  · have HR : Hid (rawR v f p = (((false, []), (false, [])), 4)) := if_neg h
    rw [decide_eq_false h] at kA
    obtain ⟨rr, hr⟩ : ∃ r, rawR v f p = r := ⟨_, rfl⟩
    rw [hr] at HR
    rw [hr]
    clear hr h h0 h1
    go_enter Try.func20, Try.ntmps20
    go_wp2_with fail
    refine (kA _).mono ?_
    generalize w.alloc (.cells #[.bool false, .slice none 0 0, .bool false, .slice none 0 0] 30) = w0 at *
    rintro e w1 ⟨rfl, rfl⟩
    have r0 := R0.c0
    have f0 := R0.f0
    have r1 := R0.c1
    have f1 := R0.f1
    have r2 := R0.c2
    have f2 := R0.f2
    have r3 := R0.c3
    have f3 := R0.f3
    have HB : Hid (Below w.heap.size w _) := ((((B0.setCell (p := ⟨w.heap.size, 0, none⟩) (by show w.heap.size ≤ w.heap.size; omega) (.bool false)).setCell (p := ⟨w.heap.size, 1, none⟩) (by show w.heap.size ≤ w.heap.size; omega) (.slice none 0 0)).setCell (p := ⟨w.heap.size, 2, none⟩) (by show w.heap.size ≤ w.heap.size; omega) (.bool false)).setCell (p := ⟨w.heap.size, 3, none⟩) (by show w.heap.size ≤ w.heap.size; omega) (.slice none 0 0))
    clear R0 B0 kA
    go_wp2
    (try simp only [Exit.inBlock, Exit.then])
    refine bodyPost_ret (v := .tuple #[.agg #[.bool false, .slice none 0 0, .bool false, .slice none 0 0], .int .i64 4]) ?_ rfl ⟨_, by rw [HR.out], by rw [HR.out]; exact nilV _ _, HB.out⟩
    rw [results_cell_tmp rfl]
    go_simp

theorem sVMoveE (va : Value) (a : Vh) (x y d : Int) (w : World) (ha : rowV w va a) (e1 : a.1 = mkW x) (e2 : a.2 = mkW y) (m1 : (limbs x.natAbs).length ≤ 10000) (m2 : (limbs y.natAbs).length ≤ 10000) (h1 : -100000 ≤ d) (h2 : d ≤ 100000) :
    Calls Try.prog 27 #[va, .int .i64 d] w fun e w' => ∃ v, e = .returned v ∧ ownsV w' w.heap.size v (mkW (mvLo x d), mkW (mvHi y d)) ∧ Below w.heap.size w w' := by
  unfold mvLo mvHi
  by_cases h : 0 ≤ d
  · rw [if_pos h, if_pos h]
    obtain ⟨k, rfl⟩ : ∃ k : Nat, d = k := ⟨d.toNat, by omega⟩
    rw [Int.toNat_natCast]
    exact sVMoveUp va a _ _ k w ha e1 e2 m1 m2 (by omega)
  · rw [if_neg h, if_neg h]
    obtain ⟨k, rfl⟩ : ∃ k : Nat, d = -(k : Int) := ⟨(-d).toNat, by omega⟩
    rw [show (-(-(k : Int))).toNat = k by omega]
    exact sVMoveDown va a _ _ k w ha e1 e2 m1 m2 (by omega) (by omega)

set_option maxRecDepth 20000 in
set_option maxHeartbeats 3200000 in
theorem s15Raw (va : Value) (v f p : Int) (w : World) (ha : rowW w va (mkW v)) (hl : (limbs v.natAbs).length ≤ 10000) (h1 : -100000 ≤ p - f) (h2 : p - f ≤ 100000) :
    Calls Try.prog 41 #[va, .int .i64 f, .int .i64 p] w fun e w' => ∃ u, e = .returned u ∧ ownsV w' w.heap.size u (mkW (mvLo v (p - f)), mkW (mvHi v (p - f))) ∧ Below w.heap.size w w' := by
  have hsub : IntKind.i64.wrap (p - f) = p - f := by rw [IntKind.wrap_i64]; omega
  obtain ⟨s, rfl, hs⟩ := ha
  have kM := fun W (h : Below w.heap.size w W) => sVMoveE (.agg #[.bool (mkW v).1, s, .bool (mkW v).1, s]) (mkW v, mkW v) v v (p - f) W ⟨s, s, rfl, hs.below h (Nat.le_refl _), hs.below h (Nat.le_refl _)⟩ rfl rfl hl hl h1 h2
  generalize mkW (mvLo v (p - f)) = m1 at *
  generalize mkW (mvHi v (p - f)) = m2 at *
  obtain ⟨n1, l1⟩ := m1
  obtain ⟨n2, l2⟩ := m2
  obtain ⟨ad, cap, rfl, -⟩ := id hs
  obtain ⟨g, hg⟩ : ∃ g, (mkW v).1 = g := ⟨_, rfl⟩
  obtain ⟨len, hlen⟩ : ∃ l, (mkW v).2.length = l := ⟨_, rfl⟩
  rw [hg, hlen] at kM
  rw [hg, hlen]
  clear hs hg hlen hl h1 h2
  have s1 : (w.alloc (.cells #[.bool g, .slice ad len cap] 28)).heap.size = w.heap.size + 1 := by simp
  have R0 := BoxV.made (w.alloc (.cells #[.bool g, .slice ad len cap] 28)) (.bool false) (.slice none 0 0) (.bool false) (.slice none 0 0) 30
  rw [s1] at R0
  have B0 := below2 w (.cells #[.bool g, .slice ad len cap] 28) (.cells #[.bool false, .slice none 0 0, .bool false, .slice none 0 0] 30)
  clear s1
  go_enter Try.func41, Try.ntmps41
  go_wp2_with fail
  refine (kM _ B0).mono ?_
  generalize (w.alloc (.cells #[.bool g, .slice ad len cap] 28)).alloc (.cells #[.bool false, .slice none 0 0, .bool false, .slice none 0 0] 30) = w2 at *
  rintro e w6 ⟨v6, rfl, o6, b6⟩
  obtain ⟨s3, s4, rfl, q3, q4, hap⟩ := o6
  obtain ⟨ad3, cp3, rfl, -⟩ := q3.row
  obtain ⟨ad4, cp4, rfl, -⟩ := q4.row
  have q3' : ownsI w6 w2.heap.size (.slice ad3 l1.length cp3) l1 := q3
  have q4' : ownsI w6 w2.heap.size (.slice ad4 l2.length cp4) l2 := q4
  have hR4 := R0.hi
  have R6 := R0.below b6 (Nat.le_refl _)
  have B6 := B0.trans (b6.mono B0.size)
  have r0 := R6.c0
  have f0 := R6.f0
  have r1 := R6.c1
  have f1 := R6.f1
  have r2 := R6.c2
  have f2 := R6.f2
  have r3 := R6.c3
  have f3 := R6.f3
  have HA : Hid (ownsI _ w2.heap.size (.slice ad3 l1.length cp3) l1) := ((((q3'.other (w.heap.size + 1) 0 (by omega) (.bool n1)).other (w.heap.size + 1) 1 (by omega) (.slice ad3 l1.length cp3)).other (w.heap.size + 1) 2 (by omega) (.bool n2)).other (w.heap.size + 1) 3 (by omega) (.slice ad4 l2.length cp4))
  have HZ : Hid (ownsI _ w2.heap.size (.slice ad4 l2.length cp4) l2) := ((((q4'.other (w.heap.size + 1) 0 (by omega) (.bool n1)).other (w.heap.size + 1) 1 (by omega) (.slice ad3 l1.length cp3)).other (w.heap.size + 1) 2 (by omega) (.bool n2)).other (w.heap.size + 1) 3 (by omega) (.slice ad4 l2.length cp4))
  have HB : Hid (Below w.heap.size w _) := ((((B6.setCell (p := ⟨w.heap.size + 1, 0, none⟩) (by show w.heap.size ≤ w.heap.size + 1; omega) (.bool n1)).setCell (p := ⟨w.heap.size + 1, 1, none⟩) (by show w.heap.size ≤ w.heap.size + 1; omega) (.slice ad3 l1.length cp3)).setCell (p := ⟨w.heap.size + 1, 2, none⟩) (by show w.heap.size ≤ w.heap.size + 1; omega) (.bool n2)).setCell (p := ⟨w.heap.size + 1, 3, none⟩) (by show w.heap.size ≤ w.heap.size + 1; omega) (.slice ad4 l2.length cp4))
  have HP : Hid (Apart (blkI (.slice ad3 l1.length cp3)) (blkI (.slice ad4 l2.length cp4))) := hap
  have hb4 := B0.size
  clear q3 q4 q3' q4' hap R0 R6 B0 B6 b6 kM
  go_wp2
  (try simp only [Exit.inBlock, Exit.then])
  refine bodyPost_ret (v := .agg #[.bool n1, .slice ad3 l1.length cp3, .bool n2, .slice ad4 l2.length cp4]) ?_ rfl ⟨_, rfl, ⟨_, _, rfl, ownsI_mono HA.out hb4, ownsI_mono HZ.out hb4, HP.out⟩, HB.out⟩
  rw [results_cell1 rfl]
  go_simp

set_option maxRecDepth 20000 in
set_option maxHeartbeats 3200000 in
theorem sRawIv (v f p : Int) (w : World) (h0 : -9223372036854775808 ≤ v) (h1 : v ≤ 9223372036854775807) :
    Calls Try.prog 19 #[.int .i64 v, .int .i64 f, .int .i64 p] w fun e w' => ∃ u, e = .returned (.tuple #[u, .int .i64 (rawR v f p).2]) ∧ ownsV w' w.heap.size u (rawR v f p).1 ∧ Below w.heap.size w w' := by
  have kA := fun W => s15p v f p W
  have R0 := BoxV.made w (.bool false) (.slice none 0 0) (.bool false) (.slice none 0 0) 30
  have B0 := below1 w (.cells #[.bool false, .slice none 0 0, .bool false, .slice none 0 0] 30)
  by_cases h : askP v f p
  · have l3 := limbs_len3 (n := v.natAbs) (by omega)
    have kO := fun W => sWholeOf v W h0 h1
    have kR := fun va W h' => s15Raw va v f p W h' (by omega) (by have := h.2; omega) (by have := h.2; omega)
    have HR : Hid (rawR v f p = ((mkW (mvLo v (p - f)), mkW (mvHi v (p - f))), 0)) := if_pos h
    rw [decide_eq_true h] at kA
    obtain ⟨rr, hr⟩ : ∃ r, rawR v f p = r := ⟨_, rfl⟩
    rw [hr] at HR
    rw [hr]
    clear hr h l3 h0 h1
    generalize mkW (mvLo v (p - f)) = m1 at *
    generalize mkW (mvHi v (p - f)) = m2 at *
    obtain ⟨n1, l1⟩ := m1
    obtain ⟨n2, l2⟩ := m2
    go_enter Try.func19, Try.ntmps19
    go_wp2_with fail
    refine (kA _).mono ?_
    generalize w.alloc (.cells #[.bool false, .slice none 0 0, .bool false, .slice none 0 0] 30) = w0 at *
    rintro e w1 ⟨rfl, rfl⟩
    go_wp2_with fail
    refine (kO _).mono ?_
    rintro e w2 ⟨v2, rfl, o2, b2⟩
    have R2 := R0.below b2 (Nat.le_refl _)
    have B2 := B0.trans (b2.mono B0.size)
    have q2 := o2.row
    clear kO kA R0 B0 b2 o2
    go_wp2_with fail
    refine (kR v2 _ q2).mono ?_
    rintro e w6 ⟨v6, rfl, o6, b6⟩
    obtain ⟨s3, s4, rfl, q3, q4, hap⟩ := o6
    obtain ⟨ad3, cp3, rfl, -⟩ := q3.row
    obtain ⟨ad4, cp4, rfl, -⟩ := q4.row
    have q3' : ownsI w6 w2.heap.size (.slice ad3 l1.length cp3) l1 := q3
    have q4' : ownsI w6 w2.heap.size (.slice ad4 l2.length cp4) l2 := q4
    have hR4 := R2.hi
    have R6 := R2.below b6 (Nat.le_refl _)
    have B6 := B2.trans (b6.mono B2.size)
    have r0 := R6.c0
    have f0 := R6.f0
    have r1 := R6.c1
    have f1 := R6.f1
    have r2 := R6.c2
    have f2 := R6.f2
    have r3 := R6.c3
    have f3 := R6.f3
    have HA : Hid (ownsI _ w2.heap.size (.slice ad3 l1.length cp3) l1) := ((((q3'.other (w.heap.size) 0 (by omega) (.bool n1)).other (w.heap.size) 1 (by omega) (.slice ad3 l1.length cp3)).other (w.heap.size) 2 (by omega) (.bool n2)).other (w.heap.size) 3 (by omega) (.slice ad4 l2.length cp4))
    have HZ : Hid (ownsI _ w2.heap.size (.slice ad4 l2.length cp4) l2) := ((((q4'.other (w.heap.size) 0 (by omega) (.bool n1)).other (w.heap.size) 1 (by omega) (.slice ad3 l1.length cp3)).other (w.heap.size) 2 (by omega) (.bool n2)).other (w.heap.size) 3 (by omega) (.slice ad4 l2.length cp4))
    have HB : Hid (Below w.heap.size w _) := ((((B6.setCell (p := ⟨w.heap.size, 0, none⟩) (by show w.heap.size ≤ w.heap.size; omega) (.bool n1)).setCell (p := ⟨w.heap.size, 1, none⟩) (by show w.heap.size ≤ w.heap.size; omega) (.slice ad3 l1.length cp3)).setCell (p := ⟨w.heap.size, 2, none⟩) (by show w.heap.size ≤ w.heap.size; omega) (.bool n2)).setCell (p := ⟨w.heap.size, 3, none⟩) (by show w.heap.size ≤ w.heap.size; omega) (.slice ad4 l2.length cp4))
    have HP : Hid (Apart (blkI (.slice ad3 l1.length cp3)) (blkI (.slice ad4 l2.length cp4))) := hap
    have hb4 := B2.size
    clear q3 q4 q3' q4' hap R2 R6 B2 B6 b6 q2 kR
    go_wp2
    (try simp only [Exit.inBlock, Exit.then])
    refine bodyPost_ret (v := .tuple #[.agg #[.bool n1, .slice ad3 l1.length cp3, .bool n2, .slice ad4 l2.length cp4], .int .i64 0]) ?_ rfl ⟨_, by rw [HR.out], by rw [HR.out]; exact ⟨_, _, rfl, ownsI_mono HA.out hb4, ownsI_mono HZ.out hb4, HP.out⟩, HB.out⟩
    rw [results_cell_tmp rfl]
    go_simp
  · have HR : Hid (rawR v f p = (((false, []), (false, [])), 4)) := if_neg h
    rw [decide_eq_false h] at kA
    obtain ⟨rr, hr⟩ : ∃ r, rawR v f p = r := ⟨_, rfl⟩
    rw [hr] at HR
    rw [hr]
    clear hr h h0 h1
    go_enter Try.func19, Try.ntmps19
    go_wp2_with fail
    refine (kA _).mono ?_
    generalize w.alloc (.cells #[.bool false, .slice none 0 0, .bool false, .slice none 0 0] 30) = w0 at *
    rintro e w1 ⟨rfl, rfl⟩
    have r0 := R0.c0
    have f0 := R0.f0
    have r1 := R0.c1
    have f1 := R0.f1
    have r2 := R0.c2
    have f2 := R0.f2
    have r3 := R0.c3
    have f3 := R0.f3
    have HB : Hid (Below w.heap.size w _) := ((((B0.setCell (p := ⟨w.heap.size, 0, none⟩) (by show w.heap.size ≤ w.heap.size; omega) (.bool false)).setCell (p := ⟨w.heap.size, 1, none⟩) (by show w.heap.size ≤ w.heap.size; omega) (.slice none 0 0)).setCell (p := ⟨w.heap.size, 2, none⟩) (by show w.heap.size ≤ w.heap.size; omega) (.bool false)).setCell (p := ⟨w.heap.size, 3, none⟩) (by show w.heap.size ≤ w.heap.size; omega) (.slice none 0 0))
    clear R0 B0 kA
    go_wp2
    (try simp only [Exit.inBlock, Exit.then])
    refine bodyPost_ret (v := .tuple #[.agg #[.bool false, .slice none 0 0, .bool false, .slice none 0 0], .int .i64 4]) ?_ rfl ⟨_, by rw [HR.out], by rw [HR.out]; exact nilV _ _, HB.out⟩
    rw [results_cell_tmp rfl]
    go_simp

end Go.Proofs.Ytdpcobcaodlgiaa
