/- The law's own helpers on what is held between two numbers: sizes, likeness, marks. -/
import Derived.Test.YtnngmkgkphkmhaaToV
namespace Go.Proofs.Ytnngmkgkphkmhaa
open Go.RowKit
set_option linter.unusedSimpArgs false

set_option maxHeartbeats 1600000 in
theorem szV_yes (g0 : Bool) (a0 : Option Addr) (n0 c0 : Nat) (g1 : Bool) (a1 : Option Addr) (n1 c1 : Nat) (left : Int) (w : World) (hl : left ≤ 1048576) (h : (n0 : Int) + (n1 : Int) ≤ left) :
    Calls Try.prog 6 #[.agg #[.bool g0, .slice a0 n0 c0, .bool g1, .slice a1 n1 c1], .int .i64 left] w fun e w' => e = .returned (.int .i64 (left - n0 - n1)) ∧ Below w.heap.size w w' := by
  have k0 := fun W => szW_yes g0 a0 n0 c0 left W hl (by omega)
  have k1 := fun W => szW_yes g1 a1 n1 c1 (left - n0) W (by omega) (by omega)
  have hA : ¬ (left - (n0 : Int) < 0) := by omega
  have hB : ¬ (left - (n0 : Int) - (n1 : Int) < 0) := by omega
  have X := BoxV.made w (.bool g0) (.slice a0 n0 c0) (.bool g1) (.slice a1 n1 c1) 26
  have B := below1 w (.cells #[.bool g0, .slice a0 n0 c0, .bool g1, .slice a1 n1 c1] 26)
  go_enter Try.func6, Try.ntmps6
  go_wp2_with fail
  refine (k0 _).mono ?_
  generalize w.alloc (.cells #[.bool g0, .slice a0 n0 c0, .bool g1, .slice a1 n1 c1] 26) = w0 at *
  rintro e w1 ⟨rfl, b1⟩
  have X1 := X.below b1 (Nat.le_refl _)
  have B1 := B.trans (b1.mono B.size)
  have c2 := X1.c2
  have c3 := X1.c3
  go_wp2_with fail
  refine (k1 _).mono ?_
  rintro e w2 ⟨rfl, b2⟩
  have B2 := B1.trans (b2.mono B1.size)
  clear c2 c3 k0 k1
  go_wp2
  go_ret
  exact ⟨rfl, B2⟩

set_option maxHeartbeats 1600000 in
theorem szV_no (g0 : Bool) (a0 : Option Addr) (n0 c0 : Nat) (g1 : Bool) (a1 : Option Addr) (n1 c1 : Nat) (left : Int) (w : World) (h0 : 0 ≤ left) (hl : left ≤ 1048576) (hn0 : n0 ≤ 9223372036854775807) (hn1 : n1 ≤ 9223372036854775807) (h : left < (n0 : Int) + (n1 : Int)) :
    Calls Try.prog 6 #[.agg #[.bool g0, .slice a0 n0 c0, .bool g1, .slice a1 n1 c1], .int .i64 left] w fun e w' => e = .returned (.int .i64 (-1)) ∧ Below w.heap.size w w' := by
  have X := BoxV.made w (.bool g0) (.slice a0 n0 c0) (.bool g1) (.slice a1 n1 c1) 26
  have B := below1 w (.cells #[.bool g0, .slice a0 n0 c0, .bool g1, .slice a1 n1 c1] 26)
  by_cases hA : left < (n0 : Int)
  · have k0 := fun W => szW_no g0 a0 n0 c0 left W h0 hl hn0 hA
    go_enter Try.func6, Try.ntmps6
    go_wp2_with fail
    refine (k0 _).mono ?_
    generalize w.alloc (.cells #[.bool g0, .slice a0 n0 c0, .bool g1, .slice a1 n1 c1] 26) = w0 at *
    rintro e w1 ⟨rfl, b1⟩
    have B1 := B.trans (b1.mono B.size)
    clear k0 X
    go_wp2
    go_ret
    exact ⟨rfl, B1⟩
  · have k0 := fun W => szW_yes g0 a0 n0 c0 left W hl (by omega)
    have k1 := fun W => szW_no g1 a1 n1 c1 (left - n0) W (by omega) (by omega) hn1 (by omega)
    have hA2 : ¬ (left - (n0 : Int) < 0) := by omega
    go_enter Try.func6, Try.ntmps6
    go_wp2_with fail
    refine (k0 _).mono ?_
    generalize w.alloc (.cells #[.bool g0, .slice a0 n0 c0, .bool g1, .slice a1 n1 c1] 26) = w0 at *
    rintro e w1 ⟨rfl, b1⟩
    have X1 := X.below b1 (Nat.le_refl _)
    have B1 := B.trans (b1.mono B.size)
    have c2 := X1.c2
    have c3 := X1.c3
    go_wp2_with fail
    refine (k1 _).mono ?_
    rintro e w2 ⟨rfl, b2⟩
    have B2 := B1.trans (b2.mono B1.size)
    clear c2 c3 k0 k1
    go_wp2
    go_ret
    exact ⟨rfl, B2⟩

set_option maxHeartbeats 1600000 in
theorem eqV' (b1 b2 : Nat) (va vb : Value) (a : Vh) (w : World) (hm : a.1.2.length ≤ 1048576 ∧ a.2.2.length ≤ 1048576) (h1 : ownsV w b1 va a) (h2 : ownsV w b2 vb a) :
    Calls Try.prog 10 #[va, vb] w fun e w' => e = .returned (.bool true) ∧ Below w.heap.size w w' := by
  obtain ⟨s, t, rfl, s1, t1, -⟩ := h1
  obtain ⟨u, v, rfl, u1, v1, -⟩ := h2
  have k0 := fun W (h : Below w.heap.size w W) => eqW' b1 b2 (.agg #[.bool a.1.1, s]) (.agg #[.bool a.1.1, u]) a.1 W hm.1 ⟨_, rfl, ownsI.below s1 h (Nat.le_refl _)⟩ ⟨_, rfl, ownsI.below u1 h (Nat.le_refl _)⟩
  have k1 := fun W (h : Below w.heap.size w W) => eqW' b1 b2 (.agg #[.bool a.2.1, t]) (.agg #[.bool a.2.1, v]) a.2 W hm.2 ⟨_, rfl, ownsI.below t1 h (Nat.le_refl _)⟩ ⟨_, rfl, ownsI.below v1 h (Nat.le_refl _)⟩
  generalize a.1.1 = g0 at *
  generalize a.2.1 = g1 at *
  have z1 : (w.alloc (.cells #[.bool g0, s, .bool g1, t] 30)).heap.size = w.heap.size + 1 := by simp
  have X := (BoxV.made w (.bool g0) s (.bool g1) t 30).below (below1 _ (.cells #[.bool g0, u, .bool g1, v] 30)) (Nat.le_refl _)
  have Y := BoxV.made (w.alloc (.cells #[.bool g0, s, .bool g1, t] 30)) (.bool g0) u (.bool g1) v 30
  rw [z1] at Y
  have B := below2 w (.cells #[.bool g0, s, .bool g1, t] 30) (.cells #[.bool g0, u, .bool g1, v] 30)
  clear z1 s1 t1 u1 v1
  go_enter Try.func10, Try.ntmps10
  go_wp2_with fail
  refine (k0 _ B).mono ?_
  generalize (w.alloc (.cells #[.bool g0, s, .bool g1, t] 30)).alloc (.cells #[.bool g0, u, .bool g1, v] 30) = w0 at *
  rintro e w1 ⟨rfl, c1⟩
  have X1 := X.below c1 (Nat.le_refl _)
  have Y1 := Y.below c1 (Nat.le_refl _)
  have B1 := B.trans (c1.mono B.size)
  have x2 := X1.c2
  have x3 := X1.c3
  have y2 := Y1.c2
  have y3 := Y1.c3
  go_wp2_with fail
  refine (k1 _ B1).mono ?_
  rintro e w2 ⟨rfl, c2⟩
  have B2 := B1.trans (c2.mono B1.size)
  clear x2 x3 y2 y3 k0 k1
  go_wp2
  go_ret
  exact ⟨rfl, B2⟩

set_option maxHeartbeats 1600000 in
theorem markV (b : Nat) (va : Value) (a : Vh) (k : Int) (w : World) (hm : a.1.2.length + a.2.2.length ≤ 2097152) (hm0 : a.1.2.length ≤ 1048576) (hm1 : a.2.2.length ≤ 1048576) (hk0 : 0 ≤ k) (hk1 : k ≤ 1099500000000) (h1 : ownsV w b va a) :
    Calls Try.prog 11 #[va, .int .i64 k] w fun e w' => e = .returned (.int .i64 (k + a.1.2.length + a.2.2.length)) ∧ ownsV w' b va ((a.1.1, marksI k a.1.2.length), (a.2.1, marksI (k + a.1.2.length) a.2.2.length)) ∧ Tn (blkV va) w w' := by
  obtain ⟨s, t, rfl, s1, t1, hap⟩ := h1
  have k0 := fun W (h : ownsI W b s a.1.2) => markW b (.agg #[.bool a.1.1, s]) a.1 k W hm0 hk0 (by omega) ⟨_, rfl, h⟩
  have k1 := fun W (h : ownsI W b t a.2.2) => markW b (.agg #[.bool a.2.1, t]) a.2 (k + a.1.2.length) W hm1 (by omega) (by omega) ⟨_, rfl, h⟩
  have B := below1 w (.cells #[.bool a.1.1, s, .bool a.2.1, t] 30)
  have X := BoxV.made w (.bool a.1.1) s (.bool a.2.1) t 30
  have s2 := ownsI.below s1 B (Nat.le_refl _)
  have t2 := ownsI.below t1 B (Nat.le_refl _)
  have hs := s1.ltb
  have ht := t1.ltb
  have T0 : Tn (blkI s ++ blkI t) w (w.alloc (.cells #[.bool a.1.1, s, .bool a.2.1, t] 30)) := ⟨rfl, rfl, rfl, by simp, fun j hj _ => Below.heap_alloc w _ j hj⟩
  go_enter Try.func11, Try.ntmps11
  go_wp2_with fail
  refine (k0 _ s2).mono ?_
  generalize w.alloc (.cells #[.bool a.1.1, s, .bool a.2.1, t] 30) = w0 at *
  rintro e w1 ⟨rfl, o1, g1⟩
  have g1' : Tn (blkI s) w0 w1 := g1
  have X1 := X.tn g1' (fun j hj hq => by simp at hj; have := (hs j hq).2; omega)
  have t3 := t2.tn g1' hap.symm
  have c2 := X1.c2
  have c3 := X1.c3
  obtain ⟨s3, e3, o1'⟩ := o1
  obtain ⟨rfl⟩ : s = s3 := by simpa using e3
  have o1'' : ownsI w1 b s (marksI k a.1.2.length) := o1'
  clear o1' e3 k0
  go_wp2_with fail
  clear c2 c3
  refine (k1 _ t3).mono ?_
  rintro e w2 ⟨rfl, o2, g2⟩
  have g2' : Tn (blkI t) w1 w2 := g2
  obtain ⟨t4, e4, o2'⟩ := o2
  obtain ⟨rfl⟩ : t = t4 := by simpa using e4
  have o2'' : ownsI w2 b t (marksI (k + a.1.2.length) a.2.2.length) := o2'
  have o3 := o1''.tn g2' hap
  have T1 : Tn (blkI s ++ blkI t) w w2 := by
    refine T0.trans (Tn.trans (b := w1) ?_ ?_)
    · exact ⟨g1'.os, g1'.tape, g1'.output, g1'.size, fun j hj hn => g1'.block j hj (fun h => hn (List.mem_append.2 (.inl h)))⟩
    · exact ⟨g2'.os, g2'.tape, g2'.output, g2'.size, fun j hj hn => g2'.block j hj (fun h => hn (List.mem_append.2 (.inr h)))⟩
  have HF : Hid (ownsV w2 b (.agg #[.bool a.1.1, s, .bool a.2.1, t]) ((a.1.1, marksI k a.1.2.length), (a.2.1, marksI (k + a.1.2.length) a.2.2.length)) ∧ Tn (blkV (.agg #[.bool a.1.1, s, .bool a.2.1, t])) w w2) := ⟨⟨s, t, rfl, o3, o2'', hap⟩, T1⟩
  clear o2' e4 k1 o1'' o2'' o3 T1 T0 g1 g2 g1' g2' X X1 t3 s1 t1 s2 t2
  go_wp2
  go_ret
  exact ⟨rfl, HF.out.1, HF.out.2⟩

set_option maxHeartbeats 1600000 in
theorem heldV (b : Nat) (va : Value) (g0 g1 : Bool) (k : Int) (m n : Nat) (w : World) (hm : m ≤ 1048576) (hn : n ≤ 1048576) (hk0 : 0 ≤ k) (hk1 : k ≤ 1099500000000) (h1 : ownsV w b va ((g0, marksI k m), (g1, marksI (k + m) n))) :
    Calls Try.prog 12 #[va, .int .i64 k] w fun e w' => e = .returned (.int .i64 (k + m + n)) ∧ Below w.heap.size w w' := by
  obtain ⟨s, t, rfl, s1, t1, hap⟩ := h1
  have s1' : ownsI w b s (marksI k m) := s1
  have t1' : ownsI w b t (marksI (k + m) n) := t1
  have k0 := fun W (h : Below w.heap.size w W) => heldW b (.agg #[.bool g0, s]) g0 k m W hm hk0 (by omega) ⟨_, rfl, ownsI.below s1' h (Nat.le_refl _)⟩
  have k1 := fun W (h : Below w.heap.size w W) => heldW b (.agg #[.bool g1, t]) g1 (k + m) n W hn (by omega) (by omega) ⟨_, rfl, ownsI.below t1' h (Nat.le_refl _)⟩
  have hA : ¬ (k + (m : Int) < 0) := by omega
  have hB : ¬ (k + (m : Int) + (n : Int) < 0) := by omega
  have B := below1 w (.cells #[.bool g0, s, .bool g1, t] 30)
  have X := BoxV.made w (.bool g0) s (.bool g1) t 30
  clear s1 t1 s1' t1' hap
  go_enter Try.func12, Try.ntmps12
  go_wp2_with fail
  refine (k0 _ B).mono ?_
  generalize w.alloc (.cells #[.bool g0, s, .bool g1, t] 30) = w0 at *
  rintro e w1 ⟨rfl, b1⟩
  have X1 := X.below b1 (Nat.le_refl _)
  have B1 := B.trans (b1.mono B.size)
  have c2 := X1.c2
  have c3 := X1.c3
  go_wp2_with fail
  refine (k1 _ B1).mono ?_
  rintro e w2 ⟨rfl, b2⟩
  have B2 := B1.trans (b2.mono B1.size)
  clear c2 c3 k0 k1
  go_wp2
  go_ret
  exact ⟨rfl, B2⟩

end Go.Proofs.Ytnngmkgkphkmhaa
