/- Several small texts in one: SpinB, SpStepM, SpRunM. -/
import Derived.Test.YtlpfjpbnedankaaPB
import Derived.Test.YtlpfjpbnedankaaSW
import Derived.Test.YtlpfjpbnedankaaBase
import Derived.Test.YtlpfjpbnedankaaSC
import Derived.Test.YtlpfjpbnedankaaGB
import Derived.Test.YtlpfjpbnedankaaWB
/- SpinOk of the specification and of the program, and the program's spinningFrom, each by its contract. -/
namespace Go.Proofs.Ytlpfjpbnedankaa
open Go.RowKit
set_option linter.unusedSimpArgs false

def okP (a : Ph) : Bool := okW a.1.1 && okW a.1.2 && decide (0 ≤ a.2 ∧ a.2 ≤ 2000)

theorem SG.tn {w w' : World} {b : Nat} {z : Int} {S : List Nat} (h : SG w b z) (ht : Tn S w w') (hS : b ∉ S) : SG w' b z :=
  ⟨(World.cell?_of_block (w := w) (a := ⟨b, 0, none⟩) (ht.block b h.lt hS)).trans h.sign, h.mag.tn ht hS⟩
set_option maxRecDepth 20000 in
set_option maxHeartbeats 3200000 in
theorem twoNoP (va vb : Value) (a b : Wh) (w : World) (ha : rowW w va a) (hb : rowW w vb b) (hla : a.2.length ≤ 1048576) (hlb : b.2.length ≤ 1048576) (hn : okW a = false ∨ okW b = false) :
    Calls Try.prog 38 #[va, vb] w fun e w' => ∃ p q : Option Addr, e = .returned (.tuple #[.pointer p, .pointer q, .bool false]) ∧ Below w.heap.size w w' := by
  obtain ⟨oa, hoa⟩ : ∃ o, okW a = o := ⟨_, rfl⟩
  obtain ⟨ob, hob⟩ : ∃ o, okW b = o := ⟨_, rfl⟩
  have hn' : (oa && ob) = false := by rw [← hoa, ← hob]; rcases hn with h | h <;> simp [h]
  have kA : ∀ W, Below w.heap.size w W → Calls Try.prog 33 #[va] W fun e w' => ∃ p : Option Addr, e = .returned (.tuple #[.pointer p, .bool oa]) ∧ Below W.heap.size W w' := fun W h => by
    cases oa
    · exact (sFromNo va a W (ha.below h (Nat.le_refl _)) hla hoa).mono fun e w' ⟨h1, h2⟩ => ⟨_, h1, h2⟩
    · exact (sFromYes va a W (ha.below h (Nat.le_refl _)) hla hoa).mono fun e w' ⟨b, h1, _, _, h2⟩ => ⟨_, h1, h2⟩
  have kB : ∀ W, Below w.heap.size w W → Calls Try.prog 33 #[vb] W fun e w' => ∃ p : Option Addr, e = .returned (.tuple #[.pointer p, .bool ob]) ∧ Below W.heap.size W w' := fun W h => by
    cases ob
    · exact (sFromNo vb b W (hb.below h (Nat.le_refl _)) hlb hob).mono fun e w' ⟨h1, h2⟩ => ⟨_, h1, h2⟩
    · exact (sFromYes vb b W (hb.below h (Nat.le_refl _)) hlb hob).mono fun e w' ⟨b, h1, _, _, h2⟩ => ⟨_, h1, h2⟩
  clear hoa hob hn
  obtain ⟨s, rfl, hs⟩ := ha
  obtain ⟨ad, cap, rfl, -⟩ := id hs
  obtain ⟨t, rfl, ht⟩ := hb
  obtain ⟨ae, cbp, rfl, -⟩ := id ht
  generalize a.1 = g at *
  generalize a.2.length = len at *
  generalize b.1 = g2 at *
  generalize b.2.length = len2 at *
  have B0 := below2 w (.cells #[.bool g, .slice ad len cap] 27) (.cells #[.bool g2, .slice ae len2 cbp] 27)
  have s1 : (w.alloc (.cells #[.bool g, .slice ad len cap] 27)).heap.size = w.heap.size + 1 := by simp
  have X0 := (BoxW.made w (.bool g) (.slice ad len cap) 27).below (below1 _ (.cells #[.bool g2, .slice ae len2 cbp] 27)) (Nat.le_refl _)
  have Y0 := BoxW.made (w.alloc (.cells #[.bool g, .slice ad len cap] 27)) (.bool g2) (.slice ae len2 cbp) 27
  rw [s1] at Y0
  clear s1
  clear hs ht
  cases oa <;> cases ob
  all_goals (try (simp at hn'; done))
  all_goals
    clear hn'
    go_enter Try.func38, Try.ntmps38
    have c0 := X0.c0
    have c1 := X0.c1
    go_wp2_with fail
    refine (kA _ B0).mono ?_
    clear c0 c1
    generalize (w.alloc (.cells #[.bool g, .slice ad len cap] 27)).alloc (.cells #[.bool g2, .slice ae len2 cbp] 27) = w0 at *
    rintro e w1 ⟨p, rfl, b1⟩
    have Y1 := Y0.below b1 (Nat.le_refl _)
    have B1 := B0.trans (b1.mono B0.size)
    have c0 := Y1.c0
    have c1 := Y1.c1
    go_wp2_with fail
    refine (kB _ B1).mono ?_
    rintro e w2 ⟨q, rfl, b2⟩
    have B2 := B1.trans (b2.mono B1.size)
    clear c0 c1 kA kB
    go_wp2
    go_ret3
    exact ⟨p, q, rfl, B2⟩

theorem inAt (x lo hi : Int) (w : World) : Calls Try.prog 47 #[.int .i64 x, .int .i64 lo, .int .i64 hi] w fun e w' => e = .returned (.bool (decide (lo ≤ x ∧ x ≤ hi))) ∧ w' = w := by
  by_cases h : lo ≤ x ∧ x ≤ hi
  · rw [decide_eq_true h]; exact in_yes x lo hi w h.1 h.2
  · rw [decide_eq_false h]; exact in_no x lo hi w h
theorem raisedAt (p : Int) (w : World) : Calls Try.prog 72 #[.int .i64 p] w fun e w' => e = .returned (.bool (decide (0 ≤ p ∧ p ≤ 2000))) ∧ w' = w := by
  by_cases h1 : 0 ≤ p
  · by_cases h2 : p ≤ 2000
    · rw [decide_eq_true ⟨h1, h2⟩]
      go_enter Try.func72, Try.ntmps72
      go_wp2
      go_ret
      exact ⟨rfl, rfl⟩
    · rw [decide_eq_false (by omega)]
      have h3 : decide (p ≤ 2000) = false := decide_eq_false h2
      clear h2
      go_enter Try.func72, Try.ntmps72
      go_wp2
      go_ret
      exact ⟨rfl, rfl⟩
  · rw [decide_eq_false (by omega)]
    have h3 : decide (0 ≤ p) = false := decide_eq_false h1
    clear h1
    go_enter Try.func72, Try.ntmps72
    go_wp2
    go_ret
    exact ⟨rfl, rfl⟩

set_option maxRecDepth 20000 in
set_option maxHeartbeats 3200000 in
theorem sSpinOk (va : Value) (a : Ph) (w : World) (ha : rowP w va a) (hl0 : a.1.1.2.length ≤ 1048576) (hl1 : a.1.2.2.length ≤ 1048576) :
    Calls Try.prog 46 #[va] w fun e w' => e = .returned (.bool (okP a)) ∧ Below w.heap.size w w' := by
  have k0 : ∀ s, rowI w s a.1.1.2 → ∀ W, Below w.heap.size w W → Calls Try.prog 81 #[.agg #[.bool a.1.1.1, s]] W fun e w' => e = .returned (.bool (okW a.1.1)) ∧ Below W.heap.size W w' :=
    fun s hs W h => sWholeOk _ a.1.1 W ⟨_, rfl, hs.below h (Nat.le_refl _)⟩ hl0
  have k1 : ∀ s, rowI w s a.1.2.2 → ∀ W, Below w.heap.size w W → Calls Try.prog 81 #[.agg #[.bool a.1.2.1, s]] W fun e w' => e = .returned (.bool (okW a.1.2)) ∧ Below W.heap.size W w' :=
    fun s hs W h => sWholeOk _ a.1.2 W ⟨_, rfl, hs.below h (Nat.le_refl _)⟩ hl1
  have k2 := fun W => inAt a.2 0 2000 W
  unfold okP
  generalize okW a.1.1 = r0 at *
  generalize okW a.1.2 = r1 at *
  generalize decide (0 ≤ a.2 ∧ a.2 ≤ 2000) = r2 at *
  obtain ⟨s, t, rfl, hs, ht⟩ := ha
  obtain ⟨ad, cap, rfl, -⟩ := id hs
  obtain ⟨ae, cbp, rfl, -⟩ := id ht
  obtain ⟨g, hg⟩ : ∃ g, a.1.1.1 = g := ⟨_, rfl⟩
  obtain ⟨g', hg'⟩ : ∃ g, a.1.2.1 = g := ⟨_, rfl⟩
  obtain ⟨len, hlen⟩ : ∃ l, a.1.1.2.length = l := ⟨_, rfl⟩
  obtain ⟨len2, hlen2⟩ : ∃ l, a.1.2.2.length = l := ⟨_, rfl⟩
  obtain ⟨kk, hkk⟩ : ∃ k, a.2 = k := ⟨_, rfl⟩
  have k0 := k0 _ hs
  have k1 := k1 _ ht
  rw [hg, hlen] at k0
  rw [hg', hlen2] at k1
  rw [hkk] at k2
  rw [hg, hg', hlen, hlen2, hkk]
  clear hs ht hg hg' hlen hlen2 hkk hl0 hl1
  have X := Bx5.made w (.bool g) (.slice ad len cap) (.bool g') (.slice ae len2 cbp) (.int .i64 kk) 34
  have B := below1 w (.cells #[.bool g, .slice ad len cap, .bool g', .slice ae len2 cbp, .int .i64 kk] 34)
  cases r0
  · go_enter Try.func46, Try.ntmps46
    go_wp2_with fail
    refine (k0 _ B).mono ?_
    generalize w.alloc (.cells #[.bool g, .slice ad len cap, .bool g', .slice ae len2 cbp, .int .i64 kk] 34) = w0 at *
    rintro e w1 ⟨rfl, b1⟩
    have X := X.below b1 (Nat.le_refl _)
    have B := B.trans (b1.mono B.size)
    have HB := B
    clear X
    go_wp2
    go_ret
    exact ⟨by simp, HB⟩
  · cases r1
    · go_enter Try.func46, Try.ntmps46
      go_wp2_with fail
      refine (k0 _ B).mono ?_
      generalize w.alloc (.cells #[.bool g, .slice ad len cap, .bool g', .slice ae len2 cbp, .int .i64 kk] 34) = w0 at *
      rintro e w1 ⟨rfl, b1⟩
      have X := X.below b1 (Nat.le_refl _)
      have B := B.trans (b1.mono B.size)
      have c0 := X.c0
      have c1 := X.c1
      have c2 := X.c2
      have c3 := X.c3
      have c4 := X.c4
      go_wp2_with fail
      clear c0 c1 c2 c3 c4
      refine (k1 _ B).mono ?_
      rintro e w2 ⟨rfl, b2⟩
      have X := X.below b2 (Nat.le_refl _)
      have B := B.trans (b2.mono B.size)
      have HB := B
      clear X
      go_wp2
      go_ret
      exact ⟨by simp, HB⟩
    · go_enter Try.func46, Try.ntmps46
      go_wp2_with fail
      refine (k0 _ B).mono ?_
      generalize w.alloc (.cells #[.bool g, .slice ad len cap, .bool g', .slice ae len2 cbp, .int .i64 kk] 34) = w0 at *
      rintro e w1 ⟨rfl, b1⟩
      have X := X.below b1 (Nat.le_refl _)
      have B := B.trans (b1.mono B.size)
      have c0 := X.c0
      have c1 := X.c1
      have c2 := X.c2
      have c3 := X.c3
      have c4 := X.c4
      go_wp2_with fail
      clear c0 c1 c2 c3 c4
      refine (k1 _ B).mono ?_
      rintro e w2 ⟨rfl, b2⟩
      have X := X.below b2 (Nat.le_refl _)
      have B := B.trans (b2.mono B.size)
      have c0 := X.c0
      have c1 := X.c1
      have c2 := X.c2
      have c3 := X.c3
      have c4 := X.c4
      go_wp2_with fail
      clear c0 c1 c2 c3 c4
      refine (k2 _).mono ?_
      rintro e w3 ⟨rfl, rfl⟩
      have HB := B
      clear X
      go_wp2
      go_ret
      exact ⟨by simp, HB⟩

/-- What spinningFrom answers. -/
def spinA (a : Ph) (w : World) (e : Ending) (w' : World) : Prop :=
  (okW a.1.1 = true ∧ okW a.1.2 = true ∧ ∃ p q, e = .returned (.tuple #[.agg #[.pointer (some ⟨p, 0, none⟩), .pointer (some ⟨q, 0, none⟩), .int .i64 a.2], .bool (okP a)]) ∧ SG w' p (valW a.1.1) ∧ SG w' q (valW a.1.2) ∧ Below w.heap.size w w') ∨
  (okP a = false ∧ ∃ x y : Option Addr, e = .returned (.tuple #[.agg #[.pointer x, .pointer y, .int .i64 a.2], .bool false]) ∧ Below w.heap.size w w')

set_option maxRecDepth 20000 in
set_option maxHeartbeats 6400000 in
theorem spinFrom_c (va : Value) (a : Ph) (w : World) (ha : rowP w va a) (hl0 : a.1.1.2.length ≤ 1048576) (hl1 : a.1.2.2.length ≤ 1048576) : Calls Try.prog 35 #[va] w (spinA a w) := by
  by_cases hok : okW a.1.1 = true ∧ okW a.1.2 = true
  · have kT : ∀ s t, rowI w s a.1.1.2 → rowI w t a.1.2.2 → ∀ W, Below w.heap.size w W → Calls Try.prog 38 #[.agg #[.bool a.1.1.1, s], .agg #[.bool a.1.2.1, t]] W fun e w' => ∃ p q, e = .returned (.tuple #[.pointer (some ⟨p, 0, none⟩), .pointer (some ⟨q, 0, none⟩), .bool true]) ∧ SG w' p (valW a.1.1) ∧ SG w' q (valW a.1.2) ∧ Below W.heap.size W w' ∧ W.heap.size ≤ p ∧ W.heap.size ≤ q :=
      fun s t h1 h2 W h => twoYes2 _ _ a.1.1 a.1.2 W ⟨_, rfl, h1.below h (Nat.le_refl _)⟩ ⟨_, rfl, h2.below h (Nat.le_refl _)⟩ hl0 hl1 hok.1 hok.2
    have kR := fun W => raisedAt a.2 W
    have HS : Hid (∀ e w', (∃ p q, e = .returned (.tuple #[.agg #[.pointer (some ⟨p, 0, none⟩), .pointer (some ⟨q, 0, none⟩), .int .i64 a.2], .bool (decide (0 ≤ a.2 ∧ a.2 ≤ 2000))]) ∧ SG w' p (valW a.1.1) ∧ SG w' q (valW a.1.2) ∧ Below w.heap.size w w') → spinA a w e w') := fun e w' h => .inl ⟨hok.1, hok.2, by
      have : okP a = decide (0 ≤ a.2 ∧ a.2 ≤ 2000) := by unfold okP; rw [hok.1, hok.2]; simp
      rw [this]; exact h⟩
    generalize spinA a w = Q at *
    generalize valW a.1.1 = x at *
    generalize valW a.1.2 = y at *
    generalize decide (0 ≤ a.2 ∧ a.2 ≤ 2000) = r2 at *
    clear hok
    obtain ⟨s, t, rfl, hs, ht⟩ := ha
    obtain ⟨ad, cap, rfl, -⟩ := id hs
    obtain ⟨ae, cbp, rfl, -⟩ := id ht
    obtain ⟨g, hg⟩ : ∃ g, a.1.1.1 = g := ⟨_, rfl⟩
    obtain ⟨g', hg'⟩ : ∃ g, a.1.2.1 = g := ⟨_, rfl⟩
    obtain ⟨len, hlen⟩ : ∃ l, a.1.1.2.length = l := ⟨_, rfl⟩
    obtain ⟨len2, hlen2⟩ : ∃ l, a.1.2.2.length = l := ⟨_, rfl⟩
    obtain ⟨kk, hkk⟩ : ∃ k, a.2 = k := ⟨_, rfl⟩
    have kT := kT _ _ hs ht
    rw [hg, hg', hlen, hlen2] at kT
    rw [hkk] at kR HS
    rw [hg, hg', hlen, hlen2, hkk]
    clear hs ht hg hg' hlen hlen2 hkk hl0 hl1
    have s1 : (w.alloc (.cells #[.bool g, .slice ad len cap, .bool g', .slice ae len2 cbp, .int .i64 kk] 34)).heap.size = w.heap.size + 1 := by simp
    have X0 := (Bx5.made w (.bool g) (.slice ad len cap) (.bool g') (.slice ae len2 cbp) (.int .i64 kk) 34).below (below1 _ (.cells #[.pointer none, .pointer none, .int .i64 0] 65)) (Nat.le_refl _)
    have R0 := Bx3.made (w.alloc (.cells #[.bool g, .slice ad len cap, .bool g', .slice ae len2 cbp, .int .i64 kk] 34)) (.pointer none) (.pointer none) (.int .i64 0) 65
    rw [s1] at R0
    have B0 := below2 w (.cells #[.bool g, .slice ad len cap, .bool g', .slice ae len2 cbp, .int .i64 kk] 34) (.cells #[.pointer none, .pointer none, .int .i64 0] 65)
    clear s1
    go_enter Try.func35, Try.ntmps35
    go_wp2_with fail
    refine (kT _ B0).mono ?_
    generalize (w.alloc (.cells #[.bool g, .slice ad len cap, .bool g', .slice ae len2 cbp, .int .i64 kk] 34)).alloc (.cells #[.pointer none, .pointer none, .int .i64 0] 65) = w0 at *
    rintro e w1 ⟨p, q, rfl, sp, sq, b1, hp, hq⟩
    have X1 := X0.below b1 (Nat.le_refl _)
    have R1 := R0.below b1 (Nat.le_refl _)
    have B1 := B0.trans (b1.mono B0.size)
    have hR0 := R0.hi
    clear X0 R0 B0 b1 kT
    go_wp2_with fail
    have bd := (Below.refl w1.heap.size w1).drew
    have X3 := X1.below bd (Nat.le_refl _)
    have R3 := R1.below bd (Nat.le_refl _)
    have B3 := B1.trans (bd.mono B1.size)
    have sp3 := sp.below bd sp.lt
    have sq3 := sq.below bd sq.lt
    refine wp_region_held_drew (S := fun W => W.cell? ⟨w.heap.size, 4, none⟩ = some (.int .i64 kk)) (by kernel_rfl) X3.c4 ?_
    intro hHeld
    generalize w1.drew = w3 at *
    refine takeH 0 (some 16) (.pointer (some ⟨p, 0, none⟩)) rfl rfl (by kernel_rfl) (by kernel_rfl) (by kernel_rfl) (fun _ _ _ h => h) (yg_move rfl (.tmp 4) rfl _ rfl) (by assumption) ?_
    simp only [Act.put, List.setIfInBounds_toArray, List.set_cons_zero, List.set_cons_succ]
    refine takeH 1 (some 17) (.pointer (some ⟨q, 0, none⟩)) rfl rfl (by kernel_rfl) (by kernel_rfl) (by kernel_rfl) (fun _ _ _ h => h) (yg_move rfl (.tmp 5) rfl _ rfl) (by assumption) ?_
    simp only [Act.put, List.setIfInBounds_toArray, List.set_cons_zero, List.set_cons_succ]
    refine takeH 2 (some 18) (.agg #[.pointer (some ⟨p, 0, none⟩), .pointer (some ⟨q, 0, none⟩)]) rfl rfl (by kernel_rfl) (by kernel_rfl) (by kernel_rfl) (fun _ _ _ h => h) (Or.inl ⟨rfl, fun W hW => by obtain _ := hW; go_simp⟩) (by assumption) ?_
    simp only [Act.put, List.setIfInBounds_toArray, List.set_cons_zero, List.set_cons_succ]
    refine takeH 3 (some 19) (.pointer (some ⟨w.heap.size, 4, none⟩)) rfl rfl (by kernel_rfl) (by kernel_rfl) (by kernel_rfl) (fun _ _ _ h => h) (Or.inl ⟨rfl, fun W hW => by obtain _ := hW; go_simp⟩) (by assumption) ?_
    simp only [Act.put, List.setIfInBounds_toArray, List.set_cons_zero, List.set_cons_succ]
    refine takeH 4 (some 20) (.int .i64 kk) rfl rfl (by kernel_rfl) (by kernel_rfl) (by kernel_rfl) (fun _ _ _ h => h) (Or.inl ⟨rfl, fun W hW => by obtain _c := hW; go_simp⟩) (by assumption) ?_
    simp only [Act.put, List.setIfInBounds_toArray, List.set_cons_zero, List.set_cons_succ]
    refine takeH 5 (some 21) (.agg #[.pointer (some ⟨p, 0, none⟩), .pointer (some ⟨q, 0, none⟩), .int .i64 kk]) rfl rfl (by kernel_rfl) (by kernel_rfl) (by kernel_rfl) (fun _ _ _ h => h) (Or.inl ⟨rfl, fun W hW => by obtain _ := hW; go_simp⟩) (by assumption) ?_
    simp only [Act.put, List.setIfInBounds_toArray, List.set_cons_zero, List.set_cons_succ]
    refine takeH 6 (some 22) (.bool true) rfl rfl (by kernel_rfl) (by kernel_rfl) (by kernel_rfl) (fun _ _ _ h => h) (yg_move rfl (.tmp 6) rfl _ rfl) (by assumption) ?_
    simp only [Act.put, List.setIfInBounds_toArray, List.set_cons_zero, List.set_cons_succ]
    refine takeH 7 (some 23) (.bool true) rfl rfl (by kernel_rfl) (by kernel_rfl) (by kernel_rfl) (fun _ _ _ h => h) (yg_move rfl (.tmp 22) rfl _ rfl) (by assumption) ?_
    simp only [Act.put, List.setIfInBounds_toArray, List.set_cons_zero, List.set_cons_succ]
    refine takeH 8 (some 24) (.pointer (some ⟨w.heap.size, 4, none⟩)) rfl rfl (by kernel_rfl) (by kernel_rfl) (by kernel_rfl) (fun _ _ _ h => h) (Or.inl ⟨rfl, fun W hW => by obtain _ := hW; go_simp⟩) (by assumption) ?_
    simp only [Act.put, List.setIfInBounds_toArray, List.set_cons_zero, List.set_cons_succ]
    refine takeH 9 (some 25) (.int .i64 kk) rfl rfl (by kernel_rfl) (by kernel_rfl) (by kernel_rfl) (fun _ _ _ h => h) (Or.inl ⟨rfl, fun W hW => by obtain _c := hW; go_simp⟩) (by assumption) ?_
    simp only [Act.put, List.setIfInBounds_toArray, List.set_cons_zero, List.set_cons_succ]
    refine oneH 10 rfl (by kernel_rfl) (fun K' hK => ?_)
    go_simp
    refine (kR _).mono ?_
    rintro e w4 ⟨rfl, rfl⟩
    refine hK _ _ X3.c4 ?_
    clear hK
    refine takeH 11 (some 27) (.bool r2) rfl rfl (by kernel_rfl) (by kernel_rfl) (by kernel_rfl) (fun _ _ _ h => h) (yg_pick rfl (.tmp 23) (.tmp 26) (.const (.bool false)) rfl true rfl _ rfl) (by assumption) ?_
    simp only [Act.put, List.setIfInBounds_toArray, List.set_cons_zero, List.set_cons_succ]
    have H5 : (fun W => W.cell? ⟨w.heap.size, 4, none⟩ = some (.int .i64 kk)) w4 := X3.c4
    have X7 := X3.tn (((tnC w4 (w.heap.size + 1) 0 (.pointer (some ⟨p, 0, none⟩))).trans (tnC _ (w.heap.size + 1) 1 (.pointer (some ⟨q, 0, none⟩)))).trans (tnC _ (w.heap.size + 1) 2 (.int .i64 kk))) (fun k hk hs => by simp at hk hs; omega)
    have r0' := R3.c0
    have f0 := R3.f0
    have r1' := R3.c1
    have f1 := R3.f1
    have r2' := R3.c2
    have f2 := R3.f2
    have hR3 := R3.hi
    refine oneH 12 rfl (by kernel_rfl) (fun K' hK => ?_)
    go_simp
    refine hK _ _ X7.c4 ?_
    clear hK
    have H7 := X7.c4
    refine takeH 13 (some 3) (.bool r2) rfl rfl (by kernel_rfl) (by kernel_rfl) (by kernel_rfl) (fun _ _ _ h => h) (yg_assign rfl (.tmp 27) rfl _ rfl) H7 ?_
    simp only [Act.put, List.setIfInBounds_toArray, List.set_cons_zero, List.set_cons_succ]
    refine wpAnyH_done (by kernel_rfl) ?_ _
    have HB : Hid (Below w.heap.size w _) := (((B3.setCell (p := ⟨w.heap.size + 1, 0, none⟩) (by show w.heap.size ≤ w.heap.size + 1; omega) (.pointer (some ⟨p, 0, none⟩))).setCell (p := ⟨w.heap.size + 1, 1, none⟩) (by show w.heap.size ≤ w.heap.size + 1; omega) (.pointer (some ⟨q, 0, none⟩))).setCell (p := ⟨w.heap.size + 1, 2, none⟩) (by show w.heap.size ≤ w.heap.size + 1; omega) (.int .i64 kk))
    have HC : Hid (SG _ p x) := sp3.tn (((tnC w4 (w.heap.size + 1) 0 (.pointer (some ⟨p, 0, none⟩))).trans (tnC _ (w.heap.size + 1) 1 (.pointer (some ⟨q, 0, none⟩)))).trans (tnC _ (w.heap.size + 1) 2 (.int .i64 kk))) (fun h => by simp at h; omega)
    have HD : Hid (SG _ q y) := sq3.tn (((tnC w4 (w.heap.size + 1) 0 (.pointer (some ⟨p, 0, none⟩))).trans (tnC _ (w.heap.size + 1) 1 (.pointer (some ⟨q, 0, none⟩)))).trans (tnC _ (w.heap.size + 1) 2 (.int .i64 kk))) (fun h => by simp at h; omega)
    clear hHeld H5 H7 X1 X3 X7 R1 R3 B1 B3 bd sp sq sp3 sq3 kR
    go_wp2
    (try simp only [Exit.inBlock, Exit.then])
    refine bodyPost_ret (v := .tuple #[.agg #[.pointer (some ⟨p, 0, none⟩), .pointer (some ⟨q, 0, none⟩), .int .i64 kk], .bool r2]) ?_ rfl ?_
    · rw [results_cell_tmp rfl]
      go_simp
    · exact HS.out _ _ ⟨_, _, rfl, HC.out, HD.out, HB.out⟩
  · have hn : okW a.1.1 = false ∨ okW a.1.2 = false := by
      cases h5 : okW a.1.1
      · exact .inl rfl
      · cases h6 : okW a.1.2
        · exact .inr rfl
        · exact absurd ⟨h5, h6⟩ hok
    have kT : ∀ s t, rowI w s a.1.1.2 → rowI w t a.1.2.2 → ∀ W, Below w.heap.size w W → Calls Try.prog 38 #[.agg #[.bool a.1.1.1, s], .agg #[.bool a.1.2.1, t]] W fun e w' => ∃ p q : Option Addr, e = .returned (.tuple #[.pointer p, .pointer q, .bool false]) ∧ Below W.heap.size W w' :=
      fun s t h1 h2 W h => twoNoP _ _ a.1.1 a.1.2 W ⟨_, rfl, h1.below h (Nat.le_refl _)⟩ ⟨_, rfl, h2.below h (Nat.le_refl _)⟩ hl0 hl1 hn
    have HS : Hid (∀ e w', (∃ x y : Option Addr, e = .returned (.tuple #[.agg #[.pointer x, .pointer y, .int .i64 a.2], .bool false]) ∧ Below w.heap.size w w') → spinA a w e w') := fun e w' h => .inr ⟨by
      unfold okP
      rcases hn with h | h <;> rw [h] <;> simp, h⟩
    generalize spinA a w = Q at *
    clear hok hn
    obtain ⟨s, t, rfl, hs, ht⟩ := ha
    obtain ⟨ad, cap, rfl, -⟩ := id hs
    obtain ⟨ae, cbp, rfl, -⟩ := id ht
    obtain ⟨g, hg⟩ : ∃ g, a.1.1.1 = g := ⟨_, rfl⟩
    obtain ⟨g', hg'⟩ : ∃ g, a.1.2.1 = g := ⟨_, rfl⟩
    obtain ⟨len, hlen⟩ : ∃ l, a.1.1.2.length = l := ⟨_, rfl⟩
    obtain ⟨len2, hlen2⟩ : ∃ l, a.1.2.2.length = l := ⟨_, rfl⟩
    obtain ⟨kk, hkk⟩ : ∃ k, a.2 = k := ⟨_, rfl⟩
    have kT := kT _ _ hs ht
    rw [hg, hg', hlen, hlen2] at kT
    rw [hkk] at HS
    rw [hg, hg', hlen, hlen2, hkk]
    clear hs ht hg hg' hlen hlen2 hkk hl0 hl1
    have s1 : (w.alloc (.cells #[.bool g, .slice ad len cap, .bool g', .slice ae len2 cbp, .int .i64 kk] 34)).heap.size = w.heap.size + 1 := by simp
    have X0 := (Bx5.made w (.bool g) (.slice ad len cap) (.bool g') (.slice ae len2 cbp) (.int .i64 kk) 34).below (below1 _ (.cells #[.pointer none, .pointer none, .int .i64 0] 65)) (Nat.le_refl _)
    have R0 := Bx3.made (w.alloc (.cells #[.bool g, .slice ad len cap, .bool g', .slice ae len2 cbp, .int .i64 kk] 34)) (.pointer none) (.pointer none) (.int .i64 0) 65
    rw [s1] at R0
    have B0 := below2 w (.cells #[.bool g, .slice ad len cap, .bool g', .slice ae len2 cbp, .int .i64 kk] 34) (.cells #[.pointer none, .pointer none, .int .i64 0] 65)
    clear s1
    go_enter Try.func35, Try.ntmps35
    go_wp2_with fail
    refine (kT _ B0).mono ?_
    generalize (w.alloc (.cells #[.bool g, .slice ad len cap, .bool g', .slice ae len2 cbp, .int .i64 kk] 34)).alloc (.cells #[.pointer none, .pointer none, .int .i64 0] 65) = w0 at *
    rintro e w1 ⟨vx, vy, rfl, b1⟩
    have X1 := X0.below b1 (Nat.le_refl _)
    have R1 := R0.below b1 (Nat.le_refl _)
    have B1 := B0.trans (b1.mono B0.size)
    have hR0 := R0.hi
    clear X0 R0 B0 b1 kT
    go_wp2_with fail
    have bd := (Below.refl w1.heap.size w1).drew
    have X3 := X1.below bd (Nat.le_refl _)
    have R3 := R1.below bd (Nat.le_refl _)
    have B3 := B1.trans (bd.mono B1.size)
    refine wp_region_held_drew (S := fun W => W.cell? ⟨w.heap.size, 4, none⟩ = some (.int .i64 kk)) (by kernel_rfl) X3.c4 ?_
    intro hHeld
    generalize w1.drew = w3 at *
    refine takeH 0 (some 16) (.pointer vx) rfl rfl (by kernel_rfl) (by kernel_rfl) (by kernel_rfl) (fun _ _ _ h => h) (yg_move rfl (.tmp 4) rfl _ rfl) (by assumption) ?_
    simp only [Act.put, List.setIfInBounds_toArray, List.set_cons_zero, List.set_cons_succ]
    refine takeH 1 (some 17) (.pointer vy) rfl rfl (by kernel_rfl) (by kernel_rfl) (by kernel_rfl) (fun _ _ _ h => h) (yg_move rfl (.tmp 5) rfl _ rfl) (by assumption) ?_
    simp only [Act.put, List.setIfInBounds_toArray, List.set_cons_zero, List.set_cons_succ]
    refine takeH 2 (some 18) (.agg #[.pointer vx, .pointer vy]) rfl rfl (by kernel_rfl) (by kernel_rfl) (by kernel_rfl) (fun _ _ _ h => h) (Or.inl ⟨rfl, fun W hW => by obtain _ := hW; go_simp⟩) (by assumption) ?_
    simp only [Act.put, List.setIfInBounds_toArray, List.set_cons_zero, List.set_cons_succ]
    refine takeH 3 (some 19) (.pointer (some ⟨w.heap.size, 4, none⟩)) rfl rfl (by kernel_rfl) (by kernel_rfl) (by kernel_rfl) (fun _ _ _ h => h) (Or.inl ⟨rfl, fun W hW => by obtain _ := hW; go_simp⟩) (by assumption) ?_
    simp only [Act.put, List.setIfInBounds_toArray, List.set_cons_zero, List.set_cons_succ]
    refine takeH 4 (some 20) (.int .i64 kk) rfl rfl (by kernel_rfl) (by kernel_rfl) (by kernel_rfl) (fun _ _ _ h => h) (Or.inl ⟨rfl, fun W hW => by obtain _c := hW; go_simp⟩) (by assumption) ?_
    simp only [Act.put, List.setIfInBounds_toArray, List.set_cons_zero, List.set_cons_succ]
    refine takeH 5 (some 21) (.agg #[.pointer vx, .pointer vy, .int .i64 kk]) rfl rfl (by kernel_rfl) (by kernel_rfl) (by kernel_rfl) (fun _ _ _ h => h) (Or.inl ⟨rfl, fun W hW => by obtain _ := hW; go_simp⟩) (by assumption) ?_
    simp only [Act.put, List.setIfInBounds_toArray, List.set_cons_zero, List.set_cons_succ]
    refine takeH 6 (some 22) (.bool false) rfl rfl (by kernel_rfl) (by kernel_rfl) (by kernel_rfl) (fun _ _ _ h => h) (yg_move rfl (.tmp 6) rfl _ rfl) (by assumption) ?_
    simp only [Act.put, List.setIfInBounds_toArray, List.set_cons_zero, List.set_cons_succ]
    refine takeH 7 (some 23) (.bool false) rfl rfl (by kernel_rfl) (by kernel_rfl) (by kernel_rfl) (fun _ _ _ h => h) (yg_move rfl (.tmp 22) rfl _ rfl) (by assumption) ?_
    simp only [Act.put, List.setIfInBounds_toArray, List.set_cons_zero, List.set_cons_succ]
    refine takeH 8 (some 24) (undef) rfl rfl (by kernel_rfl) (by kernel_rfl) (by kernel_rfl) (fun _ _ _ h => h) (yg_skip rfl) (by assumption) ?_
    simp only [Act.put, List.setIfInBounds_toArray, List.set_cons_zero, List.set_cons_succ]
    refine takeH 9 (some 25) (undef) rfl rfl (by kernel_rfl) (by kernel_rfl) (by kernel_rfl) (fun _ _ _ h => h) (yg_skip rfl) (by assumption) ?_
    simp only [Act.put, List.setIfInBounds_toArray, List.set_cons_zero, List.set_cons_succ]
    refine takeH 10 (some 26) (undef) rfl rfl (by kernel_rfl) (by kernel_rfl) (by kernel_rfl) (fun _ _ _ h => h) (yg_skip rfl) (by assumption) ?_
    simp only [Act.put, List.setIfInBounds_toArray, List.set_cons_zero, List.set_cons_succ]
    refine takeH 11 (some 27) (.bool false) rfl rfl (by kernel_rfl) (by kernel_rfl) (by kernel_rfl) (fun _ _ _ h => h) (yg_pick rfl (.tmp 23) (.tmp 26) (.const (.bool false)) rfl false rfl _ rfl) (by assumption) ?_
    simp only [Act.put, List.setIfInBounds_toArray, List.set_cons_zero, List.set_cons_succ]
    have H5 : (fun W => W.cell? ⟨w.heap.size, 4, none⟩ = some (.int .i64 kk)) w3 := X3.c4
    have X7 := X3.tn (((tnC w3 (w.heap.size + 1) 0 (.pointer vx)).trans (tnC _ (w.heap.size + 1) 1 (.pointer vy))).trans (tnC _ (w.heap.size + 1) 2 (.int .i64 kk))) (fun k hk hs => by simp at hk hs; omega)
    have r0' := R3.c0
    have f0 := R3.f0
    have r1' := R3.c1
    have f1 := R3.f1
    have r2' := R3.c2
    have f2 := R3.f2
    have hR3 := R3.hi
    refine oneH 12 rfl (by kernel_rfl) (fun K' hK => ?_)
    go_simp
    refine hK _ _ X7.c4 ?_
    clear hK
    have H7 := X7.c4
    refine takeH 13 (some 3) (.bool false) rfl rfl (by kernel_rfl) (by kernel_rfl) (by kernel_rfl) (fun _ _ _ h => h) (yg_assign rfl (.tmp 27) rfl _ rfl) H7 ?_
    simp only [Act.put, List.setIfInBounds_toArray, List.set_cons_zero, List.set_cons_succ]
    refine wpAnyH_done (by kernel_rfl) ?_ _
    have HB : Hid (Below w.heap.size w _) := (((B3.setCell (p := ⟨w.heap.size + 1, 0, none⟩) (by show w.heap.size ≤ w.heap.size + 1; omega) (.pointer vx)).setCell (p := ⟨w.heap.size + 1, 1, none⟩) (by show w.heap.size ≤ w.heap.size + 1; omega) (.pointer vy)).setCell (p := ⟨w.heap.size + 1, 2, none⟩) (by show w.heap.size ≤ w.heap.size + 1; omega) (.int .i64 kk))
    clear hHeld H5 H7 X1 X3 X7 R1 R3 B1 B3 bd 
    go_wp2
    (try simp only [Exit.inBlock, Exit.then])
    refine bodyPost_ret (v := .tuple #[.agg #[.pointer vx, .pointer vy, .int .i64 kk], .bool false]) ?_ rfl ?_
    · rw [results_cell_tmp rfl]
      go_simp
    · exact HS.out _ _ ⟨_, _, rfl, HB.out⟩

/-- The same, told at once. -/
theorem spinFrom_b (va : Value) (a : Ph) (w : World) (ha : rowP w va a) (hl0 : a.1.1.2.length ≤ 1048576) (hl1 : a.1.2.2.length ≤ 1048576) :
    Calls Try.prog 35 #[va] w fun e w' => ∃ x y : Option Addr, e = .returned (.tuple #[.agg #[.pointer x, .pointer y, .int .i64 a.2], .bool (okP a)]) ∧ Below w.heap.size w w' ∧ (okP a = true → ∃ p q, x = some ⟨p, 0, none⟩ ∧ y = some ⟨q, 0, none⟩ ∧ SG w' p (valW a.1.1) ∧ SG w' q (valW a.1.2)) := by
  refine (spinFrom_c va a w ha hl0 hl1).mono fun e w' h => ?_
  rcases h with ⟨_, _, p, q, he, h1, h2, hb⟩ | ⟨ho, x, y, he, hb⟩
  · exact ⟨_, _, he, hb, fun _ => ⟨p, q, rfl, rfl, h1, h2⟩⟩
  · rw [ho]
    exact ⟨x, y, he, hb, fun h => by cases h⟩

end Go.Proofs.Ytlpfjpbnedankaa

/- Exact steps of a Spin: the answer (no walk). -/
namespace Go.Proofs.Ytlpfjpbnedankaa
open Go.RowKit

def stX (x y : Int) (k : Nat) (d : Int) : Int := x * 2 ^ k - y * d
def stY (x y : Int) (k : Nat) (d : Int) : Int := y * 2 ^ k + x * d
def stepP (a : Ph) (i d : Int) : Ph := ((mkW (stX (valW a.1.1) (valW a.1.2) i.toNat d), mkW (stY (valW a.1.1) (valW a.1.2) i.toNat d)), a.2 + i)
def stepR (a : Ph) (i d : Int) : Ph × Bool := if okP a = true ∧ (0 ≤ i ∧ i ≤ 30) ∧ (d = 1 ∨ d = -1) ∧ okP (stepP a i d) = true then (stepP a i d, true) else (a, false)
theorem okW_len48 {a : Wh} (h : okW a = true) : (limbs (valW a).natAbs).length ≤ 48 := by
  have e := mkW_of h
  have h2 : okB a.2 = true := by unfold okW at h; simp at h; exact h.1
  have e2 : a.2 = limbs (valW a).natAbs := congrArg Prod.snd e
  rw [← e2]
  unfold okB at h2
  simp at h2
  exact h2.1.1
theorem okP_yes {a : Ph} (h : okP a = true) : okW a.1.1 = true ∧ okW a.1.2 = true ∧ 0 ≤ a.2 ∧ a.2 ≤ 2000 := by
  unfold okP at h
  simp at h
  exact ⟨h.1.1, h.1.2, h.2.1, h.2.2⟩
theorem stepR_len (a : Ph) (i d : Int) (h0 : a.1.1.2.length ≤ 1048576) (h1 : a.1.2.2.length ≤ 1048576) : (stepR a i d).1.1.1.2.length ≤ 1048576 ∧ (stepR a i d).1.1.2.2.length ≤ 1048576 := by
  unfold stepR
  split
  · rename_i h
    have q := okP_yes h.2.2.2
    have q1 : okW (stepP a i d).1.1 = true := q.1
    have q2 : okW (stepP a i d).1.2 = true := q.2.1
    have e1 : (stepP a i d).1.1.2 = limbs (valW (stepP a i d).1.1).natAbs := congrArg Prod.snd (mkW_of q1)
    have e2 : (stepP a i d).1.2.2 = limbs (valW (stepP a i d).1.2).natAbs := congrArg Prod.snd (mkW_of q2)
    exact ⟨by show (stepP a i d).1.1.2.length ≤ 1048576; rw [e1]; exact Nat.le_trans (okW_len48 q1) (by decide), by show (stepP a i d).1.2.2.length ≤ 1048576; rw [e2]; exact Nat.le_trans (okW_len48 q2) (by decide)⟩
  · exact ⟨h0, h1⟩
theorem up30_len (x : Int) (k : Nat) (h : (limbs x.natAbs).length ≤ 48) (hk : k ≤ 30) : (limbs (x * 2 ^ k).natAbs).length ≤ 50 := by
  have e : (x * 2 ^ k).natAbs = x.natAbs * 2 ^ k := by rw [Int.natAbs_mul, Int.natAbs_pow]; rfl
  rw [e]
  refine limbs_len_le _ _ ?_
  have h1 := limbs_lt x.natAbs
  have h2 := Nat.pow_le_pow_right (by omega : 0 < 16777216) h
  have h3 : 2 ^ k ≤ 16777216 ^ 2 := by
    refine Nat.le_trans (Nat.pow_le_pow_right (by omega) hk) ?_
    decide +kernel
  have h4 : 16777216 ^ 48 * 16777216 ^ 2 ≤ 16777216 ^ 50 := by decide +kernel
  have h5 : x.natAbs * 2 ^ k ≤ x.natAbs * 16777216 ^ 2 := Nat.mul_le_mul_left _ h3
  have h6 : x.natAbs * 16777216 ^ 2 < 16777216 ^ 48 * 16777216 ^ 2 := Nat.mul_lt_mul_of_pos_right (by omega) (by decide +kernel)
  omega
theorem one_len (d : Int) (h : d = 1 ∨ d = -1) : (limbs d.natAbs).length ≤ 1 := by rcases h with rfl | rfl <;> exact limbs_len_le _ 1 (by decide)
theorem one_mul_len (x d : Int) (h : d = 1 ∨ d = -1) : (limbs (x * d).natAbs).length = (limbs x.natAbs).length := by
  rcases h with rfl | rfl
  · rw [Int.mul_one]
  · rw [Int.mul_neg, Int.mul_one, Int.natAbs_neg]

end Go.Proofs.Ytlpfjpbnedankaa

/- Several exact steps: the answer (no walk). -/
namespace Go.Proofs.Ytlpfjpbnedankaa
open Go.RowKit
set_option linter.unusedSimpArgs false
set_option linter.unusedVariables false

theorem ownsP.key {w : World} {base : Nat} {x0 x1 x2 x3 : Value} {k : Int} {a : Ph} (h : ownsP w base (.agg #[x0, x1, x2, x3, .int .i64 k]) a) : a.2 = k := by
  obtain ⟨s, t, e, -⟩ := h
  injection e with e
  simp at e
  exact e.2.2.2.2.symm
def runFrom : Nat → List Int → Ph → Option Ph
  | _, [], a => some a
  | k, d :: ds, a => if (stepR a k d).2 = true then runFrom (k + 1) ds (stepR a k d).1 else none
def runR (a : Ph) (ds : List Int) : Ph × Bool := match runFrom 0 ds a with
  | some b => (b, true)
  | none => (a, false)
def lenP (a : Ph) : Prop := a.1.1.2.length ≤ 1048576 ∧ a.1.2.2.length ≤ 1048576
/-- k steps are done, and b is what they made. -/
def atRun (a : Ph) (ds : List Int) (k : Nat) (b : Ph) : Prop := runFrom 0 ds a = runFrom k (ds.drop k) b ∧ lenP b
theorem atRun.zero {a : Ph} (ds : List Int) (h : lenP a) : atRun a ds 0 a := ⟨rfl, h⟩
theorem atRun.one {a : Ph} {ds : List Int} {k : Nat} {b : Ph} (h : atRun a ds k b) (hk : k < ds.length) : runFrom 0 ds a = if (stepR b k (ds.getD k 0)).2 = true then runFrom (k + 1) (ds.drop (k + 1)) (stepR b k (ds.getD k 0)).1 else none := by
  rw [h.1, List.drop_eq_getElem_cons hk]
  have e : ds.getD k 0 = ds[k] := by rw [List.getD_eq_getElem?_getD, List.getElem?_eq_getElem hk]; rfl
  rw [e]
  rfl
theorem atRun.next {a : Ph} {ds : List Int} {k : Nat} {b c : Ph} {d : Int} (h : atRun a ds k b) (hk : k < ds.length) (hd : ds.getD k 0 = d) (hs : stepR b k d = (c, true)) : atRun a ds (k + 1) c := by
  refine ⟨?_, ?_⟩
  · rw [h.one hk, hd, hs, if_pos rfl]
  · have := stepR_len b k d h.2.1 h.2.2
    rw [hs] at this
    exact this
theorem atRun.no {a : Ph} {ds : List Int} {k : Nat} {b c : Ph} {d : Int} (h : atRun a ds k b) (hk : k < ds.length) (hd : ds.getD k 0 = d) (hs : stepR b k d = (c, false)) : runR a ds = (a, false) := by
  unfold runR
  rw [h.one hk, hd, hs, if_neg (by simp)]
theorem atRun.done {a : Ph} {ds : List Int} {b : Ph} (h : atRun a ds ds.length b) : runR a ds = (b, true) := by
  unfold runR
  rw [h.1, List.drop_length]
  rfl
theorem runFrom_len (ds : List Int) : ∀ (k : Nat) (a b : Ph), lenP a → runFrom k ds a = some b → lenP b := by
  induction ds with
  | nil => intro k a b h e; cases e; exact h
  | cons d ds ih =>
    intro k a b h e
    unfold runFrom at e
    split at e
    · exact ih _ _ _ (stepR_len a k d h.1 h.2) e
    · cases e
theorem runR_len (a : Ph) (ds : List Int) (h0 : a.1.1.2.length ≤ 1048576) (h1 : a.1.2.2.length ≤ 1048576) : (runR a ds).1.1.1.2.length ≤ 1048576 ∧ (runR a ds).1.1.2.2.length ≤ 1048576 := by
  unfold runR
  cases h : runFrom 0 ds a with
  | none => exact ⟨h0, h1⟩
  | some b => exact runFrom_len ds 0 a b ⟨h0, h1⟩ h

end Go.Proofs.Ytlpfjpbnedankaa
