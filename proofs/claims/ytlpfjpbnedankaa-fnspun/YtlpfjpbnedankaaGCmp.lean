/- The program's order of great numbers, by its contract. -/
import Derived.Test.YtlpfjpbnedankaaGSettle
import Derived.BigQuiet
namespace Go.Proofs.Ytlpfjpbnedankaa
open Go.RowKit

def cmpG (x y : Int) : Int := if x < y then -1 else if y < x then 1 else 0

set_option maxHeartbeats 800000 in
theorem compI (x y : Int) (w : World) : Calls Try.prog 96 #[.int .i64 x, .int .i64 y] w fun e w' => e = .returned (.int .i64 (cmpG x y)) ∧ w' = w := by
  have e1 : (x != x) = false := by simp
  have e2 : (y != y) = false := by simp
  by_cases h1 : x < y
  · have HR : Hid (cmpG x y = -1) := by show _ = _; unfold cmpG; rw [if_pos h1]
    go_enter Try.func96, Try.ntmps96
    go_wp2
    go_ret
    exact ⟨by rw [HR.out]; rfl, rfl⟩
  · by_cases h2 : y < x
    · have HR : Hid (cmpG x y = 1) := by show _ = _; unfold cmpG; rw [if_neg h1, if_pos h2]
      go_enter Try.func96, Try.ntmps96
      go_wp2
      go_ret
      exact ⟨by rw [HR.out]; rfl, rfl⟩
    · have HR : Hid (cmpG x y = 0) := by show _ = _; unfold cmpG; rw [if_neg h1, if_neg h2]
      go_enter Try.func96, Try.ntmps96
      go_wp2
      go_ret
      exact ⟨by rw [HR.out]; rfl, rfl⟩
set_option maxHeartbeats 800000 in
theorem compW (x y : Int) (w : World) : Calls Try.prog 97 #[.int .u32 x, .int .u32 y] w fun e w' => e = .returned (.int .i64 (cmpG x y)) ∧ w' = w := by
  have e1 : (x != x) = false := by simp
  have e2 : (y != y) = false := by simp
  by_cases h1 : x < y
  · have HR : Hid (cmpG x y = -1) := by show _ = _; unfold cmpG; rw [if_pos h1]
    go_enter Try.func97, Try.ntmps97
    go_wp2
    go_ret
    exact ⟨by rw [HR.out]; rfl, rfl⟩
  · by_cases h2 : y < x
    · have HR : Hid (cmpG x y = 1) := by show _ = _; unfold cmpG; rw [if_neg h1, if_pos h2]
      go_enter Try.func97, Try.ntmps97
      go_wp2
      go_ret
      exact ⟨by rw [HR.out]; rfl, rfl⟩
    · have HR : Hid (cmpG x y = 0) := by show _ = _; unfold cmpG; rw [if_neg h1, if_neg h2]
      go_enter Try.func97, Try.ntmps97
      go_wp2
      go_ret
      exact ⟨by rw [HR.out]; rfl, rfl⟩

theorem limbs_len_lt {m n : Nat} (h : (limbs m).length < (limbs n).length) : m < n := by
  have h1 := limbs_lt m
  apply Classical.byContradiction
  intro hn
  have := limbs_len_le n (limbs m).length (by omega)
  omega
theorem cmp_len {m n : Nat} (h : (limbs m).length ≠ (limbs n).length) : cmpG ((limbs m).length : Int) ((limbs n).length : Int) = cmpI m n := by
  unfold cmpG cmpI
  rcases Nat.lt_or_gt_of_ne h with h | h
  · have := limbs_len_lt h
    rw [if_pos (by omega), if_pos this]
  · have := limbs_len_lt h
    rw [if_neg (by omega), if_pos (by omega), if_neg (by omega), if_pos this]
theorem drop_same {xs ys : List Int} {k : Nat} (h : ∀ j, k ≤ j → xs.getD j 0 = ys.getD j 0) (hl : xs.length = ys.length) : lval (xs.drop k) = lval (ys.drop k) := by
  have : xs.drop k = ys.drop k := by
    apply List.ext_getElem?
    intro i
    rw [List.getElem?_drop, List.getElem?_drop]
    by_cases hi : k + i < xs.length
    · have := h (k + i) (by omega)
      rw [List.getD_eq_getElem?_getD, List.getD_eq_getElem?_getD, List.getElem?_eq_getElem hi, List.getElem?_eq_getElem (by omega)] at this
      rw [List.getElem?_eq_getElem hi, List.getElem?_eq_getElem (by omega)]
      simpa using this
    · rw [List.getElem?_eq_none (by omega), List.getElem?_eq_none (by omega)]
  rw [this]
theorem cmp_word {m n s : Nat} (hl : (limbs m).length = (limbs n).length) (h : ∀ j, s + 1 ≤ j → (limbs m).getD j 0 = (limbs n).getD j 0) (hd : (limbs m).getD s 0 ≠ (limbs n).getD s 0) :
    cmpG ((limbs m).getD s 0) ((limbs n).getD s 0) = cmpI m n := by
  have e := drop_same h hl
  have d1 := lval_drop (limbs m) s
  have d2 := lval_drop (limbs n) s
  rcases Int.lt_or_gt_of_ne hd with hlt | hgt
  · have h1 := cmp_lt (limbs_inR m) (limbs_inR n) s (by omega)
    rw [num_limbs, num_limbs] at h1
    unfold cmpG cmpI
    rw [if_pos hlt, if_pos h1]
  · have h1 := cmp_lt (limbs_inR n) (limbs_inR m) s (by omega)
    rw [num_limbs, num_limbs] at h1
    unfold cmpG cmpI
    rw [if_neg (by omega), if_pos hgt, if_neg (by omega), if_pos h1]
theorem cmp_same {m n : Nat} (hl : (limbs m).length = (limbs n).length) (h : ∀ j, 0 ≤ j → (limbs m).getD j 0 = (limbs n).getD j 0) : cmpI m n = 0 := by
  have e := drop_same (k := 0) h hl
  simp only [List.drop_zero, limbs_val] at e
  have : m = n := by omega
  subst this
  unfold cmpI
  rw [if_neg (by omega), if_neg (by omega)]

set_option maxHeartbeats 1600000 in
/-- order: how two numbers stand to each other. -/
theorem gOrder (a oa b ob m n : Nat) (w : World) (ha : GA w a oa m) (hb : GA w b ob n) :
    Calls Try.prog 70 #[.pointer (some ⟨a, oa, none⟩), .pointer (some ⟨b, ob, none⟩)] w fun e w' => e = .returned (.int .i64 (cmpI m n)) ∧ Below w.heap.size w w' := by
  have ca := ha.size
  have cb := hb.size
  have hlm := ha.len
  have kc := fun W => compI ((limbs m).length : Int) ((limbs n).length : Int) W
  by_cases hl : (limbs m).length = (limbs n).length
  · have en : (((limbs m).length : Int) != ((limbs n).length : Int)) = false := by rw [hl]; simp
    have HL : Hid ((limbs m).length = (limbs n).length) := hl
    clear hl kc
    obtain ⟨L, hL⟩ : ∃ L, (limbs m).length = L := ⟨_, rfl⟩
    obtain ⟨L', hL'⟩ : ∃ L, (limbs n).length = L := ⟨_, rfl⟩
    have hLL : L' = L := by have := HL.out; omega
    rw [hL] at ca en hlm
    rw [hL', hLL] at cb
    rw [hL', hLL] at en
    have HWa : ∀ i, i < 98 → w.cell? ⟨a, oa + i, none⟩ = some (.int .u32 ((limbs m).getD i 0)) := ha.word
    have HWb : ∀ i, i < 98 → w.cell? ⟨b, ob + i, none⟩ = some (.int .u32 ((limbs n).getD i 0)) := hb.word
    have HZ0 : ∀ j, L ≤ j → (limbs m).getD j 0 = (limbs n).getD j 0 := fun j hj => by
      rw [List.getD_eq_getElem?_getD, List.getD_eq_getElem?_getD, List.getElem?_eq_none (by omega), List.getElem?_eq_none (by omega)]
    have HH : Hid ((∀ i, i < 98 → w.cell? ⟨a, oa + i, none⟩ = some (.int .u32 ((limbs m).getD i 0))) ∧ (∀ i, i < 98 → w.cell? ⟨b, ob + i, none⟩ = some (.int .u32 ((limbs n).getD i 0)))) := ⟨HWa, HWb⟩
    have HZ : Hid (∀ j, L ≤ j → (limbs m).getD j 0 = (limbs n).getD j 0) := HZ0
    clear HWa HWb ha hb hL hL' hLL HZ0
    go_enter Try.func70, Try.ntmps70
    go_wp2_with fail
    go_quiet (fail)
    go_wp2
    go_loopw [5] (fun i wr => ∃ (t : Nat), t ≤ L ∧ i = .int .i64 ((t : Int) - 1) ∧ (∀ j, t ≤ j → (limbs m).getD j 0 = (limbs n).getD j 0) ∧ ∃ nq, wr = w.drewN nq) (fun i _ => (intOf i + 1).toNat)
    case atStart => exact ⟨L, Nat.le_refl _, by go_num, HZ.out, nq, rfl⟩
    case round =>
      obtain ⟨t, ht, rfl, hsame, nq2, rfl⟩ := hrel
      have HS : Hid (∀ j, t ≤ j → (limbs m).getD j 0 = (limbs n).getD j 0) := hsame
      clear hsame
      by_cases h0 : t = 0
      · subst h0
        have HR : Hid (cmpI m n = 0) := cmp_same HL.out HS.out
        go_wp2
        go_ret
        exact ⟨by rw [HR.out]; rfl, ⟨rfl, rfl, rfl, Nat.le_refl _, fun _ _ => rfl⟩⟩
      · obtain ⟨s, rfl⟩ : ∃ s, t = s + 1 := ⟨t - 1, by omega⟩
        have c1 := HH.out.1 s (by omega)
        have c2 := HH.out.2 s (by omega)
        have hi : ((s + 1 : Nat) : Int) - 1 = (s : Int) := by omega
        rw [hi]
        have hpos : (0 : Int) ≤ (s : Int) := by omega
        have hs1 : (s : Int) < 98 := by omega
        have hs2 : s < 98 := by omega
        by_cases hd : (limbs m).getD s 0 = (limbs n).getD s 0
        · have HN : Hid (∀ j, s ≤ j → (limbs m).getD j 0 = (limbs n).getD j 0) := fun j h1 => by
            by_cases e : j = s
            · subst e; exact hd
            · exact HS.out j (by omega)
          rw [← hd] at c2
          obtain ⟨d, hdd⟩ : ∃ d, (limbs m).getD s 0 = d := ⟨_, rfl⟩
          rw [hdd] at c1 c2
          have ed : (d != d) = false := by simp
          clear hdd hd hi
          go_wp2_with fail
          go_quiet (fail)
          go_wp2
          go_roundw
          case rel => exact ⟨s, by omega, by go_num, HN.out, _, rfl⟩
          case measure => simp [intOf] <;> omega
        · have HR : Hid (cmpG ((limbs m).getD s 0) ((limbs n).getD s 0) = cmpI m n) := cmp_word HL.out HS.out hd
          obtain ⟨d, hdd⟩ : ∃ d, (limbs m).getD s 0 = d := ⟨_, rfl⟩
          obtain ⟨f, hff⟩ : ∃ d, (limbs n).getD s 0 = d := ⟨_, rfl⟩
          rw [hdd] at c1 HR hd
          rw [hff] at c2 HR hd
          have ed : (d != f) = true := by simpa using hd
          have kw := fun W => compW d f W
          rw [HR.out] at kw
          clear hdd hd hff hi
          go_wp2_with fail
          go_quiet (fail)
          go_wp2_with fail
          go_quiet ((go_at_call 97; exact (kw _).mono fun _ _ ⟨he, hm⟩ => ⟨he, _, hm⟩))
          go_wp2
          go_ret
          exact ⟨rfl, ⟨rfl, rfl, rfl, Nat.le_refl _, fun _ _ => rfl⟩⟩
  · have en : (((limbs m).length : Int) != ((limbs n).length : Int)) = true := by simp; omega
    have HR : Hid (cmpG ((limbs m).length : Int) ((limbs n).length : Int) = cmpI m n) := cmp_len hl
    simp only [cmp_len hl] at kc
    clear hl
    go_enter Try.func70, Try.ntmps70
    go_wp2_with fail
    go_quiet (fail)
    go_wp2_with fail
    go_quiet ((go_at_call 96; exact (kc _).mono fun _ _ ⟨he, hm⟩ => ⟨he, _, hm⟩))
    go_wp2
    go_ret
    exact ⟨rfl, ⟨rfl, rfl, rfl, Nat.le_refl _, fun _ _ => rfl⟩⟩

end Go.Proofs.Ytlpfjpbnedankaa
