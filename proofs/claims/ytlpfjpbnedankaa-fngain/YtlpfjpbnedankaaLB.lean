/- Several small texts in one: LawH, LawW, At0. -/
import Derived.Test.YtlpfjpbnedankaaDB
import Derived.Test.YtlpfjpbnedankaaBase
import Derived.OpenShut
/- Helpers of the laws over a code: big, tail, sameInts, each by its contract. -/
namespace Go.Proofs.Ytlpfjpbnedankaa
open Go.RowKit

set_option maxHeartbeats 800000 in
theorem big_no (a : Option Addr) (len cap : Nat) (w : World) (h : len ≤ 1048576) :
    Calls Try.prog 6 #[.slice a len cap] w fun e w' => e = .returned (.bool false) ∧ w' = w := by
  have h' : ¬ (1048576 : Int) < (len : Int) := by omega
  go_enter Try.func6, Try.ntmps6
  go_wp2
  go_ret
  exact ⟨rfl, rfl⟩
set_option maxHeartbeats 800000 in
theorem big_yes (a : Option Addr) (len cap : Nat) (w : World) (h : ¬ len ≤ 1048576) :
    Calls Try.prog 6 #[.slice a len cap] w fun e w' => e = .returned (.bool true) ∧ w' = w := by
  have h' : (1048576 : Int) < (len : Int) := by omega
  go_enter Try.func6, Try.ntmps6
  go_wp2
  go_ret
  exact ⟨rfl, rfl⟩

/-- A law over a code: what holds of codes of at most 2^20 bytes holds of all. -/
theorem law_big (F : FuncId) (hbig : ∀ (a : Option Addr) (len cap : Nat) (w : World), ¬ len ≤ 1048576 → Calls Try.prog F #[.slice a len cap] w fun e w' => e = .returned (.bool true) ∧ Below w.heap.size w w')
    (hin : ∀ (a : Option Addr) (len cap : Nat) (zs : List Int) (w : World), len ≤ 1048576 → CodeIs w a len cap zs → Calls Try.prog F #[.slice a len cap] w fun e w' => e = .returned (.bool true) ∧ Below w.heap.size w w')
    (a0 : Option Addr) (len0 cap0 : Nat) (z0 : List Int) (w : World) (h : IsRow .u8 w a0 len0 cap0 z0) : Calls Try.prog F #[.slice a0 len0 cap0] w fun e w' => e = .returned (.bool true) ∧ Below w.heap.size w w' := by
  by_cases hs : len0 ≤ 1048576
  · exact hin a0 len0 cap0 z0 w hs (code_of h)
  · exact hbig a0 len0 cap0 w hs

theorem CodeIs.tail {w : World} {x : Addr} {len cap : Nat} {zs : List Int} (h : CodeIs w (some x) len cap zs) (h0 : 0 < len) : CodeIs w (some (x.add 1)) (len - 1) (cap - 1) (zs.drop 1) := by
  obtain ⟨h1, h2⟩ := h
  rcases h1 with ⟨h, -⟩ | ⟨y, hy, g2, g3, g4, g5, g6⟩
  · cases h
  · cases hy
    have hsp : x.spot = none := by simpa [Addr.add] using World.cell?_spot (g5 0 (by omega))
    refine ⟨.inr ⟨_, rfl, by omega, by omega, by rw [List.length_drop]; omega, fun i hi => ?_, fun n hn => g6 n (List.mem_of_mem_drop hn)⟩, fun z hz hl => ?_⟩
    · have := g5 (i + 1) (by rw [List.length_drop] at hi; omega)
      rw [show (x.add 1).add i = x.add (i + 1) from ?_]
      · rw [this, List.getD_eq_getElem?_getD, List.getD_eq_getElem?_getD, List.getElem?_drop, Nat.add_comm 1 i]
      · obtain ⟨b, o, s⟩ := x
        simp only at hsp
        subst hsp
        unfold Addr.add
        by_cases hi0 : i = 0
        · subst hi0; simp
        · simp [hi0]; omega
    · cases hz
      rw [add_block]
      exact h2 x rfl (by omega)


set_option maxHeartbeats 1600000 in
/-- sameInts: whether two rows hold the same numbers. -/
theorem sameI (va vb : Value) (xs ys : List Int) (w : World) (ha : rowI w va xs) (hb : rowI w vb ys) (hl : xs.length ≤ 1048576) :
    Calls Try.prog 54 #[va, vb] w fun e w' => e = .returned (.bool (decide (xs = ys))) ∧ Below w.heap.size w w' := by
  obtain ⟨a, cap, rfl, -, -, -, -, a6⟩ := ha
  obtain ⟨b, cbp, rfl, -, -, -, -, b6⟩ := hb
  have A6 : Hid (∀ j, j < xs.length → ∃ g off, a = some ⟨g, off, none⟩ ∧ g < w.heap.size ∧ w.cell? ⟨g, off + j, none⟩ = some (.int .i64 (xs.getD j 0))) := a6
  have B6 : Hid (∀ j, j < ys.length → ∃ g off, b = some ⟨g, off, none⟩ ∧ g < w.heap.size ∧ w.cell? ⟨g, off + j, none⟩ = some (.int .i64 (ys.getD j 0))) := b6
  clear a6 b6
  by_cases hlen : xs.length = ys.length
  · obtain ⟨n, hn⟩ : ∃ n, xs.length = n := ⟨_, rfl⟩
    rw [← hlen, hn]
    rw [← hlen, hn] at B6
    rw [hn] at A6 hl
    have hle : ys.length = n := by omega
    clear hlen
    have e0 : ((n : Int) == (n : Int)) = true := by simp
    go_enter Try.func54, Try.ntmps54
    go_wp2
    go_loopw [5] (fun i wr => ∃ k m : Nat, k ≤ n ∧ i = .int .i64 k ∧ wr = w.drewN m ∧ Hid (xs.take k = ys.take k)) (fun i _ => n - (intOf i).toNat)
    case atStart => exact ⟨0, 0, Nat.zero_le _, rfl, rfl, by show _ = _; simp⟩
    case round =>
      obtain ⟨k, m, hk, rfl, rfl, HT⟩ := hrel
      by_cases hlt : k < n
      · obtain ⟨g, off, rfl, -, hp⟩ := A6.out k hlt
        obtain ⟨g', off', rfl, -, hp'⟩ := B6.out k hlt
        have s1 : xs.take (k + 1) = xs.take k ++ [xs.getD k 0] := by
          rw [List.take_succ_eq_append_getElem (by omega), List.getD_eq_getElem?_getD, List.getElem?_eq_getElem (by omega)]; rfl
        have s2 : ys.take (k + 1) = ys.take k ++ [ys.getD k 0] := by
          rw [List.take_succ_eq_append_getElem (by omega), List.getD_eq_getElem?_getD, List.getElem?_eq_getElem (by omega)]; rfl
        have HN : Hid (xs.getD k 0 ≠ ys.getD k 0 → decide (xs = ys) = false) := fun h => by rw [decide_eq_false_iff_not]; intro e; rw [e] at h; exact h rfl
        have hc : w.cell? ⟨g, off + k, none⟩ = some (.int .i64 (xs.getD k 0)) := hp
        have hc' : w.cell? ⟨g', off' + k, none⟩ = some (.int .i64 (ys.getD k 0)) := hp'
        clear hp hp'
        obtain ⟨c, hcc⟩ : ∃ c, xs.getD k 0 = c := ⟨_, rfl⟩
        obtain ⟨d, hdd⟩ : ∃ d, ys.getD k 0 = d := ⟨_, rfl⟩
        rw [hcc] at hc s1 HN
        rw [hdd] at hc' s2 HN
        have HS : Hid (xs.take (k + 1) = xs.take k ++ [c] ∧ ys.take (k + 1) = ys.take k ++ [d]) := ⟨s1, s2⟩
        clear s1 s2 hcc hdd
        by_cases hcd : c = d
        · subst hcd
          clear HN
          go_wp2
          go_quiet (fail)
          go_wp2
          go_roundw
          case rel => exact ⟨k + 1, m + nq, by omega, by go_num, rfl, by show _ = _; rw [HS.out.1, HS.out.2, HT.out]⟩
          case measure => simp [intOf]; omega
        · have hcd' : (c == d) = false := beq_eq_false_iff_ne.2 hcd
          have HF : Hid (decide (xs = ys) = false) := HN.out hcd
          clear HN
          go_wp2
          go_quiet (fail)
          go_wp2
          go_ret
          exact ⟨by rw [HF.out]; rfl, ⟨rfl, rfl, rfl, Nat.le_refl _, fun _ _ => rfl⟩⟩
      · have HF : Hid (decide (xs = ys) = true) := by
          show _ = _
          have h1 := HT.out
          rw [List.take_of_length_le (by omega), List.take_of_length_le (by omega)] at h1
          exact decide_eq_true h1
        go_wp2
        go_ret
        exact ⟨by rw [HF.out]; rfl, ⟨rfl, rfl, rfl, Nat.le_refl _, fun _ _ => rfl⟩⟩
  · have e0 : ((xs.length : Int) == (ys.length : Int)) = false := by rw [beq_eq_false_iff_ne]; omega
    have HF : Hid (decide (xs = ys) = false) := by show _ = _; rw [decide_eq_false_iff_not]; intro e; exact hlen (by rw [e])
    go_enter Try.func54, Try.ntmps54
    go_wp2
    go_ret
    exact ⟨by rw [HF.out]; rfl, Below.refl _ _⟩

end Go.Proofs.Ytlpfjpbnedankaa

/- sameWhole, by its contract; small facts on numbers with a sign. -/
namespace Go.Proofs.Ytlpfjpbnedankaa
open Go.RowKit
set_option linter.unusedSimpArgs false

theorem fitW_true {z : Int} {x : Wh} (h : fitW z = (x, true)) : x = mkW z ∧ (limbs z.natAbs).length ≤ 48 := by
  unfold fitW at h
  split at h
  · rename_i hl
    cases h
    exact ⟨rfl, hl⟩
  · cases h
theorem fitW_false {z : Int} {x : Wh} (h : fitW z = (x, false)) : x = (false, []) := by
  unfold fitW at h
  split at h
  · cases h
  · cases h; rfl
theorem fitW_yes {z : Int} (h : (limbs z.natAbs).length ≤ 48) : fitW z = (mkW z, true) := by unfold fitW; rw [if_pos h]
theorem okW_mk {z : Int} (h : (limbs z.natAbs).length ≤ 48) : okW (mkW z) = true := by
  rw [okW_iff]
  refine ⟨okL_limbs h, fun hn => ?_⟩
  have hz : z < 0 := by simpa [mkW] using hn
  show 0 < (limbs z.natAbs).length
  rw [limbs_pos _ (by omega)]
  simp
theorem okW_len {a : Wh} (h : okW a = true) : a.2.length ≤ 48 := ((okW_iff a).1 h).1.1
theorem okW_abs {a : Wh} (h : okW a = true) : (limbs (valW a).natAbs).length ≤ 48 := by
  have e := mkW_of h
  have := okW_len h
  rw [e] at this
  exact this
theorem wcmp_mk {a b : Wh} (h1 : okW a = true) (h2 : okW b = true) : wcmpR a b = (if valW a < valW b then -1 else if valW b < valW a then 1 else 0) := by unfold wcmpR; rw [if_pos ⟨h1, h2⟩]
/-- A number that is no greater fits, too. -/
theorem fit_le {y z : Int} (h : (limbs z.natAbs).length ≤ 48) (hy : y.natAbs ≤ z.natAbs) : (limbs y.natAbs).length ≤ 48 := Nat.le_trans (limbs_len_mono hy) h

theorem rowW.mag {w : World} {g : Bool} {s : Value} {a : Wh} (h : rowW w (.agg #[.bool g, s]) a) : rowI w s a.2 := by
  obtain ⟨s', e, h⟩ := h
  simp at e
  rw [e.2]
  exact h
theorem fitW_len48 (z : Int) : (fitW z).1.2.length ≤ 48 := by
  unfold fitW
  split
  · assumption
  · simp

set_option maxHeartbeats 1600000 in
theorem sameWh (va vb : Value) (a b : Wh) (w : World) (ha : rowW w va a) (hb : rowW w vb b) (hl : a.2.length ≤ 1048576) :
    Calls Try.prog 20 #[va, vb] w fun e w' => e = .returned (.bool (decide (a = b))) ∧ Below w.heap.size w w' := by
  obtain ⟨s1, rfl, r1⟩ := ha
  obtain ⟨s2, rfl, r2⟩ := hb
  obtain ⟨g, xs⟩ := a
  obtain ⟨g', ys⟩ := b
  have K := fun W (h : Below w.heap.size w W) => sameI s1 s2 xs ys W (r1.below h (Nat.le_refl _)) (r2.below h (Nat.le_refl _)) hl
  have B := below2 w (.cells #[.bool g, s1] 27) (.cells #[.bool g', s2] 27)
  by_cases hg : g = g'
  · subst hg
    have HD : Hid (decide (((g, xs) : Wh) = (g, ys)) = decide (xs = ys)) := by
      show _ = _
      by_cases h : xs = ys
      · subst h; simp
      · simp [h]
    have ebb : (g == g) = true := by simp
    obtain ⟨d, hd⟩ : ∃ d, decide (xs = ys) = d := ⟨_, rfl⟩
    rw [hd] at K HD
    clear hd r1 r2
    go_enter Try.func20, Try.ntmps20
    go_wp2_with fail
    refine (K _ B).mono ?_
    rintro e w3 ⟨rfl, b3⟩
    have B3 := B.trans (b3.mono B.size)
    go_wp2
    go_ret
    exact ⟨by rw [HD.out]; rfl, B3⟩
  · have HD : Hid (decide (((g, xs) : Wh) = (g', ys)) = false) := by show _ = _; rw [decide_eq_false_iff_not]; intro e; exact hg (congrArg Prod.fst e)
    have ebb : (g == g') = false := by rw [beq_eq_false_iff_ne]; exact hg
    clear r1 r2 K
    go_enter Try.func20, Try.ntmps20
    go_wp2
    go_ret
    first | exact ⟨rfl, B⟩ | exact ⟨by rw [HD.out]; rfl, B⟩

end Go.Proofs.Ytlpfjpbnedankaa

/- The laws' at0, at whichever place, and big, with what they leave (no draws). -/
namespace Go.Proofs.Ytlpfjpbnedankaa
open Go.RowKit
set_option linter.unusedSimpArgs false

theorem big_b (a : Option Addr) (len cap : Nat) (w : World) (h : len ≤ 1048576) : Calls Try.prog 6 #[.slice a len cap] w fun e w' => e = .returned (.bool false) ∧ Below w.heap.size w w' :=
  (big_no a len cap w h).mono fun _ _ ⟨h1, h2⟩ => ⟨h1, h2 ▸ Below.refl _ _⟩
set_option maxHeartbeats 1600000 in
theorem at0_b (a : Option Addr) (len cap : Nat) (zs : List Int) (i : Nat) (w : World) (hlen : len ≤ 1048576) (hi : i ≤ 1000) (h : CodeIs w a len cap zs) :
    Calls Try.prog 7 #[.slice a len cap, .int .i64 (i : Int)] w fun e w' => ∃ x, e = .returned (.int .i64 x) ∧ 0 ≤ x ∧ x ≤ 255 ∧ Below w.heap.size w w' := by
  obtain ⟨hrow, -⟩ := h
  by_cases hil : i < len
  · rcases hrow with ⟨_, h0, _, _⟩ | ⟨⟨b, off, spot⟩, rfl, g2, g3, g4, g5, g6⟩
    · omega
    · have hc := g5 i (by omega)
      have hspot : spot = none := by simpa [Addr.add] using World.cell?_spot (g5 0 (by omega))
      subst hspot
      obtain ⟨z, hz⟩ : ∃ z, zs.getD i 0 = z := ⟨_, rfl⟩
      have hzm : z ∈ zs := by rw [← hz, List.getD_eq_getElem?_getD, List.getElem?_eq_getElem (by omega : i < zs.length)]; exact List.getElem_mem _
      have hzb := Go.bounds_u8 (g6 z hzm)
      have hz0 : 0 ≤ z := hzb.1
      have hz1 : z ≤ 255 := hzb.2
      rw [hz] at hc
      have hca : w.cell? ⟨b, off + i, none⟩ = some (.int .u8 z) := by
        unfold Addr.add at hc
        by_cases e0 : i = 0
        · subst e0; simpa using hc
        · simpa [e0] using hc
      have hil' : (i : Int) < (len : Int) := by omega
      have hi0 : ¬ (i : Int) < 0 := by omega
      have hB := Below.refl w.heap.size w
      clear hc hz g5 g6 hzb hzm
      go_enter Try.func7, Try.ntmps7
      go_wp2
      go_ret
      exact ⟨_, rfl, hz0, hz1, hB⟩
  · have hil' : ¬ (i : Int) < (len : Int) := by omega
    have hB := Below.refl w.heap.size w
    go_enter Try.func7, Try.ntmps7
    go_wp2
    go_ret
    exact ⟨_, rfl, by omega, by omega, hB⟩

end Go.Proofs.Ytlpfjpbnedankaa
