/- Several small texts in one: RoundM, LawH, LawW, LawFr, LawFr2. -/
import Derived.Test.YtlnpfjnpnjiepaaBase
import Derived.Test.YtlnpfjnpnjiepaaDraw
/- What rounding answers; the facts of numbers behind it (no program). -/
namespace Go.Proofs.Ytlnpfjnpnjiepaa
open Go.RowKit
set_option linter.unusedSimpArgs false

def cmpJ (x y : Int) : Int := if x < y then -1 else if y < x then 1 else 0
/-- The floor or one more. -/
def pickI (fl : Int) (whole : Bool) (half mode : Int) : Int :=
  if whole = true then fl
  else if mode = 1 then fl + 1
  else if mode = 2 then (if fl < 0 then fl + 1 else fl)
  else if mode = 3 then (if 0 < half ∨ (half = 0 ∧ fl % 2 = 1) then fl + 1 else fl)
  else if mode = 4 then (if 0 < half ∨ (half = 0 ∧ ¬ fl < 0) then fl + 1 else fl)
  else fl
/-- A fraction, rounded. -/
def fracI (x y mode : Int) : Int := pickI (x / y) (decide (x - x / y * y = 0)) (cmpJ ((x - x / y * y) * 2) y) mode
/-- The root of a number by 2^k, rounded. -/
def rootI (x : Int) (k : Nat) (mode : Int) : Int :=
  pickI (isqrt (x.natAbs / 2 ^ k) : Nat) (decide (isqrt (x.natAbs / 2 ^ k) * isqrt (x.natAbs / 2 ^ k) * 2 ^ k = x.natAbs)) (cmpJ ((x.natAbs * 4 : Nat) : Int) (((2 * isqrt (x.natAbs / 2 ^ k) + 1) * (2 * isqrt (x.natAbs / 2 ^ k) + 1) * 2 ^ k : Nat) : Int)) mode

def turnI (mode : Int) : Int := if mode = 0 then 1 else if mode = 1 then 0 else mode
def risesI (q : Nat) (half mode : Int) : Bool :=
  if mode = 1 then true else if mode = 3 then (if half = 0 then decide (q % 2 = 1) else decide (0 ≤ half)) else if mode = 4 then decide (0 ≤ half) else false
/-- What the program makes of a size: below nought it is rounded the other way round. -/
def roundN (q : Nat) (whole : Bool) (half : Int) (neg : Bool) (mode : Int) : Nat :=
  if whole = false ∧ risesI q half (if neg = true then turnI mode else mode) = true then q + 1 else q

theorem roundN_le (q : Nat) (whole : Bool) (half : Int) (neg : Bool) (mode : Int) : roundN q whole half neg mode ≤ q + 1 := by
  unfold roundN
  generalize (if neg = true then turnI mode else mode) = m
  split <;> omega

theorem ediv_isR {x z P : Int} (hP : 0 < P) (h1 : z * P ≤ x) (h2 : x < z * P + P) : x / P = z := by
  have h3 := (Int.le_ediv_iff_mul_le hP).2 h1
  have h4 : x / P < z + 1 := (Int.ediv_lt_iff_lt_mul hP).2 (by rw [Int.add_mul, Int.one_mul]; exact h2)
  omega

theorem frac_round (x : Int) (d : Nat) (hd : 0 < d) (mode : Int) (h0 : 0 ≤ mode) (h4 : mode ≤ 4) :
    fracI x d mode = (if decide (x < 0) = true then -((roundN (x.natAbs / d) (decide (x.natAbs % d = 0)) (cmpJ ((x.natAbs % d * 2 : Nat) : Int) d) (decide (x < 0)) mode : Nat) : Int) else ((roundN (x.natAbs / d) (decide (x.natAbs % d = 0)) (cmpJ ((x.natAbs % d * 2 : Nat) : Int) d) (decide (x < 0)) mode : Nat) : Int)) := by
  have hdm := Nat.div_add_mod x.natAbs d
  have hlt := Nat.mod_lt x.natAbs hd
  have hm : ((x.natAbs / d : Nat) : Int) * (d : Int) + ((x.natAbs % d : Nat) : Int) = (x.natAbs : Int) := by
    rw [Nat.mul_comm] at hdm
    exact_mod_cast hdm
  have hdp : (0 : Int) < (d : Int) := by omega
  obtain ⟨q, hq⟩ : ∃ q, x.natAbs / d = q := ⟨_, rfl⟩
  obtain ⟨r, hr⟩ : ∃ r, x.natAbs % d = r := ⟨_, rfl⟩
  rw [hq, hr] at hm
  rw [hr] at hlt
  rw [hq, hr]
  clear hq hr hdm
  by_cases hx : x < 0
  · have hxa : x = -(x.natAbs : Int) := by omega
    by_cases hr0 : r = 0
    · subst hr0
      have hfl : x / (d : Int) = -(q : Int) := by
        apply ediv_isR hdp
        · rw [Int.neg_mul]; omega
        · rw [Int.neg_mul]; omega
      have hrest : x - x / (d : Int) * (d : Int) = 0 := by rw [hfl, Int.neg_mul]; omega
      unfold fracI roundN
      rw [hrest, hfl]
      simp [pickI, hx]
    · have hfl : x / (d : Int) = -(q : Int) - 1 := by
        apply ediv_isR hdp
        · rw [Int.sub_mul, Int.neg_mul]; omega
        · rw [Int.sub_mul, Int.neg_mul]; omega
      have hrest : x - x / (d : Int) * (d : Int) = (d : Int) - (r : Int) := by rw [hfl, Int.sub_mul, Int.neg_mul]; omega
      unfold fracI roundN
      rw [hrest, hfl]
      have w1 : decide ((d : Int) - (r : Int) = 0) = false := decide_eq_false (by omega)
      have w2 : decide (r = 0) = false := decide_eq_false hr0
      have w3 : decide (x < 0) = true := decide_eq_true hx
      rw [w1, w2, w3]
      have hq0 : -(q : Int) - 1 < 0 := by omega
      have hc : cmpJ (((d : Int) - (r : Int)) * 2) (d : Int) = -(cmpJ ((r * 2 : Nat) : Int) (d : Int)) := by
        unfold cmpJ
        split <;> split <;> (try split) <;> (try split) <;> omega
      rw [hc]
      generalize cmpJ ((r * 2 : Nat) : Int) (d : Int) = c
      have hodd : ((-(q : Int) - 1) % 2 = 1) ↔ ¬ (q % 2 = 1) := by omega
      have hm5 : mode = 0 ∨ mode = 1 ∨ mode = 2 ∨ mode = 3 ∨ mode = 4 := by omega
      rcases hm5 with rfl | rfl | rfl | rfl | rfl
      · simp [pickI, risesI, turnI]; omega
      · simp [pickI, risesI, turnI]
      · simp [pickI, risesI, turnI, hq0]
      · simp only [pickI, risesI, turnI, hodd]
        by_cases c0 : c = 0
        · subst c0
          by_cases hq2 : q % 2 = 1
          · simp [hq2]; omega
          · simp [hq2]
        · by_cases c1 : 0 ≤ c
          · have : ¬ (0 < -c) := by omega
            have k2 : ¬ (-c = 0) := by omega
            simp [c0, c1, this, k2]; omega
          · have : 0 < -c := by omega
            simp [c0, c1, this]
      · simp only [pickI, risesI, turnI]
        by_cases c1 : 0 ≤ c
        · have : ¬ (0 < -c) := by omega
          simp [c1, this, hq0]; omega
        · have : 0 < -c := by omega
          simp [c1, this]
  · have hxa : x = (x.natAbs : Int) := by omega
    have hfl : x / (d : Int) = (q : Int) := by
      apply ediv_isR hdp
      · omega
      · omega
    have hrest : x - x / (d : Int) * (d : Int) = (r : Int) := by rw [hfl]; omega
    unfold fracI roundN
    rw [hrest, hfl]
    have w3 : decide (x < 0) = false := decide_eq_false hx
    have w1 : decide ((r : Int) = 0) = decide (r = 0) := by by_cases h : r = 0 <;> simp [h]
    have e2 : (r : Int) * 2 = ((r * 2 : Nat) : Int) := by omega
    rw [w3, w1, e2]
    generalize cmpJ ((r * 2 : Nat) : Int) (d : Int) = c
    have hq0 : ¬ ((q : Int) < 0) := by omega
    have hodd : ((q : Int) % 2 = 1) ↔ (q % 2 = 1) := by omega
    have hm5 : mode = 0 ∨ mode = 1 ∨ mode = 2 ∨ mode = 3 ∨ mode = 4 := by omega
    by_cases hr0 : r = 0
    · simp [pickI, hr0]
    · rcases hm5 with rfl | rfl | rfl | rfl | rfl
      · simp [pickI, risesI, turnI, hr0]
      · simp [pickI, risesI, turnI, hr0]
      · simp [pickI, risesI, turnI, hr0, hq0]
      · simp only [pickI, risesI, turnI, hodd]
        by_cases c0 : c = 0
        · subst c0
          by_cases hq2 : q % 2 = 1
          · simp [hr0, hq2]
          · simp [hr0, hq2]
        · by_cases c1 : 0 ≤ c
          · have : 0 < c := by omega
            simp [hr0, c0, c1, this]
          · have : ¬ (0 < c) := by omega
            simp [hr0, c0, c1, this]
      · simp only [pickI, risesI, turnI]
        by_cases c1 : 0 ≤ c
        · have : 0 < c ∨ c = 0 := by omega
          simp [hr0, c1, this, hq0]
        · have k1 : ¬ (0 < c) := by omega
          have k2 : ¬ (c = 0) := by omega
          simp [hr0, c1, k1, k2]

def rfracR (a b : Wh) (mode : Int) : Wh × Bool := if okW a = true ∧ okW b = true ∧ 0 < valW b ∧ 0 ≤ mode ∧ mode ≤ 4 then fitW (fracI (valW a) (valW b) mode) else ((false, []), false)
def ratR (a : Wh) (k mode : Int) : Wh × Bool := if okW a = true ∧ 0 ≤ k ∧ k ≤ 600 ∧ 0 ≤ mode ∧ mode ≤ 4 then fitW (fracI (valW a) (2 ^ k.toNat) mode) else ((false, []), false)
def rrootR (a : Wh) (k mode : Int) : Wh × Bool := if okW a = true ∧ 0 ≤ valW a ∧ 0 ≤ k ∧ k ≤ 600 ∧ 0 ≤ mode ∧ mode ≤ 4 then fitW (rootI (valW a) k.toNat mode) else ((false, []), false)
theorem rfracR_len (a b : Wh) (mode : Int) : (rfracR a b mode).1.2.length ≤ 1048576 := by
  unfold rfracR; split
  · exact fitW_len _
  · simp
theorem ratR_len (a : Wh) (k mode : Int) : (ratR a k mode).1.2.length ≤ 1048576 := by
  unfold ratR; split
  · exact fitW_len _
  · simp
theorem rrootR_len (a : Wh) (k mode : Int) : (rrootR a k mode).1.2.length ≤ 1048576 := by
  unfold rrootR; split
  · exact fitW_len _
  · simp

end Go.Proofs.Ytlnpfjnpnjiepaa

/- Helpers of the laws over a code: big, tail, sameInts, each by its contract. -/
namespace Go.Proofs.Ytlnpfjnpnjiepaa
open Go.RowKit

set_option maxHeartbeats 800000 in
theorem big_no (a : Option Addr) (len cap : Nat) (w : World) (h : len ≤ 1048576) :
    Calls Try.prog 9 #[.slice a len cap] w fun e w' => e = .returned (.bool false) ∧ w' = w := by
  have h' : ¬ (1048576 : Int) < (len : Int) := by omega
  go_enter Try.func9, Try.ntmps9
  go_wp2
  go_ret
  exact ⟨rfl, rfl⟩
set_option maxHeartbeats 800000 in
theorem big_yes (a : Option Addr) (len cap : Nat) (w : World) (h : ¬ len ≤ 1048576) :
    Calls Try.prog 9 #[.slice a len cap] w fun e w' => e = .returned (.bool true) ∧ w' = w := by
  have h' : (1048576 : Int) < (len : Int) := by omega
  go_enter Try.func9, Try.ntmps9
  go_wp2
  go_ret
  exact ⟨rfl, rfl⟩

/-- A law over a code: what holds of codes of at most 2^20 bytes holds of all. -/
theorem law_big (F : FuncId) (hbig : ∀ (a : Option Addr) (len cap : Nat) (w : World), ¬ len ≤ 1048576 → Calls Try.prog F #[.slice a len cap] w fun e w' => e = .returned (.bool true) ∧ Below w.heap.size w w')
    (hin : ∀ (a : Option Addr) (len cap : Nat) (zs : List Int) (w : World), len ≤ 1048576 → CodeIs w a len cap zs → Calls Try.prog F #[.slice a len cap] w fun e w' => e = .returned (.bool true) ∧ Below w.heap.size w w')
    (a0 : Option Addr) (len0 cap0 : Nat) (z0 : List Int) (w : World) (h : IsRow .u8 w a0 len0 cap0 z0) : Calls Try.prog F #[.slice a0 len0 cap0] w fun e w' => e = .returned (.bool true) ∧ Below w.heap.size w w' := by
  by_cases hs : len0 ≤ 1048576
  · exact hin a0 len0 cap0 z0 w hs (code_of h)
  · exact hbig a0 len0 cap0 w hs

theorem CodeIs.tail {w : World} {x : Addr} {len cap : Nat} {zs : List Int} (h : CodeIs w (some x) len cap zs) (h0 : 0 < len) : CodeIs w (some (x.add 1)) (len - 1) (cap - 1) (zs.drop 1) := by
  obtain ⟨h1, h2⟩ := h
  rcases h1 with ⟨h, -⟩ | ⟨y, hy, g2, g3, g4, g5, g6⟩
  · cases h
  · cases hy
    have hsp : x.spot = none := by simpa [Addr.add] using World.cell?_spot (g5 0 (by omega))
    refine ⟨.inr ⟨_, rfl, by omega, by omega, by rw [List.length_drop]; omega, fun i hi => ?_, fun n hn => g6 n (List.mem_of_mem_drop hn)⟩, fun z hz hl => ?_⟩
    · have := g5 (i + 1) (by rw [List.length_drop] at hi; omega)
      rw [show (x.add 1).add i = x.add (i + 1) from ?_]
      · rw [this, List.getD_eq_getElem?_getD, List.getD_eq_getElem?_getD, List.getElem?_drop, Nat.add_comm 1 i]
      · obtain ⟨b, o, s⟩ := x
        simp only at hsp
        subst hsp
        unfold Addr.add
        by_cases hi0 : i = 0
        · subst hi0; simp
        · simp [hi0]; omega
    · cases hz
      rw [add_block]
      exact h2 x rfl (by omega)


set_option maxHeartbeats 1600000 in
/-- sameInts: whether two rows hold the same numbers. -/
theorem sameI (va vb : Value) (xs ys : List Int) (w : World) (ha : rowI w va xs) (hb : rowI w vb ys) (hl : xs.length ≤ 1048576) :
    Calls Try.prog 46 #[va, vb] w fun e w' => e = .returned (.bool (decide (xs = ys))) ∧ Below w.heap.size w w' := by
  obtain ⟨a, cap, rfl, -, -, -, -, a6⟩ := ha
  obtain ⟨b, cbp, rfl, -, -, -, -, b6⟩ := hb
  have A6 : Hid (∀ j, j < xs.length → ∃ g off, a = some ⟨g, off, none⟩ ∧ g < w.heap.size ∧ w.cell? ⟨g, off + j, none⟩ = some (.int .i64 (xs.getD j 0))) := a6
  have B6 : Hid (∀ j, j < ys.length → ∃ g off, b = some ⟨g, off, none⟩ ∧ g < w.heap.size ∧ w.cell? ⟨g, off + j, none⟩ = some (.int .i64 (ys.getD j 0))) := b6
  clear a6 b6
  by_cases hlen : xs.length = ys.length
  · obtain ⟨n, hn⟩ : ∃ n, xs.length = n := ⟨_, rfl⟩
    rw [← hlen, hn]
    rw [← hlen, hn] at B6
    rw [hn] at A6 hl
    have hle : ys.length = n := by omega
    clear hlen
    have e0 : ((n : Int) == (n : Int)) = true := by simp
    go_enter Try.func46, Try.ntmps46
    go_wp2
    go_loopw [5] (fun i wr => ∃ k m : Nat, k ≤ n ∧ i = .int .i64 k ∧ wr = w.drewN m ∧ Hid (xs.take k = ys.take k)) (fun i _ => n - (intOf i).toNat)
    case atStart => exact ⟨0, 0, Nat.zero_le _, rfl, rfl, by show _ = _; simp⟩
    case round =>
      obtain ⟨k, m, hk, rfl, rfl, HT⟩ := hrel
      by_cases hlt : k < n
      · obtain ⟨g, off, rfl, -, hp⟩ := A6.out k hlt
        obtain ⟨g', off', rfl, -, hp'⟩ := B6.out k hlt
        have s1 : xs.take (k + 1) = xs.take k ++ [xs.getD k 0] := by
          rw [List.take_succ_eq_append_getElem (by omega), List.getD_eq_getElem?_getD, List.getElem?_eq_getElem (by omega)]; rfl
        have s2 : ys.take (k + 1) = ys.take k ++ [ys.getD k 0] := by
          rw [List.take_succ_eq_append_getElem (by omega), List.getD_eq_getElem?_getD, List.getElem?_eq_getElem (by omega)]; rfl
        have HN : Hid (xs.getD k 0 ≠ ys.getD k 0 → decide (xs = ys) = false) := fun h => by rw [decide_eq_false_iff_not]; intro e; rw [e] at h; exact h rfl
        have hc : w.cell? ⟨g, off + k, none⟩ = some (.int .i64 (xs.getD k 0)) := hp
        have hc' : w.cell? ⟨g', off' + k, none⟩ = some (.int .i64 (ys.getD k 0)) := hp'
        clear hp hp'
        obtain ⟨c, hcc⟩ : ∃ c, xs.getD k 0 = c := ⟨_, rfl⟩
        obtain ⟨d, hdd⟩ : ∃ d, ys.getD k 0 = d := ⟨_, rfl⟩
        rw [hcc] at hc s1 HN
        rw [hdd] at hc' s2 HN
        have HS : Hid (xs.take (k + 1) = xs.take k ++ [c] ∧ ys.take (k + 1) = ys.take k ++ [d]) := ⟨s1, s2⟩
        clear s1 s2 hcc hdd
        by_cases hcd : c = d
        · subst hcd
          clear HN
          go_wp2
          go_quiet (fail)
          go_wp2
          go_roundw
          case rel => exact ⟨k + 1, m + nq, by omega, by go_num, rfl, by show _ = _; rw [HS.out.1, HS.out.2, HT.out]⟩
          case measure => simp [intOf]; omega
        · have hcd' : (c == d) = false := beq_eq_false_iff_ne.2 hcd
          have HF : Hid (decide (xs = ys) = false) := HN.out hcd
          clear HN
          go_wp2
          go_quiet (fail)
          go_wp2
          go_ret
          exact ⟨by rw [HF.out]; rfl, ⟨rfl, rfl, rfl, Nat.le_refl _, fun _ _ => rfl⟩⟩
      · have HF : Hid (decide (xs = ys) = true) := by
          show _ = _
          have h1 := HT.out
          rw [List.take_of_length_le (by omega), List.take_of_length_le (by omega)] at h1
          exact decide_eq_true h1
        go_wp2
        go_ret
        exact ⟨by rw [HF.out]; rfl, ⟨rfl, rfl, rfl, Nat.le_refl _, fun _ _ => rfl⟩⟩
  · have e0 : ((xs.length : Int) == (ys.length : Int)) = false := by rw [beq_eq_false_iff_ne]; omega
    have HF : Hid (decide (xs = ys) = false) := by show _ = _; rw [decide_eq_false_iff_not]; intro e; exact hlen (by rw [e])
    go_enter Try.func46, Try.ntmps46
    go_wp2
    go_ret
    exact ⟨by rw [HF.out]; rfl, Below.refl _ _⟩

end Go.Proofs.Ytlnpfjnpnjiepaa

/- sameWhole, by its contract; small facts on numbers with a sign. -/
namespace Go.Proofs.Ytlnpfjnpnjiepaa
open Go.RowKit
set_option linter.unusedSimpArgs false

theorem fitW_true {z : Int} {x : Wh} (h : fitW z = (x, true)) : x = mkW z ∧ (limbs z.natAbs).length ≤ 48 := by
  unfold fitW at h
  split at h
  · rename_i hl
    cases h
    exact ⟨rfl, hl⟩
  · cases h
theorem fitW_false {z : Int} {x : Wh} (h : fitW z = (x, false)) : x = (false, []) := by
  unfold fitW at h
  split at h
  · cases h
  · cases h; rfl
theorem fitW_yes {z : Int} (h : (limbs z.natAbs).length ≤ 48) : fitW z = (mkW z, true) := by unfold fitW; rw [if_pos h]
theorem okW_mk {z : Int} (h : (limbs z.natAbs).length ≤ 48) : okW (mkW z) = true := by
  rw [okW_iff]
  refine ⟨okL_limbs h, fun hn => ?_⟩
  have hz : z < 0 := by simpa [mkW] using hn
  show 0 < (limbs z.natAbs).length
  rw [limbs_pos _ (by omega)]
  simp
theorem okW_len {a : Wh} (h : okW a = true) : a.2.length ≤ 48 := ((okW_iff a).1 h).1.1
theorem okW_abs {a : Wh} (h : okW a = true) : (limbs (valW a).natAbs).length ≤ 48 := by
  have e := mkW_of h
  have := okW_len h
  rw [e] at this
  exact this
theorem wcmp_mk {a b : Wh} (h1 : okW a = true) (h2 : okW b = true) : wcmpR a b = (if valW a < valW b then -1 else if valW b < valW a then 1 else 0) := by unfold wcmpR; rw [if_pos ⟨h1, h2⟩]
/-- A number that is no greater fits, too. -/
theorem fit_le {y z : Int} (h : (limbs z.natAbs).length ≤ 48) (hy : y.natAbs ≤ z.natAbs) : (limbs y.natAbs).length ≤ 48 := Nat.le_trans (limbs_len_mono hy) h

theorem rowW.mag {w : World} {g : Bool} {s : Value} {a : Wh} (h : rowW w (.agg #[.bool g, s]) a) : rowI w s a.2 := by
  obtain ⟨s', e, h⟩ := h
  simp at e
  rw [e.2]
  exact h
theorem fitW_len48 (z : Int) : (fitW z).1.2.length ≤ 48 := by
  unfold fitW
  split
  · assumption
  · simp

set_option maxHeartbeats 1600000 in
theorem sameWh (va vb : Value) (a b : Wh) (w : World) (ha : rowW w va a) (hb : rowW w vb b) (hl : a.2.length ≤ 1048576) :
    Calls Try.prog 17 #[va, vb] w fun e w' => e = .returned (.bool (decide (a = b))) ∧ Below w.heap.size w w' := by
  obtain ⟨s1, rfl, r1⟩ := ha
  obtain ⟨s2, rfl, r2⟩ := hb
  obtain ⟨g, xs⟩ := a
  obtain ⟨g', ys⟩ := b
  have K := fun W (h : Below w.heap.size w W) => sameI s1 s2 xs ys W (r1.below h (Nat.le_refl _)) (r2.below h (Nat.le_refl _)) hl
  have B := below2 w (.cells #[.bool g, s1] 26) (.cells #[.bool g', s2] 26)
  by_cases hg : g = g'
  · subst hg
    have HD : Hid (decide (((g, xs) : Wh) = (g, ys)) = decide (xs = ys)) := by
      show _ = _
      by_cases h : xs = ys
      · subst h; simp
      · simp [h]
    have ebb : (g == g) = true := by simp
    obtain ⟨d, hd⟩ : ∃ d, decide (xs = ys) = d := ⟨_, rfl⟩
    rw [hd] at K HD
    clear hd r1 r2
    go_enter Try.func17, Try.ntmps17
    go_wp2_with fail
    refine (K _ B).mono ?_
    rintro e w3 ⟨rfl, b3⟩
    have B3 := B.trans (b3.mono B.size)
    go_wp2
    go_ret
    exact ⟨by rw [HD.out]; rfl, B3⟩
  · have HD : Hid (decide (((g, xs) : Wh) = (g', ys)) = false) := by show _ = _; rw [decide_eq_false_iff_not]; intro e; exact hg (congrArg Prod.fst e)
    have ebb : (g == g') = false := by rw [beq_eq_false_iff_ne]; exact hg
    clear r1 r2 K
    go_enter Try.func17, Try.ntmps17
    go_wp2
    go_ret
    first | exact ⟨rfl, B⟩ | exact ⟨by rw [HD.out]; rfl, B⟩

end Go.Proofs.Ytlnpfjnpnjiepaa

/- Facts of rounding (no program). -/
namespace Go.Proofs.Ytlnpfjnpnjiepaa
open Go.RowKit
set_option linter.unusedSimpArgs false

theorem pick_lo (fl : Int) (wh : Bool) (c m : Int) : fl ≤ pickI fl wh c m ∧ pickI fl wh c m ≤ fl + 1 := by
  unfold pickI
  repeat' split
  all_goals omega
theorem cmpJ_mono {x y d : Int} (h : x ≤ y) : cmpJ x d ≤ cmpJ y d := by
  unfold cmpJ
  repeat' split
  all_goals omega
theorem pick_mono (fl : Int) (wh wh' : Bool) (c c' m : Int) (hc : c ≤ c') (hw : wh' = true → wh = true) : pickI fl wh c m ≤ pickI fl wh' c' m := by
  cases wh
  · cases wh'
    · unfold pickI
      simp only [Bool.false_eq_true, if_false]
      repeat' split
      all_goals omega
    · exact absurd (hw rfl) (by simp)
  · have := pick_lo fl wh' c' m
    have e : pickI fl true c m = fl := by unfold pickI; simp
    omega
theorem frac_mono {x y d : Int} (hd : 0 < d) (h : x ≤ y) (m : Int) : fracI x d m ≤ fracI y d m := by
  have hf : x / d ≤ y / d := Int.ediv_le_ediv hd h
  unfold fracI
  by_cases e : x / d = y / d
  · rw [e]
    have hr : x - y / d * d ≤ y - y / d * d := by omega
    refine pick_mono _ _ _ _ _ _ (cmpJ_mono (by omega)) (fun hw => ?_)
    have hy := of_decide_eq_true hw
    have hx0 : 0 ≤ x - x / d * d := by
      have := Int.ediv_mul_le x (show d ≠ 0 by omega)
      omega
    rw [e] at hx0
    exact decide_eq_true (by omega)
  · have h1 := (pick_lo (x / d) (decide (x - x / d * d = 0)) (cmpJ ((x - x / d * d) * 2) d) m).2
    have h2 := (pick_lo (y / d) (decide (y - y / d * d = 0)) (cmpJ ((y - y / d * d) * 2) d) m).1
    omega
theorem ratR_true {a x : Wh} {k m : Int} (h : ratR a k m = (x, true)) : okW a = true ∧ 0 ≤ k ∧ k ≤ 600 ∧ 0 ≤ m ∧ m ≤ 4 ∧ x = mkW (fracI (valW a) (2 ^ k.toNat) m) ∧ okW x = true := by
  unfold ratR at h
  split at h
  · rename_i hc
    obtain ⟨rfl, hl⟩ := fitW_true h
    exact ⟨hc.1, hc.2.1, hc.2.2.1, hc.2.2.2.1, hc.2.2.2.2, rfl, okW_mk hl⟩
  · cases h
theorem rising_facts {a b x y : Wh} {k m : Int} (h1 : ratR a k m = (x, true)) (h2 : ratR b k m = (y, true)) :
    ∃ c d, wcmpR a b = c ∧ wcmpR x y = d ∧ (d = 0 ∨ (d = c ∧ d ≠ 0)) := by
  obtain ⟨a1, k0, k1, m0, m1, rfl, x1⟩ := ratR_true h1
  obtain ⟨b1, -, -, -, -, rfl, y1⟩ := ratR_true h2
  have hp : (0 : Int) < 2 ^ k.toNat := Int.pow_pos (by omega)
  refine ⟨_, _, wcmp_mk a1 b1, wcmp_mk x1 y1, ?_⟩
  rw [mkW_val, mkW_val]
  rcases Int.lt_trichotomy (valW a) (valW b) with h | h | h
  · have := frac_mono hp (Int.le_of_lt h) m
    rw [if_pos h]
    split
    · exact .inr ⟨rfl, by omega⟩
    · rw [if_neg (by omega)]; exact .inl rfl
  · rw [h]; simp
  · have := frac_mono hp (Int.le_of_lt h) m
    rw [if_neg (show ¬ valW a < valW b by omega), if_pos h, if_neg (by omega)]
    split
    · exact .inr ⟨rfl, by omega⟩
    · exact .inl rfl

end Go.Proofs.Ytlnpfjnpnjiepaa

/- Facts of fractions that are rounded (no program). -/
namespace Go.Proofs.Ytlnpfjnpnjiepaa
open Go.RowKit
set_option linter.unusedSimpArgs false

theorem ediv_bd (A B : Int) (hB : 0 < B) : A / B * B ≤ A ∧ A < A / B * B + B ∧ (A / B).natAbs ≤ A.natAbs ∧ (A / B * B ≠ A → (A / B + 1).natAbs ≤ A.natAbs) := by
  have h1 := Int.ediv_mul_le A (show B ≠ 0 by omega)
  have h2 := Int.lt_ediv_add_one_mul_self A hB
  rw [Int.add_mul, Int.one_mul] at h2
  generalize A / B = q at *
  have hq : (0 ≤ q ∧ 0 ≤ A) ∨ (q < 0 ∧ A < 0) := by
    rcases Int.lt_or_le q 0 with h | h
    · right
      have := Int.mul_le_mul_of_nonneg_left (show 1 ≤ B by omega) (show 0 ≤ -(q + 1) by omega)
      rw [Int.neg_mul, Int.neg_mul, Int.add_mul, Int.add_mul] at this
      omega
    · left
      have := Int.mul_nonneg h (show 0 ≤ B by omega)
      omega
  refine ⟨h1, h2, ?_⟩
  rcases hq with ⟨q0, A0⟩ | ⟨q0, A0⟩
  · have := Int.mul_le_mul_of_nonneg_left (show 1 ≤ B by omega) q0
    constructor
    · omega
    · intro hne; omega
  · have := Int.mul_le_mul_of_nonneg_left (show 1 ≤ B by omega) (show 0 ≤ -(q + 1) by omega)
    rw [Int.neg_mul, Int.neg_mul, Int.add_mul, Int.add_mul] at this
    constructor
    · omega
    · intro hne; omega
theorem mkW_inj {y z : Int} (h : mkW y = mkW z) : y = z := by rw [← mkW_val y, h, mkW_val]
theorem rfracR_true {a b x : Wh} {m : Int} (h : rfracR a b m = (x, true)) : okW a = true ∧ okW b = true ∧ 0 < valW b ∧ 0 ≤ m ∧ m ≤ 4 ∧ x = mkW (fracI (valW a) (valW b) m) ∧ (limbs (fracI (valW a) (valW b) m).natAbs).length ≤ 48 := by
  unfold rfracR at h
  split at h
  · rename_i hc
    obtain ⟨rfl, hl⟩ := fitW_true h
    exact ⟨hc.1, hc.2.1, hc.2.2.1, hc.2.2.2.1, hc.2.2.2.2, rfl, hl⟩
  · cases h
theorem rfracR_no {a b x : Wh} {m : Int} (h : rfracR a b m = (x, false)) : x = (false, []) := by
  unfold rfracR at h
  split at h
  · exact fitW_false h
  · cases h; rfl
theorem frac_dn (A B : Int) : fracI A B 0 = A / B := by
  unfold fracI pickI
  split <;> simp
theorem frac_up (A B : Int) : fracI A B 1 = if A / B * B = A then A / B else A / B + 1 := by
  unfold fracI pickI
  by_cases h : A / B * B = A
  · have : A - A / B * B = 0 := by omega
    simp [h]
  · have : ¬ (A - A / B * B = 0) := by omega
    simp [h, this]
theorem frac_whole {A B : Int} (h : A / B * B = A) (m : Int) : fracI A B m = A / B := by
  unfold fracI pickI
  have : A - A / B * B = 0 := by omega
  simp [h]
theorem rounded_facts {a b x : Wh} {m : Int} (h : rfracR a b m = (x, true)) :
    x.2.length ≤ 48 ∧ ∃ dn up on oo pr po, rfracR a b 0 = (dn, true) ∧ rfracR a b 1 = (up, true) ∧ waddR dn (wofR 1) = (on, oo) ∧ wmulR dn b = (pr, po) ∧ dn.2.length ≤ 48 ∧ up.2.length ≤ 48 ∧ on.2.length ≤ 48 ∧ pr.2.length ≤ 48 ∧
      ((pr = a ∧ x = dn ∧ up = dn) ∨ (pr ≠ a ∧ up = on ∧ (x = dn ∨ (x ≠ dn ∧ x = up)))) := by
  obtain ⟨ha, hb, hB, m0, m4, rfl, hl⟩ := rfracR_true h
  obtain ⟨h1, h2, h3, h4⟩ := ediv_bd (valW a) (valW b) hB
  have la := okW_abs ha
  have ldn : (limbs (valW a / valW b).natAbs).length ≤ 48 := fit_le la h3
  have hdn : rfracR a b 0 = (mkW (valW a / valW b), true) := by rw [rfracR, if_pos ⟨ha, hb, hB, by omega, by omega⟩, frac_dn, fitW_yes ldn]
  have ok1 : okW (wofR 1) = true := okW_mk (z := 1) (by have := limbs_len_le (1 : Int).natAbs 1 (by decide); omega)
  have v1 : valW (wofR 1) = 1 := mkW_val 1
  obtain ⟨on, oo, hon⟩ : ∃ on oo, waddR (mkW (valW a / valW b)) (wofR 1) = (on, oo) := ⟨_, _, rfl⟩
  have hon' := hon
  rw [waddR, if_pos ⟨okW_mk ldn, ok1⟩, mkW_val, v1] at hon'
  obtain ⟨pr, po, hpr⟩ : ∃ pr po, wmulR (mkW (valW a / valW b)) b = (pr, po) := ⟨_, _, rfl⟩
  have hpr' := hpr
  rw [wmulR, if_pos ⟨okW_mk ldn, hb⟩, mkW_val] at hpr'
  have lon : on.2.length ≤ 48 := by have := fitW_len48 (valW a / valW b + 1); rw [hon'] at this; exact this
  have lpr : pr.2.length ≤ 48 := by have := fitW_len48 (valW a / valW b * valW b); rw [hpr'] at this; exact this
  by_cases hw : valW a / valW b * valW b = valW a
  · have hup : rfracR a b 1 = (mkW (valW a / valW b), true) := by rw [rfracR, if_pos ⟨ha, hb, hB, by omega, by omega⟩, frac_up, if_pos hw, fitW_yes ldn]
    refine ⟨hl, _, _, on, oo, pr, po, hdn, hup, hon, hpr, ldn, ldn, lon, lpr, .inl ⟨?_, by rw [frac_whole hw], rfl⟩⟩
    rw [hw, fitW_yes la] at hpr'
    cases hpr'
    exact (mkW_of ha).symm
  · have lup := fit_le la (h4 hw)
    have hup : rfracR a b 1 = (mkW (valW a / valW b + 1), true) := by rw [rfracR, if_pos ⟨ha, hb, hB, by omega, by omega⟩, frac_up, if_neg hw, fitW_yes lup]
    rw [fitW_yes lup] at hon'
    cases hon'
    refine ⟨hl, _, _, _, _, pr, po, hdn, hup, hon, hpr, ldn, lup, lon, lpr, .inr ⟨fun e => ?_, rfl, ?_⟩⟩
    · subst e
      cases po
      · have e0 := fitW_false hpr'
        have hv : valW pr = 0 := by rw [e0]; decide
        rw [hv] at hw
        simp at hw
      · obtain ⟨e1, -⟩ := fitW_true hpr'
        have := congrArg valW e1
        rw [mkW_val] at this
        exact hw this.symm
    · have hp := pick_lo (valW a / valW b) (decide (valW a - valW a / valW b * valW b = 0)) (cmpJ ((valW a - valW a / valW b * valW b) * 2) (valW b)) m
      by_cases hx : fracI (valW a) (valW b) m = valW a / valW b
      · exact .inl (by rw [hx])
      · refine .inr ⟨fun e => hx (mkW_inj e), ?_⟩
        have : fracI (valW a) (valW b) m = valW a / valW b + 1 := by
          have e : fracI (valW a) (valW b) m = pickI (valW a / valW b) (decide (valW a - valW a / valW b * valW b = 0)) (cmpJ ((valW a - valW a / valW b * valW b) * 2) (valW b)) m := rfl
          omega
        rw [this]

end Go.Proofs.Ytlnpfjnpnjiepaa
