/- BitsText of the specification and of the program, each by its contract, and the law's walk. -/
import Derived.Test.YtmaemcfcoieejaaWordOf
import Derived.Test.YtmaemcfcoieejaaSPow0
import Derived.Test.YtmaemcfcoieejaaDigits
import Derived.Test.YtmaemcfcoieejaaRowB
import Derived.Test.YtmaemcfcoieejaaPut
namespace Go.Proofs.Ytmaemcfcoieejaa
open Go.RowKit
set_option linter.unusedSimpArgs false

/-- The sign of one place. -/
def bitAt8 (x : Int) (k : Nat) : Int := 48 + x / 2 ^ k % 2
/-- The signs of so many places, the high one first. -/
def bitsFrom (x F : Int) : Nat → List Int
  | 0 => []
  | k + 1 => (if (k : Int) = F - 1 then [46] else []) ++ (bitAt8 x k :: bitsFrom x F k)
def bytesL (xs : List Int) : List UInt8 := xs.map fun n => UInt8.ofNat n.toNat
def bitsR (g : Bool) (m n v : Int) : ByteArray := if rawR g m n v = true then strOfNums (bitsFrom (wordR g m n v) n m.toNat) else ⟨#[]⟩
theorem bit_cases (x : Int) (k : Nat) : bitAt8 x k = 48 ∧ x / 2 ^ k % 2 = 0 ∨ bitAt8 x k = 49 ∧ x / 2 ^ k % 2 = 1 := by
  unfold bitAt8
  generalize x / 2 ^ k = q
  omega
theorem toList_add (s t : ByteArray) : (s ++ t).data.toList = s.data.toList ++ t.data.toList := by simp [ByteArray.data_append]
theorem word_facts {g : Bool} {m n v : Int} (h : rawR g m n v = true) : 0 ≤ wordR g m n v ∧ wordR g m n v < 2 ^ 60 ∧ 2 ≤ m ∧ m ≤ 60 ∧ 0 ≤ n ∧ n ≤ m := by
  obtain ⟨h1, h2, h3⟩ := raw_facts h
  have h0 := h
  unfold rawR at h
  simp only [Bool.and_eq_true, decide_eq_true_eq] at h
  obtain ⟨⟨k1, k2⟩, k3⟩ := h
  have hf := of_decide_eq_true k1
  have p1 := two_pow_le (show m.toNat ≤ 60 by omega)
  have p2 := two_pow_pos m.toNat
  have p3 : (2 : Int) ^ (m - 1).toNat ≤ 2 ^ m.toNat := two_pow_le (by omega)
  have p4 := two_pow_pos (m - 1).toNat
  unfold wordR
  rw [if_pos h0]
  refine ⟨?_, ?_, h1.1, h1.2, by omega, by omega⟩
  · unfold leastR at k2
    split
    · split at k2 <;> omega
    · omega
  · unfold mostR at k3
    rw [if_pos k1] at k3
    split
    · omega
    · split at k3 <;> omega

theorem wd_step (x F : Int) (k : Nat) (acc : List Int) : acc ++ bitsFrom x F (k + 1) = (acc ++ (if (k : Int) = F - 1 then [46] else [])) ++ [bitAt8 x k] ++ bitsFrom x F k := by
  show acc ++ ((if (k : Int) = F - 1 then [46] else []) ++ (bitAt8 x k :: bitsFrom x F k)) = _
  simp
theorem strOf_snoc (xs : List Int) (s : ByteArray) (c : Int) (b : UInt8) (h : s = strOfNums xs) (hb : UInt8.ofNat c.toNat = b) : s ++ (⟨#[b]⟩ : ByteArray) = strOfNums (xs ++ [c]) := by
  subst h
  apply ByteArray.ext
  apply Array.toList_inj.1
  rw [toList_add, strOfNums_data, strOfNums_data, List.map_append]
  simp [hb]

theorem digit_bit (d : Int) (w : World) (hd : d = 0 ∨ d = 1) :
    Calls Try.prog 14 #[.int .i64 d] w fun e w' => e = .returned (.string ⟨#[UInt8.ofNat (48 + d).toNat]⟩) ∧ Below w.heap.size w w' := by
  refine (digits_any d w (by omega) (by omega)).mono ?_
  rintro e w' ⟨t, rfl, ht, hb⟩
  refine ⟨?_, hb⟩
  congr 2
  apply ByteArray.ext
  apply Array.toList_inj.1
  rw [ht]
  rcases hd with rfl | rfl <;> decide +kernel

set_option maxRecDepth 20000 in
set_option maxHeartbeats 6400000 in
theorem sBitsText (g : Bool) (m n v : Int) (w : World) :
    Calls Try.prog 5 #[vF g m n, .int .i64 v] w fun e w' => e = .returned (.string (bitsR g m n v)) ∧ Below w.heap.size w w' := by
  have kW := fun W => sWordOf g m n v W
  have B0 := BoxF.made w g m n 25
  by_cases hr : rawR g m n v = true
  · have hf := word_facts hr
    have e : bitsR g m n v = strOfNums (bitsFrom (wordR g m n v) n m.toNat) := if_pos hr
    rw [e]
    generalize wordR g m n v = x at *
    obtain ⟨M, rfl⟩ := Int.eq_ofNat_of_zero_le (show 0 ≤ m by omega)
    rw [Int.toNat_natCast]
    clear hr e
    obtain ⟨x0, x1, m1, m2, n1, n2⟩ := hf
    have hx2 : x ≤ 1152921504606846975 := by have : (2 : Int) ^ 60 = 1152921504606846976 := by decide
                                             omega
    go_enter Try.func5, Try.ntmps5
    go_wp2_with fail
    refine (kW _).mono ?_
    generalize w.alloc (.cells #[.bool g, .int .i64 M, .int .i64 n] 25) = w0 at *
    rintro e w1 ⟨rfl, b1⟩
    have B1 := B0.below b1
    have c1 := B1.2.1
    have hx0 : ¬ x < 0 := by omega
    clear B0 b1 kW x1
    go_wp2
    clear c1
    go_loopw [6, 7] (fun o i wr => ∃ (j : Nat) (s : ByteArray) (acc : List Int), j ≤ M ∧ i = .int .i64 ((j : Int) - 1) ∧ o = .string s ∧ Hid (s = strOfNums acc) ∧ Hid (acc ++ bitsFrom x n j = bitsFrom x n M) ∧ s.size + 2 * j ≤ 200 ∧ BoxF w g M n wr) (fun _ i _ => (intOf i + 1).toNat)
    case atStart => exact ⟨M, ⟨#[]⟩, [], Nat.le_refl _, rfl, rfl, rfl, rfl, by show 0 + 2 * M ≤ 200; omega, B1⟩
    case round =>
      obtain ⟨j, s, acc, hj, rfl, rfl, hs, hL, hsz, hX⟩ := hrel
      have c2 := hX.2.2.1
      cases j with
      | zero =>
        have hF : Hid (s = strOfNums (bitsFrom x n M)) := by
          unfold Hid at *
          rw [hs, ← hL]
          simp [bitsFrom]
        have HB := hX.2.2.2.2
        clear hs hL hX
        go_wp2
        go_ret
        exact ⟨by rw [show s = _ from hF]; rfl, HB⟩
      | succ k =>
        have ek : ((k + 1 : Nat) : Int) - 1 = (k : Int) := by omega
        rw [ek]
        clear ek
        have hpk := two_pow_pos k
        have hq1 : x.tdiv (2 ^ k) = x / 2 ^ k := Int.tdiv_eq_ediv_of_nonneg x0
        have hq2 : 0 ≤ x / 2 ^ k := Int.ediv_nonneg x0 (Int.le_of_lt hpk)
        have hq3 : x / 2 ^ k ≤ x := Int.ediv_le_self _ x0
        have hne : ¬ ((2 : Int) ^ k = 0) := by omega
        have hne2 : ((2 : Int) ^ k == 0) = false := by rw [beq_eq_false_iff_ne]; exact hne
        have hst := wd_step x n k acc
        have hbit := bit_cases x k
        have hd1 : bitAt8 x k = 48 + x / 2 ^ k % 2 := rfl
        have hle : k + 1 ≤ M := hj
        by_cases hdot : (k : Int) = n - 1
        · rw [if_pos hdot] at hst
          have HS0 := strOf_snoc acc s 46 46 hs rfl
          obtain ⟨d, hdd⟩ : ∃ d, x / 2 ^ k % 2 = d := ⟨_, rfl⟩
          have hd : d = 0 ∨ d = 1 := by omega
          have HS : Hid (s ++ (⟨#[46]⟩ : ByteArray) ++ (⟨#[UInt8.ofNat (48 + d).toNat]⟩ : ByteArray) = strOfNums (acc ++ [46] ++ [bitAt8 x k])) := strOf_snoc _ _ _ _ HS0 (by rw [hd1, hdd])
          have HL : Hid (acc ++ [46] ++ [bitAt8 x k] ++ bitsFrom x n k = bitsFrom x n M) := hst.symm.trans hL
          have hs1 : (s ++ (⟨#[46]⟩ : ByteArray)).size = s.size + 1 := by simp [ByteArray.size_append]; rfl
          have hs2 : (s ++ (⟨#[46]⟩ : ByteArray) ++ (⟨#[UInt8.ofNat (48 + d).toNat]⟩ : ByteArray)).size = s.size + 2 := by rw [ByteArray.size_append, hs1]; rfl
          have hmod : (x / 2 ^ k).tmod 2 = d := by rw [Int.tmod_eq_emod_of_nonneg hq2]; exact hdd
          have hb1 : ((k : Int) == n - 1) = true := by rw [beq_iff_eq]; exact hdot
          clear hst hbit hd1 HS0 hs hL hdd hpk hdot
          generalize hQ : x / 2 ^ k = q at *
          go_wp2_with fail
          refine (sPow k _ (by omega)).mono ?_
          rintro e w2 ⟨rfl, rfl⟩
          go_wp2_with fail
          refine (digit_bit d _ hd).mono ?_
          rintro e w3 ⟨rfl, b3⟩
          have X3 := hX.below b3
          clear hX b3
          go_wp2
          go_roundw
          case rel => exact ⟨k, _, _, by omega, by go_num, rfl, HS, HL, by omega, X3⟩
          case measure => simp [intOf] <;> omega
        · rw [if_neg hdot, List.append_nil] at hst
          obtain ⟨d, hdd⟩ : ∃ d, x / 2 ^ k % 2 = d := ⟨_, rfl⟩
          have hd : d = 0 ∨ d = 1 := by omega
          have HS : Hid (s ++ (⟨#[UInt8.ofNat (48 + d).toNat]⟩ : ByteArray) = strOfNums (acc ++ [bitAt8 x k])) := strOf_snoc _ _ _ _ hs (by rw [hd1, hdd])
          have HL : Hid (acc ++ [bitAt8 x k] ++ bitsFrom x n k = bitsFrom x n M) := hst.symm.trans hL
          have hs2 : (s ++ (⟨#[UInt8.ofNat (48 + d).toNat]⟩ : ByteArray)).size = s.size + 1 := by rw [ByteArray.size_append]; rfl
          have hmod : (x / 2 ^ k).tmod 2 = d := by rw [Int.tmod_eq_emod_of_nonneg hq2]; exact hdd
          have hb0 : ((k : Int) == n - 1) = false := by rw [beq_eq_false_iff_ne]; exact hdot
          clear hst hbit hd1 hs hL hdd hpk hdot
          generalize hQ : x / 2 ^ k = q at *
          go_wp2_with fail
          refine (sPow k _ (by omega)).mono ?_
          rintro e w2 ⟨rfl, rfl⟩
          go_wp2_with fail
          refine (digit_bit d _ hd).mono ?_
          rintro e w3 ⟨rfl, b3⟩
          have X3 := hX.below b3
          clear hX b3
          go_wp2
          go_roundw
          case rel => exact ⟨k, _, _, by omega, by go_num, rfl, HS, HL, by omega, X3⟩
          case measure => simp [intOf] <;> omega
  · have e : bitsR g m n v = ⟨#[]⟩ := if_neg hr
    have e2 : wordR g m n v = -1 := if_neg hr
    rw [e]
    rw [e2] at kW
    clear e e2 hr
    go_enter Try.func5, Try.ntmps5
    go_wp2_with fail
    refine (kW _).mono ?_
    generalize w.alloc (.cells #[.bool g, .int .i64 m, .int .i64 n] 25) = w0 at *
    rintro e w1 ⟨rfl, b1⟩
    have B := B0.2.2.2.2.trans (b1.mono B0.2.2.2.2.size)
    go_wp2
    go_ret
    exact ⟨rfl, B⟩

set_option maxRecDepth 20000 in
set_option maxHeartbeats 6400000 in
theorem iBitsText (g : Bool) (m n v : Int) (w : World) :
    Calls Try.prog 7 #[vF g m n, .int .i64 v] w fun e w' => e = .returned (.string (bitsR g m n v)) ∧ Below w.heap.size w w' := by
  have kR := fun W => iRawOk g m n v W
  have kW := fun W => iWordOf g m n v W
  have B0 := BoxF.made w g m n 25
  by_cases hr : rawR g m n v = true
  · have hf := word_facts hr
    have e : bitsR g m n v = strOfNums (bitsFrom (wordR g m n v) n m.toNat) := if_pos hr
    rw [hr] at kR
    rw [e]
    generalize wordR g m n v = x at *
    obtain ⟨M, rfl⟩ := Int.eq_ofNat_of_zero_le (show 0 ≤ m by omega)
    rw [Int.toNat_natCast]
    clear hr e
    obtain ⟨x0, x1, m1, m2, n1, n2⟩ := hf
    obtain ⟨i0, hi, hz0, hz1, hz2⟩ := info_parts Try.info5
    go_enter Try.func7, Try.ntmps7
    go_wp2_with fail
    refine (kR _).mono ?_
    generalize w.alloc (.cells #[.bool g, .int .i64 M, .int .i64 n] 25) = w0 at *
    rintro e w1 ⟨rfl, b1⟩
    have B1 := B0.below b1
    have c0 := B1.1
    have c1 := B1.2.1
    have c2 := B1.2.2.1
    clear B0 b1 kR x1
    go_wp2_with fail
    refine (kW _).mono ?_
    clear c0 c1 c2
    rintro e w2 ⟨rfl, b2⟩
    have hX2 := B1.below b2
    have c1 := hX2.2.1
    obtain ⟨w3, hmk, hown3, hg3⟩ := run_make_own (P := Try.prog) w2 w2.heap.size 28 5 i0 (.int .u8 0) 1 Try.underlying28 hi hz0 hz1 .i64 .i64 (M + 1) (by rw [hz2]; omega) (by unfold maxLen; omega) (Nat.le_refl _)
    have hmk' : (Instr.makeSlice 28 (.int .i64 0) (.int .i64 ((M : Int) + 1))).run Try.prog w2 = .ok (.slice (some ⟨w2.heap.size, 0, none⟩) 0 (M + 1)) w3 := hmk
    have hb3 : Below w2.heap.size w2 w3 := (Below.refl _ _).grown hg3 (Nat.le_refl _) (fun k hk => by cases hk)
    have hX3 := hX2.below hb3
    have d1 := hX3.2.1
    clear hmk hi hz0 hz1 hz2 hg3 B1 b2 kW
    go_wp2
    clear c1 d1 hmk'
    go_loopw [6, 7] (fun o i wr => ∃ (j : Nat) (acc : List Int), j ≤ M ∧ i = .int .i64 ((j : Int) - 1) ∧ ownsB wr w2.heap.size o acc ∧ Hid (acc ++ bitsFrom x n j = bitsFrom x n M) ∧ acc.length + 2 * j ≤ 200 ∧ Below w2.heap.size w2 wr) (fun _ i _ => (intOf i + 1).toNat)
    case atStart => exact ⟨M, [], Nat.le_refl _, rfl, hown3, rfl, by show 0 + 2 * M ≤ 200; omega, hb3⟩
    case round =>
      obtain ⟨j, acc, hj, rfl, hown, hL, hlen, hb⟩ := hrel
      have hX := hX2.below hb
      have hsz := hb.size
      have c2 := hX.2.2.1
      cases j with
      | zero =>
        have hF : Hid (strOfNums acc = strOfNums (bitsFrom x n M)) := by
          unfold Hid at *
          rw [← hL]
          simp [bitsFrom]
        have HB := hX.2.2.2.2
        have ht := hown.row.text
        generalize strOfNums acc = s at *
        clear hL hX c2
        go_wp2
        go_ret
        exact ⟨by rw [show s = _ from hF]; rfl, HB⟩
      | succ k =>
        have ek : ((k + 1 : Nat) : Int) - 1 = (k : Int) := by omega
        rw [ek]
        clear ek
        have hpk := two_pow_pos k
        have hq2 : 0 ≤ x / 2 ^ k := Int.ediv_nonneg x0 (Int.le_of_lt hpk)
        have hst := wd_step x n k acc
        have hbit := bit_cases x k
        have hd1 : bitAt8 x k = 48 + x / 2 ^ k % 2 := rfl
        by_cases hdot : (k : Int) = n - 1
        · rw [if_pos hdot] at hst
          obtain ⟨d, hdd⟩ : ∃ d, x / 2 ^ k % 2 = d := ⟨_, rfl⟩
          have hd : d = 0 ∨ d = 1 := by omega
          rw [hd1, hdd] at hst
          have HL : Hid (acc ++ [46] ++ [48 + d] ++ bitsFrom x n k = bitsFrom x n M) := hst.symm.trans hL
          have hmod : (x / 2 ^ k).tmod 2 = d := by rw [Int.tmod_eq_emod_of_nonneg hq2]; exact hdd
          have hb1 : ((k : Int) == n - 1) = true := by rw [beq_iff_eq]; exact hdot
          clear hst hbit hd1 hL hdd hpk hdot
          go_wp2_with (first | (at_builtin; refine wpB_app w2 wr rfl (.tmp 31) (.tmp 32) rfl w2.heap.size _ acc 46 rfl hown hb rfl (by omega) hsz ?_; intro v1 w5 hown5 hb5; have hsz5 := hb5.size; have c5 := (hX2.below hb5).2.2.1) | (at_builtin; refine wpB_app w2 w5 rfl (.tmp 34) (.tmp 41) rfl w2.heap.size _ (acc ++ [46]) (48 + d) rfl hown5 hb5 rfl (by simp; omega) hsz5 ?_; intro v2 w6 hown hb))
          go_roundw
          case rel => exact ⟨k, _, by omega, by go_num, hown, HL, by simp; omega, hb⟩
          case measure => simp [intOf] <;> omega
        · rw [if_neg hdot, List.append_nil] at hst
          obtain ⟨d, hdd⟩ : ∃ d, x / 2 ^ k % 2 = d := ⟨_, rfl⟩
          have hd : d = 0 ∨ d = 1 := by omega
          rw [hd1, hdd] at hst
          have HL : Hid (acc ++ [48 + d] ++ bitsFrom x n k = bitsFrom x n M) := hst.symm.trans hL
          have hmod : (x / 2 ^ k).tmod 2 = d := by rw [Int.tmod_eq_emod_of_nonneg hq2]; exact hdd
          have hb0 : ((k : Int) == n - 1) = false := by rw [beq_eq_false_iff_ne]; exact hdot
          clear hst hbit hd1 hL hdd hpk hdot
          go_wp2_with (at_builtin; refine wpB_app w2 wr rfl (.tmp 34) (.tmp 41) rfl w2.heap.size _ acc (48 + d) rfl hown hb rfl (by omega) hsz ?_; intro v2 w6 hown hb)
          go_roundw
          case rel => exact ⟨k, _, by omega, by go_num, hown, HL, by simp; omega, hb⟩
          case measure => simp [intOf] <;> omega
  · have e : bitsR g m n v = ⟨#[]⟩ := if_neg hr
    have hr' : rawR g m n v = false := by simpa using hr
    rw [e]
    rw [hr'] at kR
    clear e hr hr' kW
    go_enter Try.func7, Try.ntmps7
    go_wp2_with fail
    refine (kR _).mono ?_
    generalize w.alloc (.cells #[.bool g, .int .i64 m, .int .i64 n] 25) = w0 at *
    rintro e w1 ⟨rfl, b1⟩
    have B := B0.2.2.2.2.trans (b1.mono B0.2.2.2.2.size)
    go_wp2
    go_ret
    exact ⟨rfl, B⟩

theorem walkBitsText (g : Bool) (m n v : Int) (w : World) : Calls Try.prog 3 #[vF g m n, .int .i64 v] w fun e w' => e = .returned (.bool true) ∧ Below w.heap.size w w' := by
  have hS := fun W => sBitsText g m n v W
  have hI := fun W => iBitsText g m n v W
  generalize bitsR g m n v = r at *
  have B0 := BoxF.made w g m n 23
  go_enter Try.func3, Try.ntmps3
  go_wp2_with fail
  refine (toF g m n _).mono ?_
  rintro e w1 ⟨rfl, b1⟩
  have B1 := B0.below b1
  clear B0 b1
  obtain ⟨d0, d1, d2, -, -⟩ := id B1
  go_wp2_with fail
  refine (hS _).mono ?_
  rintro e w2 ⟨rfl, b2⟩
  have B2 := B1.below b2
  clear B1 b2 d0 d1 d2
  obtain ⟨d0, d1, d2, -, -⟩ := id B2
  go_wp2_with fail
  refine (toF g m n _).mono ?_
  rintro e w3 ⟨rfl, b3⟩
  have B3 := B2.below b3
  clear B2 b3 d0 d1 d2
  obtain ⟨d0, d1, d2, -, -⟩ := id B3
  go_wp2_with fail
  refine (hI _).mono ?_
  rintro e w4 ⟨rfl, b4⟩
  have B4 := B3.below b4
  clear B3 b4 d0 d1 d2
  go_wp2
  go_ret
  exact ⟨rfl, B4.2.2.2.2⟩

end Go.Proofs.Ytmaemcfcoieejaa
