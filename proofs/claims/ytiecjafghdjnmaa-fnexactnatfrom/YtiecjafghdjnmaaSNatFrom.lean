/- The specification's NatFrom, by its contract. -/
import Derived.Test.YtiecjafghdjnmaaSNatText
import Derived.Test.YtiecjafghdjnmaaDivR
import Derived.Test.YtiecjafghdjnmaaSTimes
import Derived.Test.YtiecjafghdjnmaaOne
import Derived.Test.YtiecjafghdjnmaaSPlus
import Derived.Test.YtiecjafghdjnmaaSNatOf

namespace Go.Proofs.Ytiecjafghdjnmaa
open Go.RowKit

theorem ten_row (w : World) : rowI (w.alloc (.cells #[.int .i64 10] 3)) (.slice (some ⟨w.heap.size, 0, none⟩) 1 1) [10] := by
  have h : ownsI (w.alloc (.cells #[.int .i64 10] 3)) w.heap.size (.slice (some ⟨w.heap.size, 0, none⟩) 1 1) [10] := World.ownsRow_lit w #[.int .i64 10] 1 (Nat.le_refl _) (by unfold maxLen; omega) rfl
  exact h.row
theorem num_ten : num [10] = 10 := by decide
theorem inR_ten : inR [10] := inR_cons.2 ⟨by omega, inR_nil⟩

theorem take_snoc (s : ByteArray) (k : Nat) (h : k < s.size) : s.data.toList.take (k + 1) = s.data.toList.take k ++ [s[k]] := by
  rw [List.take_succ_eq_append_getElem (by simpa using h)]; rfl
theorem all_snoc {s : ByteArray} {k : Nat} (h : k < s.size) (hd : isDig s[k]) (ha : ∀ c ∈ s.data.toList.take k, isDig c) : ∀ c ∈ s.data.toList.take (k + 1), isDig c := by
  rw [take_snoc s k h]
  intro c hc
  rcases List.mem_append.1 hc with hc | hc
  · exact ha c hc
  · simp at hc; subst hc; exact hd
theorem mem_at {s : ByteArray} {k : Nat} (h : k < s.size) : s[k] ∈ s.data.toList := by
  show s.data[k] ∈ s.data.toList
  simp
theorem val_limbs (l : List UInt8) (h : ∀ c ∈ l, isDig c) (hl : l.length ≤ 400) : (limbs (val l)).length ≤ 56 := by
  apply limbs_len_le
  have h1 := val_lt l h
  exact Nat.lt_trans (Nat.lt_of_lt_of_le h1 (Nat.pow_le_pow_right (by omega) hl)) (by decide +kernel)

set_option maxHeartbeats 1600000 in
theorem sNatFrom (s : ByteArray) (w : World) :
    Calls Try.prog 29 #[.string s] w (ansI w (fromR s)) := by
  have ho := made_own w
  by_cases hs : 1 ≤ s.size ∧ s.size ≤ 400
  · obtain ⟨hs1, hs2⟩ := hs
    have hlen : s.data.toList.length = s.size := by rw [Array.length_toList]; rfl
    have hx1 : ¬ ((s.size : Int) < 1) := by omega
    have hx2 : ¬ ((400 : Int) < s.size) := by omega
    go_enter Try.func29, Try.ntmps29
    go_wp2
    go_loopw [4, 5] (fun v i wr => ∃ (k : Nat), k ≤ s.size ∧ i = .int .i64 k ∧ (∀ c ∈ s.data.toList.take k, isDig c) ∧ ownsI wr w.heap.size v (limbs (val (s.data.toList.take k))) ∧ Below w.heap.size w wr) (fun _ i _ => s.size - (intOf i).toNat)
    case atStart => exact ⟨0, Nat.zero_le _, rfl, by simp, by rw [List.take_zero, show val [] = 0 from rfl, limbs_zero]; exact ho, (Below.refl _ _).alloc (Nat.le_refl _) _⟩
    case round =>
      obtain ⟨k, hk, rfl, hd, hown, hbw⟩ := hrel
      have hsz := hbw.size
      have hlv := val_limbs _ hd (by rw [List.length_take]; omega)
      by_cases hlt : k < s.size
      · have hc255 : s[k].toNat < 256 := s[k].toNat_lt
        by_cases hdig : isDig s[k]
        · have hd' := all_snoc hlt hdig hd
          have hlv' := val_limbs _ hd' (by rw [List.length_take]; omega)
          have hvs := val_snoc (s.data.toList.take k) s[k]
          rw [← take_snoc s k hlt] at hvs
          have HV : Hid (val (s.data.toList.take (k + 1)) = 10 * val (s.data.toList.take k) + (s[k].toNat - 48)) := hvs
          obtain ⟨g1, g2⟩ := hdig
          have kn := sNatOf ((s[k].toNat : Int) - 48) wr (by omega)
          rw [ofR, if_neg (by omega), show ((s[k].toNat : Int) - 48).toNat = s[k].toNat - 48 by omega] at kn
          have HD1 : Hid (∀ c ∈ s.data.toList.take (k + 1), isDig c) := hd'
          obtain ⟨V, hV⟩ : ∃ V, val (s.data.toList.take k) = V := ⟨_, rfl⟩
          rw [hV] at HV hown hlv
          have hl3 := mul_limbs V 10
          have hl10 : (limbs 10).length ≤ 1 := limbs_len_le 10 1 (by decide)
          have hlc : (limbs (s[k].toNat - 48)).length ≤ 1 := limbs_len_le _ 1 (by omega)
          clear hvs hd hd' hV
          go_wp2_with fail
          refine kn.mono ?_
          rintro e w2 ⟨v2, rfl, o2, b2⟩
          have hro := hown.row.below b2 (Nat.le_refl _)
          have B2 := hbw.trans (b2.mono hsz)
          have s2 := B2.size
          clear kn hown
          have kt := sTimes u4 _ (limbs V) [10] _ (hro.below ((Below.refl w2.heap.size w2).alloc (Nat.le_refl _) (.cells #[.int .i64 10] 3)) (Nat.le_refl _)) (ten_row w2) (limbs_inR _) inR_ten (by omega) (by simp)
          rw [num_limbs, num_ten] at kt
          go_wp2_with fail
          refine kt.mono ?_
          rintro e w3 ⟨v3, rfl, o3, b3⟩
          have A2 : Below w2.heap.size w2 w3 := ((Below.refl w2.heap.size w2).alloc (Nat.le_refl _) _).trans (b3.mono (by simp))
          have o2' := o2.below A2 (Nat.le_refl _)
          have B3 := B2.trans (A2.mono s2)
          have s3 := B3.size
          clear kt b3 hro o2
          have kp := sPlus v3 v2 (limbs (V * 10)) (limbs (s[k].toNat - 48)) w3 o3.row o2'.row (limbs_inR _) (limbs_inR _) (by omega) (by omega)
          rw [num_limbs, num_limbs, Nat.mul_comm V 10, ← HV.out] at kp
          go_wp2_with fail
          refine kp.mono ?_
          rintro e w4 ⟨v4, rfl, o4, b4⟩
          have B4 := B3.trans (b4.mono s3)
          have o4' := ownsI_mono o4 s3
          clear kp o3 o2' o4 b4
          go_wp2
          go_roundw
          case rel => exact ⟨k + 1, by omega, by go_num, HD1, o4', B4⟩
          case measure => simp [intOf] <;> omega
        · have hbad : fromR s = ([], false) := by rw [fromR, if_neg fun hg => hdig (hg.2.2.1 _ (mem_at hlt))]
          have HB : Hid (fromR s = ([], false)) := hbad
          have hor : (s[k].toNat : Int) < 48 ∨ 57 < (s[k].toNat : Int) := by unfold isDig at hdig; omega
          have o9 := made_own wr
          clear hd hbad hdig hown
          rcases hor with h | h
          · go_wp2
            go_ret2
            exact ⟨_, by rw [HB.out]; rfl, by rw [HB.out]; exact ownsI_mono o9 hsz, hbw.alloc hsz _⟩
          · have h' : ¬ ((s[k].toNat : Int) < 48) := by omega
            go_wp2
            go_ret2
            exact ⟨_, by rw [HB.out]; rfl, by rw [HB.out]; exact ownsI_mono o9 hsz, hbw.alloc hsz _⟩
      · have hke : k = s.size := by omega
        have htk : s.data.toList.take k = s.data.toList := List.take_of_length_le (by omega)
        rw [htk] at hd hlv hown
        obtain ⟨V, hV⟩ : ∃ V, val s.data.toList = V := ⟨_, rfl⟩
        rw [hV] at hlv hown
        obtain ⟨a3, c3, rfl, -⟩ := hown.row
        have hR : fromR s = if (limbs V).length ≤ 48 ∧ numL V = s.data.toList then (limbs V, true) else ([], false) := by
          rw [fromR, ← hV]
          by_cases hc : (limbs (val s.data.toList)).length ≤ 48 ∧ numL (val s.data.toList) = s.data.toList
          · rw [if_pos hc, if_pos ⟨by omega, by omega, hd, hc.1, hc.2⟩]
          · rw [if_neg hc, if_neg (fun h => hc h.2.2.2)]
        have HR : Hid (fromR s = if (limbs V).length ≤ 48 ∧ numL V = s.data.toList then (limbs V, true) else ([], false)) := hR
        clear hR htk hV hd
        by_cases h48 : (limbs V).length ≤ 48
        · have h48' : ¬ ((48 : Int) < ((limbs V).length : Int)) := by omega
          have kt := sNatText _ (limbs V) wr hown.row (by omega)
          have ht : textR (limbs V) = ⟨(numL V).toArray⟩ := by rw [textR, if_pos (okB_yes (okL_limbs h48)), num_limbs]
          rw [ht] at kt
          by_cases hg : numL V = s.data.toList
          · have HG : Hid (fromR s = (limbs V, true)) := by show _ = _; rw [HR.out, if_pos ⟨h48, hg⟩]
            have hts : (⟨(numL V).toArray⟩ : ByteArray) = s := by rw [hg]
            rw [hts] at kt
            clear hg ht hts HR
            go_wp2_with fail
            refine kt.mono ?_
            rintro e w2 ⟨rfl, b2⟩
            have o2 := hown.below b2 (Nat.le_refl _)
            go_wp2
            go_ret2
            exact ⟨_, by rw [HG.out]; rfl, by rw [HG.out]; exact o2, hbw.trans (b2.mono hsz)⟩
          · have HG : Hid (fromR s = ([], false)) := by show _ = _; rw [HR.out, if_neg (fun h => hg h.2)]
            have hts : ((⟨(numL V).toArray⟩ : ByteArray).toList == s.toList) = false := by
              rw [beq_eq_false_iff_ne, ByteArray.toList_eq, ByteArray.toList_eq]
              exact fun e => hg e
            obtain ⟨t, htt⟩ : ∃ t : ByteArray, ⟨(numL V).toArray⟩ = t := ⟨_, rfl⟩
            rw [htt] at kt hts
            clear hg ht HR htt
            go_wp2_with fail
            refine kt.mono ?_
            rintro e w2 ⟨rfl, b2⟩
            have o9 := made_own w2
            have s2 := b2.size
            go_wp2
            go_ret2
            exact ⟨_, by rw [HG.out]; rfl, by rw [HG.out]; exact ownsI_mono o9 (Nat.le_trans hsz s2), (hbw.trans (b2.mono hsz)).alloc (Nat.le_trans hsz s2) _⟩
        · have h48' : (48 : Int) < ((limbs V).length : Int) := by omega
          have HG : Hid (fromR s = ([], false)) := by show _ = _; rw [HR.out, if_neg (fun h => h48 h.1)]
          have o9 := made_own wr
          clear HR
          go_wp2
          go_ret2
          exact ⟨_, by rw [HG.out]; rfl, by rw [HG.out]; exact ownsI_mono o9 hsz, hbw.alloc hsz _⟩
  · have HE : Hid (fromR s = ([], false)) := by
      show _ = _
      rw [fromR, if_neg]
      intro h
      have h1 := h.1
      have h2 := h.2.1
      rw [Array.length_toList] at h1 h2
      exact hs ⟨h1, h2⟩
    by_cases h1 : s.size < 1
    · have h1' : (s.size : Int) < 1 := by omega
      clear hs
      go_enter Try.func29, Try.ntmps29
      go_wp2
      go_ret2
      exact ⟨_, by rw [HE.out]; rfl, by rw [HE.out]; exact ho, (Below.refl _ _).alloc (Nat.le_refl _) _⟩
    · have h1' : ¬ (s.size : Int) < 1 := by omega
      have h2' : (400 : Int) < (s.size : Int) := by omega
      clear hs
      go_enter Try.func29, Try.ntmps29
      go_wp2
      go_ret2
      exact ⟨_, by rw [HE.out]; rfl, by rw [HE.out]; exact ho, (Below.refl _ _).alloc (Nat.le_refl _) _⟩

end Go.Proofs.Ytiecjafghdjnmaa
