/- The specification's NatText, by its contract. -/
import Derived.Test.YtnojigofojjopaaDoorSSmall
import Derived.Test.YtnojigofojjopaaDoorConv1
import Derived.Test.YtnojigofojjopaaDoorBase
namespace Go.Proofs.YtnojigofojjopaaDoor
open Go.RowKit

def strLen : Value → Nat | .string s => s.size | _ => 0
theorem num_text_lt {xs : List Int} (h : okL xs) : num xs < 10 ^ 400 := by
  have h1 := okL_lt h
  exact Nat.lt_trans h1 (by decide +kernel)
theorem limbs_pos_len (m : Nat) (h : 0 < m) : 0 < (limbs m).length := by rw [limbs_pos m h]; simp
theorem byte_add (m : Nat) (h : m < 10) : UInt8.ofNat (48 + (m : Int)).toNat = 48 + UInt8.ofNat m := by
  rw [show (48 + (m : Int)).toNat = 48 + m by omega, UInt8.ofNat_add]; rfl

set_option maxHeartbeats 1600000 in
theorem sNatText (va : Value) (xs : List Int) (w : World) (ha : rowI w va xs) (hlx : xs.length ≤ 1048576) :
    Calls Tryd.prog 6 #[va] w fun e w' => e = .returned (.string (textR xs)) ∧ Below w.heap.size w w' := by
  have ka := sNatOk va xs w ha (by omega)
  cases hox : okB xs
  · have HE : Hid (textR xs = ⟨#[]⟩) := by show _ = _; rw [textR, if_neg (by rw [hox]; simp)]
    rw [hox] at ka
    clear hox ha
    go_enter Tryd.func6, Tryd.ntmps6
    go_wp2_with (go_at_call 18; refine ka.mono ?_; rintro e w ⟨rfl, rfl⟩)
    go_ret
    exact ⟨by rw [HE.out]; rfl, Below.refl _ _⟩
  · have hok := (okB_iff xs).1 hox
    rw [hox] at ka
    obtain ⟨a1, cap1, rfl, -⟩ := id ha
    by_cases h0 : xs = []
    · have HE : Hid (textR xs = ⟨#[48]⟩) := by show _ = _; rw [textR, if_pos hox, h0]; rfl
      have hl0 : ((xs.length : Int) == 0) = true := by rw [h0]; rfl
      clear hox ha h0 hok
      go_enter Tryd.func6, Tryd.ntmps6
      go_wp2_with fail
      refine ka.mono ?_
      rintro e w ⟨rfl, rfl⟩
      go_wp2
      go_ret
      exact ⟨by rw [HE.out]; rfl, Below.refl _ _⟩
    · have hl0 : ((xs.length : Int) == 0) = false := by
        rw [beq_eq_false_iff_ne]
        intro h
        exact h0 (List.eq_nil_of_length_eq_zero (by omega))
      have hpos : 0 < num xs := by
        apply Nat.pos_of_ne_zero
        intro h
        have := eq_limbs hok.2
        rw [h, limbs_zero] at this
        exact h0 this
      have HE : Hid (textR xs = ⟨(digL (num xs) []).toArray⟩) := by show _ = _; rw [textR, if_pos hox, numL, if_neg (by omega)]
      have HY : Hid (xs = limbs (num xs)) := eq_limbs hok.2
      have hlt := num_text_lt hok
      have hcv := conv1
      have h48 := hok.1
      have HN : Hid (num xs < 10 ^ 400) := hlt
      have ho := made_own w
      clear hox h0 hok hlt
      go_enter Tryd.func6, Tryd.ntmps6
      go_wp2_with fail
      refine ka.mono ?_
      rintro e w ⟨rfl, rfl⟩
      have hra := ha.below ((Below.refl w.heap.size w).alloc (Nat.le_refl _) (.cells #[] 3)) (Nat.le_refl _)
      have hbm : Below w.heap.size w (w.alloc (.cells #[] 3)) := (Below.refl _ _).alloc (Nat.le_refl _) _
      go_wp2_with (at_builtin; refine wpI_all w _ rfl (.tmp 13) (.tmp 14) rfl w.heap.size _ _ [] xs rfl ho rfl hra hbm (by rw [List.length_nil]; omega) (by simp) ?_; intro v1 w1 o1 b1)
      rw [List.nil_append, HY.out] at o1
      go_loopw [3, 4] (fun t v wr => ∃ (m f : Nat) (out : ByteArray), Hid (m < 10 ^ f) ∧ out.size + f ≤ 400 ∧ (limbs m).length ≤ 48 ∧ t = .string out ∧ Hid (digL (num xs) [] = digL m out.data.toList) ∧ ownsI wr w.heap.size v (limbs m) ∧ Below w.heap.size w wr) (fun t _ _ => 400 - strLen t)
      case atStart => exact ⟨num xs, 400, ⟨#[]⟩, HN, by show 0 + 400 ≤ 400; omega, by rw [← HY.out]; exact h48, rfl, rfl, o1, b1⟩
      case round =>
        obtain ⟨m, f, out, hmf, hsz, hm48, rfl, HD, hown, hb⟩ := hrel
        have hhs := hb.size
        obtain ⟨a3, c3, rfl, -⟩ := hown.row
        by_cases hlt : 0 < m
        · obtain ⟨f', rfl⟩ : ∃ f', f = f' + 1 := by
            cases f with
            | zero => have := hmf.out; simp at this; omega
            | succ f => exact ⟨f, rfl⟩
          have hmf' := div_ten_lt m f' hmf.out
          have HM : Hid (m / 10 < 10 ^ f') := hmf'
          have hlp := limbs_pos_len m hlt
          have hlp' : (0 : Int) < ((limbs m).length : Int) := by omega
          have ks := sSmall _ (limbs m) 10 wr hown.row (limbs_inR m) (by omega) (by omega) (by omega)
          rw [num_limbs] at ks
          have hr10 : m % 10 < 10 := Nat.mod_lt _ (by omega)
          have hl10 := limbs_len_mono (Nat.div_le_self m 10)
          obtain ⟨r, hr⟩ : ∃ r, m % 10 = r := ⟨_, rfl⟩
          rw [hr] at ks hr10
          have HR : Hid (m % 10 = r) := hr
          clear hmf hmf' hr hown
          go_wp2_with fail
          refine ks.mono ?_
          rintro e w3 ⟨v3, rfl, o3, b3⟩
          have B3 := hb.trans (b3.mono hhs)
          have o3' := ownsI_mono o3 hhs
          clear ks o3
          go_wp2
          refine ⟨⟨m / 10, f', _, HM, by rw [size_snoc]; omega, by omega, rfl, ?_, World.ownsRow.alloc o3' _, B3.alloc B3.size _⟩, ?_⟩
          · show _ = _
            rw [HD.out, digL_pos m _ hlt, toList_snoc, HR.out]
          · simp only [strLen, size_snoc]
            omega
        · have hm0 : m = 0 := by omega
          subst hm0
          have hd : digL (num xs) [] = out.data.toList := HD.out.trans (digL_zero _)
          have HF : Hid (digL (num xs) [] = out.data.toList) := hd
          have hl0 : ((limbs 0).length : Int) = 0 := by rw [limbs_zero]; rfl
          clear HD hd hmf
          go_wp2
          go_ret
          exact ⟨by rw [HE.out, HF.out]; rfl, hb⟩

end Go.Proofs.YtnojigofojjopaaDoor
