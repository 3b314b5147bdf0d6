/- The specification's WholeInt, by its contract. -/
import Derived.Test.YtjgmldfceckclaaSNatInt
import Derived.Test.YtjgmldfceckclaaSWholeOk
import Derived.Test.YtjgmldfceckclaaToW
namespace Go.Proofs.Ytjgmldfceckclaa
open Go.RowKit

set_option maxHeartbeats 1600000 in
theorem sWholeInt (va : Value) (a : Wh) (w : World) (ha : rowW w va a) (hla : a.2.length ≤ 1048576) :
    Calls Try.prog 20 #[va] w fun e w' => e = .returned (.tuple #[.int .i64 (wintR a).1, .bool (wintR a).2]) ∧ Below w.heap.size w w' := by
  have ka := fun W (h : Below w.heap.size w W) => sWholeOk va a W (ha.below h (Nat.le_refl _)) hla
  obtain ⟨s, rfl, hs⟩ := ha
  have kn := fun W (h : Below w.heap.size w W) => sNatInt s a.2 W (hs.below h (Nat.le_refl _)) hla
  obtain ⟨a1, c1, rfl, -⟩ := hs
  obtain ⟨n, xs⟩ := a
  have A1 := BoxW.made w (.bool n) (.slice a1 xs.length c1) 24
  have B := below1 w (.cells #[.bool n, .slice a1 xs.length c1] 24)
  by_cases hi : okB xs = true ∧ num xs ≤ 9223372036854775807
  · have hI : intR xs = ((num xs : Int), true) := by rw [intR, if_pos hi]
    simp only [hI] at kn
    have HV : Hid (wintR (n, xs) = if okW (n, xs) = true then ((if n = true then -(num xs : Int) else (num xs : Int)), true) else (0, false)) := by
      show _ = _
      unfold wintR valW
      have h2 := hi.2
      by_cases ho : okW (n, xs) = true
      · rw [if_pos ho, if_pos ⟨ho, by simp only; split <;> omega⟩]
      · rw [if_neg ho, if_neg (fun h => ho h.1)]
    have hb := hi.2
    obtain ⟨m, hm⟩ : ∃ m, num xs = m := ⟨_, rfl⟩
    obtain ⟨oa, hoa⟩ : ∃ x, okW (n, xs) = x := ⟨_, rfl⟩
    rw [hoa] at ka HV
    rw [hm] at kn HV hb
    clear hi hI hm hoa
    cases oa
    · have HE : Hid (wintR (n, xs) = (0, false)) := by show _ = _; rw [HV.out, if_neg (by simp)]
      clear HV
      go_enter Try.func20, Try.ntmps20
      go_wp2_with fail
      refine (kn _ B).mono ?_
      rintro e w1 ⟨rfl, rfl⟩
      go_wp2_with fail
      refine (ka _ B).mono ?_
      rintro e w2 ⟨rfl, b2⟩
      have B3 := B.trans (b2.mono B.size)
      go_wp2
      go_ret2
      exact ⟨by rw [HE.out]; rfl, B3⟩
    · have HE : Hid (wintR (n, xs) = ((if n = true then -(m : Int) else (m : Int)), true)) := by show _ = _; rw [HV.out, if_pos rfl]
      clear HV
      cases n
      · have HE2 : Hid (wintR (false, xs) = ((m : Int), true)) := by show _ = _; rw [HE.out]; rfl
        clear HE
        go_enter Try.func20, Try.ntmps20
        go_wp2_with fail
        refine (kn _ B).mono ?_
        rintro e w1 ⟨rfl, rfl⟩
        go_wp2_with fail
        refine (ka _ B).mono ?_
        rintro e w2 ⟨rfl, b2⟩
        have B3 := B.trans (b2.mono B.size)
        have A2 := A1.below b2 (Nat.le_refl _)
        have c0 := A2.c0
        go_wp2
        go_ret2
        exact ⟨by rw [HE2.out]; rfl, B3⟩
      · have HE2 : Hid (wintR (true, xs) = (-(m : Int), true)) := by show _ = _; rw [HE.out]; rfl
        clear HE
        go_enter Try.func20, Try.ntmps20
        go_wp2_with fail
        refine (kn _ B).mono ?_
        rintro e w1 ⟨rfl, rfl⟩
        go_wp2_with fail
        refine (ka _ B).mono ?_
        rintro e w2 ⟨rfl, b2⟩
        have B3 := B.trans (b2.mono B.size)
        have A2 := A1.below b2 (Nat.le_refl _)
        have c0 := A2.c0
        go_wp2
        go_ret2
        exact ⟨by rw [HE2.out]; simp, B3⟩
  · have hI : intR xs = (0, false) := by rw [intR, if_neg hi]
    simp only [hI] at kn
    have HE : Hid (wintR (n, xs) = (0, false)) := by
      show _ = _
      unfold wintR
      rw [if_neg]
      rintro ⟨h1, h2⟩
      apply hi
      have h3 := ((okW_iff (n, xs)).1 h1).1
      refine ⟨okB_yes h3, ?_⟩
      unfold valW at h2
      simp only at h2
      split at h2 <;> omega
    clear ka hi hI
    go_enter Try.func20, Try.ntmps20
    go_wp2_with fail
    refine (kn _ B).mono ?_
    rintro e w1 ⟨rfl, rfl⟩
    go_wp2
    go_ret2
    exact ⟨by rw [HE.out]; rfl, B⟩

end Go.Proofs.Ytjgmldfceckclaa
