/- The specification's NatOk, l2Limb, l2Trim, each by its contract. -/
import Derived.Test.YtnojigofojjopaaDoorRowI
import Derived.Test.YtnojigofojjopaaDoorLimb
import Derived.Test.YtnojigofojjopaaDoorSIn
namespace Go.Proofs.YtnojigofojjopaaDoor
open Go.RowKit

def okB (xs : List Int) : Bool := decide (xs.length ≤ 48) && xs.all (fun x => decide (0 ≤ x) && decide (x < 16777216)) && (xs.getLast? != some 0)
theorem okB_iff (xs : List Int) : okB xs = true ↔ okL xs := by
  unfold okB okL inR noZ
  simp only [Bool.and_eq_true, decide_eq_true_eq, List.all_eq_true, bne_iff_ne, ne_eq, and_assoc]
  constructor
  · rintro ⟨h1, h2, h3⟩
    refine ⟨h1, fun x hx => h2 x hx, fun hne e => h3 ?_⟩
    rw [List.getLast?_eq_some_getLast hne, e]
  · rintro ⟨h1, h2, h3⟩
    refine ⟨h1, fun x hx => h2 x hx, fun e => ?_⟩
    have hne : xs ≠ [] := by rintro rfl; simp at e
    rw [List.getLast?_eq_some_getLast hne] at e
    exact h3 hne (Option.some.inj e)
theorem okB_no {xs : List Int} (h : ¬ okL xs) : okB xs = false := by
  cases e : okB xs
  · rfl
  · exact absurd ((okB_iff xs).1 e) h
theorem okB_yes {xs : List Int} (h : okL xs) : okB xs = true := (okB_iff xs).2 h
theorem getD_in {xs : List Int} {k : Nat} (h : k < xs.length) : xs.getD k 0 ∈ xs := by
  rw [List.getD_eq_getElem?_getD, List.getElem?_eq_getElem h]; exact List.getElem_mem _
theorem inR_getD {xs : List Int} (h : inR xs) (k : Nat) : 0 ≤ xs.getD k 0 ∧ xs.getD k 0 < 16777216 := by
  by_cases hk : k < xs.length
  · exact h _ (getD_in hk)
  · rw [List.getD_eq_getElem?_getD, List.getElem?_eq_none (by omega)]; simp
theorem last_getD {xs : List Int} (hne : xs ≠ []) : xs.getLast hne = xs.getD (xs.length - 1) 0 := by
  have hl : 0 < xs.length := List.length_pos_iff.2 hne
  rw [List.getLast_eq_getElem, List.getD_eq_getElem?_getD, List.getElem?_eq_getElem (by omega)]; rfl
theorem noZ_of {xs : List Int} (h : xs = [] ∨ xs.getD (xs.length - 1) 0 ≠ 0) : noZ xs := fun hne => by
  rw [last_getD hne]
  rcases h with h | h
  · exact absurd h hne
  · exact h

set_option maxHeartbeats 1600000 in
/-- NatOk. -/
theorem sNatOk (v : Value) (xs : List Int) (w : World) (h : rowI w v xs) (hl : xs.length ≤ 1099511627776) :
    Calls Tryd.prog 18 #[v] w fun e w' => e = .returned (.bool (okB xs)) ∧ w' = w := by
  obtain ⟨a, cap, rfl, h2, h3, h4, h5, h6⟩ := h
  have H6 : Hid (∀ j, j < xs.length → ∃ g off, a = some ⟨g, off, none⟩ ∧ g < w.heap.size ∧ w.cell? ⟨g, off + j, none⟩ = some (.int .i64 (xs.getD j 0))) := h6
  clear h6 h4 h5
  by_cases hlen : xs.length ≤ 48
  · have hlen' : ¬ ((48 : Int) < (xs.length : Int)) := by omega
    go_enter Tryd.func18, Tryd.ntmps18
    go_wp2
    go_loop [3] (fun i => ∃ k : Nat, k ≤ xs.length ∧ i = .int .i64 k ∧ inR (xs.take k)) (fun i => xs.length - (intOf i).toNat)
    case atStart => exact ⟨0, Nat.zero_le _, rfl, by simpa using inR_nil⟩
    case round =>
      obtain ⟨k, hk, rfl, hin⟩ := hrel
      by_cases hlt : k < xs.length
      · obtain ⟨g, off, rfl, hg, hc⟩ := H6.out k hlt
        have hmem := getD_in hlt
        have hsn : xs.take (k + 1) = xs.take k ++ [xs.getD k 0] := by
          rw [List.take_succ_eq_append_getElem hlt, List.getD_eq_getElem?_getD, List.getElem?_eq_getElem hlt]; rfl
        obtain ⟨d, hd⟩ : ∃ d, xs.getD k 0 = d := ⟨_, rfl⟩
        rw [hd] at hc hmem hsn
        have HS : Hid (xs.take (k + 1) = xs.take k ++ [d]) := hsn
        clear hd hsn
        by_cases hr : 0 ≤ d ∧ d < 16777216
        · obtain ⟨r1, r2⟩ := hr
          have r2' : d ≤ 16777215 := by omega
          go_wp2_with (go_at_call 36; refine (in_yes d 0 16777215 w r1 r2').mono ?_; rintro e w ⟨rfl, rfl⟩)
          go_round
          case rel => exact ⟨k + 1, by omega, by go_num, by rw [HS.out]; exact inR_append.2 ⟨hin, inR_cons.2 ⟨⟨r1, r2⟩, inR_nil⟩⟩⟩
          case measure => simp [intOf]; omega
        · have HB : Hid (okB xs = false) := okB_no fun hok => hr (hok.2.1 d hmem)
          have hr' : ¬ (0 ≤ d ∧ d ≤ 16777215) := by omega
          have HR : Hid (¬ (0 ≤ d ∧ d ≤ 16777215)) := hr'
          clear hr hr'
          go_wp2_with (go_at_call 36; refine (in_no d 0 16777215 w (by have := HR.out; omega)).mono ?_; rintro e w ⟨rfl, rfl⟩)
          go_ret
          exact ⟨by rw [HB.out]; rfl, rfl⟩
      · have hin' : inR xs := by rwa [List.take_of_length_le (by omega)] at hin
        clear hin
        by_cases h0 : xs.length = 0
        · have hx : xs = [] := List.eq_nil_of_length_eq_zero h0
          have HB : Hid (okB xs = true) := okB_yes ⟨hlen, hin', noZ_of (.inl hx)⟩
          have e0 : ((xs.length : Int) == 0) = true := by rw [h0]; rfl
          clear hin' hx
          go_wp2
          go_ret
          exact ⟨by rw [HB.out]; rfl, rfl⟩
        · obtain ⟨g, off, rfl, hg, hc⟩ := H6.out (xs.length - 1) (by omega)
          have e0 : ((xs.length : Int) == 0) = false := by rw [beq_eq_false_iff_ne]; omega
          have hpos : 0 < xs.length := by omega
          have hres : okB xs = !(xs.getD (xs.length - 1) 0 == 0) := by
            by_cases hz : xs.getD (xs.length - 1) 0 = 0
            · rw [okB_no (fun hok => hok.2.2 (List.length_pos_iff.1 hpos) (by rw [last_getD]; exact hz)), hz]; rfl
            · rw [okB_yes ⟨hlen, hin', noZ_of (.inr hz)⟩, beq_eq_false_iff_ne.2 hz]; rfl
          obtain ⟨d, hd⟩ : ∃ d, xs.getD (xs.length - 1) 0 = d := ⟨_, rfl⟩
          rw [hd] at hc hres
          have HB : Hid (okB xs = !(d == 0)) := hres
          clear hd hin' hres
          go_wp2
          go_ret
          exact ⟨by rw [HB.out]; rfl, rfl⟩
  · have hlen' : (48 : Int) < (xs.length : Int) := by omega
    have HB : Hid (okB xs = false) := okB_no fun hok => hlen hok.1
    go_enter Tryd.func18, Tryd.ntmps18
    go_wp2
    go_ret
    exact ⟨by rw [HB.out]; rfl, rfl⟩

end Go.Proofs.YtnojigofojjopaaDoor
