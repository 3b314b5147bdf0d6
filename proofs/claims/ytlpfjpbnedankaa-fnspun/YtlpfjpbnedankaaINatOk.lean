/- The program's NatOk, by its contract. -/
import Derived.Test.YtlpfjpbnedankaaBase
namespace Go.Proofs.Ytlpfjpbnedankaa
open Go.RowKit

set_option maxHeartbeats 1600000 in
/-- NatOk. -/
theorem iNatOk (v : Value) (xs : List Int) (w : World) (h : rowI w v xs) (hl : xs.length ≤ 1099511627776) :
    Calls Try.prog 94 #[v] w fun e w' => e = .returned (.bool (okB xs)) ∧ w' = w := by
  obtain ⟨a, cap, rfl, h2, h3, h4, h5, h6⟩ := h
  have H6 : Hid (∀ j, j < xs.length → ∃ g off, a = some ⟨g, off, none⟩ ∧ g < w.heap.size ∧ w.cell? ⟨g, off + j, none⟩ = some (.int .i64 (xs.getD j 0))) := h6
  clear h6 h4 h5
  by_cases hlen : xs.length ≤ 48
  · have hlen' : ¬ ((48 : Int) < (xs.length : Int)) := by omega
    go_enter Try.func94, Try.ntmps94
    go_wp2
    go_loop [10] (fun i => ∃ k : Nat, k ≤ xs.length ∧ i = .int .i64 k ∧ inR (xs.take k)) (fun i => xs.length - (intOf i).toNat)
    case atStart => exact ⟨0, Nat.zero_le _, rfl, by simpa using inR_nil⟩
    case round =>
      obtain ⟨k, hk, rfl, hin⟩ := hrel
      by_cases hlt : k < xs.length
      · obtain ⟨g, off, rfl, hg, hc⟩ := H6.out k hlt
        have hmem := getD_in hlt
        have hsn : xs.take (k + 1) = xs.take k ++ [xs.getD k 0] := by
          rw [List.take_succ_eq_append_getElem hlt, List.getD_eq_getElem?_getD, List.getElem?_eq_getElem hlt]; rfl
        obtain ⟨d, hd⟩ : ∃ d, xs.getD k 0 = d := ⟨_, rfl⟩
        rw [hd] at hc hmem hsn
        have HS : Hid (xs.take (k + 1) = xs.take k ++ [d]) := hsn
        clear hd hsn
        by_cases r1 : 0 ≤ d
        · have q1 : decide (d < 0) = false := by simp; omega
          by_cases r2 : d < 16777216
          · have q2 : decide (16777216 ≤ d) = false := by simp; omega
            go_wp2
            go_round
            case rel => exact ⟨k + 1, by omega, by go_num, by rw [HS.out]; exact inR_append.2 ⟨hin, inR_cons.2 ⟨⟨r1, r2⟩, inR_nil⟩⟩⟩
            case measure => simp [intOf]; omega
          · have HB : Hid (okB xs = false) := okB_no fun hok => r2 (hok.2.1 d hmem).2
            have q2 : decide (16777216 ≤ d) = true := by simp; omega
            clear r2
            go_wp2
            go_ret
            exact ⟨by rw [HB.out]; rfl, rfl⟩
        · have HB : Hid (okB xs = false) := okB_no fun hok => r1 (hok.2.1 d hmem).1
          have q1 : decide (d < 0) = true := by simp; omega
          clear r1
          go_wp2
          go_ret
          exact ⟨by rw [HB.out]; rfl, rfl⟩
      · have hin' : inR xs := by rwa [List.take_of_length_le (by omega)] at hin
        clear hin
        by_cases h0 : xs.length = 0
        · have hx : xs = [] := List.eq_nil_of_length_eq_zero h0
          have HB : Hid (okB xs = true) := okB_yes ⟨hlen, hin', noZ_of (.inl hx)⟩
          have e0 : ((xs.length : Int) == 0) = true := by rw [h0]; rfl
          clear hin' hx
          go_wp2
          go_ret
          exact ⟨by rw [HB.out]; rfl, rfl⟩
        · obtain ⟨g, off, rfl, hg, hc⟩ := H6.out (xs.length - 1) (by omega)
          have e0 : ((xs.length : Int) == 0) = false := by rw [beq_eq_false_iff_ne]; omega
          have hpos : 0 < xs.length := by omega
          have hres : okB xs = !(xs.getD (xs.length - 1) 0 == 0) := by
            by_cases hz : xs.getD (xs.length - 1) 0 = 0
            · rw [okB_no (fun hok => hok.2.2 (List.length_pos_iff.1 hpos) (by rw [last_getD]; exact hz)), hz]; rfl
            · rw [okB_yes ⟨hlen, hin', noZ_of (.inr hz)⟩, beq_eq_false_iff_ne.2 hz]; rfl
          obtain ⟨d, hd⟩ : ∃ d, xs.getD (xs.length - 1) 0 = d := ⟨_, rfl⟩
          rw [hd] at hc hres
          have HB : Hid (okB xs = !(d == 0)) := hres
          clear hd hin' hres
          go_wp2
          go_ret
          exact ⟨by rw [HB.out]; rfl, rfl⟩
  · have hlen' : (48 : Int) < (xs.length : Int) := by omega
    have HB : Hid (okB xs = false) := okB_no fun hok => hlen hok.1
    go_enter Try.func94, Try.ntmps94
    go_wp2
    go_ret
    exact ⟨by rw [HB.out]; rfl, rfl⟩

end Go.Proofs.Ytlpfjpbnedankaa
