/- The program's greatFrom, by its contract. -/
import Derived.Test.YtlpfjpbnedankaaGSettle
import Derived.Test.YtlpfjpbnedankaaINatOk
namespace Go.Proofs.Ytlpfjpbnedankaa
open Go.RowKit

theorem results_great_tmp {fn : Func} {p u : Tmp} (h : fn.results = #[.cell p 97, .tmp u]) (tmps : Array Value) (w : World) (b : Nat) (ws : List Int) (k : Int) (v : Value)
    (hp : tmps.getD p undef = .pointer (some ⟨b, 0, none⟩)) (hu : tmps.getD u undef = v) (hg : GB w b ws k) : (results fn tmps).run Try.prog w = .ok (.tuple #[.agg (gcell ws k), v]) w := by
  have hl := run_loadVar_row (P := Try.prog) w b 97 97 (gcell ws k) (0, 0) _ hg.blk Try.underlying97 rfl (by rw [gcell_size hg.len]; exact great_size)
  have hp' : tmps[p]?.getD undef = .pointer (some ⟨b, 0, none⟩) := by simpa using hp
  have hu' : tmps[u]?.getD undef = v := by simpa using hu
  simp [results, h, hp', hu', asAddr, hl]
theorem limbs_num {xs : List Int} (h : okL xs) : limbs (num xs) = xs := (okL_eq h).symm
def fromN (xs : List Int) : Nat := if okB xs = true then num xs else 0
theorem fromN_len (xs : List Int) : (limbs (fromN xs)).length ≤ 48 := by
  unfold fromN
  split
  · rename_i h
    have h2 := (okB_iff xs).1 h
    rw [limbs_num h2]
    exact h2.1
  · rw [limbs_zero]; simp

set_option maxHeartbeats 3200000 in
/-- greatFrom: the number, and whether the list is right. -/
theorem gFrom (v : Value) (xs : List Int) (w : World) (h : rowI w v xs) (hlx : xs.length ≤ 1048576) :
    Calls Try.prog 67 #[v] w fun e w' => e = .returned (.tuple #[.agg (gC (fromN xs)), .bool (okB xs)]) ∧ Below w.heap.size w w' := by
  have R0 := (GB.made0 w).alloc (.cells Try.zeroCells97 97)
  have G0 := GB.made0 (w.alloc (.cells Try.zeroCells97 97))
  have hs0 : (w.alloc (.cells Try.zeroCells97 97)).heap.size = w.heap.size + 1 := by simp
  have B0 : Below w.heap.size w ((w.alloc (.cells Try.zeroCells97 97)).alloc (.cells Try.zeroCells97 97)) := ((Below.refl w.heap.size w).alloc (Nat.le_refl _) _).alloc (by simp) _
  rw [hs0] at G0
  clear hs0
  have ka := fun W (hW : Below w.heap.size w W) => iNatOk v xs W (h.below hW (Nat.le_refl _)) (by omega)
  obtain ⟨a, cap, rfl, -⟩ := id h
  by_cases hok : okB xs = true
  · rw [hok] at ka
    have hokl := (okB_iff xs).1 hok
    have HN : Hid (gC (fromN xs) = gcell (pad xs) (xs.length : Int)) := by
      show _ = _
      unfold gC fromN
      rw [if_pos hok, limbs_num hokl]
    have hl48 := hokl.1
    have hin := hokl.2.1
    have HR : Hid (okB xs = true) := hok
    clear hok hokl
    go_enter Try.func67, Try.ntmps67
    go_wp2_with fail
    refine (ka _ B0).mono ?_
    rintro e w1 ⟨rfl, rfl⟩
    generalize (w.alloc (.cells Try.zeroCells97 97)).alloc (.cells Try.zeroCells97 97) = w1 at *
    clear ka
    go_wp2
    go_loopw [13] (fun i wr => ∃ (k : Nat), k ≤ xs.length ∧ i = .int .i64 k ∧ GB wr (w.heap.size + 1) (pad (xs.take k)) 0 ∧ GB wr w.heap.size (List.replicate 98 0) 0 ∧ Below w.heap.size w wr) (fun i _ => xs.length - (intOf i).toNat)
    case atStart => exact ⟨0, Nat.zero_le _, rfl, G0, R0, B0⟩
    case round =>
      clear G0 R0 B0
      obtain ⟨k, hk, rfl, hG, hR, hB⟩ := hrel
      by_cases hlt : k < xs.length
      · have hlt' : (k : Int) < (xs.length : Int) := by omega
        obtain ⟨g, off, rfl, hc⟩ := (h.below hB (Nat.le_refl _)).at k hlt
        have gx := inR_getD hin k
        have HT : Hid (xs.take (k + 1) = xs.take k ++ [xs.getD k 0]) := by
          show _ = _
          rw [List.take_succ_eq_append_getElem hlt, List.getD_eq_getElem?_getD, List.getElem?_eq_getElem hlt]; rfl
        obtain ⟨x, hx⟩ : ∃ x, xs.getD k 0 = x := ⟨_, rfl⟩
        rw [hx] at gx hc HT
        obtain ⟨gx0, gx1⟩ := gx
        have hk98 : (k : Int) < 98 := by omega
        have cz := hG.word k (by omega)
        have fz := hG.free k
        have HG : Hid (GB wr (w.heap.size + 1) (pad (xs.take k)) 0) := hG
        have HB : Hid (GB wr w.heap.size (List.replicate 98 0) 0 ∧ Below w.heap.size w wr) := ⟨hR, hB⟩
        have HH := h
        clear hx hG hR hB h
        go_wp2
        go_roundw
        case rel =>
          refine ⟨k + 1, by omega, by go_num, ?_, ?_, ?_⟩
          · have := HG.out.setW k (by omega) x
            have hlk : (xs.take k).length = k := by rw [List.length_take]; omega
            have hp := pad_set (xs.take k) x (by omega)
            rw [hlk] at hp
            rw [hp, ← HT.out] at this
            exact this
          · exact HB.out.1.other _ (by show w.heap.size ≠ w.heap.size + 1; omega) _
          · exact HB.out.2.setCell (by show w.heap.size ≤ w.heap.size + 1; omega) _
        case measure => simp [intOf]; omega
      · have hke : k = xs.length := by omega
        subst hke
        have hlt' : ¬ ((xs.length : Int) < (xs.length : Int)) := by omega
        rw [List.take_length] at hG
        have G2 := hG.setK (xs.length : Int)
        have R2 := hR.other ⟨w.heap.size + 1, 98, none⟩ (by show w.heap.size ≠ w.heap.size + 1; omega) (.int .i64 (xs.length : Int))
        have B2 := hB.setCell (p := ⟨w.heap.size + 1, 98, none⟩) (by show w.heap.size ≤ w.heap.size + 1; omega) (.int .i64 (xs.length : Int))
        have cz := hG.size
        have fz := hG.free 98
        have hpl : (pad xs).length = 98 := pad_len (by omega)
        have hsz : w.heap.size ≤ (wr.setCell ⟨w.heap.size + 1, 98, none⟩ (.int .i64 (xs.length : Int))).heap.size := B2.size
        clear hG hR hB h
        go_wp2_with (first | (refine wpG_load rfl (.tmp 4) rfl (w.heap.size + 1) _ _ rfl G2 ?_) | (refine wpG_store rfl (.tmp 2) (.tmp 27) rfl w.heap.size _ _ _ _ rfl rfl R2 hpl ?_; intro w5 g5 t5 s5))
        (try simp only [Exit.inBlock, Exit.then])
        refine bodyPost_ret (v := .tuple #[.agg (gC (fromN xs)), .bool (okB xs)]) ?_ rfl ⟨rfl, t5.below B2 hsz (by simp)⟩
        rw [HN.out, HR.out]
        exact results_great_tmp rfl _ _ w.heap.size _ _ _ rfl rfl g5
  · have hof : okB xs = false := by simpa using hok
    rw [hof] at ka
    have HN : Hid (gC (fromN xs) = gcell (List.replicate 98 0) 0) := by
      show _ = _
      unfold fromN
      rw [if_neg hok]
      exact gC_zero
    have HR : Hid (okB xs = false) := hof
    clear hok hof
    go_enter Try.func67, Try.ntmps67
    go_wp2_with fail
    refine (ka _ B0).mono ?_
    rintro e w1 ⟨rfl, rfl⟩
    generalize (w.alloc (.cells Try.zeroCells97 97)).alloc (.cells Try.zeroCells97 97) = w1 at *
    clear ka h
    have hpl : (List.replicate 98 (0 : Int)).length = 98 := by simp
    go_wp2_with (first | (refine wpG_load rfl (.tmp 4) rfl (w.heap.size + 1) _ _ rfl G0 ?_) | (refine wpG_store rfl (.tmp 2) (.tmp 10) rfl w.heap.size _ _ _ _ rfl rfl R0 hpl ?_; intro w5 g5 t5 s5))
    (try simp only [Exit.inBlock, Exit.then])
    refine bodyPost_ret (v := .tuple #[.agg (gC (fromN xs)), .bool (okB xs)]) ?_ rfl ⟨rfl, t5.below B0 B0.size (by simp)⟩
    rw [HN.out, HR.out]
    exact results_great_tmp rfl _ _ w.heap.size _ _ _ rfl rfl g5

theorem fromN_ok {xs : List Int} (h : okB xs = true) : fromN xs = num xs := by unfold fromN; rw [if_pos h]
end Go.Proofs.Ytlpfjpbnedankaa
