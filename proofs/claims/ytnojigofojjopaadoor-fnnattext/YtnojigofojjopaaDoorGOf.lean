/- The program's greatOf, by its contract. -/
import Derived.Test.YtnojigofojjopaaDoorG
namespace Go.Proofs.YtnojigofojjopaaDoor
open Go.RowKit

theorem limbs_len3 {n : Nat} (h : n < 18446744073709551616) : (limbs n).length ≤ 3 := limbs_len_le n 3 (by omega)
theorem results_great {fn : Func} {p : Tmp} (h : fn.results = #[.cell p 50]) (tmps : Array Value) (w : World) (b : Nat) (ws : List Int) (k : Int)
    (hp : tmps.getD p undef = .pointer (some ⟨b, 0, none⟩)) (hg : GB w b ws k) : (results fn tmps).run Tryd.prog w = .ok (.agg (gcell ws k)) w :=
  results_cell_row h tmps w b 50 (gcell ws k) (0, 0) _ hp hg.blk Tryd.underlying50 rfl (by rw [gcell_size hg.len]; exact great_size)

set_option maxHeartbeats 1600000 in
/-- greatOf: the number. -/
theorem gOf (n : Nat) (w : World) (hn : n < 18446744073709551616) :
    Calls Tryd.prog 41 #[.int .u64 n] w fun e w' => e = .returned (.agg (gC n)) ∧ Below w.heap.size w w' := by
  have h3 := limbs_len3 hn
  go_enter Tryd.func41, Tryd.ntmps41
  go_wp2
  have R0 := (GB.made0 w).alloc (.cells Tryd.zeroCells50 50)
  have G0 := GB.made0 (w.alloc (.cells Tryd.zeroCells50 50))
  have hs0 : (w.alloc (.cells Tryd.zeroCells50 50)).heap.size = w.heap.size + 1 := by simp
  have B0 : Below w.heap.size w ((w.alloc (.cells Tryd.zeroCells50 50)).alloc (.cells Tryd.zeroCells50 50)) := ((Below.refl w.heap.size w).alloc (Nat.le_refl _) _).alloc (by simp) _
  rw [hs0] at G0
  clear hs0
  generalize (w.alloc (.cells Tryd.zeroCells50 50)).alloc (.cells Tryd.zeroCells50 50) = w0 at *
  go_loopw [0] (fun v wr => ∃ (m : Nat) (done : List Int), v = .int .u64 m ∧ m < 18446744073709551616 ∧ done.length ≤ 3 ∧ Hid (limbs n = done ++ limbs m) ∧ GB wr (w.heap.size + 1) (pad done) (done.length : Int) ∧ GB wr w.heap.size (List.replicate 98 0) 0 ∧ Below w.heap.size w wr) (fun v _ => (intOf v).toNat)
  case atStart => exact ⟨n, [], rfl, hn, by simp, by show _ = _; simp, G0, R0, B0⟩
  case round =>
    obtain ⟨m, done, rfl, hm, hd, HL, hG, hR, hB⟩ := hrel
    by_cases h0 : m = 0
    · subst h0
      have e1 : limbs n = done := by have := HL.out; rw [limbs_zero, List.append_nil] at this; exact this
      have HE : Hid (gC n = gcell (pad done) (done.length : Int)) := by show _ = _; unfold gC; rw [e1]
      have hpl : (pad done).length = 98 := pad_len (by omega)
      clear HL e1
      go_wp2_with (first | (refine wpG_load rfl (.tmp 3) rfl (w.heap.size + 1) _ _ rfl hG ?_) | (refine wpG_store rfl (.tmp 2) (.tmp 19) rfl w.heap.size _ _ _ _ rfl rfl hR hpl ?_; intro w1 g1 t1 s1))
      (try simp only [Exit.inBlock, Exit.then])
      refine bodyPost_ret (v := .agg (gC n)) ?_ rfl ⟨rfl, t1.below hB hB.size (by simp)⟩
      rw [HE.out]
      exact results_great rfl _ _ w.heap.size _ _ rfl g1
    · have hpos : 0 < m := by omega
      have hl1 : limbs m = ((m % 16777216 : Nat) : Int) :: limbs (m / 16777216) := limbs_pos m hpos
      have hdl : done.length < 3 := by
        have := congrArg List.length HL.out
        rw [hl1] at this
        simp at this
        omega
      have HL2 : Hid (limbs n = (done ++ [((m % 16777216 : Nat) : Int)]) ++ limbs (m / 16777216)) := by
        show _ = _
        rw [HL.out, hl1]; simp
      have HG : Hid (GB wr (w.heap.size + 1) (pad done) (done.length : Int)) := hG
      have c1 := hG.size
      have c2 := hG.word done.length (by omega)
      have f1 := hG.free 98
      have f2 := hG.free done.length
      have hpos' : (0 : Int) < (m : Int) := by omega
      clear HL hl1 hpos hG
      go_wp2
      go_roundw
      case rel =>
        refine ⟨m / 16777216, done ++ [((m % 16777216 : Nat) : Int)], by go_num, by omega, by simp; omega, HL2, ?_, ?_, ?_⟩
        · have := (HG.out.setW done.length (by omega) ((m % 16777216 : Nat) : Int)).setK ((done.length : Int) + 1)
          rw [pad_set _ _ (by omega)] at this
          simpa using this
        · exact (hR.other _ (by show w.heap.size ≠ w.heap.size + 1; omega) _).other _ (by show w.heap.size ≠ w.heap.size + 1; omega) _
        · exact (hB.setCell (by show w.heap.size ≤ w.heap.size + 1; omega) _).setCell (by show w.heap.size ≤ w.heap.size + 1; omega) _
      case measure => simp [intOf]; omega

end Go.Proofs.YtnojigofojjopaaDoor
