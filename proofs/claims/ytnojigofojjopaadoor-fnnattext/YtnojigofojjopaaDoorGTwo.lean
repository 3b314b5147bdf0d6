/- The program's twoGreat, by its contract. -/
import Derived.Test.YtnojigofojjopaaDoorGFrom
import Derived.Test.YtnojigofojjopaaDoorGReg
namespace Go.Proofs.YtnojigofojjopaaDoor
open Go.RowKit
set_option linter.unusedSimpArgs false

theorem results_two {fn : Func} {p q u : Tmp} (h : fn.results = #[.cell p 50, .cell q 50, .tmp u]) (tmps : Array Value) (w : World) (b c m n : Nat) (v : Value)
    (hp : tmps.getD p undef = .pointer (some ⟨b, 0, none⟩)) (hq : tmps.getD q undef = .pointer (some ⟨c, 0, none⟩)) (hu : tmps.getD u undef = v) (hg : GA w b 0 m) (hh : GA w c 0 n) : (results fn tmps).run Tryd.prog w = .ok (.tuple #[.agg (gC m), .agg (gC n), v]) w := by
  have hp' : tmps[p]?.getD undef = .pointer (some ⟨b, 0, none⟩) := by simpa using hp
  have hq' : tmps[q]?.getD undef = .pointer (some ⟨c, 0, none⟩) := by simpa using hq
  have hu' : tmps[u]?.getD undef = v := by simpa using hu
  simp [results, h, hp', hq', hu', asAddr, hg.load, hh.load]

set_option maxRecDepth 20000 in
set_option maxHeartbeats 3200000 in
theorem gTwo (va vb : Value) (xs ys : List Int) (w : World) (ha : rowI w va xs) (hb : rowI w vb ys) (hlx : xs.length ≤ 1048576) (hly : ys.length ≤ 1048576) :
    Calls Tryd.prog 42 #[va, vb] w fun e w' => e = .returned (.tuple #[.agg (gC (fromN xs)), .agg (gC (fromN ys)), .bool (okB xs && okB ys)]) ∧ Below w.heap.size w w' := by
  have B0 : Below w.heap.size w ((w.alloc (.cells Tryd.zeroCells50 50)).alloc (.cells Tryd.zeroCells50 50)) := ((Below.refl w.heap.size w).alloc (Nat.le_refl _) _).alloc (by simp) _
  have hl1 : (limbs (fromN xs)).length ≤ 98 := by have := fromN_len xs; omega
  have hl2 : (limbs (fromN ys)).length ≤ 98 := by have := fromN_len ys; omega
  have R1 := (GB.made0 w).alloc (.cells Tryd.zeroCells50 50)
  have R2 := GB.made0 (w.alloc (.cells Tryd.zeroCells50 50))
  have hs0 : (w.alloc (.cells Tryd.zeroCells50 50)).heap.size = w.heap.size + 1 := by simp
  have hs1 : ((w.alloc (.cells Tryd.zeroCells50 50)).alloc (.cells Tryd.zeroCells50 50)).heap.size = w.heap.size + 1 + 1 := by simp
  rw [hs0] at R2
  have ka := fun W (hW : Below w.heap.size w W) => gFrom va xs W (ha.below hW (Nat.le_refl _)) hlx
  have kb := fun W (hW : Below w.heap.size w W) => gFrom vb ys W (hb.below hW (Nat.le_refl _)) hly
  obtain ⟨b1, hb1⟩ : ∃ b, okB xs = b := ⟨_, rfl⟩
  obtain ⟨b2, hb2⟩ : ∃ b, okB ys = b := ⟨_, rfl⟩
  simp only [hb1] at ka
  simp only [hb2] at kb
  rw [hb1, hb2]
  clear hb1 hb2 hs0
  generalize fromN xs = m at *
  generalize fromN ys = n at *
  cases b1 <;> cases b2
  · go_enter Tryd.func42, Tryd.ntmps42
    go_wp2_with fail
    refine (ka _ B0).mono ?_
    rintro e w1 ⟨rfl, q1⟩
    generalize (w.alloc (.cells Tryd.zeroCells50 50)).alloc (.cells Tryd.zeroCells50 50) = w0 at *
    have R1 := R1.below q1 R1.lt
    have R2 := R2.below q1 R2.lt
    have B1 := B0.trans (q1.mono B0.size)
    have X0 := GB.made0 w1
    have R1 := R1.alloc (.cells Tryd.zeroCells50 50)
    have R2 := R2.alloc (.cells Tryd.zeroCells50 50)
    have B2 := B1.trans ((alloc_below w1 (.cells Tryd.zeroCells50 50)).mono B1.size)
    have hw1 : w.heap.size + 1 + 1 ≤ w1.heap.size := by have := q1.size; omega
    go_wp2_with (first | (refine wpN_store rfl (.tmp 7) (.tmp 14) rfl w1.heap.size _ _ m rfl rfl X0 hl1 ?_; intro w2 X2 t2 s2) | (go_at_call 26; fail))
    have R1 := GB.tn R1 t2 (by simp; omega)
    have R2 := GB.tn R2 t2 (by simp; omega)
    have B2 := t2.below B2 B2.size (by simp; have := B1.size; omega)
    refine (kb _ B2).mono ?_
    rintro e w3 ⟨rfl, q3⟩
    have R1 := R1.below q3 R1.lt
    have R2 := R2.below q3 R2.lt
    have X3 := GB.below X2 q3 (GB.lt X2)
    have B3 := B2.trans (q3.mono B2.size)
    have Y0 := GB.made0 w3
    have R1 := R1.alloc (.cells Tryd.zeroCells50 50)
    have R2 := R2.alloc (.cells Tryd.zeroCells50 50)
    have X3 := X3.alloc (.cells Tryd.zeroCells50 50)
    have B4 := B3.trans ((alloc_below w3 (.cells Tryd.zeroCells50 50)).mono B3.size)
    have hw3 : w1.heap.size < w3.heap.size := by have := q3.size; have hq : (w1.alloc (.cells Tryd.zeroCells50 50)).heap.size = w1.heap.size + 1 := (by simp); omega
    go_wp2_with (first | (refine wpN_store rfl (.tmp 9) (.tmp 19) rfl w3.heap.size _ _ n rfl rfl Y0 hl2 ?_; intro w4 Y4 t4 s4))
    have R1 := GB.tn R1 t4 (by simp; omega)
    have R2 := GB.tn R2 t4 (by simp; omega)
    have X4 := GB.tn X3 t4 (by simp; omega)
    have B4 := t4.below B4 B4.size (by simp; have := B3.size; omega)
    have A1 : GA w4 w1.heap.size 0 m := GN.ga X4 hl1
    have A2 : GA w4 w3.heap.size 0 n := GN.ga Y4 hl2
    have HB1 := B1.size
    have HB3 := B3.size
    refine wp_region_held_drew (S := fun W => GA W w1.heap.size 0 m ∧ GA W w3.heap.size 0 n) (by kernel_rfl) ⟨A1.drew, A2.drew⟩ ?_
    intro hHeld
    refine takeH 0 (some 21) (.agg (gC m)) rfl rfl (by kernel_rfl) (by kernel_rfl) (by kernel_rfl) (fun _ _ _ h => h) (yg_load rfl (.tmp 7) rfl w1.heap.size 0 m rfl (fun W h => h.1)) (by assumption) ?_
    simp only [Act.put, List.setIfInBounds_toArray, List.set_cons_zero, List.set_cons_succ]
    refine takeH 1 (some 22) (.agg (gC n)) rfl rfl (by kernel_rfl) (by kernel_rfl) (by kernel_rfl) (fun _ _ _ h => h) (yg_load rfl (.tmp 9) rfl w3.heap.size 0 n rfl (fun W h => h.2)) (by assumption) ?_
    simp only [Act.put, List.setIfInBounds_toArray, List.set_cons_zero, List.set_cons_succ]
    refine takeH 2 (some 23) (.bool false) rfl rfl (by kernel_rfl) (by kernel_rfl) (by kernel_rfl) (fun _ _ _ h => h) (yg_move rfl (.tmp 8) rfl _ rfl) (by assumption) ?_
    simp only [Act.put, List.setIfInBounds_toArray, List.set_cons_zero, List.set_cons_succ]
    refine takeH 3 (some 24) (.bool false) rfl rfl (by kernel_rfl) (by kernel_rfl) (by kernel_rfl) (fun _ _ _ h => h) (yg_move rfl (.tmp 23) rfl _ rfl) (by assumption) ?_
    simp only [Act.put, List.setIfInBounds_toArray, List.set_cons_zero, List.set_cons_succ]
    refine takeH 4 (some 25) (undef) rfl rfl (by kernel_rfl) (by kernel_rfl) (by kernel_rfl) (fun _ _ _ h => h) (yg_skip rfl) (by assumption) ?_
    simp only [Act.put, List.setIfInBounds_toArray, List.set_cons_zero, List.set_cons_succ]
    refine takeH 5 (some 26) (.bool false) rfl rfl (by kernel_rfl) (by kernel_rfl) (by kernel_rfl) (fun _ _ _ h => h) (yg_pick rfl (.tmp 24) (.tmp 25) (.const (.bool false)) rfl false rfl _ rfl) (by assumption) ?_
    simp only [Act.put, List.setIfInBounds_toArray, List.set_cons_zero, List.set_cons_succ]
    refine oneH 6 rfl (by kernel_rfl) (fun K' hK => ?_)
    refine sg_store rfl (.tmp 4) (.tmp 21) rfl w.heap.size _ _ m rfl rfl (GB.drew R1) hl1 rfl ?_
    intro w5 g5 t5 s5
    have S5 : GA w5 w1.heap.size 0 m ∧ GA w5 w3.heap.size 0 n := ⟨hHeld.1.tn t5 (by simp; omega), hHeld.2.tn t5 (by simp; omega)⟩
    have R2 := GB.tn (GB.drew R2) t5 (by simp)
    have B5 := t5.below B4.drew B4.size (by simp)
    refine hK _ _ S5 ?_
    clear hK hHeld
    refine oneH 7 rfl (by kernel_rfl) (fun K' hK => ?_)
    refine sg_store rfl (.tmp 5) (.tmp 22) rfl (w.heap.size + 1) _ _ n rfl rfl R2 hl2 rfl ?_
    intro w6 g6 t6 s6
    have S6 : GA w6 w1.heap.size 0 m ∧ GA w6 w3.heap.size 0 n := ⟨S5.1.tn t6 (by simp; omega), S5.2.tn t6 (by simp; omega)⟩
    have g5 := GN.tn g5 t6 (by simp)
    have B6 := t6.below B5 B5.size (by simp)
    refine hK _ _ S6 ?_
    clear hK S5
    refine takeH 8 (some 6) (.bool false) rfl rfl (by kernel_rfl) (by kernel_rfl) (by kernel_rfl) (fun _ _ _ h => h) (yg_assign rfl (.tmp 26) rfl _ rfl) S6 ?_
    simp only [Act.put, List.setIfInBounds_toArray, List.set_cons_zero, List.set_cons_succ]
    refine wpAnyH_done (by kernel_rfl) ?_ _
    clear S6 A1 A2 ka kb
    go_wp2
    (try simp only [Exit.inBlock, Exit.then])
    refine bodyPost_ret (v := .tuple #[.agg (gC m), .agg (gC n), .bool false]) ?_ rfl ⟨rfl, B6⟩
    exact results_two rfl _ _ w.heap.size (w.heap.size + 1) m n _ rfl rfl rfl (GN.ga g5 hl1) (GN.ga g6 hl2)
  · go_enter Tryd.func42, Tryd.ntmps42
    go_wp2_with fail
    refine (ka _ B0).mono ?_
    rintro e w1 ⟨rfl, q1⟩
    generalize (w.alloc (.cells Tryd.zeroCells50 50)).alloc (.cells Tryd.zeroCells50 50) = w0 at *
    have R1 := R1.below q1 R1.lt
    have R2 := R2.below q1 R2.lt
    have B1 := B0.trans (q1.mono B0.size)
    have X0 := GB.made0 w1
    have R1 := R1.alloc (.cells Tryd.zeroCells50 50)
    have R2 := R2.alloc (.cells Tryd.zeroCells50 50)
    have B2 := B1.trans ((alloc_below w1 (.cells Tryd.zeroCells50 50)).mono B1.size)
    have hw1 : w.heap.size + 1 + 1 ≤ w1.heap.size := by have := q1.size; omega
    go_wp2_with (first | (refine wpN_store rfl (.tmp 7) (.tmp 14) rfl w1.heap.size _ _ m rfl rfl X0 hl1 ?_; intro w2 X2 t2 s2) | (go_at_call 26; fail))
    have R1 := GB.tn R1 t2 (by simp; omega)
    have R2 := GB.tn R2 t2 (by simp; omega)
    have B2 := t2.below B2 B2.size (by simp; have := B1.size; omega)
    refine (kb _ B2).mono ?_
    rintro e w3 ⟨rfl, q3⟩
    have R1 := R1.below q3 R1.lt
    have R2 := R2.below q3 R2.lt
    have X3 := GB.below X2 q3 (GB.lt X2)
    have B3 := B2.trans (q3.mono B2.size)
    have Y0 := GB.made0 w3
    have R1 := R1.alloc (.cells Tryd.zeroCells50 50)
    have R2 := R2.alloc (.cells Tryd.zeroCells50 50)
    have X3 := X3.alloc (.cells Tryd.zeroCells50 50)
    have B4 := B3.trans ((alloc_below w3 (.cells Tryd.zeroCells50 50)).mono B3.size)
    have hw3 : w1.heap.size < w3.heap.size := by have := q3.size; have hq : (w1.alloc (.cells Tryd.zeroCells50 50)).heap.size = w1.heap.size + 1 := (by simp); omega
    go_wp2_with (first | (refine wpN_store rfl (.tmp 9) (.tmp 19) rfl w3.heap.size _ _ n rfl rfl Y0 hl2 ?_; intro w4 Y4 t4 s4))
    have R1 := GB.tn R1 t4 (by simp; omega)
    have R2 := GB.tn R2 t4 (by simp; omega)
    have X4 := GB.tn X3 t4 (by simp; omega)
    have B4 := t4.below B4 B4.size (by simp; have := B3.size; omega)
    have A1 : GA w4 w1.heap.size 0 m := GN.ga X4 hl1
    have A2 : GA w4 w3.heap.size 0 n := GN.ga Y4 hl2
    have HB1 := B1.size
    have HB3 := B3.size
    refine wp_region_held_drew (S := fun W => GA W w1.heap.size 0 m ∧ GA W w3.heap.size 0 n) (by kernel_rfl) ⟨A1.drew, A2.drew⟩ ?_
    intro hHeld
    refine takeH 0 (some 21) (.agg (gC m)) rfl rfl (by kernel_rfl) (by kernel_rfl) (by kernel_rfl) (fun _ _ _ h => h) (yg_load rfl (.tmp 7) rfl w1.heap.size 0 m rfl (fun W h => h.1)) (by assumption) ?_
    simp only [Act.put, List.setIfInBounds_toArray, List.set_cons_zero, List.set_cons_succ]
    refine takeH 1 (some 22) (.agg (gC n)) rfl rfl (by kernel_rfl) (by kernel_rfl) (by kernel_rfl) (fun _ _ _ h => h) (yg_load rfl (.tmp 9) rfl w3.heap.size 0 n rfl (fun W h => h.2)) (by assumption) ?_
    simp only [Act.put, List.setIfInBounds_toArray, List.set_cons_zero, List.set_cons_succ]
    refine takeH 2 (some 23) (.bool false) rfl rfl (by kernel_rfl) (by kernel_rfl) (by kernel_rfl) (fun _ _ _ h => h) (yg_move rfl (.tmp 8) rfl _ rfl) (by assumption) ?_
    simp only [Act.put, List.setIfInBounds_toArray, List.set_cons_zero, List.set_cons_succ]
    refine takeH 3 (some 24) (.bool false) rfl rfl (by kernel_rfl) (by kernel_rfl) (by kernel_rfl) (fun _ _ _ h => h) (yg_move rfl (.tmp 23) rfl _ rfl) (by assumption) ?_
    simp only [Act.put, List.setIfInBounds_toArray, List.set_cons_zero, List.set_cons_succ]
    refine takeH 4 (some 25) (undef) rfl rfl (by kernel_rfl) (by kernel_rfl) (by kernel_rfl) (fun _ _ _ h => h) (yg_skip rfl) (by assumption) ?_
    simp only [Act.put, List.setIfInBounds_toArray, List.set_cons_zero, List.set_cons_succ]
    refine takeH 5 (some 26) (.bool false) rfl rfl (by kernel_rfl) (by kernel_rfl) (by kernel_rfl) (fun _ _ _ h => h) (yg_pick rfl (.tmp 24) (.tmp 25) (.const (.bool false)) rfl false rfl _ rfl) (by assumption) ?_
    simp only [Act.put, List.setIfInBounds_toArray, List.set_cons_zero, List.set_cons_succ]
    refine oneH 6 rfl (by kernel_rfl) (fun K' hK => ?_)
    refine sg_store rfl (.tmp 4) (.tmp 21) rfl w.heap.size _ _ m rfl rfl (GB.drew R1) hl1 rfl ?_
    intro w5 g5 t5 s5
    have S5 : GA w5 w1.heap.size 0 m ∧ GA w5 w3.heap.size 0 n := ⟨hHeld.1.tn t5 (by simp; omega), hHeld.2.tn t5 (by simp; omega)⟩
    have R2 := GB.tn (GB.drew R2) t5 (by simp)
    have B5 := t5.below B4.drew B4.size (by simp)
    refine hK _ _ S5 ?_
    clear hK hHeld
    refine oneH 7 rfl (by kernel_rfl) (fun K' hK => ?_)
    refine sg_store rfl (.tmp 5) (.tmp 22) rfl (w.heap.size + 1) _ _ n rfl rfl R2 hl2 rfl ?_
    intro w6 g6 t6 s6
    have S6 : GA w6 w1.heap.size 0 m ∧ GA w6 w3.heap.size 0 n := ⟨S5.1.tn t6 (by simp; omega), S5.2.tn t6 (by simp; omega)⟩
    have g5 := GN.tn g5 t6 (by simp)
    have B6 := t6.below B5 B5.size (by simp)
    refine hK _ _ S6 ?_
    clear hK S5
    refine takeH 8 (some 6) (.bool false) rfl rfl (by kernel_rfl) (by kernel_rfl) (by kernel_rfl) (fun _ _ _ h => h) (yg_assign rfl (.tmp 26) rfl _ rfl) S6 ?_
    simp only [Act.put, List.setIfInBounds_toArray, List.set_cons_zero, List.set_cons_succ]
    refine wpAnyH_done (by kernel_rfl) ?_ _
    clear S6 A1 A2 ka kb
    go_wp2
    (try simp only [Exit.inBlock, Exit.then])
    refine bodyPost_ret (v := .tuple #[.agg (gC m), .agg (gC n), .bool false]) ?_ rfl ⟨rfl, B6⟩
    exact results_two rfl _ _ w.heap.size (w.heap.size + 1) m n _ rfl rfl rfl (GN.ga g5 hl1) (GN.ga g6 hl2)
  · go_enter Tryd.func42, Tryd.ntmps42
    go_wp2_with fail
    refine (ka _ B0).mono ?_
    rintro e w1 ⟨rfl, q1⟩
    generalize (w.alloc (.cells Tryd.zeroCells50 50)).alloc (.cells Tryd.zeroCells50 50) = w0 at *
    have R1 := R1.below q1 R1.lt
    have R2 := R2.below q1 R2.lt
    have B1 := B0.trans (q1.mono B0.size)
    have X0 := GB.made0 w1
    have R1 := R1.alloc (.cells Tryd.zeroCells50 50)
    have R2 := R2.alloc (.cells Tryd.zeroCells50 50)
    have B2 := B1.trans ((alloc_below w1 (.cells Tryd.zeroCells50 50)).mono B1.size)
    have hw1 : w.heap.size + 1 + 1 ≤ w1.heap.size := by have := q1.size; omega
    go_wp2_with (first | (refine wpN_store rfl (.tmp 7) (.tmp 14) rfl w1.heap.size _ _ m rfl rfl X0 hl1 ?_; intro w2 X2 t2 s2) | (go_at_call 26; fail))
    have R1 := GB.tn R1 t2 (by simp; omega)
    have R2 := GB.tn R2 t2 (by simp; omega)
    have B2 := t2.below B2 B2.size (by simp; have := B1.size; omega)
    refine (kb _ B2).mono ?_
    rintro e w3 ⟨rfl, q3⟩
    have R1 := R1.below q3 R1.lt
    have R2 := R2.below q3 R2.lt
    have X3 := GB.below X2 q3 (GB.lt X2)
    have B3 := B2.trans (q3.mono B2.size)
    have Y0 := GB.made0 w3
    have R1 := R1.alloc (.cells Tryd.zeroCells50 50)
    have R2 := R2.alloc (.cells Tryd.zeroCells50 50)
    have X3 := X3.alloc (.cells Tryd.zeroCells50 50)
    have B4 := B3.trans ((alloc_below w3 (.cells Tryd.zeroCells50 50)).mono B3.size)
    have hw3 : w1.heap.size < w3.heap.size := by have := q3.size; have hq : (w1.alloc (.cells Tryd.zeroCells50 50)).heap.size = w1.heap.size + 1 := (by simp); omega
    go_wp2_with (first | (refine wpN_store rfl (.tmp 9) (.tmp 19) rfl w3.heap.size _ _ n rfl rfl Y0 hl2 ?_; intro w4 Y4 t4 s4))
    have R1 := GB.tn R1 t4 (by simp; omega)
    have R2 := GB.tn R2 t4 (by simp; omega)
    have X4 := GB.tn X3 t4 (by simp; omega)
    have B4 := t4.below B4 B4.size (by simp; have := B3.size; omega)
    have A1 : GA w4 w1.heap.size 0 m := GN.ga X4 hl1
    have A2 : GA w4 w3.heap.size 0 n := GN.ga Y4 hl2
    have HB1 := B1.size
    have HB3 := B3.size
    refine wp_region_held_drew (S := fun W => GA W w1.heap.size 0 m ∧ GA W w3.heap.size 0 n) (by kernel_rfl) ⟨A1.drew, A2.drew⟩ ?_
    intro hHeld
    refine takeH 0 (some 21) (.agg (gC m)) rfl rfl (by kernel_rfl) (by kernel_rfl) (by kernel_rfl) (fun _ _ _ h => h) (yg_load rfl (.tmp 7) rfl w1.heap.size 0 m rfl (fun W h => h.1)) (by assumption) ?_
    simp only [Act.put, List.setIfInBounds_toArray, List.set_cons_zero, List.set_cons_succ]
    refine takeH 1 (some 22) (.agg (gC n)) rfl rfl (by kernel_rfl) (by kernel_rfl) (by kernel_rfl) (fun _ _ _ h => h) (yg_load rfl (.tmp 9) rfl w3.heap.size 0 n rfl (fun W h => h.2)) (by assumption) ?_
    simp only [Act.put, List.setIfInBounds_toArray, List.set_cons_zero, List.set_cons_succ]
    refine takeH 2 (some 23) (.bool true) rfl rfl (by kernel_rfl) (by kernel_rfl) (by kernel_rfl) (fun _ _ _ h => h) (yg_move rfl (.tmp 8) rfl _ rfl) (by assumption) ?_
    simp only [Act.put, List.setIfInBounds_toArray, List.set_cons_zero, List.set_cons_succ]
    refine takeH 3 (some 24) (.bool true) rfl rfl (by kernel_rfl) (by kernel_rfl) (by kernel_rfl) (fun _ _ _ h => h) (yg_move rfl (.tmp 23) rfl _ rfl) (by assumption) ?_
    simp only [Act.put, List.setIfInBounds_toArray, List.set_cons_zero, List.set_cons_succ]
    refine takeH 4 (some 25) (.bool false) rfl rfl (by kernel_rfl) (by kernel_rfl) (by kernel_rfl) (fun _ _ _ h => h) (yg_move rfl (.tmp 10) rfl _ rfl) (by assumption) ?_
    simp only [Act.put, List.setIfInBounds_toArray, List.set_cons_zero, List.set_cons_succ]
    refine takeH 5 (some 26) (.bool false) rfl rfl (by kernel_rfl) (by kernel_rfl) (by kernel_rfl) (fun _ _ _ h => h) (yg_pick rfl (.tmp 24) (.tmp 25) (.const (.bool false)) rfl true rfl _ rfl) (by assumption) ?_
    simp only [Act.put, List.setIfInBounds_toArray, List.set_cons_zero, List.set_cons_succ]
    refine oneH 6 rfl (by kernel_rfl) (fun K' hK => ?_)
    refine sg_store rfl (.tmp 4) (.tmp 21) rfl w.heap.size _ _ m rfl rfl (GB.drew R1) hl1 rfl ?_
    intro w5 g5 t5 s5
    have S5 : GA w5 w1.heap.size 0 m ∧ GA w5 w3.heap.size 0 n := ⟨hHeld.1.tn t5 (by simp; omega), hHeld.2.tn t5 (by simp; omega)⟩
    have R2 := GB.tn (GB.drew R2) t5 (by simp)
    have B5 := t5.below B4.drew B4.size (by simp)
    refine hK _ _ S5 ?_
    clear hK hHeld
    refine oneH 7 rfl (by kernel_rfl) (fun K' hK => ?_)
    refine sg_store rfl (.tmp 5) (.tmp 22) rfl (w.heap.size + 1) _ _ n rfl rfl R2 hl2 rfl ?_
    intro w6 g6 t6 s6
    have S6 : GA w6 w1.heap.size 0 m ∧ GA w6 w3.heap.size 0 n := ⟨S5.1.tn t6 (by simp; omega), S5.2.tn t6 (by simp; omega)⟩
    have g5 := GN.tn g5 t6 (by simp)
    have B6 := t6.below B5 B5.size (by simp)
    refine hK _ _ S6 ?_
    clear hK S5
    refine takeH 8 (some 6) (.bool false) rfl rfl (by kernel_rfl) (by kernel_rfl) (by kernel_rfl) (fun _ _ _ h => h) (yg_assign rfl (.tmp 26) rfl _ rfl) S6 ?_
    simp only [Act.put, List.setIfInBounds_toArray, List.set_cons_zero, List.set_cons_succ]
    refine wpAnyH_done (by kernel_rfl) ?_ _
    clear S6 A1 A2 ka kb
    go_wp2
    (try simp only [Exit.inBlock, Exit.then])
    refine bodyPost_ret (v := .tuple #[.agg (gC m), .agg (gC n), .bool false]) ?_ rfl ⟨rfl, B6⟩
    exact results_two rfl _ _ w.heap.size (w.heap.size + 1) m n _ rfl rfl rfl (GN.ga g5 hl1) (GN.ga g6 hl2)
  · go_enter Tryd.func42, Tryd.ntmps42
    go_wp2_with fail
    refine (ka _ B0).mono ?_
    rintro e w1 ⟨rfl, q1⟩
    generalize (w.alloc (.cells Tryd.zeroCells50 50)).alloc (.cells Tryd.zeroCells50 50) = w0 at *
    have R1 := R1.below q1 R1.lt
    have R2 := R2.below q1 R2.lt
    have B1 := B0.trans (q1.mono B0.size)
    have X0 := GB.made0 w1
    have R1 := R1.alloc (.cells Tryd.zeroCells50 50)
    have R2 := R2.alloc (.cells Tryd.zeroCells50 50)
    have B2 := B1.trans ((alloc_below w1 (.cells Tryd.zeroCells50 50)).mono B1.size)
    have hw1 : w.heap.size + 1 + 1 ≤ w1.heap.size := by have := q1.size; omega
    go_wp2_with (first | (refine wpN_store rfl (.tmp 7) (.tmp 14) rfl w1.heap.size _ _ m rfl rfl X0 hl1 ?_; intro w2 X2 t2 s2) | (go_at_call 26; fail))
    have R1 := GB.tn R1 t2 (by simp; omega)
    have R2 := GB.tn R2 t2 (by simp; omega)
    have B2 := t2.below B2 B2.size (by simp; have := B1.size; omega)
    refine (kb _ B2).mono ?_
    rintro e w3 ⟨rfl, q3⟩
    have R1 := R1.below q3 R1.lt
    have R2 := R2.below q3 R2.lt
    have X3 := GB.below X2 q3 (GB.lt X2)
    have B3 := B2.trans (q3.mono B2.size)
    have Y0 := GB.made0 w3
    have R1 := R1.alloc (.cells Tryd.zeroCells50 50)
    have R2 := R2.alloc (.cells Tryd.zeroCells50 50)
    have X3 := X3.alloc (.cells Tryd.zeroCells50 50)
    have B4 := B3.trans ((alloc_below w3 (.cells Tryd.zeroCells50 50)).mono B3.size)
    have hw3 : w1.heap.size < w3.heap.size := by have := q3.size; have hq : (w1.alloc (.cells Tryd.zeroCells50 50)).heap.size = w1.heap.size + 1 := (by simp); omega
    go_wp2_with (first | (refine wpN_store rfl (.tmp 9) (.tmp 19) rfl w3.heap.size _ _ n rfl rfl Y0 hl2 ?_; intro w4 Y4 t4 s4))
    have R1 := GB.tn R1 t4 (by simp; omega)
    have R2 := GB.tn R2 t4 (by simp; omega)
    have X4 := GB.tn X3 t4 (by simp; omega)
    have B4 := t4.below B4 B4.size (by simp; have := B3.size; omega)
    have A1 : GA w4 w1.heap.size 0 m := GN.ga X4 hl1
    have A2 : GA w4 w3.heap.size 0 n := GN.ga Y4 hl2
    have HB1 := B1.size
    have HB3 := B3.size
    refine wp_region_held_drew (S := fun W => GA W w1.heap.size 0 m ∧ GA W w3.heap.size 0 n) (by kernel_rfl) ⟨A1.drew, A2.drew⟩ ?_
    intro hHeld
    refine takeH 0 (some 21) (.agg (gC m)) rfl rfl (by kernel_rfl) (by kernel_rfl) (by kernel_rfl) (fun _ _ _ h => h) (yg_load rfl (.tmp 7) rfl w1.heap.size 0 m rfl (fun W h => h.1)) (by assumption) ?_
    simp only [Act.put, List.setIfInBounds_toArray, List.set_cons_zero, List.set_cons_succ]
    refine takeH 1 (some 22) (.agg (gC n)) rfl rfl (by kernel_rfl) (by kernel_rfl) (by kernel_rfl) (fun _ _ _ h => h) (yg_load rfl (.tmp 9) rfl w3.heap.size 0 n rfl (fun W h => h.2)) (by assumption) ?_
    simp only [Act.put, List.setIfInBounds_toArray, List.set_cons_zero, List.set_cons_succ]
    refine takeH 2 (some 23) (.bool true) rfl rfl (by kernel_rfl) (by kernel_rfl) (by kernel_rfl) (fun _ _ _ h => h) (yg_move rfl (.tmp 8) rfl _ rfl) (by assumption) ?_
    simp only [Act.put, List.setIfInBounds_toArray, List.set_cons_zero, List.set_cons_succ]
    refine takeH 3 (some 24) (.bool true) rfl rfl (by kernel_rfl) (by kernel_rfl) (by kernel_rfl) (fun _ _ _ h => h) (yg_move rfl (.tmp 23) rfl _ rfl) (by assumption) ?_
    simp only [Act.put, List.setIfInBounds_toArray, List.set_cons_zero, List.set_cons_succ]
    refine takeH 4 (some 25) (.bool true) rfl rfl (by kernel_rfl) (by kernel_rfl) (by kernel_rfl) (fun _ _ _ h => h) (yg_move rfl (.tmp 10) rfl _ rfl) (by assumption) ?_
    simp only [Act.put, List.setIfInBounds_toArray, List.set_cons_zero, List.set_cons_succ]
    refine takeH 5 (some 26) (.bool true) rfl rfl (by kernel_rfl) (by kernel_rfl) (by kernel_rfl) (fun _ _ _ h => h) (yg_pick rfl (.tmp 24) (.tmp 25) (.const (.bool false)) rfl true rfl _ rfl) (by assumption) ?_
    simp only [Act.put, List.setIfInBounds_toArray, List.set_cons_zero, List.set_cons_succ]
    refine oneH 6 rfl (by kernel_rfl) (fun K' hK => ?_)
    refine sg_store rfl (.tmp 4) (.tmp 21) rfl w.heap.size _ _ m rfl rfl (GB.drew R1) hl1 rfl ?_
    intro w5 g5 t5 s5
    have S5 : GA w5 w1.heap.size 0 m ∧ GA w5 w3.heap.size 0 n := ⟨hHeld.1.tn t5 (by simp; omega), hHeld.2.tn t5 (by simp; omega)⟩
    have R2 := GB.tn (GB.drew R2) t5 (by simp)
    have B5 := t5.below B4.drew B4.size (by simp)
    refine hK _ _ S5 ?_
    clear hK hHeld
    refine oneH 7 rfl (by kernel_rfl) (fun K' hK => ?_)
    refine sg_store rfl (.tmp 5) (.tmp 22) rfl (w.heap.size + 1) _ _ n rfl rfl R2 hl2 rfl ?_
    intro w6 g6 t6 s6
    have S6 : GA w6 w1.heap.size 0 m ∧ GA w6 w3.heap.size 0 n := ⟨S5.1.tn t6 (by simp; omega), S5.2.tn t6 (by simp; omega)⟩
    have g5 := GN.tn g5 t6 (by simp)
    have B6 := t6.below B5 B5.size (by simp)
    refine hK _ _ S6 ?_
    clear hK S5
    refine takeH 8 (some 6) (.bool true) rfl rfl (by kernel_rfl) (by kernel_rfl) (by kernel_rfl) (fun _ _ _ h => h) (yg_assign rfl (.tmp 26) rfl _ rfl) S6 ?_
    simp only [Act.put, List.setIfInBounds_toArray, List.set_cons_zero, List.set_cons_succ]
    refine wpAnyH_done (by kernel_rfl) ?_ _
    clear S6 A1 A2 ka kb
    go_wp2
    (try simp only [Exit.inBlock, Exit.then])
    refine bodyPost_ret (v := .tuple #[.agg (gC m), .agg (gC n), .bool true]) ?_ rfl ⟨rfl, B6⟩
    exact results_two rfl _ _ w.heap.size (w.heap.size + 1) m n _ rfl rfl rfl (GN.ga g5 hl1) (GN.ga g6 hl2)

end Go.Proofs.YtnojigofojjopaaDoor
