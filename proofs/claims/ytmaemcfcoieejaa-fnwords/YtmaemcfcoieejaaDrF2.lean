/- The draws of raw numbers: l6Raw, l6Bent, DrawRawOk, DrawWordOf, each by its contract. -/
import Derived.Test.YtmaemcfcoieejaaDrF
import Derived.Laws.ResultCell
namespace Go.Proofs.Ytmaemcfcoieejaa
open Go.RowKit
set_option linter.unusedSimpArgs false

set_option maxRecDepth 20000 in
set_option maxHeartbeats 6400000 in
theorem drFRaw (B : Nat) (g : Bool) (m n : Int) (w : World) (hc : CurAt w B) (hf : fok m n = true) :
    Calls Try.prog 34 #[.pointer (some ⟨B, 0, none⟩), vF g m n] w fun e w' => ∃ x, e = .returned (.int .i64 x) ∧ CurAt w' B ∧ w.grownBy w' (some B) := by
  have hB := hc.lt
  have hm := of_decide_eq_true hf
  obtain ⟨k, rfl⟩ : ∃ k : Nat, n = (k : Int) := ⟨n.toNat, by omega⟩
  have kP := fun W => sPow k W (by omega)
  have kQ := fun (x : Nat) (hx : x ≤ 60) W => sPow x W (by omega)
  have kL := fun W => sLeast g m k W
  have kM := fun W => sMost g m k W
  generalize leastR g m k = L at *
  generalize mostR g m k = M at *
  generalize (2 : Int) ^ k = one at *
  have hm0 := hm.1
  have hm1 := hm.2.1
  clear hf hm
  have c0 := hc.alloc (.cells #[.bool g, .int .i64 m, .int .i64 (k : Int)] 25)
  have G0 : w.grownBy (w.alloc (.cells #[.bool g, .int .i64 m, .int .i64 (k : Int)] 25)) (some B) := grown_of (belowF1 w _) _
  have A0 := Bx3.made w (.bool g) (.int .i64 m) (.int .i64 (k : Int)) 25
  clear hc
  go_enter Try.func34, Try.ntmps34
  go_wp2_with fail
  generalize w.alloc (.cells #[.bool g, .int .i64 m, .int .i64 (k : Int)] 25) = w0 at *
  refine (kP _).mono ?_
  rintro e w1 ⟨rfl, rfl⟩
  have A1 := A0.drew
  have c1 := c0.drew
  have G1 := grown_drew G0
  have a00 := A0.c0
  have a01 := A0.c1
  have a02 := A0.c2
  clear A0 c0 G0
  go_wp2_with fail
  go_region_held (fun W => W.cell? ⟨w.heap.size, 0, none⟩ = some (.bool g) ∧ W.cell? ⟨w.heap.size, 1, none⟩ = some (.int .i64 m) ∧ W.cell? ⟨w.heap.size, 2, none⟩ = some (.int .i64 (k : Int))) (go_keep) (first
    | (go_at_call 22; refine (kL _).mono ?_; rintro e wN ⟨rfl, bN⟩; have AN : Bx3 _ w.heap.size w.heap.size (.bool g) (.int .i64 m) (.int .i64 (k : Int)) := Bx3.below (by assumption) bN (Nat.le_refl _); have GN : w.grownBy _ (some B) := grown_then (by assumption) (bN.mono (World.grownBy.size (by assumption))); have cN : CurAt _ B := CurAt.below (by assumption) bN (CurAt.lt (by assumption)); have aN0 := AN.c0; have aN1 := AN.c1; have aN2 := AN.c2)
    | (go_at_call 23; refine (kM _).mono ?_; rintro e wN ⟨rfl, bN⟩; have AN : Bx3 _ w.heap.size w.heap.size (.bool g) (.int .i64 m) (.int .i64 (k : Int)) := Bx3.below (by assumption) bN (Nat.le_refl _); have GN : w.grownBy _ (some B) := grown_then (by assumption) (bN.mono (World.grownBy.size (by assumption))); have cN : CurAt _ B := CurAt.below (by assumption) bN (CurAt.lt (by assumption)); have aN0 := AN.c0; have aN1 := AN.c1; have aN2 := AN.c2)
    | (go_at_call 31; (try generalize IntKind.i64.wrap (-xN) = zN at *); (try generalize xN = xP at *); refine (curBelow B _ _ (by assumption) (by omega)).mono ?_; rintro e wN ⟨xN, rfl, yN0, yN1, -, cN, gN⟩; have yN2 := yN1 (by omega); clear yN1; replace yN2 : Hid _ := yN2; replace yN0 : Hid _ := yN0; have AN : Bx3 _ w.heap.size w.heap.size (.bool g) (.int .i64 m) (.int .i64 (k : Int)) := Bx3.cur (by assumption) gN (by omega); have GN : w.grownBy _ (some B) := grown_trans (by assumption) gN; have aN0 := AN.c0; have aN1 := AN.c1; have aN2 := AN.c2)
    | (go_at_call 15; obtain ⟨qN, rfl⟩ := Int.eq_ofNat_of_zero_le yN0.out; clear yN0; refine (kQ qN (by have := yN2.out; omega) _).mono ?_; rintro e wN ⟨rfl, rfl⟩; generalize (2 : Int) ^ qN = pN)
    | (go_at_call 32; (try generalize IntKind.i64.wrap (-one) = z1); (try generalize IntKind.i64.wrap (one.tdiv 2) = z2); (try generalize IntKind.i64.wrap (one + 1) = z3); (try generalize IntKind.i64.wrap (3 * one) = z4); (try generalize IntKind.i64.wrap (Int.tdiv _ 2) = z5); (try generalize IntKind.i64.wrap (M - 1) = z6); (try generalize IntKind.i64.wrap (xP * pN) = z7); refine (pickAny B _ 15 15 _ _ _ (CurAt.alloc (by assumption) _) (Nat.ne_of_gt (CurAt.lt (by assumption))) (heap_alloc_new _ _) rfl (by rfl) (by omega) (by omega)).mono ?_; rintro e w9 ⟨x9, rfl, c9, g9⟩; have A9 : Bx3 _ w.heap.size w.heap.size (.bool g) (.int .i64 m) (.int .i64 (k : Int)) := Bx3.cur (Bx3.alloc (by assumption) _) g9 (by omega); have G9 : w.grownBy _ (some B) := grown_trans (grown_alloc (by assumption) _) g9; have a90 := A9.c0; have a91 := A9.c1; have a92 := A9.c2))
  have d0 := A9.c0
  have d1 := A9.c1
  have d2 := A9.c2
  clear a90 a91 a92
  go_wp2_with fail
  refine (kL _).mono ?_
  rintro e wa ⟨rfl, ba⟩
  have Aa := A9.below ba (Nat.le_refl _)
  have ca := c9.below ba c9.lt
  have Ga := grown_then G9 (ba.mono G9.size)
  have e0 := Aa.c0
  have e1 := Aa.c1
  have e2 := Aa.c2
  clear A9 c9 G9 d0 d1 d2 ba
  by_cases hl : x9 < L
  · go_wp2_with fail
    refine (kL _).mono ?_
    rintro e wb ⟨rfl, bb⟩
    have cb := ca.below bb ca.lt
    have Gb := grown_then Ga (bb.mono Ga.size)
    go_wp2
    go_ret
    exact ⟨_, rfl, cb, Gb⟩
  · have hl' : L ≤ x9 := by omega
    clear hl
    go_wp2_with fail
    refine (kM _).mono ?_
    rintro e wb ⟨rfl, bb⟩
    have Ab := Aa.below bb (Nat.le_refl _)
    have cb := ca.below bb ca.lt
    have Gb := grown_then Ga (bb.mono Ga.size)
    have f0 := Ab.c0
    have f1 := Ab.c1
    have f2 := Ab.c2
    clear Aa ca Ga e0 e1 e2 bb
    by_cases hg : M < x9
    · go_wp2_with fail
      refine (kM _).mono ?_
      rintro e wd ⟨rfl, bd⟩
      have cd := cb.below bd cb.lt
      have Gd := grown_then Gb (bd.mono Gb.size)
      go_wp2
      go_ret
      exact ⟨_, rfl, cd, Gd⟩
    · have hg' : x9 ≤ M := by omega
      clear hg
      go_wp2
      go_ret
      exact ⟨_, rfl, cb, Gb⟩

set_option maxRecDepth 20000 in
set_option maxHeartbeats 6400000 in
theorem drFBent (B : Nat) (g : Bool) (m n : Int) (w : World) (hc : CurAt w B) :
    Calls Try.prog 28 #[.pointer (some ⟨B, 0, none⟩), vF g m n] w fun e w' => ∃ x, e = .returned (.int .i64 x) ∧ CurAt w' B ∧ w.grownBy w' (some B) := by
  have hB := hc.lt
  have kF := fun W => sFmtOk g m n W
  have kL := fun W => sLeast g m n W
  have kM := fun W => sMost g m n W
  have kR := fun W hc hf => drFRaw B g m n W hc hf
  obtain ⟨b, hb⟩ : ∃ b, fok m n = b := ⟨_, rfl⟩
  rw [hb] at kF
  have HB : Hid (fok m n = b) := hb
  clear hb
  generalize leastR g m n = L at *
  generalize mostR g m n = M at *
  have c0 := hc.alloc (.cells #[.bool g, .int .i64 m, .int .i64 n] 25)
  have G0 : w.grownBy (w.alloc (.cells #[.bool g, .int .i64 m, .int .i64 n] 25)) (some B) := grown_of (belowF1 w _) _
  have A0 := Bx3.made w (.bool g) (.int .i64 m) (.int .i64 n) 25
  clear hc
  go_enter Try.func28, Try.ntmps28
  go_wp2_with fail
  generalize w.alloc (.cells #[.bool g, .int .i64 m, .int .i64 n] 25) = w0 at *
  refine (kF _).mono ?_
  rintro e w1 ⟨rfl, b1⟩
  have A1 := A0.below b1 (Nat.le_refl _)
  have c1 := c0.below b1 c0.lt
  have G1 := grown_then G0 (b1.mono G0.size)
  have d0 := A1.c0
  have d1 := A1.c1
  have d2 := A1.c2
  clear A0 c0 G0 b1
  cases b
  · go_wp2_with fail
    have A2 := A1.drew
    have c2 := c1.drew
    have G2 := grown_drew G1
    clear A1 c1 G1
    go_region_held (fun W => W.cell? ⟨w.heap.size, 0, none⟩ = some (.bool g) ∧ W.cell? ⟨w.heap.size, 1, none⟩ = some (.int .i64 m) ∧ W.cell? ⟨w.heap.size, 2, none⟩ = some (.int .i64 n)) (go_keep) (first
      | (go_at_call 23; refine (kM _).mono ?_; rintro e w3 ⟨rfl, b3⟩; have A3 := A2.below b3 (Nat.le_refl _); have c3 := c2.below b3 c2.lt; have G3 := grown_then G2 (b3.mono G2.size); have a30 := A3.c0; have a31 := A3.c1; have a32 := A3.c2)
      | (go_at_call 22; refine (kL _).mono ?_; rintro e w4 ⟨rfl, b4⟩; have A4 := A3.below b4 (Nat.le_refl _); have c4 := c3.below b4 c3.lt; have G4 := grown_then G3 (b4.mono G3.size); have a40 := A4.c0; have a41 := A4.c1; have a42 := A4.c2)
      | (go_at_call 32; refine (pickAny B _ 7 7 _ _ _ (c4.alloc _) (by have := A4.hi; omega) (heap_alloc_new _ _) rfl (by rfl) (by omega) (by omega)).mono ?_; rintro e w5 ⟨x5, rfl, c5, g5⟩; have A5 := (A4.alloc _).cur g5 (by omega); have G5 := grown_trans (grown_alloc G4 _) g5; have a50 := A5.c0; have a51 := A5.c1; have a52 := A5.c2))
    go_wp2
    go_ret
    exact ⟨_, rfl, c5, G5⟩
  · go_wp2_with fail
    refine (drOnce B 12 w1 c1 (by omega)).mono ?_
    rintro e w2 ⟨t, rfl, c2, g2⟩
    have A2 := A1.cur g2 (by omega)
    have G2 := grown_trans G1 g2
    have e0 := A2.c0
    have e1 := A2.c1
    have e2 := A2.c2
    clear A1 c1 G1 g2 d0 d1 d2
    cases t
    · go_wp2_with fail
      refine (kR w2 c2 HB.out).mono ?_
      rintro e w3 ⟨x, rfl, c3, g3⟩
      have G3 := grown_trans G2 g3
      go_wp2
      go_ret
      exact ⟨_, rfl, c3, G3⟩
    · go_wp2_with fail
      have A3 := A2.drew
      have c3 := c2.drew
      have G3 := grown_drew G2
      clear A2 c2 G2
      go_region_held (fun W => W.cell? ⟨w.heap.size, 0, none⟩ = some (.bool g) ∧ W.cell? ⟨w.heap.size, 1, none⟩ = some (.int .i64 m) ∧ W.cell? ⟨w.heap.size, 2, none⟩ = some (.int .i64 n)) (go_keep) (first
        | (go_at_call 23; refine (kM _).mono ?_; rintro e w4 ⟨rfl, b4⟩; have A4 := A3.below b4 (Nat.le_refl _); have c4 := c3.below b4 c3.lt; have G4 := grown_then G3 (b4.mono G3.size); have a40 := A4.c0; have a41 := A4.c1; have a42 := A4.c2)
        | (go_at_call 22; refine (kL _).mono ?_; rintro e w5 ⟨rfl, b5⟩; have A5 := A4.below b5 (Nat.le_refl _); have c5 := c4.below b5 c4.lt; have G5 := grown_then G4 (b5.mono G4.size); have a50 := A5.c0; have a51 := A5.c1; have a52 := A5.c2)
        | (go_at_call 32; refine (pickAny B _ 7 7 _ _ _ (c5.alloc _) (by have := A5.hi; omega) (heap_alloc_new _ _) rfl (by rfl) (by omega) (by omega)).mono ?_; rintro e w6 ⟨x6, rfl, c6, g6⟩; have A6 := (A5.alloc _).cur g6 (by omega); have G6 := grown_trans (grown_alloc G5 _) g6; have a60 := A6.c0; have a61 := A6.c1; have a62 := A6.c2))
      go_wp2
      go_ret
      exact ⟨_, rfl, c6, G6⟩

set_option maxRecDepth 20000 in
set_option maxHeartbeats 6400000 in
theorem drFRawOk (a : Option Addr) (len cap : Nat) (zs : List Int) (w : World) (hlen : len ≤ 1048576) (h : CodeIs w a len cap zs) :
    Calls Try.prog 17 #[.slice a len cap] w (DrawnFI w) := by
  have Y0 := Bx3.made w (.bool false) (.int .i64 0) (.int .i64 0) 25
  have s0 : (w.alloc (.cells #[.bool false, .int .i64 0, .int .i64 0] 25)).heap.size = w.heap.size + 1 := by simp
  have BW := belowF1 w (.cells #[.bool false, .int .i64 0, .int .i64 0] 25)
  have h := h.below BW
  go_enter Try.func17, Try.ntmps17
  go_wp2_with fail
  generalize w.alloc (.cells #[.bool false, .int .i64 0, .int .i64 0] 25) = w0 at *
  refine (curNew a len cap zs w0 hlen h).mono ?_
  rintro e w1 ⟨rfl, cu, b1⟩
  rw [s0] at cu
  have Y1 := Y0.below b1 (Nat.le_refl _)
  replace BW := BW.trans (b1.mono BW.size)
  rw [s0]
  clear h s0 b1 Y0
  go_wp2_with fail
  refine (drFDraw (w.heap.size + 1) w1 cu).mono ?_
  rintro e w2 ⟨g, m, n, rfl, c2, g2⟩
  have Y3 := ((Y1.cur g2 (by omega)).alloc (.cells #[.bool g, .int .i64 m, .int .i64 n] 25)).drew
  have z2 := c2.lt
  replace BW := (((below_cur BW g2 (by omega) BW.size).alloc (by omega) (.cells #[.bool g, .int .i64 m, .int .i64 n] 25))).drew
  have A3 := (Bx3.made w2 (.bool g) (.int .i64 m) (.int .i64 n) 25).drew
  have c3 := (c2.alloc (.cells #[.bool g, .int .i64 m, .int .i64 n] 25)).drew
  have hz3 : w2.heap.size < (w2.alloc (.cells #[.bool g, .int .i64 m, .int .i64 n] 25)).drew.heap.size := A3.hi
  have kB := fun W hc => drFBent (w.heap.size + 1) g m n W hc
  clear cu c2 g2 Y1
  go_wp2_with fail
  have hne : ¬ w.heap.size = w2.heap.size := by omega
  have hne' : ¬ w2.heap.size = w.heap.size := by omega
  go_region_held (fun W => W.cell? ⟨w2.heap.size, 0, none⟩ = some (.bool g) ∧ W.cell? ⟨w2.heap.size, 1, none⟩ = some (.int .i64 m) ∧ W.cell? ⟨w2.heap.size, 2, none⟩ = some (.int .i64 n)) (go_keep) (first
    | (go_at_call 28; refine (kB _ c3).mono ?_; rintro e w4 ⟨x, rfl, c4, g4⟩; have A4 := A3.cur g4 (by omega); have Y4 := Y3.cur g4 (by omega); have B4 := below_cur BW g4 (by omega) BW.size; have a0 := A4.c0; have a1 := A4.c1; have a2 := A4.c2; have r0 := Y4.c0; have r1 := Y4.c1; have r2 := Y4.c2; have p0 := Y4.f0; have p1 := Y4.f1; have p2 := Y4.f2))
  go_wp2
  (try simp only [Exit.inBlock, Exit.then])
  refine bodyPost_ret (v := .tuple #[vF g m n, .int .i64 x]) ?_ rfl ⟨g, m, n, x, rfl, ((B4.setCell (p := ⟨w.heap.size, 0, none⟩) (Nat.le_refl _) _).setCell (p := ⟨w.heap.size, 1, none⟩) (Nat.le_refl _) _).setCell (p := ⟨w.heap.size, 2, none⟩) (Nat.le_refl _) _⟩
  rw [results_cell_tmp rfl]
  go_simp

set_option maxHeartbeats 1600000 in
theorem drFWordOf (a : Option Addr) (len cap : Nat) (zs : List Int) (w : World) (hlen : len ≤ 1048576) (h : CodeIs w a len cap zs) :
    Calls Try.prog 9 #[.slice a len cap] w (DrawnFI w) := by
  have Y0 := Bx3.made w (.bool false) (.int .i64 0) (.int .i64 0) 25
  have BW := belowF1 w (.cells #[.bool false, .int .i64 0, .int .i64 0] 25)
  have h := h.below BW
  go_enter Try.func9, Try.ntmps9
  go_wp2_with fail
  generalize w.alloc (.cells #[.bool false, .int .i64 0, .int .i64 0] 25) = w0 at *
  refine (drFRawOk a len cap zs w0 hlen h).mono ?_
  rintro e w1 ⟨g, m, n, x, rfl, b1⟩
  have Y1 := Y0.below b1 (Nat.le_refl _)
  have B4 := BW.trans (b1.mono BW.size)
  have r0 := Y1.c0
  have r1 := Y1.c1
  have r2 := Y1.c2
  have p0 := Y1.f0
  have p1 := Y1.f1
  have p2 := Y1.f2
  clear h b1 Y0 Y1 BW
  go_wp2
  (try simp only [Exit.inBlock, Exit.then])
  refine bodyPost_ret (v := .tuple #[vF g m n, .int .i64 x]) ?_ rfl ⟨g, m, n, x, rfl, ((B4.setCell (p := ⟨w.heap.size, 0, none⟩) (Nat.le_refl _) _).setCell (p := ⟨w.heap.size, 1, none⟩) (Nat.le_refl _) _).setCell (p := ⟨w.heap.size, 2, none⟩) (Nat.le_refl _) _⟩
  rw [results_cell_tmp rfl]
  go_simp

end Go.Proofs.Ytmaemcfcoieejaa
