/- A fresh cursor's first number, said by the code alone: l1New, l1Byte, l1Below, l1Pick, each by its contract. -/
import Derived.Test.YtocaaklhlmnonaaPickS
namespace Go.Proofs.Ytocaaklhlmnonaa
open Go.RowKit

def hStep (h c : Int) : Int := bits .and .i64 (wrap64 (wrap64 (wrap64 (h * 131) + wrap64 c) + 7)) 1073741823
def hFold (h : Int) (l : List Int) : Int := l.foldl hStep h
/-- The number of a fresh cursor. -/
def hashR (len : Nat) (zs : List Int) : Int := hFold (26583 + len) ((zs.take len).take 4000)
theorem hFold_next (h : Int) (zs : List Int) (k : Nat) (hk : k < zs.length) : hFold h (zs.take (k + 1)) = hStep (hFold h (zs.take k)) (zs.getD k 0) := by
  unfold hFold
  rw [List.take_succ_eq_append_getElem hk, List.foldl_append]
  simp [List.getElem?_eq_getElem hk]
/-- A fresh cursor in block 'B'. -/
def CurIs (w : World) (B : Nat) (a : Option Addr) (len cap : Nat) (zs : List Int) : Prop :=
  w.heap[B]? = some (.cells #[.slice a len cap, .int .i64 0, .int .i64 (hashR len zs)] 101 (0, 0)) ∧ IsRow .u8 w a len cap zs ∧ (∀ x, a = some x → 0 < zs.length → x.block < B) ∧ len ≤ 1048576

set_option maxHeartbeats 1600000 in
theorem newDet_row (b off len cap : Nat) (zs : List Int) (w : World) (hz : len ≤ zs.length) (hlen : len ≤ 1048576) (hr : IsRow .u8 w (some ⟨b, off, none⟩) len cap zs) (hcell : ∀ j, j < len → w.cell? ⟨b, off + j, none⟩ = some (.int .u8 (zs.getD j 0))) (hb : b < w.heap.size) :
    Calls Try.prog 75 #[.slice (some ⟨b, off, none⟩) len cap] w fun e w' => e = .returned (.pointer (some ⟨w.heap.size, 0, none⟩)) ∧ CurIs w' w.heap.size (some ⟨b, off, none⟩) len cap zs ∧ Below w.heap.size w w' := by
  have fin : Hid (CurIs (w.alloc (.cells #[.slice (some ⟨b, off, none⟩) len cap, .int .i64 0, .int .i64 (hashR len zs)] 101)) w.heap.size (some ⟨b, off, none⟩) len cap zs ∧ Below w.heap.size w (w.alloc (.cells #[.slice (some ⟨b, off, none⟩) len cap, .int .i64 0, .int .i64 (hashR len zs)] 101))) := by
    have hB : Below w.heap.size w (w.alloc (.cells #[.slice (some ⟨b, off, none⟩) len cap, .int .i64 0, .int .i64 (hashR len zs)] 101)) := (Below.refl _ _).alloc (Nat.le_refl _) _
    exact ⟨⟨heap_alloc_new w _, hr.below hB, fun x hx _ => by cases hx; exact hb, hlen⟩, hB⟩
  have HR : ∀ k, k ≤ len → (k = len ∨ k = 4000) → k ≤ 4000 → Hid (hFold (26583 + (len : Int)) (zs.take k) = hashR len zs) := by
    intro k h1 h2 h3
    show _ = _
    unfold hashR
    rw [List.take_take]
    congr 2
    omega
  clear hr
  go_enter Try.func75, Try.ntmps75
  go_wp2
  go_loop [3, 4] (fun t i => ∃ (k : Nat), k ≤ len ∧ k ≤ 4000 ∧ i = .int .i64 k ∧ t = .int .i64 (hFold (26583 + (len : Int)) (zs.take k))) (fun _ i => len - (intOf i).toNat)
  case atStart => exact ⟨0, Nat.zero_le _, Nat.zero_le _, rfl, rfl⟩
  case round =>
    obtain ⟨k, hk, hk4, rfl, rfl⟩ := hrel
    by_cases hlt : k < len
    · by_cases h4 : (k : Int) < 4000
      · have hc := hcell k hlt
        have HN : Hid (hFold (26583 + (len : Int)) (zs.take (k + 1)) = hStep (hFold (26583 + (len : Int)) (zs.take k)) (zs.getD k 0)) := hFold_next _ _ _ (by omega)
        obtain ⟨z, hzz⟩ : ∃ z, zs.getD k 0 = z := ⟨_, rfl⟩
        rw [hzz] at HN hc
        clear hzz hcell hz
        clear HR fin
        generalize hFold (26583 + (len : Int)) (zs.take k) = y at *
        go_wp2
        go_round
        case rel => exact ⟨k + 1, by omega, by omega, by go_num, by rw [HN.out]; rfl⟩
        case measure => simp [intOf]; omega
      · have e := HR k hk (.inr (by omega)) hk4
        rw [e.out]
        clear HR e
        go_wp2
        go_ret
        exact ⟨rfl, fin.out⟩
    · have e := HR k hk (.inl (by omega)) hk4
      rw [e.out]
      clear HR e
      go_wp2
      go_ret
      exact ⟨rfl, fin.out⟩


theorem row_len {k : IntKind} {w : World} {a : Option Addr} {len cap : Nat} {zs : List Int} (h : IsRow k w a len cap zs) : len ≤ zs.length := by
  rcases h with ⟨_, h0, _, h3⟩ | ⟨y, h1, g2, g3, g4, g5, g6⟩
  · omega
  · omega
set_option maxHeartbeats 1600000 in
theorem newDet_empty (a : Option Addr) (cap : Nat) (zs : List Int) (w : World) (hr : IsRow .u8 w a 0 cap zs) (hb : ∀ x, a = some x → 0 < zs.length → x.block < w.heap.size) :
    Calls Try.prog 75 #[.slice a 0 cap] w fun e w' => e = .returned (.pointer (some ⟨w.heap.size, 0, none⟩)) ∧ CurIs w' w.heap.size a 0 cap zs ∧ Below w.heap.size w w' := by
  have hh : hashR 0 zs = 26583 := by
    unfold hashR
    rw [List.take_zero]
    rfl
  have fin : Hid (CurIs (w.alloc (.cells #[.slice a 0 cap, .int .i64 0, .int .i64 26583] 101)) w.heap.size a 0 cap zs ∧ Below w.heap.size w (w.alloc (.cells #[.slice a 0 cap, .int .i64 0, .int .i64 26583] 101))) := by
    have hB : Below w.heap.size w (w.alloc (.cells #[.slice a 0 cap, .int .i64 0, .int .i64 26583] 101)) := (Below.refl _ _).alloc (Nat.le_refl _) _
    refine ⟨⟨?_, hr.below hB, hb, by omega⟩, hB⟩
    rw [hh]
    exact heap_alloc_new w _
  clear hr hh hb
  go_enter Try.func75, Try.ntmps75
  go_wp2
  refine wp_loop_rounds 1 ?_
  rw [rounds_succ]
  go_wp2
  go_ret
  exact ⟨rfl, fin.out⟩
theorem newDet (a : Option Addr) (len cap : Nat) (zs : List Int) (w : World) (hlen : len ≤ 1048576) (h : CodeIs w a len cap zs) :
    Calls Try.prog 75 #[.slice a len cap] w fun e w' => e = .returned (.pointer (some ⟨w.heap.size, 0, none⟩)) ∧ CurIs w' w.heap.size a len cap zs ∧ Below w.heap.size w w' := by
  obtain ⟨hr, hb⟩ := h
  have hz := row_len hr
  by_cases h0 : len = 0
  · subst h0; exact newDet_empty a cap zs w hr hb
  · rcases hr with ⟨_, h, _, _⟩ | ⟨⟨b, off, spot⟩, rfl, h2, h3, h4, h5, h6⟩
    · exact absurd h h0
    · have hc := h5 0 (by omega)
      have hspot : spot = none := by simpa [Addr.add] using World.cell?_spot hc
      subst hspot
      refine newDet_row b off len cap zs w hz hlen (.inr ⟨_, rfl, h2, h3, h4, h5, h6⟩) (fun j hj => ?_) (hb _ rfl (by omega))
      have := h5 j (by omega)
      by_cases hj0 : j = 0
      · subst hj0; simpa [Addr.add] using this
      · simpa [Addr.add, hj0] using this

def nextH (h : Int) : Int := wrap64 (wrap64 (h * 6364136223846793005) + 1442695040888963407)
def mixR (h : Int) : Int := bits .and .i64 (bits .xor .i64 (nextH h / 8589934592) (nextH h / 35184372088832)) 255
def byteR (h z : Int) : Int := bits .and .i64 (wrap64 (mixR h + wrap64 z)) 255
/-- The first number below 256 that a code hands out. -/
def firstR (len : Nat) (zs : List Int) : Int := if 0 < len then byteR (hashR len zs) (zs.getD 0 0) else mixR (hashR len zs)
theorem first_bd (len : Nat) (zs : List Int) : 0 ≤ firstR len zs ∧ firstR len zs ≤ 255 := by
  unfold firstR
  split
  · exact and255 _
  · exact and255 _

set_option maxHeartbeats 1600000 in
/-- l1Byte of a fresh cursor. -/
theorem byteDet (B : Nat) (a : Option Addr) (len cap : Nat) (zs : List Int) (w : World) (hc : CurIs w B a len cap zs) :
    Calls Try.prog 87 #[.pointer (some ⟨B, 0, none⟩)] w fun e w' => e = .returned (.int .i64 (firstR len zs)) ∧ w.grownBy w' (some B) := by
  obtain ⟨hblk, hrow, hlt, hlen⟩ := hc
  have HF : Hid (firstR len zs = if 0 < len then byteR (hashR len zs) (zs.getD 0 0) else mixR (hashR len zs)) := rfl
  generalize firstR len zs = r at *
  generalize hashR len zs = h at *
  have c0 : w.cell? ⟨B, 0, none⟩ = some (.slice a len cap) := by rw [cell_of_row w B 0 _ _ (0, 0) hblk]; rfl
  have c1 : w.cell? ⟨B, 1, none⟩ = some (.int .i64 0) := by rw [cell_of_row w B 1 _ _ (0, 0) hblk]; rfl
  have c2 : w.cell? ⟨B, 2, none⟩ = some (.int .i64 h) := by rw [cell_of_row w B 2 _ _ (0, 0) hblk]; rfl
  have f1 : w.frozen? ⟨B, 1, none⟩ = false := frozen_of_row w B 1 _ _ hblk
  have f2 : w.frozen? ⟨B, 2, none⟩ = false := frozen_of_row w B 2 _ _ hblk
  have G1 : ∀ v, w.grownBy (w.setCell ⟨B, 2, none⟩ v) (some B) := fun v => grown_set (World.grownBy.refl w (some B)) 2 v
  have G2 : ∀ v u, w.grownBy ((w.setCell ⟨B, 2, none⟩ v).setCell ⟨B, 1, none⟩ u) (some B) := fun v u => grown_set (G1 v) 1 u
  by_cases h0 : 0 < len
  · rcases hrow with ⟨_, hx, _, _⟩ | ⟨⟨b, off, spot⟩, rfl, g2, g3, g4, g5, g6⟩
    · omega
    · have hca := g5 0 (by omega)
      have hspot : spot = none := by simpa [Addr.add] using World.cell?_spot hca
      subst hspot
      rw [if_pos h0] at HF
      obtain ⟨z, hzz⟩ : ∃ z, zs.getD 0 0 = z := ⟨_, rfl⟩
      rw [hzz] at hca HF
      replace hca : w.cell? ⟨b, off, none⟩ = some (.int .u8 z) := by simpa [Addr.add] using hca
      have hbB : b ≠ B := by have := hlt _ rfl (by omega); intro e; subst e; exact absurd this (Nat.lt_irrefl _)
      have hcc : ∀ v, (w.setCell ⟨B, 2, none⟩ v).cell? ⟨b, off, none⟩ = some (.int .u8 z) := fun v => (World.cell?_setCell_other _ _ _ _ (fun e => hbB (congrArg Addr.block e).symm)).trans hca
      clear g2 g3 g4 g5 g6 hlt hzz hblk
      go_enter Try.func87, Try.ntmps87
      go_wp2
      go_quiet (fail)
      go_wp2
      go_quiet (fail)
      go_wp2
      go_quiet (fail)
      go_wp2
      go_ret
      exact ⟨by rw [HF.out]; rfl, grown_drawn (G2 _ _) _⟩
  · rw [if_neg h0] at HF
    have hl : len = 0 := by omega
    subst hl
    clear hrow hlt hblk
    go_enter Try.func87, Try.ntmps87
    go_wp2
    go_quiet (fail)
    go_wp2
    go_quiet (fail)
    go_wp2
    go_ret
    exact ⟨by rw [HF.out]; rfl, grown_drawn (grown_drawn (G1 _) _) _⟩

set_option maxHeartbeats 1600000 in
theorem belowDet (B n : Nat) (a : Option Addr) (len cap : Nat) (zs : List Int) (w : World) (hc : CurIs w B a len cap zs) (h0 : 0 < n) (h1 : n ≤ 256) :
    Calls Try.prog 76 #[.pointer (some ⟨B, 0, none⟩), .int .i64 n] w fun e w' => e = .returned (.int .i64 (firstR len zs % n)) ∧ w.grownBy w' (some B) := by
  obtain ⟨b0, b1⟩ := first_bd len zs
  have kB := byteDet B a len cap zs w hc
  generalize firstR len zs = r at *
  clear hc
  have h1' : (n : Int) ≤ 256 := by omega
  have h0' : 0 < (n : Int) := by omega
  have hne : ¬ (n : Int) = 0 := by omega
  go_enter Try.func76, Try.ntmps76
  go_wp2_with fail
  refine kB.mono ?_
  rintro e w1 ⟨rfl, g1⟩
  go_wp2
  go_ret
  exact ⟨rfl, g1⟩

set_option maxHeartbeats 1600000 in
theorem pickDet (B g n c : Nat) (a : Option Addr) (len cap : Nat) (zs : List Int) (xs : List ByteArray) (w : World) (hc : CurIs w B a len cap zs) (h0 : 0 < n) (h1 : n ≤ 256) (hg : g ≠ B) (hcell : ∀ j, j < n → w.cell? ⟨g, j, none⟩ = some (.string (xs.getD j ⟨#[]⟩))) :
    Calls Try.prog 74 #[.pointer (some ⟨B, 0, none⟩), .slice (some ⟨g, 0, none⟩) n c] w fun e w' => e = .returned (.string (xs.getD (firstR len zs % n).toNat ⟨#[]⟩)) ∧ w.grownBy w' (some B) := by
  have kB := belowDet B n a len cap zs w hc h0 h1
  have x0 := Int.emod_nonneg (firstR len zs) (show (n : Int) ≠ 0 by omega)
  have x2 := Int.emod_lt_of_pos (firstR len zs) (show 0 < (n : Int) by omega)
  generalize firstR len zs % n = x at *
  clear hc
  obtain ⟨k, rfl⟩ := Int.eq_ofNat_of_zero_le x0
  have hk : k < n := by omega
  have hcl := hcell k hk
  rw [Int.toNat_natCast]
  generalize xs.getD k ⟨#[]⟩ = y at *
  go_enter Try.func74, Try.ntmps74
  go_wp2_with fail
  refine kB.mono ?_
  rintro e w1 ⟨rfl, g1⟩
  have hcc : w1.cell? ⟨g, k, none⟩ = some (.string y) := g1.cell hcl (by simpa using hg)
  clear hcell hcl
  go_wp2
  go_ret
  exact ⟨rfl, g1⟩

end Go.Proofs.Ytocaaklhlmnonaa
