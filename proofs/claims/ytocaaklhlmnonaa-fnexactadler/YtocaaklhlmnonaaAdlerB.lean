/- Adler of the specification and of the program, each by its contract. -/
import Derived.Test.YtocaaklhlmnonaaToBR
import Derived.Deep.QuietTactic
import Derived.BigQuiet
namespace Go.Proofs.Ytocaaklhlmnonaa
open Go.RowKit
set_option linter.unusedSimpArgs false

/-- Both sums, bytes behind one another. -/
def adl : Int → Int → List Int → Int
  | s, t, [] => t * 65536 + s
  | s, t, b :: r => adl ((s + b) % 65521) ((t + (s + b) % 65521) % 65521) r

theorem adl_step (s t : Int) (xs : List Int) (k : Nat) (h : k < xs.length) : adl s t (xs.drop k) = adl ((s + xs.getD k 0) % 65521) ((t + (s + xs.getD k 0) % 65521) % 65521) (xs.drop (k + 1)) := by
  rw [List.drop_eq_getElem_cons h, List.getD_eq_getElem?_getD, List.getElem?_eq_getElem h]
  rfl

set_option maxHeartbeats 1600000 in
theorem sAdler_row (g n c : Nat) (xs : List Int) (w : World) (hn : xs.length = n) (hm : n ≤ 1099511627776) (hb : ∀ x ∈ xs, 0 ≤ x ∧ x ≤ 255)
    (h : ∀ j : Nat, j < n → w.cell? ⟨g, j, none⟩ = some (.int .u8 (xs.getD j 0))) :
    Calls Try.prog 16 #[.slice (some ⟨g, 0, none⟩) n c] w fun e w' => e = .returned (.int .i64 (adl 1 0 xs)) ∧ w' = w := by
  go_enter Try.func16, Try.ntmps16
  go_wp2
  go_loop [3, 4, 5] (fun s t i => ∃ (k : Nat) (a b : Int), k ≤ n ∧ i = .int .i64 k ∧ s = .int .i64 a ∧ t = .int .i64 b ∧ 0 ≤ a ∧ a ≤ 65520 ∧ 0 ≤ b ∧ b ≤ 65520 ∧ Hid (adl a b (xs.drop k) = adl 1 0 xs)) (fun _ _ i => n - (intOf i).toNat)
  case atStart => exact ⟨0, 1, 0, Nat.zero_le _, rfl, rfl, rfl, by omega, by omega, by omega, by omega, rfl⟩
  case round =>
    obtain ⟨k, a, b, hk, rfl, rfl, rfl, a0, a1, b0, b1, hR⟩ := hrel
    by_cases hlt : k < n
    · have hc := h k hlt
      have hx := hb (xs.getD k 0) (by rw [List.getD_eq_getElem?_getD, List.getElem?_eq_getElem (by omega : k < xs.length)]; exact List.getElem_mem _)
      have hS := adl_step a b xs k (by omega)
      obtain ⟨d, hd⟩ : ∃ d, xs.getD k 0 = d := ⟨_, rfl⟩
      rw [hd] at hc hx hS
      obtain ⟨d0, d1⟩ := hx
      have hR' : Hid (adl ((a + d) % 65521) ((b + (a + d) % 65521) % 65521) (xs.drop (k + 1)) = adl 1 0 xs) := hS.symm.trans hR
      have f1 : IntKind.i64.wrap d = d := by rw [IntKind.wrap_i64]; omega
      have f2 : IntKind.i64.wrap (a + d) = a + d := by rw [IntKind.wrap_i64]; omega
      have f3 : (a + d).tmod 65521 = (a + d) % 65521 := Int.tmod_eq_emod_of_nonneg (by omega)
      obtain ⟨s, hs⟩ : ∃ s, (a + d) % 65521 = s := ⟨_, rfl⟩
      rw [hs] at f3 hR'
      have s0 : 0 ≤ s := by omega
      have s1 : s ≤ 65520 := by omega
      have f4 : IntKind.i64.wrap (b + s) = b + s := by rw [IntKind.wrap_i64]; omega
      have f5 : (b + s).tmod 65521 = (b + s) % 65521 := Int.tmod_eq_emod_of_nonneg (by omega)
      clear hS hR hd h hb hn hs
      go_wp2
      go_round
      case rel => exact ⟨k + 1, _, _, by omega, by go_num, rfl, rfl, by omega, by omega, by omega, by omega, hR'⟩
      case measure => simp [intOf]; omega
    · have hkn : k = n := by omega
      subst hkn
      have hF : b * 65536 + a = adl 1 0 xs := by have := hR; unfold Hid at this; rw [List.drop_of_length_le (by omega)] at this; exact this
      have f1 : IntKind.i64.wrap (b * 65536) = b * 65536 := by rw [IntKind.wrap_i64]; omega
      have f2 : IntKind.i64.wrap (b * 65536 + a) = b * 65536 + a := by rw [IntKind.wrap_i64]; omega
      clear hR
      go_wp2
      go_ret
      exact ⟨by rw [← hF]; rfl, rfl⟩

set_option maxHeartbeats 1600000 in
theorem iAdler_row (g n c : Nat) (xs : List Int) (w : World) (hn : xs.length = n) (hm : n ≤ 1099511627776) (hb : ∀ x ∈ xs, 0 ≤ x ∧ x ≤ 255)
    (h : ∀ j : Nat, j < n → w.cell? ⟨g, j, none⟩ = some (.int .u8 (xs.getD j 0))) :
    Calls Try.prog 18 #[.slice (some ⟨g, 0, none⟩) n c] w fun e w' => e = .returned (.int .i64 (adl 1 0 xs)) ∧ w' = w := by
  go_enter Try.func18, Try.ntmps18
  go_wp2
  go_loop [3, 4, 6, 9] (fun s t _x i => ∃ (k : Nat) (a b : Int), k ≤ n ∧ i = .int .i64 k ∧ s = .int .i64 a ∧ t = .int .i64 b ∧ 0 ≤ a ∧ a ≤ 65520 ∧ 0 ≤ b ∧ b ≤ 65520 ∧ Hid (adl a b (xs.drop k) = adl 1 0 xs)) (fun _ _ _ i => n - (intOf i).toNat)
  case atStart => exact ⟨0, 1, 0, Nat.zero_le _, rfl, rfl, rfl, by omega, by omega, by omega, by omega, rfl⟩
  case round =>
    obtain ⟨k, a, b, hk, rfl, rfl, rfl, a0, a1, b0, b1, hR⟩ := hrel
    by_cases hlt : k < n
    · have hc := h k hlt
      have hx := hb (xs.getD k 0) (by rw [List.getD_eq_getElem?_getD, List.getElem?_eq_getElem (by omega : k < xs.length)]; exact List.getElem_mem _)
      have hS := adl_step a b xs k (by omega)
      obtain ⟨d, hd⟩ : ∃ d, xs.getD k 0 = d := ⟨_, rfl⟩
      rw [hd] at hc hx hS
      obtain ⟨d0, d1⟩ := hx
      have hR' : Hid (adl ((a + d) % 65521) ((b + (a + d) % 65521) % 65521) (xs.drop (k + 1)) = adl 1 0 xs) := hS.symm.trans hR
      have f1 : IntKind.i64.wrap d = d := by rw [IntKind.wrap_i64]; omega
      have f2 : IntKind.i64.wrap (a + d) = a + d := by rw [IntKind.wrap_i64]; omega
      have f3 : (a + d).tmod 65521 = (a + d) % 65521 := Int.tmod_eq_emod_of_nonneg (by omega)
      obtain ⟨s, hs⟩ : ∃ s, (a + d) % 65521 = s := ⟨_, rfl⟩
      rw [hs] at f3 hR'
      have s0 : 0 ≤ s := by omega
      have s1 : s ≤ 65520 := by omega
      have f4 : IntKind.i64.wrap (b + s) = b + s := by rw [IntKind.wrap_i64]; omega
      have f5 : (b + s).tmod 65521 = (b + s) % 65521 := Int.tmod_eq_emod_of_nonneg (by omega)
      clear hS hR hd h hb hn hs
      go_wp2
      go_round
      case rel => exact ⟨k + 1, _, _, by omega, by go_num, rfl, rfl, by omega, by omega, by omega, by omega, hR'⟩
      case measure => simp [intOf]; omega
    · have hkn : k = n := by omega
      subst hkn
      have hF : b * 65536 + a = adl 1 0 xs := by have := hR; unfold Hid at this; rw [List.drop_of_length_le (by omega)] at this; exact this
      have f1 : IntKind.i64.wrap (b * 65536) = b * 65536 := by rw [IntKind.wrap_i64]; omega
      have f2 : IntKind.i64.wrap (b * 65536 + a) = b * 65536 + a := by rw [IntKind.wrap_i64]; omega
      clear hR
      go_wp2
      go_ret
      exact ⟨by rw [← hF]; rfl, rfl⟩

theorem sAdler (b : Nat) (v : Value) (xs : List Int) (w : World) (hm : xs.length ≤ 1099511627776) (hb : ∀ x ∈ xs, 0 ≤ x ∧ x ≤ 255) (h : ownsB w b v xs) :
    Calls Try.prog 16 #[v] w fun e w' => e = .returned (.int .i64 (adl 1 0 xs)) ∧ w' = w := by
  rcases h.2 with ⟨rfl, h0⟩ | ⟨g1, c1, _, rfl, -⟩
  · obtain rfl := List.eq_nil_of_length_eq_zero h0
    go_enter Try.func16, Try.ntmps16
    go_wp2
    refine wp_loop_rounds 1 ?_
    rw [rounds_succ]
    go_wp2
    go_ret
    exact ⟨rfl, rfl⟩
  · exact sAdler_row g1 _ c1 xs w rfl hm hb (cells_of h rfl)

theorem iAdler (b : Nat) (v : Value) (xs : List Int) (w : World) (hm : xs.length ≤ 1099511627776) (hb : ∀ x ∈ xs, 0 ≤ x ∧ x ≤ 255) (h : ownsB w b v xs) :
    Calls Try.prog 18 #[v] w fun e w' => e = .returned (.int .i64 (adl 1 0 xs)) ∧ w' = w := by
  rcases h.2 with ⟨rfl, h0⟩ | ⟨g1, c1, _, rfl, -⟩
  · obtain rfl := List.eq_nil_of_length_eq_zero h0
    go_enter Try.func18, Try.ntmps18
    go_wp2
    refine wp_loop_rounds 1 ?_
    rw [rounds_succ]
    go_wp2
    go_ret
    exact ⟨rfl, rfl⟩
  · exact iAdler_row g1 _ c1 xs w rfl hm hb (cells_of h rfl)

theorem bytes_in {k : IntKind} (hk : k = .u8) {w : World} {a : Option Addr} {len cap : Nat} {zs : List Int} (h : IsRow k w a len cap zs) : ∀ x ∈ zs.take len, 0 ≤ x ∧ x ≤ 255 := by
  subst hk
  intro x hx
  have hm := List.mem_of_mem_take hx
  rcases h with ⟨_, _, _, rfl⟩ | ⟨y, h1, h2, h3, h4, h5, h6⟩
  · cases hm
  · have := h6 x hm
    simp [Lit.wf, IntKind.min, IntKind.max, IntKind.signed, IntKind.bits] at this
    omega

set_option maxHeartbeats 1600000 in
theorem walkAdler (a0 : Option Addr) (len0 cap0 : Nat) (z0 : List Int) (w : World) (w0 : IsRow .u8 w a0 len0 cap0 z0) :
    Calls Try.prog 4 #[.slice a0 len0 cap0] w fun e w' => e = .returned (.bool true) ∧ Below w.heap.size w w' := by
  have hB := bytes_in rfl w0
  have hl : (z0.take len0).length ≤ len0 := by rw [List.length_take]; exact Nat.min_le_left _ _
  by_cases hbig : len0 ≤ 1048576
  · go_enter Try.func4, Try.ntmps4
    go_wp2_with fail
    refine (toB a0 len0 cap0 z0 w (by omega) w0).mono ?_
    rintro e w1 ⟨v1, rfl, o1, b1⟩
    go_wp2_with fail
    refine (sAdler _ v1 _ w1 (by omega) hB o1).mono ?_
    rintro e w1' ⟨rfl, rfl⟩
    go_wp2_with fail
    refine (toB a0 len0 cap0 z0 _ (by omega) (w0.below b1)).mono ?_
    rintro e w2 ⟨v2, rfl, o2, b2⟩
    go_wp2_with fail
    refine (iAdler _ v2 _ w2 (by omega) hB o2).mono ?_
    rintro e w2' ⟨rfl, rfl⟩
    have B2 := b1.trans (b2.mono b1.size)
    go_wp2_with fail
    refine (toB a0 len0 cap0 z0 _ (by omega) (w0.below B2)).mono ?_
    rintro e w3 ⟨v3, rfl, o3, b3⟩
    have o2' := o2.below b3 (Nat.le_refl _)
    have B3 := B2.trans (b3.mono B2.size)
    go_wp2_with fail
    refine (eqB _ _ v2 v3 _ w3 (by omega) o2' o3).mono ?_
    rintro e w3' ⟨rfl, n, rfl⟩
    have B4 : Below w.heap.size w (w3.drewN n) := ⟨B3.os, B3.tape, B3.output, B3.size, B3.block⟩
    clear o1 o2 o2' o3 b1 b2 b3 B2 B3
    go_wp2
    go_ret
    exact ⟨rfl, B4⟩
  · go_enter Try.func4, Try.ntmps4
    go_wp2
    go_ret
    exact ⟨rfl, Below.refl _ _⟩

end Go.Proofs.Ytocaaklhlmnonaa
