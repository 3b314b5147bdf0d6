/- The draws of FnDivided and FnRooted. -/
import Derived.Test.YtppeabnipnokhaaDrS
import Derived.Test.YtppeabnipnokhaaSTimes
import Derived.Test.YtppeabnipnokhaaSLess
import Derived.Test.YtppeabnipnokhaaDivR
namespace Go.Proofs.Ytppeabnipnokhaa
open Go.RowKit

theorem lit1_row (w : World) (y : Int) : rowI (w.alloc (.cells #[.int .i64 y] 3)) (.slice (some ⟨w.heap.size, 0, none⟩) 1 1) [y] := by
  refine ⟨_, 1, rfl, by simp, by unfold maxLen; omega, (by intro h; cases h), (by intro x hx; cases hx; rfl), fun j hj => ⟨w.heap.size, 0, rfl, by simp, ?_⟩⟩
  have := lit_cells w [y] 3 j hj
  rw [Nat.zero_add]
  exact this

set_option maxRecDepth 20000 in
set_option maxHeartbeats 3200000 in
theorem drDiv (a : Option Addr) (len cap : Nat) (zs : List Int) (w : World) (hlen : len ≤ 1048576) (h : CodeIs w a len cap zs) :
    Calls Try.prog 23 #[.slice a len cap] w (DrawnII w) := by
  go_enter Try.func23, Try.ntmps23
  go_wp2_with fail
  refine (curNew a len cap zs w hlen h).mono ?_
  rintro e w1 ⟨rfl, c1, b1⟩
  have hs1 := c1.lt
  clear h
  go_wp2_with fail
  refine (drDraw w.heap.size w1 c1).mono ?_
  rintro e w2 ⟨v2, xs, rfl, o2, l2, c2, g2⟩
  have B2 := below_cur b1 g2 (Nat.le_refl _) b1.size
  clear c1 b1 g2
  go_wp2_with fail
  refine (drOnce w.heap.size 3 w2 c2 (by omega)).mono ?_
  rintro e w3 ⟨t, rfl, c3, g3⟩
  have o3 := o2.cur g3 hs1
  have B3 := below_cur B2 g3 (Nat.le_refl _) B2.size
  clear c2 o2 g3 B2
  cases t
  · go_wp2_with fail
    refine (drDraw w.heap.size w3 c3).mono ?_
    rintro e w4 ⟨v4, ys, rfl, o4, l4, c4, g4⟩
    have r4 := rowI.cur o3 g4 hs1
    have B4 := below_cur B3 g4 (Nat.le_refl _) B3.size
    clear o3 c3 c4 g4 B3
    go_wp2
    go_ret2
    exact ⟨_, _, xs, ys, rfl, r4, o4.row, l2, l4, B4⟩
  · go_wp2_with fail
    refine (curBelow w.heap.size 999 w3 c3 (by omega)).mono ?_
    rintro e w4 ⟨x, rfl, x0, x1, -, c4, g4⟩
    have x1' := x1 (by omega)
    have o4 := o3.cur g4 hs1
    have B4 := below_cur B3 g4 (Nat.le_refl _) B3.size
    have r5 := (o4.below ((Below.refl w4.heap.size w4).alloc (Nat.le_refl _) (.cells #[.int .i64 (1 + x)] 3)) (Nat.le_refl _)).row
    have q5 := lit1_row w4 (1 + x)
    have B5 := B4.alloc B4.size (.cells #[.int .i64 (1 + x)] 3)
    clear o3 c3 c4 g4 B3 x1 o4
    go_wp2
    go_ret2
    exact ⟨_, _, xs, [1 + x], rfl, r5, q5, l2, by simp, B5⟩

theorem okB_inR {xs : List Int} (h : okB xs = true) : inR xs := ((okB_iff xs).1 h).2.1
theorem sq_len {xs : List Int} (hl : xs.length < 20) (h : inR xs) : (limbs (num xs * num xs)).length ≤ 40 := by
  have h1 : num xs < 16777216 ^ 20 := by
    have a1 := lval_lt h
    have a2 := num_val h
    have e : ((16777216 ^ xs.length : Nat) : Int) = (16777216 : Int) ^ xs.length := by simp
    have p := Nat.pow_le_pow_right (by omega : 0 < 16777216) (show xs.length ≤ 20 by omega)
    omega
  refine limbs_len_le _ 40 ?_
  have := Nat.mul_lt_mul'' h1 h1
  rwa [← Nat.pow_add] at this

set_option maxRecDepth 20000 in
set_option maxHeartbeats 3200000 in
theorem drRoot (a : Option Addr) (len cap : Nat) (zs : List Int) (w : World) (hlen : len ≤ 1048576) (h : CodeIs w a len cap zs) :
    Calls Try.prog 26 #[.slice a len cap] w (DrawnI1 w) := by
  go_enter Try.func26, Try.ntmps26
  go_wp2_with fail
  refine (curNew a len cap zs w hlen h).mono ?_
  rintro e w1 ⟨rfl, c1, b1⟩
  have hs1 := c1.lt
  clear h
  go_wp2_with fail
  refine (drDraw w.heap.size w1 c1).mono ?_
  rintro e w2 ⟨v2, xs, rfl, o2, l2, c2, g2⟩
  have B2 := below_cur b1 g2 (Nat.le_refl _) b1.size
  clear c1 b1 g2
  go_wp2_with fail
  refine (drOnce w.heap.size 3 w2 c2 (by omega)).mono ?_
  rintro e w3 ⟨t, rfl, c3, g3⟩
  have o3 := o2.cur g3 hs1
  have B3 := below_cur B2 g3 (Nat.le_refl _) B2.size
  have R3 := o3.row
  clear c2 o2 g3 B2
  cases t
  · go_wp2
    go_ret
    exact ⟨_, xs, rfl, R3, by omega, B3⟩
  · obtain ⟨ad, cp, rfl, -⟩ := o3.row
    obtain ⟨n, hn⟩ : ∃ n, xs.length = n := ⟨_, rfl⟩
    rw [hn] at R3
    rw [hn]
    by_cases hl : (n : Int) < 20
    · cases hok : okB xs
      · have kn := sNatOk _ xs w3 R3 (by omega)
        rw [hok] at kn
        have hl98 : xs.length ≤ 98 := by omega
        clear hn hok
        go_wp2_with fail
        refine kn.mono ?_
        rintro e w4 ⟨rfl, rfl⟩
        go_wp2
        go_ret
        exact ⟨_, xs, rfl, R3, hl98, B3⟩
      · have kn := sNatOk _ xs w3 R3 (by omega)
        rw [hok] at kn
        have hin := okB_inR hok
        have kt := sTimes _ _ xs xs w3 R3 R3 hin hin (by omega) (by omega)
        have hsq := sq_len (show xs.length < 20 by omega) hin
        generalize num xs * num xs = m at *
        clear hn hok
        go_wp2_with fail
        refine kn.mono ?_
        rintro e w3 ⟨rfl, rfl⟩
        clear kn
        go_wp2_with fail
        refine kt.mono ?_
        rintro e w4 ⟨v4, rfl, o4, b4⟩
        have c4 := c3.below b4 c3.lt
        have B4 := B3.trans (b4.mono B3.size)
        have s4 : w.heap.size < w3.heap.size := c3.lt
        clear kt c3 B3 b4 R3 o3
        go_wp2_with fail
        refine (drOnce w.heap.size 2 w4 c4 (by omega)).mono ?_
        rintro e w5 ⟨t, rfl, c5, g5⟩
        have o5 := o4.cur g5 s4
        have B5 := below_cur B4 g5 (Nat.le_refl _) B4.size
        have R5 := o5.row
        obtain ⟨ad5, cp5, rfl, -⟩ := o5.row
        clear o4 c4 g5 B4
        cases t
        · go_wp2
          go_ret
          exact ⟨_, limbs m, rfl, R5, by omega, B5⟩
        · by_cases h0 : m = 0
          · subst h0
            rw [limbs_zero] at R5
            have R5' : rowI w5 (.slice ad5 0 cp5) [] := R5
            rw [limbs_zero]
            clear R5 o5
            go_wp2
            go_ret
            exact ⟨_, [], rfl, R5', by simp, B5⟩
          · have hp : 0 < (limbs m).length := by
              rw [limbs_pos m (by omega)]; simp
            obtain ⟨k, hk⟩ : ∃ k, (limbs m).length = k := ⟨_, rfl⟩
            rw [hk] at R5 hp
            have hkp : (0 : Int) < (k : Int) := by omega
            have b6 : Below w5.heap.size w5 (w5.alloc (.cells #[.int .i64 1] 3)) := (Below.refl _ _).alloc (Nat.le_refl _) _
            have R6 := R5.below b6 (Nat.le_refl _)
            have hone : num [1] = 1 := by decide
            have hge : num [1] ≤ num (limbs m) := by rw [num_limbs, hone]; omega
            have hlk : [(1 : Int)].length ≤ (limbs m).length := by rw [hk]; exact hp
            have hin1 : inR [1] := inR_cons.2 ⟨by omega, inR_nil⟩
            have kl := sLess _ _ (limbs m) [1] _ R6 (lit1_row w5 1) (limbs_inR m) hin1 (by omega) hlk hge
            rw [num_limbs] at kl
            have hlast : (limbs (m - num [1])).length ≤ 98 := by
              have := limbs_len_mono (Nat.sub_le m (num [1]))
              omega
            generalize limbs (m - num [1]) = ys at *
            have B6 := B5.trans (b6.mono B5.size)
            rw [hk]
            clear hk R5 R6 b6 o5
            go_wp2_with fail
            refine kl.mono ?_
            rintro e w7 ⟨v7, rfl, o7, b7⟩
            go_wp2
            go_ret
            exact ⟨_, ys, rfl, o7.row, hlast, B6.trans (b7.mono B6.size)⟩
    · have hl98 : xs.length ≤ 98 := by omega
      clear hn
      go_wp2
      go_ret
      exact ⟨_, xs, rfl, R3, hl98, B3⟩

end Go.Proofs.Ytppeabnipnokhaa
