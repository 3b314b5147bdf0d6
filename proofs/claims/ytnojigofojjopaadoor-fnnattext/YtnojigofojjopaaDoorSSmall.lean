/- The specification's l3Small, by its contract. -/
import Derived.Test.YtnojigofojjopaaDoorBase
import Derived.Test.YtnojigofojjopaaDoorSTimes
import Derived.Test.YtnojigofojjopaaDoorOne
import Derived.Laws.MakeOwn
namespace Go.Proofs.YtnojigofojjopaaDoor
open Go.RowKit

theorem lval_drop_set (zs : List Int) (i : Nat) (y : Int) (h : i < zs.length) : lval ((zs.set i y).drop i) = y + 16777216 * lval (zs.drop (i + 1)) := by
  rw [lval_drop]
  have e1 : (zs.set i y).getD i 0 = y := by simp [List.getD_eq_getElem?_getD, h]
  have e2 : (zs.set i y).drop (i + 1) = zs.drop (i + 1) := List.drop_set_of_lt (by omega)
  rw [e1, e2]

theorem small_step {a rest d x Z V : Int} (h : V = d * Z + rest) (hx : x = rest * 16777216 + a) : a + 16777216 * V = d * (x / d + 16777216 * Z) + x % d := by
  have := Int.mul_ediv_add_emod x d
  grind

theorem small_bd {a rest d : Int} (a0 : 0 ≤ a) (a1 : a < 16777216) (r0 : 0 ≤ rest) (r1 : rest < d) : 0 ≤ (rest * 16777216 + a) / d ∧ (rest * 16777216 + a) / d < 16777216 ∧ 0 ≤ (rest * 16777216 + a) % d ∧ (rest * 16777216 + a) % d < d := by
  have hd : 0 < d := by omega
  refine ⟨Int.ediv_nonneg (by omega) (by omega), Int.ediv_lt_of_lt_mul hd ?_, Int.emod_nonneg _ (by omega), Int.emod_lt_of_pos _ hd⟩
  omega

set_option maxHeartbeats 3200000 in
/-- l3Small: quotient and rest by a small number. -/
theorem sSmall (va : Value) (xs : List Int) (d : Nat) (w : World) (ha : rowI w va xs) (hx : inR xs) (hlx : xs.length ≤ 1048576) (hd0 : 0 < d) (hd1 : d ≤ 536870912) :
    Calls Tryd.prog 25 #[va, .int .i64 d] w fun e w' => ∃ v, e = .returned (.tuple #[v, .int .i64 ((num xs % d : Nat) : Int)]) ∧ ownsI w' w.heap.size v (limbs (num xs / d)) ∧ Below w.heap.size w w' := by
  obtain ⟨a1, cap1, rfl, -⟩ := id ha
  obtain ⟨i0, hi, hz0, hz1, hz2⟩ := info_parts Tryd.info3
  obtain ⟨w1, hmk, hown1, hg1⟩ := run_make_full (P := Tryd.prog) w w.heap.size 22 3 i0 (.int .i64 0) 1 Tryd.underlying22 hi hz0 hz1 .i64 .i64 xs.length (by rw [hz2]; omega) (by unfold maxLen; omega) (Nat.le_refl _)
  have hb1 : Below w.heap.size w w1 := (Below.refl _ _).grown hg1 (Nat.le_refl _) (fun k hk => by cases hk)
  have hz : (madeCells (Value.int .i64 0).cells (xs.length * 1)).toList = (List.replicate xs.length (0 : Int)).map (Value.int .i64) := by
    rw [Nat.mul_one]
    have := toList_madeCells_one (Value.int .i64 0) xs.length
    rw [List.map_replicate]
    exact this
  rw [hz] at hown1
  clear hg1 hi hz0 hz1 hz2 hz
  have hdn : (d : Int) ≠ 0 := by omega
  go_enter Tryd.func25, Tryd.ntmps25
  go_wp2
  go_loopw [7, 8] (fun v i wr => ∃ (m : Nat) (rest : Int) (zs : List Int), m ≤ xs.length ∧ i = .int .i64 ((m : Int) - 1) ∧ v = .int .i64 rest ∧ 0 ≤ rest ∧ rest < d ∧ zs.length = xs.length ∧ inR zs ∧ Hid (lval (zs.take m) = 0 ∧ lval (xs.drop m) = d * lval (zs.drop m) + rest) ∧ wr.ownsRow w.heap.size 3 1 (.slice (some ⟨w.heap.size, 0, none⟩) xs.length xs.length) xs.length (zs.map (Value.int .i64)) ∧ Below w.heap.size w wr) (fun _ i _ => (intOf i + 1).toNat)
  case atStart =>
    refine ⟨xs.length, 0, List.replicate xs.length 0, Nat.le_refl _, by go_num, rfl, by omega, by omega, List.length_replicate, fun x hx => by rw [List.eq_of_mem_replicate hx]; omega, ⟨?_, ?_⟩, hown1, hb1⟩
    · rw [List.take_of_length_le (by simp), lval_zeros]
    · rw [List.drop_of_length_le (Nat.le_refl _), List.drop_of_length_le (by simp)]
      simp [lval]
  case round =>
    obtain ⟨m, rest, zs, hm, rfl, rfl, r0, r1, hzl, hzR, HL, hown, hbw⟩ := hrel
    have hsz := hbw.size
    cases m with
    | zero =>
      have hL := HL.out.2
      rw [List.drop_zero, List.drop_zero] at hL
      have h1 := num_val hzR
      have h2 := num_val hx
      rw [← h1, ← h2] at hL
      have e1 : num xs / d = num zs := by
        have : ((num xs / d : Nat) : Int) = (num zs : Int) := by
          rw [Int.natCast_ediv, hL, Int.add_comm, Int.add_mul_ediv_left _ _ hdn, Int.ediv_eq_zero_of_lt r0 r1]; omega
        omega
      have e2 : ((num xs % d : Nat) : Int) = rest := by
        rw [Int.natCast_emod, hL, Int.add_comm, Int.add_mul_emod_self_left, Int.emod_eq_of_lt r0 r1]
      have hownI : ownsI wr w.heap.size (.slice (some ⟨w.heap.size, 0, none⟩) xs.length xs.length) zs := by
        unfold ownsI
        rw [hzl]
        exact hown
      have kt := sTrim _ zs wr hownI.row hzR (by omega)
      rw [← e1] at kt
      have hm1 : ((0 : Nat) : Int) - 1 = -1 := rfl
      rw [hm1]
      have E2 : Hid (((num xs % d : Nat) : Int) = rest) := e2
      clear HL hL hownI hown hm1 e1 e2 h1 h2
      go_wp2_with fail
      refine kt.mono ?_
      rintro e w4 ⟨v4, rfl, o4, b4⟩
      go_wp2
      go_ret2
      exact ⟨_, by rw [E2.out]; rfl, ownsI_mono o4 hsz, hbw.trans (b4.mono hsz)⟩
    | succ k =>
      have hk1 : ((k + 1 : Nat) : Int) - 1 = (k : Int) := by omega
      rw [hk1]
      clear hk1
      obtain ⟨b1, o1, rfl, ca⟩ := (ha.below hbw (Nat.le_refl _)).at k (by omega)
      have gx := inR_getD hx k
      have HD : Hid (lval (xs.drop k) = xs.getD k 0 + 16777216 * lval (xs.drop (k + 1))) := lval_drop xs k
      obtain ⟨xi, hxi⟩ : ∃ xi, xs.getD k 0 = xi := ⟨_, rfl⟩
      rw [hxi] at ca gx HD
      obtain ⟨p0, p1, p2, p3⟩ := small_bd gx.1 gx.2 r0 r1
      have fz := hown.frozenAt k
      have cz := cellsI_of hown hzl k (by omega)
      obtain ⟨x, hxx⟩ : ∃ x, rest * 16777216 + xi = x := ⟨_, rfl⟩
      rw [hxx] at p0 p1 p2 p3
      have x0 : 0 ≤ x := by omega
      have x1 : x ≤ 9007199254740992 := by omega
      have wq : IntKind.i64.wrap (x.tdiv d) = x / d := by rw [Int.tdiv_eq_ediv_of_nonneg x0, IntKind.wrap_i64]; omega
      have wm : x.tmod d = x % d := Int.tmod_eq_emod_of_nonneg x0
      have tq : x.tdiv d = x / d := Int.tdiv_eq_ediv_of_nonneg x0
      have hs := hown.stored k (.int .i64 (x / d))
      have HX : Hid (rest * 16777216 + xi = x) := hxx
      have hB : Below w.heap.size w wr := hbw
      clear hown hbw
      go_wp2
      go_roundw
      case rel =>
        refine ⟨k, x % d, zs.set k (x / d), by omega, by go_num, rfl, p2, p3, by rw [List.length_set, hzl], inR_set hzR k p0 p1, ⟨?_, ?_⟩, by rw [List.map_set]; exact hs.1, ?_⟩
        · rw [List.take_set_of_le (Nat.le_refl _)]
          have h1 := HL.out.1
          rw [lval_take_succ] at h1
          have h2 := lval_nonneg (inR_take hzR k)
          have h3 := Int.mul_nonneg (Int.le_of_lt (pow_pos k)) (inR_getD hzR k).1
          omega
        · rw [HD.out, lval_drop_set _ _ _ (by omega)]
          exact small_step HL.out.2 HX.out.symm
        · exact Below.setCell (p := ⟨w.heap.size, k, none⟩) hB (Nat.le_refl _) _
      case measure => simp [intOf] <;> omega

end Go.Proofs.YtnojigofojjopaaDoor
