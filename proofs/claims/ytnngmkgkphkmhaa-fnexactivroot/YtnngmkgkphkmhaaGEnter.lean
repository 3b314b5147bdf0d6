/- The program's bit and enter, each by its contract. -/
import Derived.Test.YtnngmkgkphkmhaaGB
import Derived.Test.YtnngmkgkphkmhaaBase
import Derived.Test.YtnngmkgkphkmhaaSB
namespace Go.Proofs.Ytnngmkgkphkmhaa
open Go.RowKit

set_option maxRecDepth 20000 in
set_option maxHeartbeats 1600000 in
/-- bit: one bit of a number. -/
theorem gBit (a oa m k : Nat) (w : World) (hk : k / 24 < 98) (ha : GA w a oa m) :
    Calls Try.prog 105 #[.pointer (some ⟨a, oa, none⟩), .int .i64 k] w fun e w' => e = .returned (.int .u32 ((m / 2 ^ k % 2 : Nat) : Int)) ∧ w' = w := by
  have hb := bit_of (limbs_inR m) k
  rw [num_limbs] at hb
  have cw := ha.word (k / 24) hk
  have gx := inR_getD (limbs_inR m) (k / 24)
  have hq : (k : Int) / 24 = ((k / 24 : Nat) : Int) := by omega
  have hs : (k : Int) % 24 = ((k % 24 : Nat) : Int) := by omega
  have hs1 : k % 24 < 24 := by omega
  have hk2 : k ≤ 100000 := by omega
  obtain ⟨x, hx⟩ : ∃ x, (limbs m).getD (k / 24) 0 = x := ⟨_, rfl⟩
  rw [hx] at hb cw gx
  obtain ⟨z, hz⟩ : ∃ z, m / 2 ^ k % 2 = z := ⟨_, rfl⟩
  rw [hz] at hb ⊢
  clear hx hz ha
  generalize k / 24 = q at *
  generalize k % 24 = s at *
  have P0 := two_pow_pos s
  obtain ⟨P, hP⟩ : ∃ P, (2 : Int) ^ s = P := ⟨_, rfl⟩
  rw [hP] at hb P0
  have hq98 : (q : Int) < 98 := by omega
  have hy0 : 0 ≤ x / P := Int.ediv_nonneg gx.1 (by omega)
  have HB : Hid (x / P % 2 = (z : Int)) := hb
  clear hb
  go_enter Try.func105, Try.ntmps105
  go_wp2
  go_ret
  exact ⟨by rw [← HB.out]; rfl, rfl⟩

theorem enter_step (i : Nat) (c x f A xk lo : Int) (ys : List Int) (hi : ys.length = i) (h : lval ys + 16777216 ^ i * c = f * A + lo) (hx : x = xk * f + c) :
    lval (ys ++ [x % 16777216]) + 16777216 ^ (i + 1) * (x / 16777216) = f * (A + 16777216 ^ i * xk) + lo := by
  rw [lval_snoc, hi, Int.pow_succ]
  have e : x = 16777216 * (x / 16777216) + x % 16777216 := by omega
  have e3 : (16777216 : Int) ^ i * x = 16777216 ^ i * 16777216 * (x / 16777216) + 16777216 ^ i * (x % 16777216) := by
    conv => lhs; rw [e]
    rw [Int.mul_add, ← Int.mul_assoc]
  have e2 : (16777216 : Int) ^ i * x = 16777216 ^ i * (xk * f) + 16777216 ^ i * c := by rw [hx, Int.mul_add]
  have e4 : f * (A + 16777216 ^ i * xk) = f * A + 16777216 ^ i * (xk * f) := by
    rw [Int.mul_add, Int.mul_comm xk f, ← Int.mul_assoc, ← Int.mul_assoc, Int.mul_comm f (16777216 ^ i)]
  omega
theorem entered {ys : List Int} {c f : Int} {m lo L : Nat} (hr : inR ys) (hl : ys.length = L) (hL : (limbs m).length = L) (c0 : 0 ≤ c) (c1 : c < 16777216) (f1 : 1 ≤ f)
    (h : lval ys + 16777216 ^ L * c = f * lval ((limbs m).take L) + lo) (N : Nat) (hN : (N : Int) = m * f + lo) :
    (c = 0 → limbs N = ys) ∧ (0 < c → limbs N = ys ++ [c]) := by
  rw [List.take_of_length_le (Nat.le_of_eq hL), limbs_val] at h
  have hmf : f * (m : Int) = m * f := Int.mul_comm _ _
  rw [hmf, ← hN] at h
  constructor
  · intro hc
    subst hc
    rw [Int.mul_zero, Int.add_zero] at h
    have hnum : num ys = N := by have := num_val hr; omega
    have hz : noZ ys := by
      refine noZ_of ?_
      by_cases h0 : ys = []
      · exact .inl h0
      · refine .inr (fun hz => ?_)
        have hpos : 0 < ys.length := List.length_pos_iff.2 h0
        obtain ⟨t, ht⟩ : ∃ t, ys.length = t + 1 := ⟨ys.length - 1, by omega⟩
        have s1 := lval_split ys t
        have s2 := lval_drop ys t
        rw [show ys.length - 1 = t by omega] at hz
        rw [hz, List.drop_of_length_le (by omega : ys.length ≤ t + 1)] at s2
        simp only [lval, Int.mul_zero, Int.add_zero] at s2
        rw [s2, Int.mul_zero, Int.add_zero] at s1
        have s3 := lval_take_lt hr t
        have hm : (m : Int) ≤ N := by
          have : (m : Int) * 1 ≤ m * f := Int.mul_le_mul_of_nonneg_left f1 (by omega)
          omega
        have s4 : (limbs m).length ≤ t := limbs_len_le m t (by
          have e1 : ((16777216 ^ t : Nat) : Int) = (16777216 : Int) ^ t := by simp
          omega)
        omega
    have := eq_limbs ⟨hr, hz⟩
    rw [hnum] at this
    exact this.symm
  · intro hc
    have hr2 : inR (ys ++ [c]) := inR_append.2 ⟨hr, inR_cons.2 ⟨⟨c0, c1⟩, inR_nil⟩⟩
    have hz : noZ (ys ++ [c]) := fun hne => by simp; omega
    have hv : lval (ys ++ [c]) = N := by rw [lval_snoc, hl]; exact h
    have hnum : num (ys ++ [c]) = N := by have := num_val hr2; omega
    have := eq_limbs ⟨hr2, hz⟩
    rw [hnum] at this
    exact this.symm

set_option maxRecDepth 20000 in
set_option maxHeartbeats 3200000 in
/-- enter: up by one bit or two, with low in the place that is left, in place. -/
theorem gEnter (a m k lo N : Nat) (w : World) (hk : k = 1 ∨ k = 2) (hlo : lo < 4) (hN : N = m * 2 ^ k + lo) (hlm : (limbs m).length ≤ 97) (hG : GN w a m) :
    Calls Try.prog 111 #[.pointer (some ⟨a, 0, none⟩), .int .i64 k, .int .u32 lo] w fun e w' => e = .returned (.tuple #[]) ∧ GN w' a N ∧ Tn [a] w w' ∧ w'.heap.size = w.heap.size := by
  obtain ⟨L, hL⟩ : ∃ L, (limbs m).length = L := ⟨_, rfl⟩
  have hG0 : GB w a (pad (limbs m)) (L : Int) := by rw [← hL]; exact hG
  have HLL : Hid ((limbs m).length = L) := hL
  rw [hL] at hlm
  have hxr := limbs_inR m
  have f1 := two_pow_pos k
  have f2 : (2 : Int) ^ k ≤ 4 := two_pow_le (show k ≤ 2 by omega)
  have hNI : (N : Int) = m * (2 : Int) ^ k + lo := by rw [hN]; simp
  have hk0 : (0 : Int) ≤ (k : Int) := by omega
  have hk64 : (k : Int) ≤ 32 := by omega
  obtain ⟨f, hf⟩ : ∃ f, (2 : Int) ^ k = f := ⟨_, rfl⟩
  rw [hf] at f1 f2 hNI
  have HE : Hid (∀ (ys : List Int) (c : Int), inR ys → ys.length = L → 0 ≤ c → c < 16777216 → lval ys + 16777216 ^ L * c = f * lval ((limbs m).take L) + lo → (c = 0 → limbs N = ys) ∧ (0 < c → limbs N = ys ++ [c])) := fun ys c q1 q2 q3 q4 q5 => entered q1 q2 HLL.out q3 q4 (by omega) q5 N hNI
  clear hG hL hN hNI hk
  go_enter Try.func111, Try.ntmps111
  go_wp2
  go_loopw [6, 7] (fun c i wr => ∃ (p : Nat) (cc : Int) (ws : List Int), p ≤ L ∧ i = .int .i64 p ∧ c = .int .u32 cc ∧ 0 ≤ cc ∧ cc < 4 ∧ inR (ws.take p) ∧ (∀ j, p ≤ j → ws.getD j 0 = (limbs m).getD j 0) ∧ Hid (lval (ws.take p) + 16777216 ^ p * cc = f * lval ((limbs m).take p) + lo) ∧ GB wr a ws (L : Int) ∧ Tn [a] w wr ∧ wr.heap.size = w.heap.size) (fun _ i _ => L - (intOf i).toNat)
  case atStart => exact ⟨0, lo, pad (limbs m), by omega, rfl, rfl, by omega, by omega, by rw [List.take_zero]; exact inR_nil, fun j _ => pad_getD _ _, by show _ = _; simp [lval], hG0, Tn.refl _ _, rfl⟩
  case round =>
    clear hG0
    obtain ⟨p, cc, ws, hp, rfl, rfl, cc0, cc1, hoR, hw, HV, hG, hT, hs⟩ := hrel
    have hlen := hG.len
    have c98 := hG.size
    by_cases hlt : p < L
    · have HT : Hid (lval ((limbs m).take (p + 1)) = lval ((limbs m).take p) + 16777216 ^ p * (limbs m).getD p 0) := lval_take_succ _ p
      have gx := inR_getD hxr p
      have cx := hG.word p (by omega)
      rw [hw p (Nat.le_refl _)] at cx
      have fx := hG.free p
      have HW : Hid (∀ j, p + 1 ≤ j → ∀ v, (ws.set p v).getD j 0 = (limbs m).getD j 0) := fun j hj v => by rw [gset_ne v (by omega)]; exact hw j (by omega)
      obtain ⟨x, hx⟩ : ∃ x, (limbs m).getD p 0 = x := ⟨_, rfl⟩
      rw [hx] at gx HT cx
      obtain ⟨gx0, gx1⟩ := gx
      have m0 : 0 ≤ x * f := Int.mul_nonneg gx0 (by omega)
      have m1 : x * f ≤ 16777215 * 4 := Int.mul_le_mul (by omega) f2 (by omega) (by omega)
      have m2 : x * f + cc ≤ 67108863 := by omega
      have HG : Hid (GB wr a ws (L : Int) ∧ Tn [a] w wr ∧ wr.heap.size = w.heap.size) := ⟨hG, hT, hs⟩
      have hp98 : (p : Int) < 98 := by omega
      have hlt' : (p : Int) < (L : Int) := by omega
      have HX : Hid (lval (ws.take p ++ [(x * f + cc) % 16777216]) + 16777216 ^ (p + 1) * ((x * f + cc) / 16777216) = f * (lval ((limbs m).take p) + 16777216 ^ p * x) + lo) := enter_step p cc _ f _ x lo (ws.take p) (by rw [List.length_take]; omega) HV.out rfl
      obtain ⟨y, hy⟩ : ∃ y, x * f = y := ⟨_, rfl⟩
      rw [hy] at m0 m1 m2 HX
      clear hx hG hT hs hw HV
      go_wp2
      go_roundw
      case rel =>
        refine ⟨p + 1, (y + cc) / 16777216, ws.set p ((y + cc) % 16777216), by omega, by go_num, by go_num, by omega, by omega, ?_, fun j hj => HW.out j hj _, ?_, ?_, ?_, ?_⟩
        · rw [take_set_succ (by omega)]
          exact inR_append.2 ⟨hoR, inR_cons.2 ⟨by omega, inR_nil⟩⟩
        · show _ = _
          rw [HT.out, take_set_succ (by omega)]
          exact HX.out
        · exact HG.out.1.setW p (by omega) _
        · exact HG.out.2.1.cell _ (by simp) _
        · have := HG.out.2.2
          simpa [World.setCell] using this
      case measure => simp [intOf]; omega
    · have hpe : p = L := by omega
      subst hpe
      have hlt' : ¬ ((p : Int) < (p : Int)) := by omega
      have hlp : (ws.take p).length = p := by rw [List.length_take]; omega
      obtain ⟨E0, E1⟩ := HE.out (ws.take p) cc hoR hlp cc0 (by omega) HV.out
      have hzero : ∀ j, p ≤ j → ws.getD j 0 = 0 := fun j hj => by rw [hw j hj]; exact getD_far (by have := HLL.out; omega)
      have hws : ws = pad (ws.take p) := eq_pad hlen (by rw [hlp]) (by omega) (fun j hj => hzero j (by omega))
      by_cases hc0 : cc = 0
      · have HEN : Hid (limbs N = ws.take p) := E0 hc0
        have HG : Hid (GB wr a ws (p : Int) ∧ Tn [a] w wr ∧ wr.heap.size = w.heap.size ∧ ws = pad (ws.take p) ∧ (ws.take p).length = p) := ⟨hG, hT, hs, hws, hlp⟩
        subst hc0
        clear E0 E1 hG hT hs hw hws hlp HV hzero hoR
        go_wp2
        go_end0
        refine ⟨rfl, ?_, HG.out.2.1, HG.out.2.2.1⟩
        unfold GN
        rw [HEN.out, ← HG.out.2.2.2.1, HG.out.2.2.2.2]
        exact HG.out.1
      · have HEN : Hid (limbs N = ws.take p ++ [cc]) := E1 (by omega)
        have hcp : (0 : Int) < cc := by omega
        have hp98 : (p : Int) < 98 := by omega
        have cz := hG.word p (by omega)
        rw [hzero p (Nat.le_refl _)] at cz
        have fz := hG.free p
        have f98 := hG.free 98
        have HG : Hid (GB wr a ws (p : Int) ∧ Tn [a] w wr ∧ wr.heap.size = w.heap.size ∧ ws = pad (ws.take p) ∧ (ws.take p).length = p) := ⟨hG, hT, hs, hws, hlp⟩
        clear E0 E1 hG hT hs hw hws hlp HV hzero hoR hc0
        go_wp2_with fail
        go_region
        have G1 := (HG.out.1.setW p (by omega) cc).drew
        have T1 : Tn [a] w (wr.setCell ⟨a, p, none⟩ (.int .u32 cc)).drew := (HG.out.2.1.cell _ (by simp) _).trans ⟨rfl, rfl, rfl, Nat.le_refl _, fun _ _ _ => rfl⟩
        have s1 : (wr.setCell ⟨a, p, none⟩ (.int .u32 cc)).drew.heap.size = w.heap.size := by
          have := HG.out.2.2.1
          simpa [World.setCell] using this
        have d98 := G1.size
        have e98 := G1.free 98
        generalize (wr.setCell ⟨a, p, none⟩ (.int .u32 cc)).drew = w1 at *
        have HG1 : Hid (GB w1 a (ws.set p cc) (p : Int) ∧ Tn [a] w w1 ∧ w1.heap.size = w.heap.size) := ⟨G1, T1, s1⟩
        clear G1 T1 s1 cz fz c98 f98
        go_wp2
        go_end0
        refine ⟨rfl, ?_, HG1.out.2.1.cell _ (by simp) _, by have := HG1.out.2.2; simpa [World.setCell] using this⟩
        have g := HG1.out.1.setK ((p : Int) + 1)
        unfold GN
        rw [HEN.out]
        have e1 : ws.set p cc = pad (ws.take p ++ [cc]) := by
          have := pad_set (ws.take p) cc (by rw [HG.out.2.2.2.2]; omega)
          rw [HG.out.2.2.2.2, ← HG.out.2.2.2.1] at this
          exact this
        have e2 : (((ws.take p ++ [cc]).length : Nat) : Int) = (p : Int) + 1 := by rw [List.length_append, HG.out.2.2.2.2]; simp
        rw [← e1, e2]
        exact g

end Go.Proofs.Ytnngmkgkphkmhaa
