/- The program's byWord, by its contract. -/
import Derived.Test.YtnojigofojjopaaDoorGSettle
import Derived.Test.YtnojigofojjopaaDoorGReg
import Derived.Test.YtnojigofojjopaaDoorBase
import Derived.Test.YtnojigofojjopaaDoorGFrom
import Derived.Test.YtnojigofojjopaaDoorGLower
import Derived.Test.YtnojigofojjopaaDoorTimesM
namespace Go.Proofs.YtnojigofojjopaaDoor
open Go.RowKit

theorem bw_set (zs : List Int) (i : Nat) (y : Int) (h : i < zs.length) : lval ((zs.set i y).drop i) = y + 16777216 * lval (zs.drop (i + 1)) := by
  rw [lval_drop]
  have e1 : (zs.set i y).getD i 0 = y := by simp [List.getD_eq_getElem?_getD, h]
  have e2 : (zs.set i y).drop (i + 1) = zs.drop (i + 1) := List.drop_set_of_lt (by omega)
  rw [e1, e2]

theorem bw_step {a rest d x Z V : Int} (h : V = d * Z + rest) (hx : x = rest * 16777216 + a) : a + 16777216 * V = d * (x / d + 16777216 * Z) + x % d := by
  have := Int.mul_ediv_add_emod x d
  grind

theorem bw_bd {a rest d : Int} (a0 : 0 ≤ a) (a1 : a < 16777216) (r0 : 0 ≤ rest) (r1 : rest < d) : 0 ≤ (rest * 16777216 + a) / d ∧ (rest * 16777216 + a) / d < 16777216 ∧ 0 ≤ (rest * 16777216 + a) % d ∧ (rest * 16777216 + a) % d < d := by
  have hd : 0 < d := by omega
  refine ⟨Int.ediv_nonneg (by omega) (by omega), Int.ediv_lt_of_lt_mul hd ?_, Int.emod_nonneg _ (by omega), Int.emod_lt_of_pos _ hd⟩
  omega


set_option maxRecDepth 20000 in
set_option maxHeartbeats 3200000 in
/-- byWord: quotient and rest by one word. -/
theorem gByWord (n d : Nat) (w : World) (hl : (limbs n).length ≤ 98) (hd0 : 0 < d) (hd1 : d < 16777216) :
    Calls Tryd.prog 46 #[.agg (gC n), .int .u32 d] w fun e w' => e = .returned (.tuple #[.agg (gC (n / d)), .int .u32 ((n % d : Nat) : Int)]) ∧ Below w.heap.size w w' := by
  have hgc : gC n = gcell (pad (limbs n)) ((limbs n).length : Int) := rfl
  rw [hgc]
  clear hgc
  have G0 := (GB.made w (pad (limbs n)) ((limbs n).length : Int) (pad_len hl)).alloc (.cells Tryd.zeroCells50 50)
  have R0 := GB.made0 (w.alloc (.cells (gcell (pad (limbs n)) ((limbs n).length : Int)) 50))
  have B0 : Below w.heap.size w ((w.alloc (.cells (gcell (pad (limbs n)) ((limbs n).length : Int)) 50)).alloc (.cells Tryd.zeroCells50 50)) := ((Below.refl w.heap.size w).alloc (Nat.le_refl _) _).alloc (by simp) _
  have s1 : (w.alloc (.cells (gcell (pad (limbs n)) ((limbs n).length : Int)) 50)).heap.size = w.heap.size + 1 := by simp
  rw [s1] at R0
  have hxr := limbs_inR n
  have hpr : inR (pad (limbs n)) := by
    intro x hx
    unfold pad at hx
    rcases List.mem_append.1 hx with q | q
    · exact hxr x q
    · rw [List.eq_of_mem_replicate q]; omega
  have hpd : lval ((pad (limbs n)).drop (limbs n).length) = 0 := by
    unfold pad
    rw [List.drop_append_of_le_length (Nat.le_refl _), List.drop_length, List.nil_append, lval_zeros]
  obtain ⟨L, hL⟩ : ∃ L, (limbs n).length = L := ⟨_, rfl⟩
  have HLL : Hid ((limbs n).length = L) := hL
  rw [hL] at hl G0 R0 B0 hpd ⊢
  clear hL s1
  have c98 := G0.size
  have hd0' : (0 : Int) < d := by omega
  have hdn : (d : Int) ≠ 0 := by omega
  have hd1' : (d : Int) < 16777216 := by omega
  go_enter Tryd.func46, Tryd.ntmps46
  go_wp2
  go_loopw [6, 7] (fun v i wr => ∃ (t : Nat) (rest : Int) (zs : List Int), t ≤ L ∧ i = .int .i64 ((t : Int) - 1) ∧ v = .int .u64 rest ∧ 0 ≤ rest ∧ rest < d ∧ inR zs ∧ (∀ j, j < t → zs.getD j 0 = (limbs n).getD j 0) ∧ (∀ j, L ≤ j → zs.getD j 0 = 0) ∧ Hid (lval ((limbs n).drop t) = d * lval (zs.drop t) + rest) ∧ GB wr w.heap.size zs (L : Int) ∧ GB wr (w.heap.size + 1) (List.replicate 98 0) 0 ∧ Below w.heap.size w wr) (fun _ i _ => (intOf i + 1).toNat)
  case atStart =>
    refine ⟨L, 0, pad (limbs n), Nat.le_refl _, by go_num, rfl, by omega, by omega, hpr, fun j _ => pad_getD _ _, fun j hj => ?_, ?_, G0, R0, B0⟩
    · rw [pad_getD, List.getD_eq_getElem?_getD, List.getElem?_eq_none (by have := HLL.out; omega)]; rfl
    · show _ = _
      rw [hpd, List.drop_of_length_le (Nat.le_of_eq HLL.out)]
      simp [lval]
  case round =>
    clear c98 G0 R0 B0 hpr hpd
    obtain ⟨t, rest, zs, ht, rfl, rfl, r0, r1, hzR, hzs, hzz, HV, hG, hR, hB⟩ := hrel
    have c98 := hG.size
    have hlen := hG.len
    have hbs := hB.size
    cases t with
    | zero =>
      have hV := HV.out
      rw [List.drop_zero, List.drop_zero, limbs_val] at hV
      have h1 := num_val hzR
      have h2 := lval_trim zs L (fun j q _ => hzz j q)
      have h3 := num_val (inR_take hzR L)
      have e1 : num (zs.take L) = n / d := by
        have : ((n / d : Nat) : Int) = lval zs := by
          rw [Int.natCast_ediv, hV, Int.add_comm, Int.add_mul_ediv_left _ _ hdn, Int.ediv_eq_zero_of_lt r0 r1]; omega
        omega
      have e2 : ((n % d : Nat) : Int) = rest := by
        rw [Int.natCast_emod, hV, Int.add_comm, Int.add_mul_emod_self_left, Int.emod_eq_of_lt r0 r1]
      have kS := gSettle w.heap.size zs L L wr hG (by omega) (inR_take hzR L) hzz
      rw [e1] at kS
      have E2 : Hid (((n % d : Nat) : Int) = rest) := e2
      have hlq : (limbs (n / d)).length ≤ 98 := Nat.le_trans (limbs_mono (Nat.div_le_self n d)) (by have := HLL.out; omega)
      clear e1 e2 h1 h2 h3 hV HV hzs hzz hzR
      go_wp2_with fail
      refine kS.mono ?_
      rintro e w2 ⟨rfl, g2, t2, z2⟩
      have R2 := hR.tn t2 (by simp)
      have B2 := t2.below hB hbs (by simp)
      have A2 := GN.ga g2 hlq
      clear kS hG hR hB c98
      obtain ⟨q, hq⟩ : ∃ q, n / d = q := ⟨_, rfl⟩
      have HQ : Hid (n / d = q) := hq
      rw [hq] at g2 A2 hlq
      clear hq
      go_wp2_with (first
        | ((with_reducible (refine wpL_id ?_)); refine wpA_load rfl (.tmp 2) rfl w.heap.size 0 q rfl A2 ?_)
        | ((with_reducible (refine wpL_id ?_)); refine wpN_store rfl (.tmp 4) (.tmp 39) rfl (w.heap.size + 1) _ _ q rfl rfl R2 hlq ?_; intro w6 g6 t6 s6))
      (try simp only [Exit.inBlock, Exit.then])
      refine bodyPost_ret (v := .tuple #[.agg (gC q), .int .u32 rest]) ?_ rfl ⟨by rw [E2.out, HQ.out], t6.below B2 B2.size (by simp)⟩
      exact results_great_tmp rfl _ _ (w.heap.size + 1) _ _ _ rfl rfl g6
    | succ k =>
      have hk1 : ((k + 1 : Nat) : Int) - 1 = (k : Int) := by omega
      rw [hk1]
      clear hk1
      have cw := hG.word k (by omega)
      rw [hzs k (by omega)] at cw
      have fw := hG.free k
      have gx := inR_getD hxr k
      have HD : Hid (lval ((limbs n).drop k) = (limbs n).getD k 0 + 16777216 * lval ((limbs n).drop (k + 1))) := lval_drop _ k
      have HZ : Hid ((∀ j, j < k + 1 → zs.getD j 0 = (limbs n).getD j 0) ∧ ∀ j, L ≤ j → zs.getD j 0 = 0) := ⟨hzs, hzz⟩
      have HG : Hid (GB wr w.heap.size zs (L : Int) ∧ GB wr (w.heap.size + 1) (List.replicate 98 0) 0 ∧ Below w.heap.size w wr) := ⟨hG, hR, hB⟩
      obtain ⟨xi, hxi⟩ : ∃ xi, (limbs n).getD k 0 = xi := ⟨_, rfl⟩
      rw [hxi] at cw gx HD
      obtain ⟨p0, p1, p2, p3⟩ := bw_bd gx.1 gx.2 r0 r1
      obtain ⟨x, hxx⟩ : ∃ x, rest * 16777216 + xi = x := ⟨_, rfl⟩
      rw [hxx] at p0 p1 p2 p3
      have x0 : 0 ≤ x := by omega
      have x1 : x ≤ 9007199254740992 := by omega
      obtain ⟨gx0, gx1⟩ := gx
      have wm : x.tmod d = x % d := Int.tmod_eq_emod_of_nonneg x0
      have tq : x.tdiv d = x / d := Int.tdiv_eq_ediv_of_nonneg x0
      have HX : Hid (rest * 16777216 + xi = x) := hxx
      have hk98 : (k : Int) < 98 := by omega
      clear hG hR hB hzs hzz hxi
      go_wp2
      go_roundw
      case rel =>
        obtain ⟨q1, q2, q3⟩ := HG.out
        refine ⟨k, x % d, zs.set k (x / d), by omega, by go_num, rfl, p2, p3, inR_set hzR k p0 p1, fun j hj => ?_, fun j hj => ?_, ?_, q1.setW k (by omega) _, q2.other _ (by simp) _, Below.setCell (p := ⟨w.heap.size, k, none⟩) q3 (Nat.le_refl _) _⟩
        · rw [gset_ne _ (by omega)]; exact HZ.out.1 j (by omega)
        · rw [gset_ne _ (by omega)]; exact HZ.out.2 j hj
        · show _ = _
          rw [HD.out, bw_set _ _ _ (by omega)]
          exact bw_step HV.out HX.out.symm
      case measure => simp [intOf] <;> omega

end Go.Proofs.YtnojigofojjopaaDoor
