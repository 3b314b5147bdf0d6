/- The program's greatDigits, by its contract. -/
import Derived.Test.YtnojigofojjopaaDoorGTimes
import Derived.Test.YtnojigofojjopaaDoorGFrom
import Derived.Test.YtnojigofojjopaaDoorGReg
import Derived.Test.YtnojigofojjopaaDoorBase
namespace Go.Proofs.YtnojigofojjopaaDoor
open Go.RowKit

/-- The great number 0, written out. -/
theorem wpG_build0 {ops : Array Oper} {rest : List Oper} {o : Oper} {a : Act} {w : World} {Q : Exit → Act → World → Prop} (hgd : o.guard = none) (ho : o.op = .build 50 #[])
    (h : wpList Tryd.prog ops Q rest (a.put o.dst (.agg (gC 0))) w) : wpList Tryd.prog ops Q (o :: rest) a w := by
  have hb : Tryd.prog.built 50 [] = some (gC 0) := by rw [gC_zero]; kernel_rfl
  have e : ((#[] : Array (Nat × Operand)).map fun (i, x) => (i, a.eval x)).toList = [] := by simp
  refine wpList_build hgd 50 _ ho ?_ ?_
  · rw [e, hb]; rfl
  · rw [e, hb]
    exact h

theorem gtake_snoc (s : ByteArray) (k : Nat) (h : k < s.size) : s.data.toList.take (k + 1) = s.data.toList.take k ++ [s[k]] := by
  rw [List.take_succ_eq_append_getElem (by simpa using h)]; rfl
theorem gall_snoc {s : ByteArray} {k : Nat} (h : k < s.size) (hd : isDig s[k]) (ha : ∀ c ∈ s.data.toList.take k, isDig c) : ∀ c ∈ s.data.toList.take (k + 1), isDig c := by
  rw [gtake_snoc s k h]
  intro c hc
  rcases List.mem_append.1 hc with hc | hc
  · exact ha c hc
  · simp at hc; subst hc; exact hd
theorem gmem_at {s : ByteArray} {k : Nat} (h : k < s.size) : s[k] ∈ s.data.toList := by
  show s.data[k] ∈ s.data.toList
  simp
theorem val_more (m : List UInt8) : ∀ l, val l ≤ val (l ++ m) := by
  induction m with
  | nil => intro l; simp
  | cons c m ih =>
    intro l
    have h1 := ih (l ++ [c])
    rw [List.append_assoc] at h1
    have h2 := val_snoc l c
    simp only [List.singleton_append] at h1
    omega
theorem val_take (l : List UInt8) (k : Nat) : val (l.take k) ≤ val l := by
  have h := val_more (l.drop k) (l.take k)
  rwa [List.take_append_drop] at h

/-- What greatDigits answers: the number that the digits tell; none where one is no digit, or too much is told. -/
def digA (s : ByteArray) (w : World) (e : Ending) (w' : World) : Prop := ∃ (N : Nat) (ok : Bool), e = .returned (.tuple #[.agg (gC N), .bool ok]) ∧ (limbs N).length ≤ 49 ∧ (ok = true → (∀ c ∈ s.data.toList, isDig c) ∧ N = val s.data.toList) ∧ (ok = false → ¬ ((∀ c ∈ s.data.toList, isDig c) ∧ (limbs (val s.data.toList)).length ≤ 48)) ∧ Below w.heap.size w w'
theorem digA.no {s : ByteArray} {w w' : World} (h : ¬ ((∀ c ∈ s.data.toList, isDig c) ∧ (limbs (val s.data.toList)).length ≤ 48)) (hb : Below w.heap.size w w') : digA s w (.returned (.tuple #[.agg (gC 0), .bool false])) w' :=
  ⟨0, false, rfl, by rw [limbs_zero]; simp, (fun h => by cases h), fun _ => h, hb⟩
theorem digA.yes {s : ByteArray} {w w' : World} {V : Nat} (hV : val s.data.toList = V) (hl : (limbs V).length ≤ 49) (h : ∀ c ∈ s.data.toList, isDig c) (hb : Below w.heap.size w w') : digA s w (.returned (.tuple #[.agg (gC V), .bool true])) w' :=
  ⟨V, true, rfl, hl, fun _ => ⟨h, hV.symm⟩, (fun h => by cases h), hb⟩

set_option maxHeartbeats 3200000 in
set_option maxRecDepth 20000 in
theorem gDigits (s : ByteArray) (w : World) (hs : s.size ≤ 1048576) :
    Calls Tryd.prog 53 #[.string s] w (digA s w) := by
  have R0 := (GB.made0 w).alloc (.cells Tryd.zeroCells50 50)
  have G0 := GB.made0 (w.alloc (.cells Tryd.zeroCells50 50))
  have hs0 : (w.alloc (.cells Tryd.zeroCells50 50)).heap.size = w.heap.size + 1 := by simp
  rw [hs0] at G0
  have B0 : Below w.heap.size w ((w.alloc (.cells Tryd.zeroCells50 50)).alloc (.cells Tryd.zeroCells50 50)) := ((Below.refl w.heap.size w).alloc (Nat.le_refl _) _).alloc (by simp) _
  have hw0 : ((w.alloc (.cells Tryd.zeroCells50 50)).alloc (.cells Tryd.zeroCells50 50)).heap.size = w.heap.size + 1 + 1 := by simp
  obtain ⟨u, hu⟩ : ∃ u : Nat, u = 10 := ⟨10, rfl⟩
  have k2 : ∀ W, Calls Tryd.prog 41 #[.int .u64 10] W fun e w' => e = .returned (.agg (gC u)) ∧ Below W.heap.size W w' := fun W => by rw [hu]; exact gOf 10 W (by omega)
  have hl1 : (limbs u).length ≤ 1 := limbs_len_le u 1 (by omega)
  have HU : Hid (u = 10) := hu
  clear hu hs0
  go_enter Tryd.func53, Tryd.ntmps53
  go_wp2_with fail
  refine (k2 _).mono ?_
  generalize (w.alloc (.cells Tryd.zeroCells50 50)).alloc (.cells Tryd.zeroCells50 50) = w0 at *
  rintro e w1 ⟨rfl, b1⟩
  have R1 := (R0.below b1 R0.lt).alloc (.cells Tryd.zeroCells50 50)
  have G1 := (G0.below b1 G0.lt).alloc (.cells Tryd.zeroCells50 50)
  have F0 := GB.made0 w1
  have B1 := B0.trans (b1.mono B0.size)
  have B2 := B1.alloc B1.size (.cells Tryd.zeroCells50 50)
  have hs1 := b1.size
  go_wp2_with (first | ((with_reducible (refine wpL_id ?_)); refine wpN_store rfl (.tmp 5) (.tmp 8) rfl w1.heap.size _ _ u rfl rfl F0 (by omega) ?_; intro w2 F2 t2 s2))
  have R2 := GB.tn R1 t2 (by simp; omega)
  have G2 := GB.tn G1 t2 (by simp; omega)
  have B3 := t2.below B2 B2.size (by simp; omega)
  have hf : w.heap.size + 1 < w1.heap.size := by omega
  clear R0 R1 G0 G1 F0 B0 B1 B2 t2 s2 k2 b1 hs1 hw0
  generalize w1.heap.size = f at *
  go_loopw [6] (fun v wr => ∃ k : Nat, k ≤ s.size ∧ v = .int .i64 k ∧ (∀ c ∈ s.data.toList.take k, isDig c) ∧ GN wr (w.heap.size + 1) (val (s.data.toList.take k)) ∧ (limbs (val (s.data.toList.take k))).length ≤ 49 ∧ GN wr f u ∧ GB wr w.heap.size (List.replicate 98 0) 0 ∧ Below w.heap.size w wr) (fun v _ => s.size - (intOf v).toNat)
  case atStart =>
    refine ⟨0, Nat.zero_le _, rfl, by simp, ?_, ?_, F2, R2, B3⟩
    · show GB _ _ (pad (limbs (val []))) ((limbs (val [])).length : Int)
      rw [show val [] = 0 from rfl, pad_zero, limbs_zero]
      exact G2
    · rw [List.take_zero, show val [] = 0 from rfl, limbs_zero]; simp
  case round =>
    clear F2 R2 G2 B3
    obtain ⟨k, hk, rfl, hd, hG, hlv, hF, hR, hB⟩ := hrel
    have hbs := hB.size
    have c98 := GB.size hG
    by_cases hlt : k < s.size
    · have hlt' : (k : Int) < (s.size : Int) := by omega
      have hc255 : s[k].toNat < 256 := s[k].toNat_lt
      by_cases hdig : isDig s[k]
      · obtain ⟨g1, g2⟩ := id hdig
        have r1 : decide ((s[k].toNat : Int) < 48) = false := decide_eq_false (by omega)
        have r2 : decide ((57 : Int) < (s[k].toNat : Int)) = false := decide_eq_false (by omega)
        have r1' : ¬ ((s[k].toNat : Int) < 48) := by omega
        have r2' : ¬ ((57 : Int) < (s[k].toNat : Int)) := by omega
        by_cases h48 : (limbs (val (s.data.toList.take k))).length ≤ 48
        · have hd' := gall_snoc hlt hdig hd
          have HD1 : Hid (∀ c ∈ s.data.toList.take (k + 1), isDig c) := hd'
          have hvs := val_snoc (s.data.toList.take k) s[k]
          rw [← gtake_snoc s k hlt] at hvs
          have HV : Hid (val (s.data.toList.take (k + 1)) = 10 * val (s.data.toList.take k) + (s[k].toNat - 48)) := hvs
          obtain ⟨V, hV⟩ : ∃ V, val (s.data.toList.take k) = V := ⟨_, rfl⟩
          rw [hV] at HV hG hlv h48 c98
          have r3 : decide ((48 : Int) < ((limbs V).length : Int)) = false := decide_eq_false (by omega)
          have r3' : ¬ ((48 : Int) < ((limbs V).length : Int)) := by omega
          obtain ⟨d, hd2⟩ : ∃ d : Nat, s[k].toNat - 48 = d := ⟨_, rfl⟩
          have kD : ∀ W, Calls Tryd.prog 41 #[.int .u64 ((s[k].toNat : Int) - 48)] W fun e w' => e = .returned (.agg (gC d)) ∧ Below W.heap.size W w' := fun W => by rw [show (s[k].toNat : Int) - 48 = (d : Int) by omega]; exact gOf d W (by omega)
          rw [hd2] at HV
          have hld : (limbs d).length ≤ 1 := limbs_len_le d 1 (by omega)
          have hl2 : (limbs (V * u)).length ≤ 49 := by have := mul_limbs_len V u; omega
          have hl3 : (limbs (V * u + d)).length ≤ 49 := by
            have h1 := limbs_lt V
            have h5 := HU.out
            refine limbs_len_le _ 49 ?_
            have h2 : 16777216 ^ (limbs V).length ≤ 16777216 ^ 48 := Nat.pow_le_pow_right (by omega) h48
            have h3 : (16777216 : Nat) ^ 49 = 16777216 ^ 48 * 16777216 := Nat.pow_succ ..
            rw [h3, h5]
            generalize (16777216 : Nat) ^ 48 = P at *
            omega
          have kT := fun W (q1 : GA W (w.heap.size + 1) 0 V) (q2 : GA W f 0 u) => gTimes (w.heap.size + 1) 0 f 0 V u W (by omega) q1 q2
          have HE : Hid (V * u + d = val (s.data.toList.take (k + 1))) := by show _ = _; rw [HV.out, HU.out, Nat.mul_comm]
          have kP := fun b W (q : GA W b 0 d) => gPlus b 0 (V * u) d W (by omega) (by omega) q
          have HQ : Hid (GN wr (w.heap.size + 1) V ∧ GN wr f u ∧ GB wr w.heap.size (List.replicate 98 0) 0 ∧ Below w.heap.size w wr) := ⟨hG, hF, hR, hB⟩
          generalize V * u + d = M at *
          generalize V * u = T at *
          clear hvs hd hd' hV hd2 HV hG hF hR hB hdig
          go_wp2_with fail
          refine (kD _).mono ?_
          rintro e w3 ⟨rfl, b3⟩
          have G3 := (GN.below HQ.out.1 b3 (GN.lt HQ.out.1)).alloc (.cells Tryd.zeroCells50 50)
          have F3 := (GN.below HQ.out.2.1 b3 (GN.lt HQ.out.2.1)).alloc (.cells Tryd.zeroCells50 50)
          have R3 := (HQ.out.2.2.1.below b3 HQ.out.2.2.1.lt).alloc (.cells Tryd.zeroCells50 50)
          have B4 := HQ.out.2.2.2.trans (b3.mono hbs)
          have B5 := B4.alloc B4.size (.cells Tryd.zeroCells50 50)
          have D0 := GB.made0 w3
          have hfl : f < wr.heap.size := GN.lt HQ.out.2.1
          have hs3 := b3.size
          clear kD HQ b3 B4
          go_wp2_with (first | ((with_reducible (refine wpL_id ?_)); refine wpN_store rfl (.tmp 7) (.tmp 36) rfl w3.heap.size _ _ d rfl rfl D0 (by omega) ?_; intro w4 D4 t4 s4))
          have G4 := GN.tn G3 t4 (by simp; omega)
          have F4 := GN.tn F3 t4 (by simp; omega)
          have R4 := GB.tn R3 t4 (by simp; omega)
          have B6 := t4.below B5 B5.size (by simp; omega)
          clear G3 F3 R3 B5 D0 t4 s4
          generalize w3.heap.size = fd at *
          refine (kT w4 (GN.ga G4 (by omega)) (GN.ga F4 (by omega))).mono ?_
          rintro e w5 ⟨rfl, b5⟩
          have G5 := GN.below G4 b5 (GN.lt G4)
          have F5 := GN.below F4 b5 (GN.lt F4)
          have R5 := R4.below b5 R4.lt
          have D5 := GN.below D4 b5 (GN.lt D4)
          have B7 := B6.trans (b5.mono B6.size)
          clear G4 F4 R4 D4 B6 b5 kT
          go_wp2_with fail
          refine (kP fd w5 (GN.ga D5 (by omega))).mono ?_
          rintro e w6 ⟨rfl, b6⟩
          have G6 := GN.below G5 b6 (GN.lt G5)
          have F6 := GN.below F5 b6 (GN.lt F5)
          have R6 := R5.below b6 R5.lt
          have B8 := B7.trans (b6.mono B7.size)
          have G6' : GB w6 (w.heap.size + 1) (pad (limbs V)) ((limbs V).length : Int) := G6
          clear G5 F5 R5 D5 B7 b6 kP
          go_wp2_with (first | ((with_reducible (refine wpL_id ?_)); refine wpN_store rfl (.tmp 4) (.tmp 38) rfl (w.heap.size + 1) _ _ M rfl rfl G6' (by omega) ?_; intro w7 G7 t7 s7))
          have F7 := GN.tn F6 t7 (by simp; omega)
          have R7 := GB.tn R6 t7 (by simp)
          have B9 := t7.below B8 B8.size (by simp)
          go_roundw
          case rel => exact ⟨k + 1, by omega, by go_num, HD1.out, by rw [← HE.out]; exact G7, by rw [← HE.out]; exact hl3, F7, R7, B9⟩
          case measure => simp [intOf]; omega
        · have HX : Hid (¬ ((∀ c ∈ s.data.toList, isDig c) ∧ (limbs (val s.data.toList)).length ≤ 48)) := by
            intro h
            have h1 := limbs_len_mono (val_take s.data.toList k)
            omega
          obtain ⟨V, hV⟩ : ∃ V, val (s.data.toList.take k) = V := ⟨_, rfl⟩
          rw [hV] at hG hlv h48 c98
          have r3 : decide ((48 : Int) < ((limbs V).length : Int)) = true := decide_eq_true (by omega)
          have r3' : (48 : Int) < ((limbs V).length : Int) := by omega
          have HB : Hid (Below w.heap.size w wr) := hB
          clear hd hV hdig hG hF hB
          go_wp2_with (first | ((with_reducible (refine wpL_id ?_)); refine wpG_build0 rfl rfl ?_) | ((with_reducible (refine wpL_id ?_)); refine wpN_store rfl (.tmp 2) (.tmp 30) rfl w.heap.size _ _ 0 rfl rfl hR (by rw [limbs_zero]; simp) ?_; intro w6 g6 t6 s6))
          (try simp only [Exit.inBlock, Exit.then])
          refine bodyPost_ret (v := .tuple #[.agg (gC 0), .bool false]) ?_ rfl (digA.no HX.out (t6.below HB.out hbs (by simp)))
          exact results_great_tmp rfl _ _ w.heap.size _ _ _ rfl rfl g6
      · have HX : Hid (¬ ((∀ c ∈ s.data.toList, isDig c) ∧ (limbs (val s.data.toList)).length ≤ 48)) := fun h => hdig (h.1 _ (gmem_at hlt))
        have hor : (s[k].toNat : Int) < 48 ∨ 57 < (s[k].toNat : Int) := by unfold isDig at hdig; omega
        have HB : Hid (Below w.heap.size w wr) := hB
        clear hd hdig hG hF hB c98 hlv
        rcases hor with h | h
        · have r1 : decide ((s[k].toNat : Int) < 48) = true := decide_eq_true (by omega)
          go_wp2_with (first | ((with_reducible (refine wpL_id ?_)); refine wpG_build0 rfl rfl ?_) | ((with_reducible (refine wpL_id ?_)); refine wpN_store rfl (.tmp 2) (.tmp 30) rfl w.heap.size _ _ 0 rfl rfl hR (by rw [limbs_zero]; simp) ?_; intro w6 g6 t6 s6))
          (try simp only [Exit.inBlock, Exit.then])
          refine bodyPost_ret (v := .tuple #[.agg (gC 0), .bool false]) ?_ rfl (digA.no HX.out (t6.below HB.out hbs (by simp)))
          exact results_great_tmp rfl _ _ w.heap.size _ _ _ rfl rfl g6
        · have r1 : decide ((s[k].toNat : Int) < 48) = false := decide_eq_false (by omega)
          have r1' : ¬ ((s[k].toNat : Int) < 48) := by omega
          have r2 : decide ((57 : Int) < (s[k].toNat : Int)) = true := decide_eq_true (by omega)
          go_wp2_with (first | ((with_reducible (refine wpL_id ?_)); refine wpG_build0 rfl rfl ?_) | ((with_reducible (refine wpL_id ?_)); refine wpN_store rfl (.tmp 2) (.tmp 30) rfl w.heap.size _ _ 0 rfl rfl hR (by rw [limbs_zero]; simp) ?_; intro w6 g6 t6 s6))
          (try simp only [Exit.inBlock, Exit.then])
          refine bodyPost_ret (v := .tuple #[.agg (gC 0), .bool false]) ?_ rfl (digA.no HX.out (t6.below HB.out hbs (by simp)))
          exact results_great_tmp rfl _ _ w.heap.size _ _ _ rfl rfl g6
    · have hke : k = s.size := by omega
      have hlen : s.data.toList.length = s.size := by rw [Array.length_toList]; rfl
      have htk : s.data.toList.take k = s.data.toList := List.take_of_length_le (by omega)
      rw [htk] at hd hG hlv c98
      have hlt' : ¬ ((k : Int) < (s.size : Int)) := by omega
      have HX : Hid ((∀ c ∈ s.data.toList, isDig c)) := hd
      obtain ⟨V, hV⟩ : ∃ V, val s.data.toList = V := ⟨_, rfl⟩
      rw [hV] at hG hlv c98
      have HV : Hid (val s.data.toList = V) := hV
      clear hV
      have A1 := GN.ga hG (by omega)
      have HB : Hid (Below w.heap.size w wr) := hB
      clear hd htk hB hF
      go_wp2_with (first | ((with_reducible (refine wpL_id ?_)); refine wpA_load rfl (.tmp 4) rfl (w.heap.size + 1) 0 V rfl A1 ?_) | ((with_reducible (refine wpL_id ?_)); refine wpN_store rfl (.tmp 2) (.tmp 39) rfl w.heap.size _ _ V rfl rfl hR (by omega) ?_; intro w6 g6 t6 s6))
      (try simp only [Exit.inBlock, Exit.then])
      refine bodyPost_ret (v := .tuple #[.agg (gC V), .bool true]) ?_ rfl (digA.yes HV.out hlv HX.out (t6.below HB.out hbs (by simp)))
      exact results_great_tmp rfl _ _ w.heap.size _ _ _ rfl rfl g6

end Go.Proofs.YtnojigofojjopaaDoor
