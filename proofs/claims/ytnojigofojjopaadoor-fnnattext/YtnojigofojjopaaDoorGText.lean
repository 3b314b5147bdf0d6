/- The text of a great number inside, by its contract. -/
import Derived.Test.YtnojigofojjopaaDoorTextM
import Derived.Test.YtnojigofojjopaaDoorItoa
import Derived.Test.YtnojigofojjopaaDoorGByWord
namespace Go.Proofs.YtnojigofojjopaaDoor
open Go.RowKit
set_option linter.unusedSimpArgs false

def txtLen : Value → Nat
  | .string s => s.size
  | _ => 0
theorem word_small (m : Nat) (h : (limbs m).length ≤ 1) : m < 16777216 ∧ (limbs m).getD 0 0 = (m : Int) := by
  have h1 := limbs_lt m
  have h2 : 16777216 ^ (limbs m).length ≤ 16777216 ^ 1 := Nat.pow_le_pow_right (by omega) h
  have h3 : m < 16777216 := by omega
  refine ⟨h3, ?_⟩
  by_cases h0 : m = 0
  · subst h0; rw [limbs_zero]; rfl
  · rw [limbs_pos m (by omega), Nat.mod_eq_of_lt h3]; rfl
theorem word_great (m : Nat) (h : 1 < (limbs m).length) : 16777216 ≤ m := by
  apply Classical.byContradiction
  intro hn
  have := limbs_len_le m 1 (by omega)
  omega
theorem idigN (m : Nat) (w : World) (hm : m ≤ 16777216) (htab : Lib.TabIs Tryd.prog w "internal/strconv.uint64pow10" .u64 Lib.pow10Tab) :
    Calls Tryd.prog 47 #[.int .i64 (m : Int)] w fun e w' => ∃ t, e = .returned (.string t) ∧ Hid (t.data.toList = Lib.decDigits m) ∧ Below w.heap.size w w' := by
  refine (idigits (m : Int) w (by omega) (by omega) htab).mono ?_
  rintro e w' ⟨rfl, b⟩
  exact ⟨_, rfl, itoa_nat m, b⟩
theorem repC (c : Nat) (w : World) (hc : c ≤ 7) :
    Calls Tryd.prog 48 #[.string ⟨#[48]⟩, .int .i64 (c : Int)] w fun e w' => ∃ t, e = .returned (.string t) ∧ Hid (t.data.toList = List.replicate c 48) ∧ Below w.heap.size w w' := by
  refine (Tryd.strings_Repeat ⟨#[48]⟩ c w (by omega) (by show 1 * c ≤ _; omega)).mono ?_
  rintro e w' ⟨rfl, b⟩
  exact ⟨_, rfl, repeat_one c, b⟩

set_option maxRecDepth 20000 in
set_option maxHeartbeats 3200000 in
theorem gText (n : Nat) (w : World) (hl : (limbs n).length ≤ 98) (htab : Lib.TabIs Tryd.prog w "internal/strconv.uint64pow10" .u64 Lib.pow10Tab) :
    Calls Tryd.prog 27 #[.agg (gC n)] w fun e w' => ∃ t, e = .returned (.string t) ∧ t.data.toList = Lib.decDigits n ∧ Below w.heap.size w w' := by
  have TT := fun W (h : Below w.heap.size w W) => tab_below h htab gTab10
  have G0 : GN (w.alloc (.cells (gC n) 50)) w.heap.size n := GB.made w (pad (limbs n)) ((limbs n).length : Int) (pad_len hl)
  have B0 : Below w.heap.size w (w.alloc (.cells (gC n) 50)) := (Below.refl w.heap.size w).alloc (Nat.le_refl _) _
  have hK := dec_len98 n hl
  clear htab
  go_enter Tryd.func27, Tryd.ntmps27
  go_wp2
  generalize w.alloc (.cells (gC n) 50) = w0 at *
  go_loopw [3] (fun t wr => ∃ (m : Nat) (out : ByteArray), t = .string out ∧ (limbs m).length ≤ 98 ∧ Hid (Lib.decDigits m ++ out.data.toList = Lib.decDigits n) ∧ GN wr w.heap.size m ∧ Below w.heap.size w wr) (fun t _ => (Lib.decDigits n).length - txtLen t)
  case atStart => exact ⟨n, ⟨#[]⟩, rfl, hl, by show _ = _; simp, G0, B0⟩
  case round =>
    clear G0 B0 hl
    obtain ⟨m, out, rfl, hm, HD, hG, hB⟩ := hrel
    have hbs := hB.size
    have c98 := GB.size hG
    have hsz : out.size + (Lib.decDigits m).length = (Lib.decDigits n).length := by have := congrArg List.length HD.out; rw [List.length_append] at this; rw [size_list (rfl : out.data.toList = _)]; omega
    have hdp := dec_pos m
    by_cases h1 : 1 < (limbs m).length
    · have h1' : (1 : Int) < ((limbs m).length : Int) := by omega
      have hg := word_great m h1
      have HS : Hid (Lib.decDigits (m / 10000000) ++ (List.replicate (7 - (Lib.decDigits (m % 10000000)).length) 48 ++ Lib.decDigits (m % 10000000)) ++ out.data.toList = Lib.decDigits n) := by show _ = _; rw [← text_seven m (by omega)]; exact HD.out
      have h7 := seven_len m
      have hr1 : m % 10000000 < 10000000 := Nat.mod_lt _ (by omega)
      have kW := fun W => gByWord m 10000000 W hm (by omega) (by omega)
      have hq : (limbs (m / 10000000)).length ≤ 98 := Nat.le_trans (limbs_mono (Nat.div_le_self m 10000000)) hm
      have A0 := GN.ga hG hm
      have HG : Hid (GN wr w.heap.size m ∧ Below w.heap.size w wr) := ⟨hG, hB⟩
      have hos : out.size ≤ 784 := by omega
      have hlt : Hid (out.size < (Lib.decDigits n).length) := by show _ < _; omega
      generalize m / 10000000 = q at *
      generalize m % 10000000 = r at *
      have kD := fun W h => idigN r W (by omega) (TT W h)
      clear hG hB HD hg hsz hdp
      go_wp2_with (first | ((with_reducible (refine wpL_id ?_)); refine wpA_load rfl (.tmp 1) rfl w.heap.size 0 m rfl A0 ?_))
      refine (kW _).mono ?_
      rintro e w1 ⟨rfl, b1⟩
      have G1 : GB w1 w.heap.size (pad (limbs m)) ((limbs m).length : Int) := GN.below HG.out.1 b1 (GN.lt HG.out.1)
      have B1 := HG.out.2.trans (b1.mono hbs)
      clear kW A0 c98 HG b1
      go_wp2_with (first | ((with_reducible (refine wpL_id ?_)); refine wpN_store rfl (.tmp 1) (.tmp 12) rfl w.heap.size _ _ q rfl rfl G1 hq ?_; intro w2 G2 t2 s2))
      have B2 := t2.below B1 B1.size (by simp)
      clear G1 B1 t2 s2
      refine (kD _ B2).mono ?_
      rintro e w3 ⟨d, rfl, hd, b3⟩
      have G3 := GN.below G2 b3 (GN.lt G2)
      have B3 := B2.trans (b3.mono B2.size)
      have hds : d.size = (Lib.decDigits r).length := size_list hd.out
      obtain ⟨c, hc⟩ : ∃ c, 7 - d.size = c := ⟨_, rfl⟩
      have hd7 : d.size ≤ 7 := by omega
      have hsub : IntKind.i64.wrap (7 - (d.size : Int)) = (c : Int) := by rw [IntKind.wrap_i64]; omega
      have hsub' : (7 : Int) - (d.size : Int) = (c : Int) := by omega
      have kR := fun W => repC c W (by omega)
      have hcr : Hid (7 - (Lib.decDigits r).length = c) := by show _ = _; omega
      replace hds : Hid _ := hds
      replace hc : Hid _ := hc
      clear G2 B2 b3 kD h7
      go_wp2_with fail
      (try simp only [hsub, hsub'])
      refine (kR _).mono ?_
      rintro e w4 ⟨z, rfl, hz, b4⟩
      have G4 := GN.below G3 b4 (GN.lt G3)
      have B4 := B3.trans (b4.mono B3.size)
      have hzs : z.size ≤ 7 := by rw [size_list hz.out, List.length_replicate]; have := hc.out; omega
      have h14 : Hid (z.size + d.size = 7) := by show _ = _; rw [size_list hz.out, List.length_replicate]; have := hc.out; omega
      clear G3 B3 b4 kR
      go_wp2
      go_roundw
      case rel => exact ⟨q, _, rfl, hq, by show _ = _; rw [app_toList, app_toList, hz.out, hd.out, ← hcr.out, ← HS.out]; simp, G4, B4⟩
      case measure =>
        show (Lib.decDigits n).length - (z ++ d ++ out).size < (Lib.decDigits n).length - out.size
        rw [ByteArray.size_append, ByteArray.size_append]
        have e1 := h14.out
        have e2 : out.size < (Lib.decDigits n).length := hlt.out
        omega
    · have h1' : ¬ (1 : Int) < ((limbs m).length : Int) := by omega
      obtain ⟨hm1, hm2⟩ := word_small m (by omega)
      have c0 := GB.word hG 0 (by omega)
      rw [pad_getD, hm2] at c0
      have hos : out.size ≤ 784 := by omega
      have h9 : (Lib.decDigits m).length ≤ 784 := by omega
      have kD := fun W h => idigN m W (by omega) (TT W h)
      have HG : Hid (Below w.heap.size w wr) := hB
      clear hG hB hsz hdp hm2
      go_wp2_with fail
      refine (kD _ HG.out).mono ?_
      rintro e w3 ⟨d, rfl, hd, b3⟩
      have B3 := HG.out.trans (b3.mono hbs)
      have hds : d.size ≤ 784 := by rw [size_list hd.out]; omega
      go_wp2
      go_ret
      exact ⟨_, rfl, by rw [app_toList, hd.out]; exact HD.out, B3⟩

end Go.Proofs.YtnojigofojjopaaDoor
