/- NatText, WholeText and the signed numbers' text of the program, each by its contract. -/
import Derived.Test.YtnojigofojjopaaDoorGText
import Derived.Test.YtnojigofojjopaaDoorSFrom
import Derived.Test.YtnojigofojjopaaDoorSNatText
import Derived.Test.YtnojigofojjopaaDoorSWholeOk
namespace Go.Proofs.YtnojigofojjopaaDoor
open Go.RowKit
set_option linter.unusedSimpArgs false

theorem numL_dec (k : Nat) : numL k = Lib.decDigits k := by
  unfold numL
  by_cases h : k = 0
  · rw [if_pos h, h, Lib.decDigits_one (by omega)]; rfl
  · rw [if_neg h, digL_dec k [] (by omega), List.append_nil]
theorem textR_ok {xs : List Int} (h : okB xs = true) : textR xs = ⟨(Lib.decDigits (num xs)).toArray⟩ := by rw [textR, if_pos h, numL_dec]
theorem textR_no {xs : List Int} (h : okB xs = false) : textR xs = ⟨#[]⟩ := by rw [textR, if_neg (by rw [h]; simp)]
theorem of_list {t : ByteArray} {l : List UInt8} (h : t.data.toList = l) : t = ⟨l.toArray⟩ := ByteArray.ext (Array.toList_inj.1 (by rw [h]))

set_option maxRecDepth 20000 in
set_option maxHeartbeats 3200000 in
theorem iNatText (va : Value) (xs : List Int) (w : World) (ha : rowI w va xs) (hlx : xs.length ≤ 1048576) (htab : Lib.TabIs Tryd.prog w "internal/strconv.uint64pow10" .u64 Lib.pow10Tab) :
    Calls Tryd.prog 8 #[va] w fun e w' => e = .returned (.string (textR xs)) ∧ Below w.heap.size w w' := by
  have TT := fun W (h : Below w.heap.size w W) => tab_below h htab gTab10
  have kt := gFrom va xs w ha hlx
  have l1 := fromN_len xs
  have hl1 : (limbs (fromN xs)).length ≤ 98 := by omega
  have kT := fun W h => gText (fromN xs) W hl1 (TT W h)
  clear TT htab ha
  cases hok : okB xs
  all_goals
    rw [hok] at kt
  · have HR : Hid (textR xs = ⟨#[]⟩) := textR_no hok
    clear hok
    generalize fromN xs = m at *
    go_enter Tryd.func8, Tryd.ntmps8
    go_wp2_with fail
    refine kt.mono ?_
    rintro e w1 ⟨rfl, b1⟩
    have X0 := GB.made0 w1
    have B0 := b1.alloc b1.size (.cells Tryd.zeroCells50 50)
    have hbs := b1.size
    clear kt b1
    go_wp2_with (first | ((with_reducible (refine wpL_id ?_)); refine wpN_store rfl (.tmp 3) (.tmp 8) rfl w1.heap.size _ _ m rfl rfl X0 hl1 ?_; intro w2 X2 t2 s2))
    have B2 := t2.below B0 B0.size (by simp; omega)
    go_ret
    exact ⟨by rw [HR.out]; rfl, B2⟩
  · have HR : Hid (textR xs = ⟨(Lib.decDigits (fromN xs)).toArray⟩) := by show _ = _; rw [textR_ok hok]; unfold fromN; rw [if_pos hok]
    clear hok
    generalize fromN xs = m at *
    go_enter Tryd.func8, Tryd.ntmps8
    go_wp2_with fail
    refine kt.mono ?_
    rintro e w1 ⟨rfl, b1⟩
    have X0 := GB.made0 w1
    have B0 := b1.alloc b1.size (.cells Tryd.zeroCells50 50)
    have hbs := b1.size
    clear kt b1
    go_wp2_with (first | ((with_reducible (refine wpL_id ?_)); refine wpN_store rfl (.tmp 3) (.tmp 8) rfl w1.heap.size _ _ m rfl rfl X0 hl1 ?_; intro w2 X2 t2 s2; have B2 := t2.below B0 B0.size (by simp; omega); have A2 := GN.ga X2 hl1) | ((with_reducible (refine wpL_id ?_)); refine wpA_load rfl (.tmp 3) rfl w1.heap.size 0 m rfl A2 ?_))
    refine (kT _ B2).mono ?_
    rintro e w3 ⟨t, rfl, ht, b3⟩
    have B3 := B2.trans (b3.mono B2.size)
    have HT : Hid (t.data.toList = Lib.decDigits m) := ht
    clear ht
    go_wp2
    go_ret
    exact ⟨by rw [HR.out, of_list HT.out]; rfl, B3⟩

theorem wtextR_no {a : Wh} (h : okW a = false) : wtextR a = ⟨#[]⟩ := by rw [wtextR, if_neg (by rw [h]; simp)]
theorem wtextR_ok {a : Wh} (h : okW a = true) : (wtextR a).data.toList = (if valW a < 0 then [45] else []) ++ Lib.decDigits (valW a).natAbs := by
  rw [wtextR, if_pos h, numL_dec]
  have e := mkW_of h
  obtain ⟨g, xs⟩ := a
  have h1 : g = decide (valW (g, xs) < 0) := congrArg Prod.fst e
  have h2 : (valW (g, xs)).natAbs = num xs := by unfold valW; split <;> simp
  rw [h2]
  cases g with
  | false =>
    have : ¬ (valW (false, xs) < 0) := by intro hh; rw [decide_eq_true hh] at h1; cases h1
    rw [if_neg this]
    rfl
  | true =>
    have : valW (true, xs) < 0 := by apply Classical.byContradiction; intro hh; rw [decide_eq_false hh] at h1; cases h1
    rw [if_pos this]
    show ((⟨#[45]⟩ : ByteArray) ++ _).data.toList = _
    rw [app_toList]

set_option maxRecDepth 20000 in
set_option maxHeartbeats 3200000 in
theorem sigText (b : Nat) (z : Int) (w : World) (h : SG w b z) (htab : Lib.TabIs Tryd.prog w "internal/strconv.uint64pow10" .u64 Lib.pow10Tab) :
    Calls Tryd.prog 31 #[.pointer (some ⟨b, 0, none⟩)] w fun e w' => ∃ t, e = .returned (.string t) ∧ Hid (t.data.toList = (if z < 0 then [45] else []) ++ Lib.decDigits z.natAbs) ∧ Below w.heap.size w w' := by
  have A0 := h.mag
  have c0 := h.sign
  have hl := A0.len
  have kT := gText z.natAbs w hl htab
  have hdl := dec_len98 z.natAbs hl
  clear htab h hl
  by_cases hz : z < 0
  · rw [decide_eq_true hz] at c0
    rw [if_pos hz]
    generalize z.natAbs = m at *
    clear hz
    go_enter Tryd.func31, Tryd.ntmps31
    go_wp2_with (first | ((with_reducible (refine wpL_id ?_)); refine wpA_load rfl (.tmp 9) rfl b 1 m rfl A0 ?_))
    refine kT.mono ?_
    rintro e w1 ⟨t, rfl, ht, b1⟩
    have hts : t.size ≤ 784 := by rw [size_list ht]; omega
    have HT : Hid (t.data.toList = Lib.decDigits m) := ht
    clear ht kT A0
    go_wp2
    go_ret
    exact ⟨_, rfl, by show _ = _; rw [app_toList, HT.out]; rfl, b1⟩
  · rw [decide_eq_false hz] at c0
    rw [if_neg hz]
    generalize z.natAbs = m at *
    clear hz
    go_enter Tryd.func31, Tryd.ntmps31
    go_wp2_with (first | ((with_reducible (refine wpL_id ?_)); refine wpA_load rfl (.tmp 15) rfl b 1 m rfl A0 ?_))
    refine kT.mono ?_
    rintro e w1 ⟨t, rfl, ht, b1⟩
    have HT : Hid (t.data.toList = Lib.decDigits m) := ht
    clear ht kT A0
    go_wp2
    go_ret
    exact ⟨_, rfl, HT, b1⟩

set_option maxRecDepth 20000 in
set_option maxHeartbeats 3200000 in
theorem iWholeText (va : Value) (a : Wh) (w : World) (ha : rowW w va a) (hla : a.2.length ≤ 1048576) (htab : Lib.TabIs Tryd.prog w "internal/strconv.uint64pow10" .u64 Lib.pow10Tab) :
    Calls Tryd.prog 13 #[va] w fun e w' => e = .returned (.string (wtextR a)) ∧ Below w.heap.size w w' := by
  have TT := fun W (h : Below w.heap.size w W) => tab_below h htab gTab10
  have kT := fun b W (hb : Below w.heap.size w W) (h : SG W b (valW a)) => sigText b (valW a) W h (TT W hb)
  clear TT htab
  cases hok : okW a
  · have HR : Hid (wtextR a = ⟨#[]⟩) := wtextR_no hok
    have kF := fun W (h : Below w.heap.size w W) => sFromNo va a W (ha.below h (Nat.le_refl _)) hla hok
    obtain ⟨s, rfl, hs⟩ := ha
    obtain ⟨ad, cap, rfl, -⟩ := id hs
    generalize a.1 = g at *
    generalize a.2.length = len at *
    have B0 := below1 w (.cells #[.bool g, .slice ad len cap] 31)
    have X0 := BoxW.made w (.bool g) (.slice ad len cap) 31
    clear hs hok
    go_enter Tryd.func13, Tryd.ntmps13
    go_wp2_with fail
    refine (kF _ B0).mono ?_
    rintro e w1 ⟨rfl, b1⟩
    have B1 := B0.trans (b1.mono B0.size)
    go_wp2
    go_ret
    exact ⟨by rw [HR.out]; rfl, B1⟩
  · have HR : Hid ((wtextR a).data.toList = (if valW a < 0 then [45] else []) ++ Lib.decDigits (valW a).natAbs) := wtextR_ok hok
    have kF := fun W (h : Below w.heap.size w W) => sFromYes va a W (ha.below h (Nat.le_refl _)) hla hok
    obtain ⟨s, rfl, hs⟩ := ha
    obtain ⟨ad, cap, rfl, -⟩ := id hs
    generalize valW a = z at *
    generalize wtextR a = R at *
    generalize a.1 = g at *
    generalize a.2.length = len at *
    have B0 := below1 w (.cells #[.bool g, .slice ad len cap] 31)
    clear hs hok
    go_enter Tryd.func13, Tryd.ntmps13
    go_wp2_with fail
    refine (kF _ B0).mono ?_
    rintro e w1 ⟨p, rfl, hp, sp, b1⟩
    have B1 := B0.trans (b1.mono B0.size)
    clear kF b1
    go_wp2_with fail
    refine (kT p _ B1 sp).mono ?_
    rintro e w2 ⟨t, rfl, ht, b2⟩
    have B2 := B1.trans (b2.mono B1.size)
    go_wp2
    go_ret
    exact ⟨by rw [of_list ht.out, ← HR.out]; rfl, B2⟩

set_option maxRecDepth 20000 in
set_option maxHeartbeats 3200000 in
theorem sWholeText (va : Value) (a : Wh) (w : World) (ha : rowW w va a) (hla : a.2.length ≤ 1048576) :
    Calls Tryd.prog 11 #[va] w fun e w' => e = .returned (.string (wtextR a)) ∧ Below w.heap.size w w' := by
  have kO := fun W (h : Below w.heap.size w W) => sWholeOk va a W (ha.below h (Nat.le_refl _)) hla
  have HR : Hid (wtextR a = if okW a = true then (if a.1 = true then ⟨#[45]⟩ ++ textR a.2 else textR a.2) else ⟨#[]⟩) := by
    show _ = _
    unfold wtextR
    by_cases h : okW a = true
    · rw [if_pos h, if_pos h, textR, if_pos (okW_ok h)]
    · rw [if_neg h, if_neg h]
  obtain ⟨s, rfl, hs⟩ := ha
  have kN := fun W (h : Below w.heap.size w W) => sNatText s a.2 W (hs.below h (Nat.le_refl _)) hla
  have hsz : okW a = true → (textR a.2).size ≤ 784 := by
    intro h
    have h1 := okW_ok h
    rw [textR_ok h1]
    show (Lib.decDigits (num a.2)).toArray.size ≤ 784
    rw [List.size_toArray]
    refine dec_len98 _ ?_
    have h2 := (okB_iff a.2).1 h1
    have h3 := eq_limbs h2.2
    rw [← h3]
    have := h2.1
    omega
  obtain ⟨ad, cap, rfl, -⟩ := id hs
  generalize okW a = ok at *
  generalize textR a.2 = T at *
  generalize wtextR a = R at *
  generalize a.1 = g at *
  generalize a.2.length = len at *
  have B0 := below1 w (.cells #[.bool g, .slice ad len cap] 31)
  have X0 := BoxW.made w (.bool g) (.slice ad len cap) 31
  clear hs
  cases ok
  · go_enter Tryd.func11, Tryd.ntmps11
    go_wp2_with fail
    refine (kO _ B0).mono ?_
    rintro e w1 ⟨rfl, b1⟩
    have B1 := B0.trans (b1.mono B0.size)
    go_wp2
    go_ret
    exact ⟨by rw [HR.out]; rfl, B1⟩
  · have hs7 := hsz rfl
    cases g
    all_goals
      go_enter Tryd.func11, Tryd.ntmps11
      go_wp2_with fail
      refine (kO _ B0).mono ?_
      rintro e w1 ⟨rfl, b1⟩
      have X1 := X0.below b1 (Nat.le_refl _)
      have B1 := B0.trans (b1.mono B0.size)
      have c0 := X1.c0
      have c1 := X1.c1
      clear X0 B0 b1 kO
      go_wp2_with fail
      refine (kN _ B1).mono ?_
      rintro e w2 ⟨rfl, b2⟩
      have B2 := B1.trans (b2.mono B1.size)
      go_wp2
      go_ret
      exact ⟨by rw [HR.out]; rfl, B2⟩

end Go.Proofs.YtnojigofojjopaaDoor
