/- Several small texts in one: DrN, DrD, DrS, DrQ, LawH, LawM. -/
import Derived.Test.YtppeabnipnokhaaPick
import Derived.Test.YtppeabnipnokhaaSTrim
import Derived.Test.YtppeabnipnokhaaSTimes
import Derived.Test.YtppeabnipnokhaaSLess
import Derived.Test.YtppeabnipnokhaaDivR
import Derived.Test.YtppeabnipnokhaaCur
import Derived.Test.YtppeabnipnokhaaRowI
import Derived.Test.YtppeabnipnokhaaNatR
import Derived.Test.YtppeabnipnokhaaLimbMore
import Derived.Test.YtppeabnipnokhaaSBits
/- The draws of great numbers: l1Once, l2Right, l2Draw, each by its contract: what is handed out is a row of the call's own; of what was there the cursor alone turns. -/
namespace Go.Proofs.Ytppeabnipnokhaa
open Go.RowKit

theorem lit_cells (w : World) (xs : List Int) (t : TypeId) : ∀ j, j < xs.length → (w.alloc (.cells (xs.map (Value.int .i64)).toArray t)).cell? ⟨w.heap.size, j, none⟩ = some (.int .i64 (xs.getD j 0)) := by
  intro j hj
  rw [cell_of_row _ _ j _ t (0, 0) (heap_alloc_new w _)]
  simp [List.getElem?_eq_getElem hj]
theorem grown_of {w w' : World} (h : Below w.heap.size w w') (row : Option Nat) : w.grownBy w' row := ⟨h.os, h.tape, h.output, h.size, fun k hk _ => h.block k hk⟩
theorem grown_then {a w w' : World} {row : Option Nat} (h : a.grownBy w row) (k : Below a.heap.size w w') : a.grownBy w' row :=
  ⟨k.os.trans h.os, k.tape.trans h.tape, k.output.trans h.output, Nat.le_trans h.size k.size, fun i hi hr => (k.block i hi).trans (h.block i hi hr)⟩
theorem grown_alloc {a w : World} {row : Option Nat} (h : a.grownBy w row) (o : Obj) : a.grownBy (w.alloc o) row :=
  grown_trans h (grown_of ((Below.refl _ _).alloc (Nat.le_refl _) o) row)
theorem ownsI.cur {w w' : World} {base B : Nat} {v : Value} {xs : List Int} (h : ownsI w base v xs) (hg : w.grownBy w' (some B)) (hB : B < base) : ownsI w' base v xs := by
  refine h.kept hg ?_
  cases hv : v.ownBlock with
  | none => exact .inl rfl
  | some k =>
    refine .inr fun e => ?_
    have := (World.ownsRow.lt h k hv).1
    cases e
    omega
theorem CurAt.alloc {w : World} {B : Nat} (h : CurAt w B) (o : Obj) : CurAt (w.alloc o) B := h.below ((Below.refl w.heap.size w).alloc (Nat.le_refl _) o) h.lt
theorem below_cur {a w w' : World} {B b : Nat} (h : Below b a w) (hg : w.grownBy w' (some B)) (hb : b ≤ B) (hs : b ≤ w.heap.size) : Below b a w' := h.grown hg hs (fun k hk => by cases hk; exact hb)

set_option maxHeartbeats 1600000 in
theorem drOnce (B : Nat) (n : Int) (w : World) (hc : CurAt w B) (hn : n ≤ 4294967296) :
    Calls Try.prog 47 #[.pointer (some ⟨B, 0, none⟩), .int .i64 n] w fun e w' => ∃ b : Bool, e = .returned (.bool b) ∧ CurAt w' B ∧ w.grownBy w' (some B) := by
  go_enter Try.func47, Try.ntmps47
  go_wp2_with fail
  refine (curBelow B n w hc hn).mono ?_
  rintro e w1 ⟨x, rfl, x0, -, -, c1, g1⟩
  go_wp2
  go_ret
  exact ⟨_, rfl, c1, g1⟩

def rightList : List Int := [0, 1, 1, 2, 3, 5, 9, 24, 47, 48]
theorem rightList_bd {n : Int} (h : n ∈ rightList) : 0 ≤ n ∧ n ≤ 48 := by
  simp [rightList] at h
  omega

set_option maxRecDepth 20000 in
set_option maxHeartbeats 3200000 in
theorem drRight (B : Nat) (w : World) (hc : CurAt w B) :
    Calls Try.prog 63 #[.pointer (some ⟨B, 0, none⟩)] w fun e w' => ∃ v xs, e = .returned v ∧ ownsI w' w.heap.size v xs ∧ xs.length ≤ 48 ∧ okB xs = true ∧ CurAt w' B ∧ w.grownBy w' (some B) := by
  have hB := hc.lt
  go_enter Try.func63, Try.ntmps63
  go_wp2_with fail
  refine (pickInt B w.heap.size 10 10 rightList _ (hc.alloc _) rfl (by omega) (by omega) (by omega) (lit_cells w rightList 3)).mono ?_
  rintro e w1 ⟨n, rfl, hn, c1, g1⟩
  obtain ⟨n0, n1⟩ := rightList_bd hn
  have G1 : w.grownBy w1 (some B) := grown_trans (grown_of ((Below.refl _ _).alloc (Nat.le_refl _) _) _) g1
  have o1 : ownsI (w1.alloc (.cells #[] 3)) w.heap.size (.slice (some ⟨w1.heap.size, 0, none⟩) 0 0) [] := ownsI_mono (made_own w1) G1.size
  have c1' := c1.alloc (.cells #[] 3)
  have G1' := grown_alloc G1 (.cells #[] 3)
  obtain ⟨m, rfl⟩ := Int.eq_ofNat_of_zero_le n0
  clear hn g1 G1 c1 n0 hc
  go_wp2
  go_loopw [4, 5] (fun v i wr => ∃ (j : Nat) (zs : List Int), j ≤ m ∧ i = .int .i64 j ∧ zs.length = j ∧ inR zs ∧ ownsI wr w.heap.size v zs ∧ CurAt wr B ∧ w.grownBy wr (some B)) (fun _ i _ => m - (intOf i).toNat)
  case atStart => exact ⟨0, [], Nat.zero_le _, rfl, rfl, inR_nil, o1, c1', G1'⟩
  case round =>
    obtain ⟨j, zs, hj, rfl, hzl, hzR, hown, hcur, hgr⟩ := hrel
    clear o1 c1' G1'
    by_cases hlt : j < m
    · have hlt' : (j : Int) < (m : Int) := by omega
      go_wp2_with fail
      refine (curBelow B 16777216 wr hcur (by omega)).mono ?_
      rintro e w2 ⟨x, rfl, x0, x1, -, c2, g2⟩
      have x1' := x1 (by omega)
      have o2 := hown.cur g2 hB
      have G2 := grown_trans hgr g2
      clear x1 hown hcur hgr g2
      go_wp2_with fail
      refine (curBelow B 16777216 w2 c2 (by omega)).mono ?_
      rintro e w3 ⟨y, rfl, y0, y1, -, c3, g3⟩
      have y1' := y1 (by omega)
      have o3 := o2.cur g3 hB
      have G3 := grown_trans G2 g3
      clear y1 o2 c2 G2 g3
      have hlit := lit_cells w3 [0, 1, x, 16777215, y] 3
      have hs3 := G3.size
      go_wp2_with fail
      refine (pickInt B w3.heap.size 5 5 [0, 1, x, 16777215, y] _ (c3.alloc _) rfl (by omega) (by omega) (by omega) hlit).mono ?_
      rintro e w4 ⟨z, rfl, hz, c4, g4⟩
      have hz' : 0 ≤ z ∧ z < 16777216 := by simp at hz; omega
      have o4 := (o3.below ((Below.refl w3.heap.size w3).alloc (Nat.le_refl _) _) (Nat.le_refl _)).cur g4 hB
      have G4 := grown_trans (grown_alloc G3 _) g4
      have hs4 := G4.size
      have hzl' : zs.length ≤ 1099511627776 := by omega
      clear hz hlit o3 c3 G3 g4
      go_wp2_with (at_builtin; refine wpI_app w4 w4 rfl (.tmp 15) (.tmp 23) rfl w.heap.size _ zs z rfl o4 (Below.refl _ _) rfl hzl' hs4 ?_; intro v5 w5 o5 b5)
      go_roundw
      case rel => exact ⟨j + 1, zs ++ [z], by omega, by go_num, by rw [List.length_append, List.length_singleton, hzl], inR_append.2 ⟨hzR, inR_cons.2 ⟨hz', inR_nil⟩⟩, o5, c4.below b5 hB, grown_then G4 b5⟩
      case measure => simp [intOf]; omega
    · have hlt' : ¬ (j : Int) < (m : Int) := by omega
      have kt := sTrim _ _ wr hown.row hzR (by omega)
      have hlen : (limbs (num zs)).length ≤ 48 := by
        refine Nat.le_trans (limbs_len_le (num zs) zs.length ?_) (by omega)
        have h1 := lval_lt hzR
        have h2 := num_val hzR
        have e : ((16777216 ^ zs.length : Nat) : Int) = (16777216 : Int) ^ zs.length := by simp
        omega
      have HOK : Hid (okB (limbs (num zs)) = true) := okB_yes (okL_limbs hlen)
      have hsz := hgr.size
      go_wp2_with fail
      refine kt.mono ?_
      rintro e w2 ⟨v1, rfl, o1, b1⟩
      go_wp2
      go_ret
      exact ⟨_, _, rfl, ownsI_mono o1 hsz, hlen, HOK.out, hcur.below b1 (Nat.lt_of_lt_of_le hB hsz), grown_then hgr (b1.mono hsz)⟩

end Go.Proofs.Ytppeabnipnokhaa

/- l2Draw by its contract: a row of the call's own, of at most 49 numbers. -/
namespace Go.Proofs.Ytppeabnipnokhaa
open Go.RowKit

/-- What a draw of a row hands out. -/
def DrawnI (w : World) (B : Nat) (e : Ending) (w' : World) : Prop := ∃ v xs, e = .returned v ∧ ownsI w' w.heap.size v xs ∧ xs.length ≤ 49 ∧ CurAt w' B ∧ w.grownBy w' (some B)
theorem DrawnI.mk {w w' : World} {B : Nat} {v : Value} {xs : List Int} (h1 : ownsI w' w.heap.size v xs) (h2 : xs.length ≤ 49) (h3 : CurAt w' B) (h4 : w.grownBy w' (some B)) : DrawnI w B (.returned v) w' := ⟨v, xs, rfl, h1, h2, h3, h4⟩

set_option maxRecDepth 20000 in
set_option maxHeartbeats 3200000 in
theorem drDraw (B : Nat) (w : World) (hc : CurAt w B) :
    Calls Try.prog 46 #[.pointer (some ⟨B, 0, none⟩)] w (DrawnI w B) := by
  have hB := hc.lt
  go_enter Try.func46, Try.ntmps46
  go_wp2_with fail
  refine (drRight B w hc).mono ?_
  rintro e w1 ⟨v, xs, rfl, o1, l1, -, c1, g1⟩
  go_wp2_with fail
  refine (curBelow B 14 w1 c1 (by omega)).mono ?_
  rintro e w2 ⟨x, rfl, x0, -, -, c2, g2⟩
  have o2 := o1.cur g2 hB
  have G2 := grown_trans g1 g2
  have hs2 := G2.size
  have l1' : xs.length ≤ 1099511627776 := by omega
  clear o1 c1 g1 g2 hc
  by_cases h0 : x = 0
  · subst h0
    clear x0
    go_wp2_with (at_builtin; refine wpI_app w2 w2 rfl (.tmp 10) (.tmp 11) rfl w.heap.size _ xs 0 rfl o2 (Below.refl _ _) rfl l1' hs2 ?_; intro v3 w3 o3 b3)
    go_ret
    exact DrawnI.mk o3 (by rw [List.length_append, List.length_singleton]; omega) (c2.below b3 hB) (grown_then G2 b3)
  · by_cases h1 : x = 1
    · subst h1
      clear x0
      go_wp2_with (at_builtin; refine wpI_app w2 w2 rfl (.tmp 15) (.tmp 16) rfl w.heap.size _ xs 16777216 rfl o2 (Below.refl _ _) rfl l1' hs2 ?_; intro v3 w3 o3 b3)
      go_ret
      exact DrawnI.mk o3 (by rw [List.length_append, List.length_singleton]; omega) (c2.below b3 hB) (grown_then G2 b3)
    · by_cases h2 : x = 2
      · subst h2
        clear x0
        go_wp2_with (at_builtin; refine wpI_app w2 w2 rfl (.tmp 20) (.tmp 21) rfl w.heap.size _ xs (-1) rfl o2 (Below.refl _ _) rfl l1' hs2 ?_; intro v3 w3 o3 b3)
        go_ret
        exact DrawnI.mk o3 (by rw [List.length_append, List.length_singleton]; omega) (c2.below b3 hB) (grown_then G2 b3)
      · by_cases h3 : x = 3
        · subst h3
          clear x0
          obtain ⟨ad, cp, rfl, -⟩ := o2.row
          go_wp2_with fail
          go_loopw [3] (fun v wr => ∃ (zs : List Int) (ad : Option Addr) (cp : Nat), v = .slice ad zs.length cp ∧ zs.length ≤ 49 ∧ ownsI wr w.heap.size v zs ∧ Below w.heap.size w2 wr) (fun v _ => 49 - (match v with | .slice _ n _ => n | _ => 0))
          case atStart => exact ⟨xs, ad, cp, rfl, by omega, o2, Below.refl _ _⟩
          case round =>
            obtain ⟨zs, ad', cp', rfl, hl, hown, hbw⟩ := hrel
            have hsw : w.heap.size ≤ wr.heap.size := Nat.le_trans hs2 hbw.size
            have hl' : zs.length ≤ 1099511627776 := by omega
            clear o2
            by_cases hlt : zs.length < 49
            · have hlt' : (zs.length : Int) < 49 := by omega
              go_wp2_with (at_builtin; refine wpI_app w2 wr rfl (.tmp 28) (.tmp 29) rfl w.heap.size _ zs 1 rfl hown hbw rfl hl' hsw ?_; intro v3 w3 o3 b3)
              obtain ⟨ad3, cp3, rfl, -⟩ := o3.row
              go_roundw
              case rel => exact ⟨zs ++ [1], ad3, cp3, rfl, by rw [List.length_append, List.length_singleton]; omega, o3, b3⟩
              case measure => simp [List.length_append]; omega
            · have hlt' : ¬ (zs.length : Int) < 49 := by omega
              go_wp2
              go_ret
              exact DrawnI.mk hown hl (c2.below hbw hB) (grown_then G2 hbw)
        · have e0 : (x == 0) = false := beq_eq_false_iff_ne.2 h0
          have e1 : (x == 1) = false := beq_eq_false_iff_ne.2 h1
          have e2 : (x == 2) = false := beq_eq_false_iff_ne.2 h2
          have e3 : (x == 3) = false := beq_eq_false_iff_ne.2 h3
          go_wp2
          go_ret
          exact DrawnI.mk o2 (by omega) c2 G2

end Go.Proofs.Ytppeabnipnokhaa

/- l2Two, l2Shift and the draws made of them: two rows, or a row and a number, in new memory. -/
namespace Go.Proofs.Ytppeabnipnokhaa
open Go.RowKit

/-- What a draw of two rows hands out. -/
def DrawnII (w : World) (e : Ending) (w' : World) : Prop := ∃ va vb xs ys, e = .returned (.tuple #[va, vb]) ∧ rowI w' va xs ∧ rowI w' vb ys ∧ xs.length ≤ 49 ∧ ys.length ≤ 49 ∧ Below w.heap.size w w'
def DrawnIK (w : World) (e : Ending) (w' : World) : Prop := ∃ va xs k, e = .returned (.tuple #[va, .int .i64 k]) ∧ rowI w' va xs ∧ xs.length ≤ 49 ∧ -2 ≤ k ∧ k ≤ 1200 ∧ Below w.heap.size w w'
def DrawnI1 (w : World) (e : Ending) (w' : World) : Prop := ∃ va xs, e = .returned va ∧ rowI w' va xs ∧ xs.length ≤ 98 ∧ Below w.heap.size w w'

/-- A row that another call's cursor does not reach. -/
theorem rowI.cur {w w' : World} {base B : Nat} {v : Value} {xs : List Int} (h : ownsI w base v xs) (hg : w.grownBy w' (some B)) (hB : B < base) : rowI w' v xs := (h.cur hg hB).row

set_option maxRecDepth 20000 in
set_option maxHeartbeats 3200000 in
theorem drTwo (a : Option Addr) (len cap : Nat) (zs : List Int) (w : World) (hlen : len ≤ 1048576) (h : CodeIs w a len cap zs) :
    Calls Try.prog 28 #[.slice a len cap] w (DrawnII w) := by
  go_enter Try.func28, Try.ntmps28
  go_wp2_with fail
  refine (curNew a len cap zs w hlen h).mono ?_
  rintro e w1 ⟨rfl, c1, b1⟩
  have hs1 := c1.lt
  clear h
  go_wp2_with fail
  refine (drDraw w.heap.size w1 c1).mono ?_
  rintro e w2 ⟨v2, xs, rfl, o2, l2, c2, g2⟩
  have B2 := below_cur b1 g2 (Nat.le_refl _) b1.size
  clear c1 b1 g2
  go_wp2_with fail
  refine (drOnce w.heap.size 5 w2 c2 (by omega)).mono ?_
  rintro e w3 ⟨t, rfl, c3, g3⟩
  have o3 := o2.cur g3 hs1
  have B3 := below_cur B2 g3 (Nat.le_refl _) B2.size
  clear c2 o2 g3 B2
  cases t
  · go_wp2_with fail
    refine (drDraw w.heap.size w3 c3).mono ?_
    rintro e w4 ⟨v4, ys, rfl, o4, l4, c4, g4⟩
    have r4 := rowI.cur o3 g4 hs1
    have B4 := below_cur B3 g4 (Nat.le_refl _) B3.size
    clear o3 c3 c4 g4 B3
    go_wp2
    go_ret2
    exact ⟨_, _, xs, ys, rfl, r4, o4.row, l2, l4, B4⟩
  · have hm := made_own w3
    have r3 := (o3.below ((Below.refl w3.heap.size w3).alloc (Nat.le_refl _) (.cells #[] 3)) (Nat.le_refl _)).row
    have bm : Below w3.heap.size w3 (w3.alloc (.cells #[] 3)) := (Below.refl _ _).alloc (Nat.le_refl _) _
    have hsz : w3.heap.size ≤ (w3.alloc (.cells #[] 3)).heap.size := bm.size
    have hll : ([] : List Int).length + xs.length ≤ 1099511627776 := by simp; omega
    have R3 := o3.row
    clear c3
    go_wp2_with (at_builtin; refine wpI_all w3 _ rfl (.tmp 13) (.tmp 14) rfl w3.heap.size _ _ [] xs rfl hm rfl r3 bm hll hsz ?_; intro v5 w5 o5 b5)
    go_ret2
    exact ⟨_, _, xs, xs, rfl, R3.below b5 (Nat.le_refl _), o5.row, l2, l2, B3.trans (b5.mono B3.size)⟩

set_option maxRecDepth 20000 in
set_option maxHeartbeats 3200000 in
theorem drShift (a : Option Addr) (len cap : Nat) (zs : List Int) (w : World) (hlen : len ≤ 1048576) (h : CodeIs w a len cap zs) :
    Calls Try.prog 39 #[.slice a len cap] w (DrawnIK w) := by
  go_enter Try.func39, Try.ntmps39
  go_wp2_with fail
  refine (curNew a len cap zs w hlen h).mono ?_
  rintro e w1 ⟨rfl, c1, b1⟩
  have hs1 := c1.lt
  clear h
  go_wp2_with fail
  refine (drDraw w.heap.size w1 c1).mono ?_
  rintro e w2 ⟨v2, xs, rfl, o2, l2, c2, g2⟩
  have B2 := below_cur b1 g2 (Nat.le_refl _) b1.size
  clear c1 b1 g2
  go_wp2_with fail
  refine (curBelow w.heap.size 300 w2 c2 (by omega)).mono ?_
  rintro e w3 ⟨x, rfl, x0, x1, -, c3, g3⟩
  have x1' := x1 (by omega)
  have o3 := o2.cur g3 hs1
  have B3 := below_cur B2 g3 (Nat.le_refl _) B2.size
  have hs3 := B3.size
  have hlit := lit_cells w3 [0, 1, 23, 24, 25, 100, x, 1151, 1152, 1153, -1] 3
  have hl3 := c3.lt
  clear c2 o2 g3 B2 x1
  go_wp2_with fail
  refine (pickInt w.heap.size w3.heap.size 11 11 [0, 1, 23, 24, 25, 100, x, 1151, 1152, 1153, -1] _ (c3.alloc _) rfl (by omega) (by omega) (by omega) hlit).mono ?_
  rintro e w4 ⟨z, rfl, hz, c4, g4⟩
  have hz' : -2 ≤ z ∧ z ≤ 1200 := by simp at hz; omega
  have r4 := rowI.cur (o3.below ((Below.refl w3.heap.size w3).alloc (Nat.le_refl _) _) (Nat.le_refl _)) g4 hs1
  have B4 := below_cur (B3.alloc B3.size _) g4 (Nat.le_refl _) (by simp; omega)
  clear hz hlit c3 c4 g4 o3 B3
  go_wp2
  go_ret2
  exact ⟨_, xs, z, rfl, r4, l2, hz'.1, hz'.2, B4⟩

set_option maxHeartbeats 800000 in
theorem drAdd (a : Option Addr) (len cap : Nat) (zs : List Int) (w : World) (hlen : len ≤ 1048576) (h : CodeIs w a len cap zs) :
    Calls Try.prog 8 #[.slice a len cap] w (DrawnII w) := by
  go_enter Try.func8, Try.ntmps8
  go_wp2_with fail
  refine (drTwo a len cap zs w hlen h).mono ?_
  rintro e w1 ⟨va, vb, xs, ys, rfl, h1⟩
  go_wp2
  go_ret2
  exact ⟨_, _, xs, ys, rfl, h1⟩

set_option maxHeartbeats 800000 in
theorem drShl (a : Option Addr) (len cap : Nat) (zs : List Int) (w : World) (hlen : len ≤ 1048576) (h : CodeIs w a len cap zs) :
    Calls Try.prog 18 #[.slice a len cap] w (DrawnIK w) := by
  go_enter Try.func18, Try.ntmps18
  go_wp2_with fail
  refine (drShift a len cap zs w hlen h).mono ?_
  rintro e w1 ⟨va, xs, k, rfl, h1⟩
  go_wp2
  go_ret2
  exact ⟨_, xs, k, rfl, h1⟩

end Go.Proofs.Ytppeabnipnokhaa

/- The draws of FnDivided and FnRooted. -/
namespace Go.Proofs.Ytppeabnipnokhaa
open Go.RowKit

theorem lit1_row (w : World) (y : Int) : rowI (w.alloc (.cells #[.int .i64 y] 3)) (.slice (some ⟨w.heap.size, 0, none⟩) 1 1) [y] := by
  refine ⟨_, 1, rfl, by simp, by unfold maxLen; omega, (by intro h; cases h), (by intro x hx; cases hx; rfl), fun j hj => ⟨w.heap.size, 0, rfl, by simp, ?_⟩⟩
  have := lit_cells w [y] 3 j hj
  rw [Nat.zero_add]
  exact this

set_option maxRecDepth 20000 in
set_option maxHeartbeats 3200000 in
theorem drDiv (a : Option Addr) (len cap : Nat) (zs : List Int) (w : World) (hlen : len ≤ 1048576) (h : CodeIs w a len cap zs) :
    Calls Try.prog 23 #[.slice a len cap] w (DrawnII w) := by
  go_enter Try.func23, Try.ntmps23
  go_wp2_with fail
  refine (curNew a len cap zs w hlen h).mono ?_
  rintro e w1 ⟨rfl, c1, b1⟩
  have hs1 := c1.lt
  clear h
  go_wp2_with fail
  refine (drDraw w.heap.size w1 c1).mono ?_
  rintro e w2 ⟨v2, xs, rfl, o2, l2, c2, g2⟩
  have B2 := below_cur b1 g2 (Nat.le_refl _) b1.size
  clear c1 b1 g2
  go_wp2_with fail
  refine (drOnce w.heap.size 3 w2 c2 (by omega)).mono ?_
  rintro e w3 ⟨t, rfl, c3, g3⟩
  have o3 := o2.cur g3 hs1
  have B3 := below_cur B2 g3 (Nat.le_refl _) B2.size
  clear c2 o2 g3 B2
  cases t
  · go_wp2_with fail
    refine (drDraw w.heap.size w3 c3).mono ?_
    rintro e w4 ⟨v4, ys, rfl, o4, l4, c4, g4⟩
    have r4 := rowI.cur o3 g4 hs1
    have B4 := below_cur B3 g4 (Nat.le_refl _) B3.size
    clear o3 c3 c4 g4 B3
    go_wp2
    go_ret2
    exact ⟨_, _, xs, ys, rfl, r4, o4.row, l2, l4, B4⟩
  · go_wp2_with fail
    refine (curBelow w.heap.size 999 w3 c3 (by omega)).mono ?_
    rintro e w4 ⟨x, rfl, x0, x1, -, c4, g4⟩
    have x1' := x1 (by omega)
    have o4 := o3.cur g4 hs1
    have B4 := below_cur B3 g4 (Nat.le_refl _) B3.size
    have r5 := (o4.below ((Below.refl w4.heap.size w4).alloc (Nat.le_refl _) (.cells #[.int .i64 (1 + x)] 3)) (Nat.le_refl _)).row
    have q5 := lit1_row w4 (1 + x)
    have B5 := B4.alloc B4.size (.cells #[.int .i64 (1 + x)] 3)
    clear o3 c3 c4 g4 B3 x1 o4
    go_wp2
    go_ret2
    exact ⟨_, _, xs, [1 + x], rfl, r5, q5, l2, by simp, B5⟩

theorem okB_inR {xs : List Int} (h : okB xs = true) : inR xs := ((okB_iff xs).1 h).2.1
theorem sq_len {xs : List Int} (hl : xs.length < 20) (h : inR xs) : (limbs (num xs * num xs)).length ≤ 40 := by
  have h1 : num xs < 16777216 ^ 20 := by
    have a1 := lval_lt h
    have a2 := num_val h
    have e : ((16777216 ^ xs.length : Nat) : Int) = (16777216 : Int) ^ xs.length := by simp
    have p := Nat.pow_le_pow_right (by omega : 0 < 16777216) (show xs.length ≤ 20 by omega)
    omega
  refine limbs_len_le _ 40 ?_
  have := Nat.mul_lt_mul'' h1 h1
  rwa [← Nat.pow_add] at this

set_option maxRecDepth 20000 in
set_option maxHeartbeats 3200000 in
theorem drRoot (a : Option Addr) (len cap : Nat) (zs : List Int) (w : World) (hlen : len ≤ 1048576) (h : CodeIs w a len cap zs) :
    Calls Try.prog 26 #[.slice a len cap] w (DrawnI1 w) := by
  go_enter Try.func26, Try.ntmps26
  go_wp2_with fail
  refine (curNew a len cap zs w hlen h).mono ?_
  rintro e w1 ⟨rfl, c1, b1⟩
  have hs1 := c1.lt
  clear h
  go_wp2_with fail
  refine (drDraw w.heap.size w1 c1).mono ?_
  rintro e w2 ⟨v2, xs, rfl, o2, l2, c2, g2⟩
  have B2 := below_cur b1 g2 (Nat.le_refl _) b1.size
  clear c1 b1 g2
  go_wp2_with fail
  refine (drOnce w.heap.size 3 w2 c2 (by omega)).mono ?_
  rintro e w3 ⟨t, rfl, c3, g3⟩
  have o3 := o2.cur g3 hs1
  have B3 := below_cur B2 g3 (Nat.le_refl _) B2.size
  have R3 := o3.row
  clear c2 o2 g3 B2
  cases t
  · go_wp2
    go_ret
    exact ⟨_, xs, rfl, R3, by omega, B3⟩
  · obtain ⟨ad, cp, rfl, -⟩ := o3.row
    obtain ⟨n, hn⟩ : ∃ n, xs.length = n := ⟨_, rfl⟩
    rw [hn] at R3
    rw [hn]
    by_cases hl : (n : Int) < 20
    · cases hok : okB xs
      · have kn := sNatOk _ xs w3 R3 (by omega)
        rw [hok] at kn
        have hl98 : xs.length ≤ 98 := by omega
        clear hn hok
        go_wp2_with fail
        refine kn.mono ?_
        rintro e w4 ⟨rfl, rfl⟩
        go_wp2
        go_ret
        exact ⟨_, xs, rfl, R3, hl98, B3⟩
      · have kn := sNatOk _ xs w3 R3 (by omega)
        rw [hok] at kn
        have hin := okB_inR hok
        have kt := sTimes _ _ xs xs w3 R3 R3 hin hin (by omega) (by omega)
        have hsq := sq_len (show xs.length < 20 by omega) hin
        generalize num xs * num xs = m at *
        clear hn hok
        go_wp2_with fail
        refine kn.mono ?_
        rintro e w3 ⟨rfl, rfl⟩
        clear kn
        go_wp2_with fail
        refine kt.mono ?_
        rintro e w4 ⟨v4, rfl, o4, b4⟩
        have c4 := c3.below b4 c3.lt
        have B4 := B3.trans (b4.mono B3.size)
        have s4 : w.heap.size < w3.heap.size := c3.lt
        clear kt c3 B3 b4 R3 o3
        go_wp2_with fail
        refine (drOnce w.heap.size 2 w4 c4 (by omega)).mono ?_
        rintro e w5 ⟨t, rfl, c5, g5⟩
        have o5 := o4.cur g5 s4
        have B5 := below_cur B4 g5 (Nat.le_refl _) B4.size
        have R5 := o5.row
        obtain ⟨ad5, cp5, rfl, -⟩ := o5.row
        clear o4 c4 g5 B4
        cases t
        · go_wp2
          go_ret
          exact ⟨_, limbs m, rfl, R5, by omega, B5⟩
        · by_cases h0 : m = 0
          · subst h0
            rw [limbs_zero] at R5
            have R5' : rowI w5 (.slice ad5 0 cp5) [] := R5
            rw [limbs_zero]
            clear R5 o5
            go_wp2
            go_ret
            exact ⟨_, [], rfl, R5', by simp, B5⟩
          · have hp : 0 < (limbs m).length := by
              rw [limbs_pos m (by omega)]; simp
            obtain ⟨k, hk⟩ : ∃ k, (limbs m).length = k := ⟨_, rfl⟩
            rw [hk] at R5 hp
            have hkp : (0 : Int) < (k : Int) := by omega
            have b6 : Below w5.heap.size w5 (w5.alloc (.cells #[.int .i64 1] 3)) := (Below.refl _ _).alloc (Nat.le_refl _) _
            have R6 := R5.below b6 (Nat.le_refl _)
            have hone : num [1] = 1 := by decide
            have hge : num [1] ≤ num (limbs m) := by rw [num_limbs, hone]; omega
            have hlk : [(1 : Int)].length ≤ (limbs m).length := by rw [hk]; exact hp
            have hin1 : inR [1] := inR_cons.2 ⟨by omega, inR_nil⟩
            have kl := sLess _ _ (limbs m) [1] _ R6 (lit1_row w5 1) (limbs_inR m) hin1 (by omega) hlk hge
            rw [num_limbs] at kl
            have hlast : (limbs (m - num [1])).length ≤ 98 := by
              have := limbs_len_mono (Nat.sub_le m (num [1]))
              omega
            generalize limbs (m - num [1]) = ys at *
            have B6 := B5.trans (b6.mono B5.size)
            rw [hk]
            clear hk R5 R6 b6 o5
            go_wp2_with fail
            refine kl.mono ?_
            rintro e w7 ⟨v7, rfl, o7, b7⟩
            go_wp2
            go_ret
            exact ⟨_, ys, rfl, o7.row, hlast, B6.trans (b7.mono B6.size)⟩
    · have hl98 : xs.length ≤ 98 := by omega
      clear hn
      go_wp2
      go_ret
      exact ⟨_, xs, rfl, R3, hl98, B3⟩

end Go.Proofs.Ytppeabnipnokhaa

/- Helpers of the laws over a code: big, tail, sameInts, each by its contract. -/
namespace Go.Proofs.Ytppeabnipnokhaa
open Go.RowKit

set_option maxHeartbeats 800000 in
theorem big_no (a : Option Addr) (len cap : Nat) (w : World) (h : len ≤ 1048576) :
    Calls Try.prog 7 #[.slice a len cap] w fun e w' => e = .returned (.bool false) ∧ w' = w := by
  have h' : ¬ (1048576 : Int) < (len : Int) := by omega
  go_enter Try.func7, Try.ntmps7
  go_wp2
  go_ret
  exact ⟨rfl, rfl⟩
set_option maxHeartbeats 800000 in
theorem big_yes (a : Option Addr) (len cap : Nat) (w : World) (h : ¬ len ≤ 1048576) :
    Calls Try.prog 7 #[.slice a len cap] w fun e w' => e = .returned (.bool true) ∧ w' = w := by
  have h' : (1048576 : Int) < (len : Int) := by omega
  go_enter Try.func7, Try.ntmps7
  go_wp2
  go_ret
  exact ⟨rfl, rfl⟩

/-- A law over a code: what holds of codes of at most 2^20 bytes holds of all. -/
theorem law_big (F : FuncId) (hbig : ∀ (a : Option Addr) (len cap : Nat) (w : World), ¬ len ≤ 1048576 → Calls Try.prog F #[.slice a len cap] w fun e w' => e = .returned (.bool true) ∧ Below w.heap.size w w')
    (hin : ∀ (a : Option Addr) (len cap : Nat) (zs : List Int) (w : World), len ≤ 1048576 → CodeIs w a len cap zs → Calls Try.prog F #[.slice a len cap] w fun e w' => e = .returned (.bool true) ∧ Below w.heap.size w w')
    (a0 : Option Addr) (len0 cap0 : Nat) (z0 : List Int) (w : World) (h : IsRow .u8 w a0 len0 cap0 z0) : Calls Try.prog F #[.slice a0 len0 cap0] w fun e w' => e = .returned (.bool true) ∧ Below w.heap.size w w' := by
  by_cases hs : len0 ≤ 1048576
  · exact hin a0 len0 cap0 z0 w hs (code_of h)
  · exact hbig a0 len0 cap0 w hs

theorem CodeIs.tail {w : World} {x : Addr} {len cap : Nat} {zs : List Int} (h : CodeIs w (some x) len cap zs) (h0 : 0 < len) : CodeIs w (some (x.add 1)) (len - 1) (cap - 1) (zs.drop 1) := by
  obtain ⟨h1, h2⟩ := h
  rcases h1 with ⟨h, -⟩ | ⟨y, hy, g2, g3, g4, g5, g6⟩
  · cases h
  · cases hy
    have hsp : x.spot = none := by simpa [Addr.add] using World.cell?_spot (g5 0 (by omega))
    refine ⟨.inr ⟨_, rfl, by omega, by omega, by rw [List.length_drop]; omega, fun i hi => ?_, fun n hn => g6 n (List.mem_of_mem_drop hn)⟩, fun z hz hl => ?_⟩
    · have := g5 (i + 1) (by rw [List.length_drop] at hi; omega)
      rw [show (x.add 1).add i = x.add (i + 1) from ?_]
      · rw [this, List.getD_eq_getElem?_getD, List.getD_eq_getElem?_getD, List.getElem?_drop, Nat.add_comm 1 i]
      · obtain ⟨b, o, s⟩ := x
        simp only at hsp
        subst hsp
        unfold Addr.add
        by_cases hi0 : i = 0
        · subst hi0; simp
        · simp [hi0]; omega
    · cases hz
      rw [add_block]
      exact h2 x rfl (by omega)


set_option maxHeartbeats 1600000 in
/-- sameInts: whether two rows hold the same numbers. -/
theorem sameI (va vb : Value) (xs ys : List Int) (w : World) (ha : rowI w va xs) (hb : rowI w vb ys) (hl : xs.length ≤ 1048576) :
    Calls Try.prog 14 #[va, vb] w fun e w' => e = .returned (.bool (decide (xs = ys))) ∧ Below w.heap.size w w' := by
  obtain ⟨a, cap, rfl, -, -, -, -, a6⟩ := ha
  obtain ⟨b, cbp, rfl, -, -, -, -, b6⟩ := hb
  have A6 : Hid (∀ j, j < xs.length → ∃ g off, a = some ⟨g, off, none⟩ ∧ g < w.heap.size ∧ w.cell? ⟨g, off + j, none⟩ = some (.int .i64 (xs.getD j 0))) := a6
  have B6 : Hid (∀ j, j < ys.length → ∃ g off, b = some ⟨g, off, none⟩ ∧ g < w.heap.size ∧ w.cell? ⟨g, off + j, none⟩ = some (.int .i64 (ys.getD j 0))) := b6
  clear a6 b6
  by_cases hlen : xs.length = ys.length
  · obtain ⟨n, hn⟩ : ∃ n, xs.length = n := ⟨_, rfl⟩
    rw [← hlen, hn]
    rw [← hlen, hn] at B6
    rw [hn] at A6 hl
    have hle : ys.length = n := by omega
    clear hlen
    have e0 : ((n : Int) == (n : Int)) = true := by simp
    go_enter Try.func14, Try.ntmps14
    go_wp2
    go_loopw [5] (fun i wr => ∃ k m : Nat, k ≤ n ∧ i = .int .i64 k ∧ wr = w.drewN m ∧ Hid (xs.take k = ys.take k)) (fun i _ => n - (intOf i).toNat)
    case atStart => exact ⟨0, 0, Nat.zero_le _, rfl, rfl, by show _ = _; simp⟩
    case round =>
      obtain ⟨k, m, hk, rfl, rfl, HT⟩ := hrel
      by_cases hlt : k < n
      · obtain ⟨g, off, rfl, -, hp⟩ := A6.out k hlt
        obtain ⟨g', off', rfl, -, hp'⟩ := B6.out k hlt
        have s1 : xs.take (k + 1) = xs.take k ++ [xs.getD k 0] := by
          rw [List.take_succ_eq_append_getElem (by omega), List.getD_eq_getElem?_getD, List.getElem?_eq_getElem (by omega)]; rfl
        have s2 : ys.take (k + 1) = ys.take k ++ [ys.getD k 0] := by
          rw [List.take_succ_eq_append_getElem (by omega), List.getD_eq_getElem?_getD, List.getElem?_eq_getElem (by omega)]; rfl
        have HN : Hid (xs.getD k 0 ≠ ys.getD k 0 → decide (xs = ys) = false) := fun h => by rw [decide_eq_false_iff_not]; intro e; rw [e] at h; exact h rfl
        have hc : w.cell? ⟨g, off + k, none⟩ = some (.int .i64 (xs.getD k 0)) := hp
        have hc' : w.cell? ⟨g', off' + k, none⟩ = some (.int .i64 (ys.getD k 0)) := hp'
        clear hp hp'
        obtain ⟨c, hcc⟩ : ∃ c, xs.getD k 0 = c := ⟨_, rfl⟩
        obtain ⟨d, hdd⟩ : ∃ d, ys.getD k 0 = d := ⟨_, rfl⟩
        rw [hcc] at hc s1 HN
        rw [hdd] at hc' s2 HN
        have HS : Hid (xs.take (k + 1) = xs.take k ++ [c] ∧ ys.take (k + 1) = ys.take k ++ [d]) := ⟨s1, s2⟩
        clear s1 s2 hcc hdd
        by_cases hcd : c = d
        · subst hcd
          clear HN
          go_wp2
          go_quiet (fail)
          go_wp2
          go_roundw
          case rel => exact ⟨k + 1, m + nq, by omega, by go_num, rfl, by show _ = _; rw [HS.out.1, HS.out.2, HT.out]⟩
          case measure => simp [intOf]; omega
        · have hcd' : (c == d) = false := beq_eq_false_iff_ne.2 hcd
          have HF : Hid (decide (xs = ys) = false) := HN.out hcd
          clear HN
          go_wp2
          go_quiet (fail)
          go_wp2
          go_ret
          exact ⟨by rw [HF.out]; rfl, ⟨rfl, rfl, rfl, Nat.le_refl _, fun _ _ => rfl⟩⟩
      · have HF : Hid (decide (xs = ys) = true) := by
          show _ = _
          have h1 := HT.out
          rw [List.take_of_length_le (by omega), List.take_of_length_le (by omega)] at h1
          exact decide_eq_true h1
        go_wp2
        go_ret
        exact ⟨by rw [HF.out]; rfl, ⟨rfl, rfl, rfl, Nat.le_refl _, fun _ _ => rfl⟩⟩
  · have e0 : ((xs.length : Int) == (ys.length : Int)) = false := by rw [beq_eq_false_iff_ne]; omega
    have HF : Hid (decide (xs = ys) = false) := by show _ = _; rw [decide_eq_false_iff_not]; intro e; exact hlen (by rw [e])
    go_enter Try.func14, Try.ntmps14
    go_wp2
    go_ret
    exact ⟨by rw [HF.out]; rfl, Below.refl _ _⟩

end Go.Proofs.Ytppeabnipnokhaa

/- Small facts on right lists of limbs, for the laws. -/
namespace Go.Proofs.Ytppeabnipnokhaa
open Go.RowKit

theorem okB_limbs {n : Nat} (h : (limbs n).length ≤ 48) : okB (limbs n) = true := okB_yes (okL_limbs h)
theorem ok_limbs {xs : List Int} (h : okB xs = true) : limbs (num xs) = xs := (okL_eq ((okB_iff xs).1 h)).symm
theorem ok_len {xs : List Int} (h : okB xs = true) : xs.length ≤ 48 := ((okB_iff xs).1 h).1
theorem limbs_le48 {m : Nat} {xs : List Int} (h : okB xs = true) (hm : m ≤ num xs) : (limbs m).length ≤ 48 := by
  have := limbs_len_mono hm
  rw [ok_limbs h] at this
  have := ok_len h
  omega
theorem fitR_true {n : Nat} {us : List Int} (h : fitR n = (us, true)) : us = limbs n ∧ us.length ≤ 48 := by
  unfold fitR at h
  split at h
  · rename_i hl
    cases h
    exact ⟨rfl, hl⟩
  · cases h
theorem fitR_yes {n : Nat} (h : (limbs n).length ≤ 48) : fitR n = (limbs n, true) := by unfold fitR; rw [if_pos h]
theorem bits_up (n k : Nat) (h : 0 < n) : nbits (n * 2 ^ k) = nbits n + k := by
  have := nbits_high k 0 n (Nat.two_pow_pos k) h
  rw [Nat.zero_add, Nat.mul_comm] at this
  omega
theorem ok_bits {xs : List Int} (h : okB xs = true) : nbits (num xs) ≤ 1152 := by
  have h1 := nbits_len ((okB_iff xs).1 h).2.1
  have := ok_len h
  omega

end Go.Proofs.Ytppeabnipnokhaa
