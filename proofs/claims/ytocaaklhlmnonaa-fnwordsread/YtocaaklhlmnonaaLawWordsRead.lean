/- FnWordsRead: the desk's words are read as the document's, and no two states bear one text: the draws, the walk. -/
import Derived.Test.YtocaaklhlmnonaaCurD
import Derived.Test.YtocaaklhlmnonaaLawH
import Derived.Test.YtocaaklhlmnonaaIdxB
import Derived.Test.YtocaaklhlmnonaaStatB
namespace Go.Proofs.Ytocaaklhlmnonaa
open Go.RowKit
set_option linter.unusedSimpArgs false

def modD : List ByteArray := [⟨#[100, 111, 119, 110]⟩, ⟨#[117, 112]⟩, ⟨#[122, 101, 114, 111]⟩, ⟨#[101, 118, 101, 110]⟩, ⟨#[97, 119, 97, 121]⟩, ⟨#[]⟩, ⟨#[85, 112]⟩, ⟨#[110, 101, 97, 114]⟩]
def polD : List ByteArray := [⟨#[115, 97, 116]⟩, ⟨#[101, 114, 114, 111, 114]⟩, ⟨#[119, 114, 97, 112]⟩, ⟨#[]⟩, ⟨#[101, 114, 114]⟩]
theorem CurIs.alloc {w : World} {B : Nat} {a : Option Addr} {len cap : Nat} {zs : List Int} (h : CurIs w B a len cap zs) (o : Obj) : CurIs (w.alloc o) B a len cap zs := by
  obtain ⟨h1, h2, h3, h4⟩ := h
  have hb : Below w.heap.size w (w.alloc o) := (Below.refl _ _).alloc (Nat.le_refl _) o
  exact ⟨(hb.block B (Array.getElem?_eq_some_iff.1 h1).1).trans h1, h2.below hb, h3, h4⟩

set_option maxHeartbeats 1600000 in
theorem drMode (a : Option Addr) (len cap : Nat) (zs : List Int) (w : World) (hlen : len ≤ 1048576) (h : CodeIs w a len cap zs) :
    Calls Try.prog 44 #[.slice a len cap] w fun e w' => e = .returned (.string (modD.getD (firstR len zs % (8 : Nat)).toNat ⟨#[]⟩)) ∧ Below w.heap.size w w' := by
  have kN := newDet a len cap zs w hlen h
  have kP := fun (w1 : World) (cu : CurIs w1 w.heap.size a len cap zs) (hB : w.heap.size < w1.heap.size) => pickDet w.heap.size w1.heap.size 8 8 a len cap zs modD _ (cu.alloc (.cells (modD.map Value.string).toArray 9)) (by omega) (by omega) (by omega) (newRow w1 modD 9)
  generalize modD.getD (firstR len zs % (8 : Nat)).toNat ⟨#[]⟩ = y at *
  clear h
  go_enter Try.func44, Try.ntmps44
  go_wp2_with fail
  refine kN.mono ?_
  rintro e w1 ⟨rfl, cu, b1⟩
  have hB := (Array.getElem?_eq_some_iff.1 cu.1).1
  have b2 := b1.alloc b1.size (.cells (modD.map Value.string).toArray 9)
  go_wp2_with fail
  refine (kP w1 cu hB).mono ?_
  rintro e w2 ⟨rfl, g2⟩
  have b3 := b2.grown g2 b2.size (fun k hk => by cases hk; exact Nat.le_refl _)
  clear kN kP b2 cu
  go_wp2
  go_ret
  exact ⟨rfl, b3⟩

set_option maxHeartbeats 1600000 in
theorem drPolicy (a : Option Addr) (len cap : Nat) (zs : List Int) (w : World) (hlen : len ≤ 1048576) (h : CodeIs w a len cap zs) :
    Calls Try.prog 45 #[.slice a len cap] w fun e w' => e = .returned (.string (polD.getD (firstR len zs % (5 : Nat)).toNat ⟨#[]⟩)) ∧ Below w.heap.size w w' := by
  have kN := newDet a len cap zs w hlen h
  have kP := fun (w1 : World) (cu : CurIs w1 w.heap.size a len cap zs) (hB : w.heap.size < w1.heap.size) => pickDet w.heap.size w1.heap.size 5 5 a len cap zs polD _ (cu.alloc (.cells (polD.map Value.string).toArray 9)) (by omega) (by omega) (by omega) (newRow w1 polD 9)
  generalize polD.getD (firstR len zs % (5 : Nat)).toNat ⟨#[]⟩ = y at *
  clear h
  go_enter Try.func45, Try.ntmps45
  go_wp2_with fail
  refine kN.mono ?_
  rintro e w1 ⟨rfl, cu, b1⟩
  have hB := (Array.getElem?_eq_some_iff.1 cu.1).1
  have b2 := b1.alloc b1.size (.cells (polD.map Value.string).toArray 9)
  go_wp2_with fail
  refine (kP w1 cu hB).mono ?_
  rintro e w2 ⟨rfl, g2⟩
  have b3 := b2.grown g2 b2.size (fun k hk => by cases hk; exact Nat.le_refl _)
  clear kN kP b2 cu
  go_wp2
  go_ret
  exact ⟨rfl, b3⟩

set_option maxHeartbeats 1600000 in
theorem drStat (a : Option Addr) (len cap : Nat) (zs : List Int) (w : World) (hlen : len ≤ 1048576) (h : CodeIs w a len cap zs) :
    Calls Try.prog 46 #[.slice a len cap] w fun e w' => ∃ x : Int, e = .returned (.int .i64 x) ∧ -1 ≤ x ∧ x ≤ 8 ∧ Below w.heap.size w w' := by
  have kN := curNew a len cap zs w hlen h
  clear h
  go_enter Try.func46, Try.ntmps46
  go_wp2_with fail
  refine kN.mono ?_
  rintro e w1 ⟨rfl, cu, b1⟩
  go_wp2_with fail
  refine (curBelow w.heap.size 10 w1 cu (by omega)).mono ?_
  rintro e w2 ⟨x, rfl, x0, x1, -, -, g2⟩
  have x2 := x1 (by omega)
  have b3 := b1.grown g2 b1.size (fun k hk => by cases hk; exact Nat.le_refl _)
  clear x1 kN cu
  go_wp2
  go_ret
  exact ⟨_, rfl, by omega, by omega, b3⟩

theorem place_bd (x : ByteArray) (xs : List ByteArray) : ∀ k : Nat, -1 ≤ placeR x xs k ∧ placeR x xs k < (k : Int) + (xs.length : Int) + 1 := by
  induction xs with
  | nil => intro k; simp [placeR]; omega
  | cons y ys ih =>
    intro k
    have := ih (k + 1)
    rw [placeR]
    split
    · simp; omega
    · simp; omega
theorem mode_bd (x : ByteArray) : -1 ≤ placeR x modeList 0 ∧ placeR x modeList 0 ≤ 4 := by
  unfold modeList
  simp only [placeR]
  split
  · omega
  · split
    · omega
    · split
      · omega
      · split
        · omega
        · split
          · omega
          · omega
theorem stat_out {k : Int} (h : ¬ (0 ≤ k ∧ k ≤ 6)) : statR k = ⟨#[]⟩ := if_neg h
theorem stat_in : ∀ i, i < 7 → ¬ statR (i : Nat) = ⟨#[]⟩ := by decide +kernel
theorem stat_emp : ∀ i, i < 7 → (statR (i : Nat)).toList.isEmpty = false := by decide +kernel
theorem stat_tl : ∀ i, i < 7 → ∀ j, j < 7 → ¬ i = j → ((statR (i : Nat)).toList == (statR (j : Nat)).toList) = false := by decide +kernel
theorem stat_two : ∀ i, i < 7 → ∀ j, j < 7 → ¬ i = j → ¬ statR (i : Nat) = statR (j : Nat) := by decide +kernel

set_option maxRecDepth 20000 in
set_option maxHeartbeats 6400000 in
theorem read_in (a : Option Addr) (len cap : Nat) (zs : List Int) (w : World) (hlen : len ≤ 1048576) (h : CodeIs w a len cap zs) :
    Calls Try.prog 13 #[.slice a len cap] w fun e w' => e = .returned (.bool true) ∧ Below w.heap.size w w' := by
  have kM := fun W hh => drMode a len cap zs W hlen hh
  have kP := fun W hh => drPolicy a len cap zs W hlen hh
  have kH := fun W hh => drStat a len cap zs W hlen hh
  generalize modD.getD (firstR len zs % (8 : Nat)).toNat ⟨#[]⟩ = sm at *
  generalize polD.getD (firstR len zs % (5 : Nat)).toNat ⟨#[]⟩ = sp at *
  have kmi := fun W => iModeOf sm W
  have kms := fun W => sModeOf sm W
  have kpi := fun W => iPolicyOf sp W
  have kps := fun W => sPolicyOf sp W
  obtain ⟨m0, m1⟩ := mode_bd sm
  generalize placeR sm modeList 0 = m at *
  generalize placeR sp policyList 0 = p at *
  go_enter Try.func13, Try.ntmps13
  go_wp2_with fail
  refine (big_no a len cap _ hlen).mono ?_
  rintro e w1 ⟨rfl, rfl⟩
  go_wp2_with fail
  refine (kM _ h).mono ?_
  rintro e w2 ⟨rfl, b2⟩
  go_wp2_with fail
  refine (kmi _).mono ?_
  rintro e w3 ⟨rfl, b3⟩
  have B3 := b2.trans (b3.mono b2.size)
  have h3 := h.below B3
  go_wp2_with fail
  refine (kP _ h3).mono ?_
  rintro e w4 ⟨rfl, b4⟩
  have B4 := B3.trans (b4.mono B3.size)
  go_wp2_with fail
  refine (kpi _).mono ?_
  rintro e w5 ⟨rfl, b5⟩
  have B5 := B4.trans (b5.mono B4.size)
  have h5 := h.below B5
  clear b2 b3 B3 h3 b4 B4 b5
  go_wp2_with fail
  refine (kH _ h5).mono ?_
  rintro e w6 ⟨y, rfl, y0, y1, b6⟩
  have B6 := B5.trans (b6.mono B5.size)
  have kT := fun W => iStatusText y W
  have kK := fun (k : Nat) W => iStatusText (k : Int) W
  clear b6 B5 h5
  by_cases hin : 0 ≤ y ∧ y ≤ 6
  · obtain ⟨i0, i1⟩ := hin
    obtain ⟨j, rfl⟩ := Int.eq_ofNat_of_zero_le i0
    have hj : j < 7 := by omega
    have i2 : decide ((j : Int) < 0) = false := decide_eq_false (by omega)
    have i3 : decide (6 < (j : Int)) = false := decide_eq_false (by omega)
    have ht' := stat_emp j hj
    have ht := stat_in j hj
    have HL : Hid (∀ k, k < 7 → ¬ k = j → ((statR (k : Nat)).toList == (statR (j : Nat)).toList) = false) := fun k hk hne => stat_tl k hk j hj hne
    have HT : Hid (∀ k, k < 7 → ¬ k = j → ¬ statR (k : Nat) = statR (j : Nat)) := fun k hk hne => stat_two k hk j hj hne
    generalize statR ((j : Nat) : Int) = t at *
    go_wp2_with fail
    refine (kT _).mono ?_
    rintro e w7 ⟨rfl, b7⟩
    have B7 := B6.trans (b7.mono B6.size)
    clear b7 B6 kT
    go_wp2_with fail
    refine (kms _).mono ?_
    rintro e w8 ⟨rfl, b8⟩
    have B8 := B7.trans (b8.mono B7.size)
    have h8 := h.below B8
    go_wp2_with fail
    refine (kP _ h8).mono ?_
    rintro e w9 ⟨rfl, b9⟩
    have B9 := B8.trans (b9.mono B8.size)
    clear B7 b8 b9 h8
    go_wp2_with fail
    refine (kps _).mono ?_
    rintro e w10 ⟨rfl, b10⟩
    have B10 := B9.trans (b10.mono B9.size)
    clear B8 B9 b10 kM kP kH kmi kms kpi kps
    go_wp2
    go_loopw [8] (fun i wr => ∃ k : Nat, k ≤ 7 ∧ i = .int .i64 k ∧ Below w1.heap.size w1 wr) (fun i _ => 7 - (intOf i).toNat)
    case atStart => exact ⟨0, by omega, rfl, B10⟩
    case round =>
      obtain ⟨k, hk, rfl, Bk⟩ := hrel
      clear B10
      by_cases hlt : (k : Int) ≤ 6
      · by_cases hkj : k = j
        · subst hkj
          go_wp2
          go_roundw
          case rel => exact ⟨k + 1, by omega, by go_num, Bk⟩
          case measure => simp [intOf]; omega
        · have hkj' : ¬ (k : Int) = (j : Int) := by omega
          have hne := HT.out k (by omega) hkj
          have hnl := HL.out k (by omega) hkj
          have hK := kK k
          generalize statR ((k : Nat) : Int) = u at *
          go_wp2_with fail
          refine (hK _).mono ?_
          rintro e w11 ⟨rfl, b11⟩
          have B11 := Bk.trans (b11.mono Bk.size)
          go_wp2
          go_roundw
          case rel => exact ⟨k + 1, by omega, by go_num, B11⟩
          case measure => simp [intOf]; omega
      · go_wp2
        go_ret
        exact ⟨by simp [m0, m1], Bk⟩
  · have ht := stat_out hin
    rw [ht] at kT
    have hor : y < 0 ∨ 6 < y := by omega
    have HO : Hid (¬ (0 ≤ y ∧ y ≤ 6)) := hin
    clear ht hin
    go_wp2_with fail
    refine (kT _).mono ?_
    rintro e w7 ⟨rfl, b7⟩
    have B7 := B6.trans (b7.mono B6.size)
    clear b7 B6 kT
    go_wp2_with fail
    refine (kms _).mono ?_
    rintro e w8 ⟨rfl, b8⟩
    have B8 := B7.trans (b8.mono B7.size)
    have h8 := h.below B8
    go_wp2_with fail
    refine (kP _ h8).mono ?_
    rintro e w9 ⟨rfl, b9⟩
    have B9 := B8.trans (b9.mono B8.size)
    clear B7 b8 b9 h8
    go_wp2_with fail
    refine (kps _).mono ?_
    rintro e w10 ⟨rfl, b10⟩
    have B10 := B9.trans (b10.mono B9.size)
    clear B8 B9 b10 kM kP kH kmi kms kpi kps
    rcases hor with ho | ho
    all_goals (
      go_wp2
      go_loopw [8] (fun i wr => ∃ k : Nat, k ≤ 7 ∧ i = .int .i64 k ∧ Below w1.heap.size w1 wr) (fun i _ => 7 - (intOf i).toNat)
      case atStart => exact ⟨0, by omega, rfl, B10⟩
      case round =>
        obtain ⟨k, hk, rfl, Bk⟩ := hrel
        clear B10
        by_cases hlt : (k : Int) ≤ 6
        · have hkj' : ¬ (k : Int) = y := by have := HO.out; omega
          go_wp2
          go_roundw
          case rel => exact ⟨k + 1, by omega, by go_num, Bk⟩
          case measure => simp [intOf]; omega
        · go_wp2
          go_ret
          exact ⟨by simp [m0, m1], Bk⟩)

theorem walkWordsRead (a0 : Option Addr) (len0 cap0 : Nat) (z0 : List Int) (w : World) (h : IsRow .u8 w a0 len0 cap0 z0) :
    Calls Try.prog 13 #[.slice a0 len0 cap0] w fun e w' => e = .returned (.bool true) ∧ Below w.heap.size w w' := by
  refine law_big _ (fun a len cap w hs => ?_) read_in a0 len0 cap0 z0 w h
  go_enter Try.func13, Try.ntmps13
  go_wp2_with (go_at_call 43; refine (big_yes a len cap w hs).mono ?_; rintro e w ⟨rfl, rfl⟩)
  go_ret
  exact ⟨rfl, Below.refl _ _⟩

end Go.Proofs.Ytocaaklhlmnonaa
