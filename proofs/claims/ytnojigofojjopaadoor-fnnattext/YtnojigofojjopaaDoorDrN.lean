/- The draws of great numbers: l1Once, l2Right, l2Draw, each by its contract: what is handed out is a row of the call's own; of what was there the cursor alone turns. -/
import Derived.Test.YtnojigofojjopaaDoorPick
import Derived.Test.YtnojigofojjopaaDoorSTrim
namespace Go.Proofs.YtnojigofojjopaaDoor
open Go.RowKit

theorem lit_cells (w : World) (xs : List Int) (t : TypeId) : ∀ j, j < xs.length → (w.alloc (.cells (xs.map (Value.int .i64)).toArray t)).cell? ⟨w.heap.size, j, none⟩ = some (.int .i64 (xs.getD j 0)) := by
  intro j hj
  rw [cell_of_row _ _ j _ t (0, 0) (heap_alloc_new w _)]
  simp [List.getElem?_eq_getElem hj]
theorem grown_of {w w' : World} (h : Below w.heap.size w w') (row : Option Nat) : w.grownBy w' row := ⟨h.os, h.tape, h.output, h.size, fun k hk _ => h.block k hk⟩
theorem grown_then {a w w' : World} {row : Option Nat} (h : a.grownBy w row) (k : Below a.heap.size w w') : a.grownBy w' row :=
  ⟨k.os.trans h.os, k.tape.trans h.tape, k.output.trans h.output, Nat.le_trans h.size k.size, fun i hi hr => (k.block i hi).trans (h.block i hi hr)⟩
theorem grown_alloc {a w : World} {row : Option Nat} (h : a.grownBy w row) (o : Obj) : a.grownBy (w.alloc o) row :=
  grown_trans h (grown_of ((Below.refl _ _).alloc (Nat.le_refl _) o) row)
theorem ownsI.cur {w w' : World} {base B : Nat} {v : Value} {xs : List Int} (h : ownsI w base v xs) (hg : w.grownBy w' (some B)) (hB : B < base) : ownsI w' base v xs := by
  refine h.kept hg ?_
  cases hv : v.ownBlock with
  | none => exact .inl rfl
  | some k =>
    refine .inr fun e => ?_
    have := (World.ownsRow.lt h k hv).1
    cases e
    omega
theorem CurAt.alloc {w : World} {B : Nat} (h : CurAt w B) (o : Obj) : CurAt (w.alloc o) B := h.below ((Below.refl w.heap.size w).alloc (Nat.le_refl _) o) h.lt
theorem below_cur {a w w' : World} {B b : Nat} (h : Below b a w) (hg : w.grownBy w' (some B)) (hb : b ≤ B) (hs : b ≤ w.heap.size) : Below b a w' := h.grown hg hs (fun k hk => by cases hk; exact hb)

def rightList : List Int := [0, 1, 1, 2, 3, 5, 9, 24, 47, 48]
theorem rightList_bd {n : Int} (h : n ∈ rightList) : 0 ≤ n ∧ n ≤ 48 := by
  simp [rightList] at h
  omega

set_option maxRecDepth 20000 in
set_option maxHeartbeats 3200000 in
theorem drRight (B : Nat) (w : World) (hc : CurAt w B) :
    Calls Tryd.prog 51 #[.pointer (some ⟨B, 0, none⟩)] w fun e w' => ∃ v xs, e = .returned v ∧ ownsI w' w.heap.size v xs ∧ xs.length ≤ 48 ∧ okB xs = true ∧ CurAt w' B ∧ w.grownBy w' (some B) := by
  have hB := hc.lt
  go_enter Tryd.func51, Tryd.ntmps51
  go_wp2_with fail
  refine (pickInt B w.heap.size 10 10 rightList _ (hc.alloc _) rfl (by omega) (by omega) (by omega) (lit_cells w rightList 3)).mono ?_
  rintro e w1 ⟨n, rfl, hn, c1, g1⟩
  obtain ⟨n0, n1⟩ := rightList_bd hn
  have G1 : w.grownBy w1 (some B) := grown_trans (grown_of ((Below.refl _ _).alloc (Nat.le_refl _) _) _) g1
  have o1 : ownsI (w1.alloc (.cells #[] 3)) w.heap.size (.slice (some ⟨w1.heap.size, 0, none⟩) 0 0) [] := ownsI_mono (made_own w1) G1.size
  have c1' := c1.alloc (.cells #[] 3)
  have G1' := grown_alloc G1 (.cells #[] 3)
  obtain ⟨m, rfl⟩ := Int.eq_ofNat_of_zero_le n0
  clear hn g1 G1 c1 n0 hc
  go_wp2
  go_loopw [4, 5] (fun v i wr => ∃ (j : Nat) (zs : List Int), j ≤ m ∧ i = .int .i64 j ∧ zs.length = j ∧ inR zs ∧ ownsI wr w.heap.size v zs ∧ CurAt wr B ∧ w.grownBy wr (some B)) (fun _ i _ => m - (intOf i).toNat)
  case atStart => exact ⟨0, [], Nat.zero_le _, rfl, rfl, inR_nil, o1, c1', G1'⟩
  case round =>
    obtain ⟨j, zs, hj, rfl, hzl, hzR, hown, hcur, hgr⟩ := hrel
    clear o1 c1' G1'
    by_cases hlt : j < m
    · have hlt' : (j : Int) < (m : Int) := by omega
      go_wp2_with fail
      refine (curBelow B 16777216 wr hcur (by omega)).mono ?_
      rintro e w2 ⟨x, rfl, x0, x1, -, c2, g2⟩
      have x1' := x1 (by omega)
      have o2 := hown.cur g2 hB
      have G2 := grown_trans hgr g2
      clear x1 hown hcur hgr g2
      go_wp2_with fail
      refine (curBelow B 16777216 w2 c2 (by omega)).mono ?_
      rintro e w3 ⟨y, rfl, y0, y1, -, c3, g3⟩
      have y1' := y1 (by omega)
      have o3 := o2.cur g3 hB
      have G3 := grown_trans G2 g3
      clear y1 o2 c2 G2 g3
      have hlit := lit_cells w3 [0, 1, x, 16777215, y] 3
      have hs3 := G3.size
      go_wp2_with fail
      refine (pickInt B w3.heap.size 5 5 [0, 1, x, 16777215, y] _ (c3.alloc _) rfl (by omega) (by omega) (by omega) hlit).mono ?_
      rintro e w4 ⟨z, rfl, hz, c4, g4⟩
      have hz' : 0 ≤ z ∧ z < 16777216 := by simp at hz; omega
      have o4 := (o3.below ((Below.refl w3.heap.size w3).alloc (Nat.le_refl _) _) (Nat.le_refl _)).cur g4 hB
      have G4 := grown_trans (grown_alloc G3 _) g4
      have hs4 := G4.size
      have hzl' : zs.length ≤ 1099511627776 := by omega
      clear hz hlit o3 c3 G3 g4
      go_wp2_with (at_builtin; refine wpI_app w4 w4 rfl (.tmp 15) (.tmp 23) rfl w.heap.size _ zs z rfl o4 (Below.refl _ _) rfl hzl' hs4 ?_; intro v5 w5 o5 b5)
      go_roundw
      case rel => exact ⟨j + 1, zs ++ [z], by omega, by go_num, by rw [List.length_append, List.length_singleton, hzl], inR_append.2 ⟨hzR, inR_cons.2 ⟨hz', inR_nil⟩⟩, o5, c4.below b5 hB, grown_then G4 b5⟩
      case measure => simp [intOf]; omega
    · have hlt' : ¬ (j : Int) < (m : Int) := by omega
      have kt := sTrim _ _ wr hown.row hzR (by omega)
      have hlen : (limbs (num zs)).length ≤ 48 := by
        refine Nat.le_trans (limbs_len_le (num zs) zs.length ?_) (by omega)
        have h1 := lval_lt hzR
        have h2 := num_val hzR
        have e : ((16777216 ^ zs.length : Nat) : Int) = (16777216 : Int) ^ zs.length := by simp
        omega
      have HOK : Hid (okB (limbs (num zs)) = true) := okB_yes (okL_limbs hlen)
      have hsz := hgr.size
      go_wp2_with fail
      refine kt.mono ?_
      rintro e w2 ⟨v1, rfl, o1, b1⟩
      go_wp2
      go_ret
      exact ⟨_, _, rfl, ownsI_mono o1 hsz, hlen, HOK.out, hcur.below b1 (Nat.lt_of_lt_of_le hB hsz), grown_then hgr (b1.mono hsz)⟩

end Go.Proofs.YtnojigofojjopaaDoor
