/- Regions that draw their order and read or write whole great numbers: the steps (no walk of the program). -/
import Derived.Test.YtnojigofojjopaaDoorGOf
import Derived.Deep.RegionHeld
namespace Go.Proofs.YtnojigofojjopaaDoor
open Go.RowKit

theorem alloc_below (w : World) (o : Obj) : Below w.heap.size w (w.alloc o) := (Below.refl _ _).alloc (Nat.le_refl _) o
/-- Number i is taken first; its slot said. -/
theorem takeH {ops : Array Oper} {Q : Exit → Act → World → Prop} {md : Region.Mode} {S : World → Prop} {oi : Oper} {fuel : Nat} {listed : Array Bool} {a : Act} {w : World} (i : Nat) (d : Option Tmp) (v : Value) (hi : ops[i]? = some oi) (hd : oi.dst = d)
    (hs : Region.noSelect ops = true) (hf : Region.free md ops listed i = true) (hr : (Region.ready md ops listed).contains i = true)
    (hQ : ∀ c a w, Q (.panic c) (a.put oi.dst v) w → Q (.panic c) a w) (hy : YieldsIf Tryd.prog ops S oi v a) (hS : S w)
    (h : wpAnyH Tryd.prog md ops Q S fuel (listed.setIfInBounds i true) (a.put d v) w) : wpAnyH Tryd.prog md ops Q S (fuel + 1) listed a w := by
  subst hd
  exact wpAnyH_take hi hs hf hr hQ hy hS h
/-- The one that may come up is run; its slot said. -/
theorem oneH {ops : Array Oper} {Q : Exit → Act → World → Prop} {md : Region.Mode} {S : World → Prop} {o : Oper} {fuel : Nat} {listed : Array Bool} {a : Act} {w : World} (i : Nat) (ho : ops[i]? = some o) (hr : Region.ready md ops listed = [i])
    (h : ∀ K' : Act → World → Prop, (∀ a w, S w → wpAnyH Tryd.prog md ops Q S fuel (listed.setIfInBounds i true) a w → K' a w) → if Region.wanted o (yielded ops a.tmps) = true then Oper.wp Tryd.prog o a w K' Q else K' (a.put o.dst undef) w) : wpAnyH Tryd.prog md ops Q S (fuel + 1) listed a w :=
  wpAnyH_all hr (by simp) (fun j hj => by
    obtain rfl : j = i := by simpa using hj
    exact wpOp_step ho (fun K' hK => h K' (fun a w h1 h2 => hK a w ⟨h1, h2⟩)))
/-- A whole number that is read may be taken first. -/
theorem yg_load {ops : Array Oper} {S : World → Prop} {o : Oper} {a : Act} (hw : Region.wanted o (yielded ops a.tmps) = true) (x : Operand) (ho : o.op = .load 50 x)
    (b f n : Nat) (hx : a.eval x = .pointer (some ⟨b, f, none⟩)) (hS : ∀ W, S W → GA W b f n) : YieldsIf Tryd.prog ops S o (.agg (gC n)) a := by
  refine .inl ⟨hw, fun W hW => ?_⟩
  unfold execOp
  simp only [ho, hx, Instr.loadAt, Instr.sureAddr, Sem.run_bind, Sem.run_pure, Result.andThen_ok, (hS W hW).load]
/-- A copy may be taken first. -/
theorem yg_move {ops : Array Oper} {S : World → Prop} {o : Oper} {a : Act} (hw : Region.wanted o (yielded ops a.tmps) = true) (x : Operand) (ho : o.op = .move x) (v : Value) (hx : a.eval x = v) : YieldsIf Tryd.prog ops S o v a := by
  subst hx
  refine .inl ⟨hw, fun W _ => ?_⟩
  rw [BigFrame.run_move x ho]
theorem yg_assign {ops : Array Oper} {S : World → Prop} {o : Oper} {a : Act} (hw : Region.wanted o (yielded ops a.tmps) = true) (x : Operand) (ho : o.op = .assign x) (v : Value) (hx : a.eval x = v) : YieldsIf Tryd.prog ops S o v a := by
  subst hx
  refine .inl ⟨hw, fun W _ => ?_⟩
  rw [BigFrame.run_assign x ho]
theorem yg_pick {ops : Array Oper} {S : World → Prop} {o : Oper} {a : Act} (hw : Region.wanted o (yielded ops a.tmps) = true) (c x y : Operand) (ho : o.op = .pick c x y) (t : Bool) (hc : a.eval c = .bool t) (v : Value) (hv : (if t then a.eval x else a.eval y) = v) : YieldsIf Tryd.prog ops S o v a := by
  subst hv
  refine .inl ⟨hw, fun W _ => ?_⟩
  unfold execOp
  cases t <;> simp [ho, hc, asBool]
/-- What is not wanted yields nothing. -/
theorem yg_skip {ops : Array Oper} {S : World → Prop} {o : Oper} {a : Act} (hw : Region.wanted o (yielded ops a.tmps) = false) : YieldsIf Tryd.prog ops S o undef a := .inr ⟨hw, rfl⟩
/-- A whole number is written, as one step of such a region. -/
theorem sg_store {ops : Array Oper} {o : Oper} {a : Act} {w : World} {K : Act → World → Prop} {Q : Exit → Act → World → Prop} {E : Prop} (hgd : o.guard = none) (x y : Operand) (ho : o.op = .store 50 x y)
    (b : Nat) (ws : List Int) (k : Int) (n : Nat) (hx : a.eval x = .pointer (some ⟨b, 0, none⟩)) (hy : a.eval y = .agg (gC n)) (hg : GB w b ws k) (hl : (limbs n).length ≤ 98)
    (hd : o.dst = none) (h : ∀ w', GN w' b n → Tn [b] w w' → w'.heap.size = w.heap.size → K a w') :
    if Region.wanted o (yielded ops a.tmps) = true then Oper.wp Tryd.prog o a w K Q else E := by
  have hw : Region.wanted o (yielded ops a.tmps) = true := by simp [Region.wanted, hgd]
  rw [if_pos hw]
  have hpl := pad_len hl
  exact wp_store_row 50 x y ho b (gC n) hx hy 50 (gcell ws k) hg.blk (by show _ = some (gcell _ _).size; rw [gcell_size hpl]; exact great_size) (by show _ = (gcell _ _).size; rw [gcell_size hg.len, gcell_size hpl]) (gcell_one _ _)
    (by rw [hd]; exact h _ ⟨setRow_heap w b _ _ _ _ hg.blk, hpl⟩ ⟨rfl, rfl, rfl, by simp, fun j _ hn => setRow_other w b j _ (by intro e; apply hn; simp [e])⟩ (by simp))
theorem GN.tn {w w' : World} {b n : Nat} {S : List Nat} (h : GN w b n) (ht : Tn S w w') (hS : b ∉ S) : GN w' b n := GB.tn h ht hS
theorem GN.below {w w' : World} {b n B : Nat} (h : GN w b n) (hb : Below B w w') (hB : b < B) : GN w' b n := GB.below h hb hB
theorem GN.alloc {w : World} {b n : Nat} (h : GN w b n) (o : Obj) : GN (w.alloc o) b n := GB.alloc h o
theorem GN.lt {w : World} {b n : Nat} (h : GN w b n) : b < w.heap.size := GB.lt h
theorem GN.drew {w : World} {b n : Nat} (h : GN w b n) : GN w.drew b n := GB.drew h

end Go.Proofs.YtnojigofojjopaaDoor
