/- The program's great numbers inside: ninety-eight words and a size in one block; how they are read, written, copied (no walk of the program). -/
import Derived.Test.YtbfaeieddbaclaaLimbMore
import Derived.Test.YtbfaeieddbaclaaTn0
import Derived.Laws.Rows
import Derived.Laws.Tables
import Derived.Laws.ResultCell
namespace Go.Proofs.Ytbfaeieddbaclaa
open Go.RowKit
set_option linter.unusedSimpArgs false

/-- The cells of a great number: its words, its size. -/
def gcell (ws : List Int) (k : Int) : Array Value := (ws.map (Value.int .u32) ++ [Value.int .i64 k]).toArray
theorem gcell_size {ws : List Int} (h : ws.length = 98) (k : Int) : (gcell ws k).size = 99 := by simp [gcell, h]
theorem gcell_one (ws : List Int) (k : Int) : (gcell ws k).all (·.oneCell') = true := by
  unfold gcell
  simp [Value.oneCell', Function.comp_def]

theorem gcell_set (ws : List Int) (k : Int) (i : Nat) (v : Int) (h : i < ws.length) : (gcell ws k).setIfInBounds i (.int .u32 v) = gcell (ws.set i v) k := by
  unfold gcell
  apply Array.ext'
  simp [List.set_append, h, List.map_set]
theorem gcell_setK (ws : List Int) (k k' : Int) (h : ws.length = 98) : (gcell ws k).setIfInBounds 98 (.int .i64 k') = gcell ws k' := by
  unfold gcell
  apply Array.ext'
  simp [List.set_append, h]
/-- A store into one's own block. -/
theorem Tn.cell {S : List Nat} {w w' : World} (h : Tn S w w') (p : Addr) (hp : p.block ∈ S) (v : Value) : Tn S w (w'.setCell p v) :=
  h.trans ⟨rfl, rfl, rfl, by simp [World.setCell], fun k _ hn => Below.heap_setCell _ _ _ _ (fun e => hn (e ▸ hp))⟩
theorem Tn.refl (S : List Nat) (w : World) : Tn S w w := ⟨rfl, rfl, rfl, Nat.le_refl _, fun _ _ _ => rfl⟩

/-- For a guard: the goal is a list of operations. -/
theorem wpL_id {P : Program} {ops : Array Oper} {Q : Exit → Act → World → Prop} {l : List Oper} {a : Act} {w : World} (h : wpList P ops Q l a w) : wpList P ops Q l a w := h
/-- The words of a number, and noughts behind. -/
def pad (xs : List Int) : List Int := xs ++ List.replicate (98 - xs.length) 0
theorem pad_len {xs : List Int} (h : xs.length ≤ 98) : (pad xs).length = 98 := by simp [pad]; omega
theorem pad_getD (xs : List Int) (i : Nat) : (pad xs).getD i 0 = xs.getD i 0 := by
  unfold pad
  rw [List.getD_eq_getElem?_getD, List.getD_eq_getElem?_getD, List.getElem?_append]
  split
  · rfl
  · rename_i h
    rw [List.getElem?_eq_none (l := xs) (by omega), List.getElem?_replicate]
    split <;> rfl
theorem pad_set (xs : List Int) (v : Int) (h : xs.length < 98) : (pad xs).set xs.length v = pad (xs ++ [v]) := by
  unfold pad
  rw [List.set_append, if_neg (by omega), Nat.sub_self]
  obtain ⟨m, hm⟩ : ∃ m, 98 - xs.length = m + 1 := ⟨98 - xs.length - 1, by omega⟩
  rw [hm, List.replicate_succ, List.set_cons_zero, List.append_assoc, List.length_append, List.length_singleton, show 98 - (xs.length + 1) = m by omega]
  rfl
/-- The cells of the number n. -/
def gC (n : Nat) : Array Value := gcell (pad (limbs n)) ((limbs n).length : Int)
theorem pad_zero : pad (limbs 0) = List.replicate 98 0 := by rw [limbs_zero]; rfl
theorem gC_zero : gC 0 = gcell (List.replicate 98 0) 0 := by unfold gC; rw [pad_zero, limbs_zero]; rfl

/-- The number n can be read at that place. -/
structure GA (w : World) (b o n : Nat) : Prop where
  word : ∀ i, i < 98 → w.cell? ⟨b, o + i, none⟩ = some (.int .u32 ((limbs n).getD i 0))
  size : w.cell? ⟨b, o + 98, none⟩ = some (.int .i64 ((limbs n).length : Int))
  len : (limbs n).length ≤ 98
theorem GA.lt {w : World} {b o n : Nat} (h : GA w b o n) : b < w.heap.size := block_lt_of_cell h.size
theorem GA.below {w w' : World} {b o n B : Nat} (h : GA w b o n) (hb : Below B w w') (hB : b < B) : GA w' b o n :=
  ⟨fun i hi => (hb.cell (p := ⟨b, o + i, none⟩) hB).trans (h.word i hi), (hb.cell (p := ⟨b, o + 98, none⟩) hB).trans h.size, h.len⟩
theorem GA.tn {w w' : World} {b o n : Nat} {S : List Nat} (h : GA w b o n) (ht : Tn S w w') (hS : b ∉ S) : GA w' b o n :=
  have hk := ht.block b h.lt hS
  ⟨fun i hi => (World.cell?_of_block (w := w) (a := ⟨b, o + i, none⟩) hk).trans (h.word i hi), (World.cell?_of_block (w := w) (a := ⟨b, o + 98, none⟩) hk).trans h.size, h.len⟩
theorem GA.drew {w : World} {b o n : Nat} (h : GA w b o n) : GA w.drew b o n := ⟨h.word, h.size, h.len⟩
theorem GA.drewN {w : World} {b o n : Nat} (h : GA w b o n) (q : Nat) : GA (w.drewN q) b o n := ⟨h.word, h.size, h.len⟩
end Go.Proofs.Ytbfaeieddbaclaa
