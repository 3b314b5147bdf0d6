/- Frames of a law's walk: which blocks a value owns, which have turned. -/
import Derived.Test.YtnojigofojjopaaDoorEqI
import Derived.Test.YtnojigofojjopaaDoorRowI
namespace Go.Proofs.YtnojigofojjopaaDoor
open Go.RowKit

/-- Of what was there, the blocks in 'S' alone may have turned. -/
structure Tn (S : List Nat) (w w' : World) : Prop where
  os : w'.os = w.os
  tape : w'.tape = w.tape
  output : w'.output = w.output
  size : w.heap.size ≤ w'.heap.size
  block : ∀ k, k < w.heap.size → k ∉ S → w'.heap[k]? = w.heap[k]?

def Apart (S T : List Nat) : Prop := ∀ k ∈ S, k ∉ T
theorem Apart.symm {S T : List Nat} (h : Apart S T) : Apart T S := fun k hk hs => h k hs hk
theorem apart_of {S T : List Nat} {n : Nat} (h1 : ∀ k ∈ S, k < n) (h2 : ∀ k ∈ T, n ≤ k) : Apart S T := fun k hk ht => by
  have := h1 k hk
  have := h2 k ht
  omega
theorem Apart.append {S T U : List Nat} (h1 : Apart S U) (h2 : Apart T U) : Apart (S ++ T) U := fun k hk => by
  rcases List.mem_append.1 hk with h | h
  · exact h1 k h
  · exact h2 k h
theorem Apart.left {S T U : List Nat} (h : Apart (S ++ T) U) : Apart S U := fun k hk => h k (List.mem_append.2 (.inl hk))
theorem Apart.right {S T U : List Nat} (h : Apart (S ++ T) U) : Apart T U := fun k hk => h k (List.mem_append.2 (.inr hk))

theorem Tn.of_grown {w w' : World} {row : Option Nat} (h : w.grownBy w' row) : Tn row.toList w w' :=
  ⟨h.os, h.tape, h.output, h.size, fun k hk hn => h.block k hk (by intro e; apply hn; rw [← e]; simp)⟩
theorem Tn.mono {S T : List Nat} {w w' : World} (h : Tn S w w') (hs : ∀ k ∈ S, k ∈ T) : Tn T w w' :=
  ⟨h.os, h.tape, h.output, h.size, fun k hk hn => h.block k hk (fun hs' => hn (hs k hs'))⟩
theorem Tn.trans {S : List Nat} {a b c : World} (h : Tn S a b) (k : Tn S b c) : Tn S a c :=
  ⟨k.os.trans h.os, k.tape.trans h.tape, k.output.trans h.output, Nat.le_trans h.size k.size, fun i hi hr => (k.block i (Nat.lt_of_lt_of_le hi h.size) hr).trans (h.block i hi hr)⟩
theorem Tn.of_below {w w' : World} (h : Below w.heap.size w w') (S : List Nat) : Tn S w w' := ⟨h.os, h.tape, h.output, h.size, fun k hk _ => h.block k hk⟩
theorem Tn.below {S : List Nat} {B : Nat} {a w w' : World} (h : Tn S w w') (hb : Below B a w) (hB : B ≤ w.heap.size) (hs : ∀ k ∈ S, B ≤ k) : Below B a w' :=
  hb.trans ⟨h.os, h.tape, h.output, h.size, fun k hk => h.block k (by omega) (fun e => by have := hs k e; omega)⟩

/-- The block of a row. -/
def blkI (v : Value) : List Nat := v.ownBlock.toList
theorem ownsI.ltb {w : World} {base : Nat} {v : Value} {xs : List Int} (h : ownsI w base v xs) : ∀ k ∈ blkI v, base ≤ k ∧ k < w.heap.size := fun k hk => by
  unfold blkI at hk
  rw [Option.mem_toList] at hk
  exact World.ownsRow.lt h k hk
theorem ownsI.tn {w w' : World} {base : Nat} {v : Value} {xs : List Int} {S : List Nat} (h : ownsI w base v xs) (ht : Tn S w w') (ha : Apart (blkI v) S) : ownsI w' base v xs := by
  have hlt := h.ltb
  refine ⟨h.1, ?_⟩
  rcases h.2 with h0 | ⟨g, cap, cur, rfl, h2, h3, h4⟩
  · exact .inl h0
  · have hg : g ∈ blkI (.slice (some ⟨g, 0, none⟩) xs.length cap) := by simp [blkI, Value.ownBlock]
    refine .inr ⟨g, cap, cur, rfl, h2, ?_, h4⟩
    rw [ht.block g (hlt g hg).2 (ha g hg)]
    exact h3
theorem apart_I {v0 v1 : Value} (h : v0.ownBlock = none ∨ v0.ownBlock ≠ v1.ownBlock) : Apart (blkI v0) (blkI v1) := fun k hk ht => by
  unfold blkI at hk ht
  rw [Option.mem_toList] at hk ht
  rcases h with h | h
  · rw [h] at hk; cases hk
  · exact h (hk.trans ht.symm)

end Go.Proofs.YtnojigofojjopaaDoor
