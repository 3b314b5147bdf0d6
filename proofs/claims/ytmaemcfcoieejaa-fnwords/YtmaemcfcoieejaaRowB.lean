/- Rows of bytes that are read: whoever owns them; what is made a text of them. -/
import Derived.Test.YtmaemcfcoieejaaToBI
import Derived.Test.YtmaemcfcoieejaaTn0
import Derived.Laws.BytesArg
namespace Go.Proofs.Ytmaemcfcoieejaa
open Go.RowKit
set_option linter.unusedSimpArgs false

/-- 'v' is a slice that holds the bytes 'xs'. -/
def rowB (w : World) (v : Value) (xs : List Int) : Prop :=
  (v = .slice none 0 0 ∧ xs = []) ∨ ∃ g o cap, v = .slice (some ⟨g, o, none⟩) xs.length cap ∧ g < w.heap.size ∧ ∀ j, j < xs.length → w.cell? ⟨g, o + j, none⟩ = some (.int .u8 (xs.getD j 0))
theorem rowB.below {w w' : World} {v : Value} {xs : List Int} {B : Nat} (h : rowB w v xs) (hb : Below B w w') (hB : w.heap.size ≤ B) : rowB w' v xs := by
  rcases h with h | ⟨g, o, cap, h1, h2, h3⟩
  · exact .inl h
  · exact .inr ⟨g, o, cap, h1, Nat.lt_of_lt_of_le h2 hb.size, fun j hj => (hb.cell (p := ⟨g, o + j, none⟩) (by show g < B; omega)).trans (h3 j hj)⟩
theorem ownsB.row {w : World} {base : Nat} {v : Value} {xs : List Int} (h : ownsB w base v xs) : rowB w v xs := by
  rcases h.2 with ⟨rfl, h0⟩ | ⟨g, cap, cur, rfl, hb, hg, h1, h2, h3⟩
  · exact .inl ⟨rfl, List.eq_nil_of_length_eq_zero h0⟩
  · refine .inr ⟨g, 0, cap, rfl, (World.ownsRow.lt h g rfl).2, fun j hj => ?_⟩
    have := cells_of h rfl j hj
    rwa [Nat.zero_add]
theorem ownsB.form {w : World} {base : Nat} {v : Value} {xs : List Int} (h : ownsB w base v xs) : ∃ a c, v = .slice a xs.length c := by
  rcases h.2 with ⟨rfl, h0⟩ | ⟨g, cap, cur, rfl, rest⟩
  · exact ⟨none, 0, by rw [h0]⟩
  · exact ⟨_, _, rfl⟩
theorem ownsB_mono {w : World} {base base' : Nat} {v : Value} {xs : List Int} (h : ownsB w base v xs) (hb : base' ≤ base) : ownsB w base' v xs := by
  refine ⟨h.1, ?_⟩
  rcases h.2 with h | ⟨g, cap, cur, h1, h2, h3⟩
  · exact .inl h
  · exact .inr ⟨g, cap, cur, h1, Nat.le_trans hb h2, h3⟩
theorem ownsB.ltb {w : World} {base : Nat} {v : Value} {xs : List Int} (h : ownsB w base v xs) : ∀ k ∈ blkI v, base ≤ k ∧ k < w.heap.size := fun k hk => by
  unfold blkI at hk
  rw [Option.mem_toList] at hk
  exact World.ownsRow.lt h k hk
theorem ownsB.tn {w w' : World} {base : Nat} {v : Value} {xs : List Int} {S : List Nat} (h : ownsB w base v xs) (ht : Tn S w w') (ha : Apart (blkI v) S) : ownsB w' base v xs := by
  have hlt := h.ltb
  refine ⟨h.1, ?_⟩
  rcases h.2 with h0 | ⟨g, cap, cur, rfl, h2, h3, h4⟩
  · exact .inl h0
  · have hg : g ∈ blkI (.slice (some ⟨g, 0, none⟩) xs.length cap) := by simp [blkI, Value.ownBlock]
    refine .inr ⟨g, cap, cur, rfl, h2, ?_, h4⟩
    rw [ht.block g (hlt g hg).2 (ha g hg)]
    exact h3
theorem tnB (w : World) (b i : Nat) (x : Value) : Tn [b] w (w.setCell ⟨b, i, none⟩ x) :=
  ⟨rfl, rfl, rfl, by simp [World.setCell], fun k _ hn => Below.heap_setCell _ _ _ _ (fun e => hn (by simp [e]))⟩
theorem ownsB.other {w : World} {base : Nat} {v : Value} {xs : List Int} (h : ownsB w base v xs) (b i : Nat) (hb : b < base) (x : Value) : ownsB (w.setCell ⟨b, i, none⟩ x) base v xs :=
  h.tn (tnB w b i x) (fun k hk hs => by have := (h.ltb k hk).1; simp at hs; omega)
/-- What is made a text of a row of bytes. -/
theorem rowB.text {w : World} {v : Value} {xs : List Int} (h : rowB w v xs) : (convert 28 9 v).run Try.prog w = .ok (.string (strOfNums xs)) w := by
  rcases h with ⟨rfl, rfl⟩ | ⟨g, o, cap, rfl, hg, hc⟩
  · exact run_convert_bytes_nil w 28 5 Try.underlying28 Try.underlying5 0 0 9 Try.underlying9
  · exact run_convert_bytes_arg w 28 5 Try.underlying28 Try.underlying5 g o xs.length cap xs rfl hc 9 Try.underlying9

end Go.Proofs.Ytmaemcfcoieejaa
