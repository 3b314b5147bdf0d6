/- Great numbers with a sign: what stands for them, what the functions on them answer (no program). -/
import Derived.Test.YtnojigofojjopaaDoorBase
namespace Go.Proofs.YtnojigofojjopaaDoor
open Go.RowKit

/-- A sign and limbs. -/
abbrev Wh := Bool × List Int
def okW (a : Wh) : Bool := okB a.2 && (!a.1 || decide (0 < a.2.length))
/-- The number that a sign and limbs stand for. -/
def valW (a : Wh) : Int := if a.1 = true then -(num a.2 : Int) else (num a.2 : Int)
/-- The sign and the limbs of a number. -/
def mkW (z : Int) : Wh := (decide (z < 0), limbs z.natAbs)
/-- A value that holds a sign and limbs, to be read. -/
def rowW (w : World) (v : Value) (a : Wh) : Prop := ∃ s, v = .agg #[.bool a.1, s] ∧ rowI w s a.2
/-- .. in memory of the call's own. -/
def ownsW (w : World) (base : Nat) (v : Value) (a : Wh) : Prop := ∃ s, v = .agg #[.bool a.1, s] ∧ ownsI w base s a.2

theorem ownsW.row {w : World} {base : Nat} {v : Value} {a : Wh} (h : ownsW w base v a) : rowW w v a := by
  obtain ⟨s, rfl, h⟩ := h
  exact ⟨s, rfl, h.row⟩
theorem rowW.below {w w' : World} {v : Value} {a : Wh} {B : Nat} (h : rowW w v a) (hb : Below B w w') (hB : w.heap.size ≤ B) : rowW w' v a := by
  obtain ⟨s, rfl, h⟩ := h
  exact ⟨s, rfl, h.below hb hB⟩
theorem ownsW.below {w w' : World} {base B : Nat} {v : Value} {a : Wh} (h : ownsW w base v a) (hb : Below B w w') (hlt : w.heap.size ≤ B) : ownsW w' base v a := by
  obtain ⟨s, rfl, h⟩ := h
  exact ⟨s, rfl, ownsI.below h hb hlt⟩
theorem ownsW_mono {w : World} {base base' : Nat} {v : Value} {a : Wh} (h : ownsW w base v a) (hb : base' ≤ base) : ownsW w base' v a := by
  obtain ⟨s, rfl, h⟩ := h
  exact ⟨s, rfl, ownsI_mono h hb⟩

theorem mkW_val (z : Int) : valW (mkW z) = z := by
  unfold valW mkW
  simp only [num_limbs, decide_eq_true_eq]
  split <;> omega
theorem okW_iff (a : Wh) : okW a = true ↔ okL a.2 ∧ (a.1 = true → 0 < a.2.length) := by
  unfold okW
  rw [Bool.and_eq_true, okB_iff]
  cases a.1 <;> simp
theorem num_pos_len {xs : List Int} (h : inR xs ∧ noZ xs) (hl : 0 < xs.length) : 0 < num xs := by
  apply Nat.pos_of_ne_zero
  intro h0
  have := eq_limbs h
  rw [h0, limbs_zero] at this
  rw [this] at hl
  simp at hl
theorem mkW_of {a : Wh} (h : okW a = true) : a = mkW (valW a) := by
  obtain ⟨h1, h2⟩ := (okW_iff a).1 h
  obtain ⟨n, xs⟩ := a
  have e := eq_limbs h1.2
  unfold mkW valW
  cases n with
  | false =>
    have : ¬ ((num xs : Int) < 0) := by omega
    simp [this]
    exact e
  | true =>
    have hp : 0 < num xs := num_pos_len h1.2 (h2 rfl)
    simp [hp]
    exact e
theorem mkW_neg (z : Int) (h : z < 0) : mkW z = (true, limbs z.natAbs) := by unfold mkW; simp [h]
theorem mkW_pos (z : Int) (h : 0 ≤ z) : mkW z = (false, limbs z.natAbs) := by unfold mkW; simp; omega
theorem mkW_zero : mkW 0 = (false, []) := by rw [mkW_pos 0 (by omega)]; simp [limbs_zero]

/-- What fits is answered, else nought and no. -/
def fitW (z : Int) : Wh × Bool := if (limbs z.natAbs).length ≤ 48 then (mkW z, true) else ((false, []), false)
def wofR (n : Int) : Wh := mkW n
def wintR (a : Wh) : Int × Bool := if okW a = true ∧ (valW a).natAbs ≤ 9223372036854775807 then (valW a, true) else (0, false)
def wcmpR (a b : Wh) : Int := if okW a = true ∧ okW b = true then (if valW a < valW b then -1 else if valW b < valW a then 1 else 0) else -2
def wnegR (a : Wh) : Wh := if okW a = true then mkW (-(valW a)) else (false, [])
def waddR (a b : Wh) : Wh × Bool := if okW a = true ∧ okW b = true then fitW (valW a + valW b) else ((false, []), false)
def wsubR (a b : Wh) : Wh × Bool := if okW a = true ∧ okW b = true then fitW (valW a - valW b) else ((false, []), false)
def wmulR (a b : Wh) : Wh × Bool := if okW a = true ∧ okW b = true then fitW (valW a * valW b) else ((false, []), false)
/-- The floor of a number times 2^k, whatever sign k has. -/
def scaleI (z k : Int) : Int := if 0 ≤ k then z * 2 ^ k.toNat else z / 2 ^ (-k).toNat
def wshiftR (a : Wh) (k : Int) : Wh × Bool := if okW a = true ∧ -1152 ≤ k ∧ k ≤ 1152 then fitW (scaleI (valW a) k) else ((false, []), false)
def wtextR (a : Wh) : ByteArray := if okW a = true then (if a.1 = true then ⟨#[45]⟩ ++ ⟨(numL (num a.2)).toArray⟩ else ⟨(numL (num a.2)).toArray⟩) else ⟨#[]⟩

theorem fitW_len (z : Int) : (fitW z).1.2.length ≤ 1048576 := by
  unfold fitW
  split
  · show (limbs z.natAbs).length ≤ 1048576; omega
  · simp

end Go.Proofs.YtnojigofojjopaaDoor
