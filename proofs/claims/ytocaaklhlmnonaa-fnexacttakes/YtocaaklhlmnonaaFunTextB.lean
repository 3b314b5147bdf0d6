/- FunText of the specification and of the program, each by its contract, and the law's walk. -/
import Derived.Test.YtocaaklhlmnonaaFunOfB
import Derived.Test.YtocaaklhlmnonaaToW0
namespace Go.Proofs.Ytocaaklhlmnonaa
open Go.RowKit Go.Maps
set_option linter.unusedSimpArgs false

/-- A map that is ranged over; 'left': which names are still to come. -/
def RangeIs (w : World) (B r n : Nat) (f : ByteArray → Option Int) (left : ByteArray → Bool) (cnt : Nat) : Prop :=
  ∃ (D : DataW Unit) (lf : Lit → Bool), w.ranges Try.prog 9 (plainElem Try.prog 3) B r n D lf cnt ∧ (∀ s : ByteArray, Maps.has D (litS s) = (f s).isSome ∧ ∀ v, f s = some v → ∀ z, D.atKey (litS s) z = .lit (.int .i64 v)) ∧ ∀ s, left s = lf (litS s)
theorem RangeIs.kept {w w' : World} {B r n : Nat} {f : ByteArray → Option Int} {left : ByteArray → Bool} {cnt : Nat} {row : Option Nat} (h : RangeIs w B r n f left cnt) (hg : w.grownBy w' row) (hb : some B ≠ row) (hr : some r ≠ row) : RangeIs w' B r n f left cnt := by
  obtain ⟨D, lf, h1, h2, h3⟩ := h
  exact ⟨D, lf, h1.kept hg hb hr, h2, h3⟩
theorem RangeIs.lt {w : World} {B r n : Nat} {f : ByteArray → Option Int} {left : ByteArray → Bool} {cnt : Nat} (h : RangeIs w B r n f left cnt) : r < w.heap.size := by
  obtain ⟨D, lf, h1, h2, h3⟩ := h
  exact h1.lt
theorem RangeIs.left_eq {w : World} {B r n : Nat} {f : ByteArray → Option Int} {left : ByteArray → Bool} {cnt : Nat} (h : RangeIs w B r n f left cnt) : w.rangeLeft B r = cnt := by
  obtain ⟨D, lf, h1, h2, h3⟩ := h
  exact h1.left_eq

theorem wpM_range (w0 w : World) {ops : Array Oper} {rest : List Oper} {o : Oper} {a : Act} {Q : Exit → Act → World → Prop} (hg : o.guard = none) (m : Operand) (hop : o.op = Op.range 85 m)
    (base B n : Nat) (f : ByteArray → Option Int) (hm : a.eval m = .map (some B)) (hM : MapIs w B n f) (hB : Below base w0 w) (hb : base ≤ w.heap.size)
    (hK : ∀ w' cnt, RangeIs w' B w.heap.size n f (fun s => (f s).isSome) cnt → Below base w0 w' → w.heap.size < w'.heap.size → wpList Try.prog ops Q rest (a.put o.dst (.pointer (some ⟨w.heap.size, 0, none⟩))) w') :
    wpList Try.prog ops Q (o :: rest) a w := by
  obtain ⟨D, hown, hf⟩ := hM
  refine wpList_range_own w hg m _ hop 9 3 keyS Try.underlying85 _ B n D hm hown fun w' r1 r2 r3 => ?_
  exact hK w' _ ⟨D, _, r1, hf, fun s => ((hf s).1).symm⟩ (hB.grown r2 hb (fun k hk => by cases hk)) (by omega)

theorem wpM_next (w0 w : World) {ops : Array Oper} {rest : List Oper} {o : Oper} {a : Act} {Q : Exit → Act → World → Prop} (hg : o.guard = none) (it : Operand) (hop : o.op = Op.next it false)
    (base B r n : Nat) (f : ByteArray → Option Int) (left : ByteArray → Bool) (cnt : Nat) (hit : a.eval it = .pointer (some ⟨r, 0, none⟩)) (h : RangeIs w B r n f left cnt) (hB : Below base w0 w) (hb : base ≤ r)
    (hDone : (∀ s, left s = false) → wpList Try.prog ops Q rest (a.put o.dst (.tuple #[.bool false])) w)
    (hMore : ∀ (s : ByteArray) (v : Int) (w' : World) (cnt' : Nat), left s = true → f s = some v → RangeIs w' B r n f (fun z => left z && !decide (z = s)) cnt' → cnt' < cnt → Below base w0 w' → w.grownBy w' (some r) → w'.heap.size = w.heap.size →
      (Instr.entry (.pointer (some ⟨r, 0, none⟩))).run Try.prog w' = .ok (.tuple #[.string s, .int .i64 v]) w' → wpList Try.prog ops Q rest (a.put o.dst (.tuple #[.bool true, .string s, .int .i64 v])) w') :
    wpList Try.prog ops Q (o :: rest) a w := by
  obtain ⟨D, lf, h1, h2, h3⟩ := h
  refine wpList_next_ranges w hg it hop 9 keyS (plainElem Try.prog 3) Value.string (Value.int .i64) (fun key kl hk => by obtain ⟨x, hx, _⟩ := WideMaps.string_of_keyOf Try.underlying9 hk; exact ⟨x, hx⟩) (fun v y hv => by obtain ⟨c, rfl, _⟩ := plainElem_int_inv Try.underlying3 hv; exact ⟨c, rfl⟩) B r n D lf cnt hit h1 (fun _ hl => hDone fun s => (h3 s).trans (hl _)) fun s c kl y w' cnt' hkey hlk hv hat hrg hlt hgr hsz hen => ?_
  obtain ⟨s', es, ekl⟩ := WideMaps.string_of_keyOf Try.underlying9 hkey
  injection es with es
  subst es
  have ekl : kl = litS s := ekl.1
  subst ekl
  obtain ⟨c', ec, ey, _⟩ := plainElem_int_inv Try.underlying3 hv
  injection ec with _ ec
  subst ec
  rw [ey] at hat
  have hhas := has_true_of_atKey hat
  rw [(h2 s).1] at hhas
  obtain ⟨v, hv'⟩ := Option.isSome_iff_exists.1 hhas
  have e2 := (h2 s).2 v hv' (.lit (.int .i64 0))
  rw [hat] at e2
  injection e2 with e2
  injection e2 with _ e2
  subst e2
  refine hMore s c w' cnt' ((h3 s).trans hlk) hv' ⟨D, _, hrg, h2, fun z => ?_⟩ hlt (hB.grown hgr (Nat.le_of_lt (Nat.lt_of_le_of_lt hb h1.lt)) (fun k hk => by cases hk; exact hb)) hgr hsz hen
  have key : (!decide (z = s)) = !(litS z).sameKey (litS s) := by
    by_cases e : z = s
    · have h1 : (litS z).sameKey (litS s) = true := by rw [e]; exact WideAt.sameKey_self (show WideAt.IsKeyLit (litS s) from trivial)
      rw [h1, e]
      simp
    · have h1 : (litS z).sameKey (litS s) = false := sameKey_ne (fun h => e (litS_inj h))
      rw [h1]
      simp [e]
  show (left z && !decide (z = s)) = (lf (litS z) && !(litS z).sameKey (litS s))
  rw [h3 z, key]

theorem num_at (s : ByteArray) (v : Int) (h : numOf s = some v) : ∃ k : Nat, v = k ∧ k < 15 ∧ nameList.getD k ⟨#[]⟩ = s := by
  have gen : ∀ (xs : List ByteArray) (k : Nat), ¬ placeR s xs k < 0 → ∃ j : Nat, placeR s xs k = ((k + j : Nat) : Int) ∧ j < xs.length ∧ xs.getD j ⟨#[]⟩ = s := by
    intro xs
    induction xs with
    | nil => intro k h; exact absurd (show (-1 : Int) < 0 by omega) h
    | cons y r ih =>
      intro k h
      by_cases e : y = s
      · subst e
        exact ⟨0, by show (if y = y then _ else _) = _; rw [if_pos rfl]; rfl, by simp, rfl⟩
      · have e2 : placeR s (y :: r) k = placeR s r (k + 1) := by show (if y = s then _ else _) = _; rw [if_neg e]
        rw [e2] at h ⊢
        obtain ⟨j, h1, h2, h3⟩ := ih (k + 1) h
        exact ⟨j + 1, by rw [h1]; congr 1; omega, by simp; omega, by simpa using h3⟩
  unfold numOf at h
  by_cases hp : placeR s nameList 0 < 0
  · rw [if_pos hp] at h; cases h
  · rw [if_neg hp] at h
    obtain ⟨j, h1, h2, h3⟩ := gen nameList 0 hp
    exact ⟨j, by injection h with h; rw [← h, h1]; simp, h2, h3⟩
theorem num_of (k : Nat) (h : k < 15) : (numOf (nameList.getD k ⟨#[]⟩)).isSome = true := by
  have : ∀ k : Fin 15, (numOf (nameList.getD k.1 ⟨#[]⟩)).isSome = true := by decide +kernel
  exact this ⟨k, h⟩
theorem name_inj (i j : Nat) (hi : i < 15) (hj : j < 15) (h : nameList.getD i ⟨#[]⟩ = nameList.getD j ⟨#[]⟩) : i = j := by
  have : ∀ i j : Fin 15, nameList.getD i.1 ⟨#[]⟩ = nameList.getD j.1 ⟨#[]⟩ → i = j := by decide +kernel
  exact congrArg Fin.val (this ⟨i, hi⟩ ⟨j, hj⟩ h)
abbrev nameArr : Array Value := #[.string ⟨#[109, 117, 108]⟩, .string ⟨#[100, 105, 118]⟩, .string ⟨#[115, 113, 114, 116]⟩, .string ⟨#[104, 121, 112, 111, 116]⟩, .string ⟨#[101, 120, 112]⟩, .string ⟨#[108, 111, 103]⟩, .string ⟨#[115, 105, 110]⟩, .string ⟨#[99, 111, 115]⟩, .string ⟨#[116, 97, 110]⟩, .string ⟨#[97, 116, 97, 110]⟩, .string ⟨#[97, 116, 97, 110, 50]⟩, .string ⟨#[115, 105, 110, 104]⟩, .string ⟨#[99, 111, 115, 104]⟩, .string ⟨#[116, 97, 110, 104]⟩, .string ⟨#[97, 116, 97, 110, 104]⟩]

theorem newZ (w : World) : ∀ k, k < 15 → (w.alloc (.cells #[.string ⟨#[]⟩, .string ⟨#[]⟩, .string ⟨#[]⟩, .string ⟨#[]⟩, .string ⟨#[]⟩, .string ⟨#[]⟩, .string ⟨#[]⟩, .string ⟨#[]⟩, .string ⟨#[]⟩, .string ⟨#[]⟩, .string ⟨#[]⟩, .string ⟨#[]⟩, .string ⟨#[]⟩, .string ⟨#[]⟩, .string ⟨#[]⟩] 87)).cell? ⟨w.heap.size, k, none⟩ = some (.string ⟨#[]⟩) ∧ (w.alloc (.cells #[.string ⟨#[]⟩, .string ⟨#[]⟩, .string ⟨#[]⟩, .string ⟨#[]⟩, .string ⟨#[]⟩, .string ⟨#[]⟩, .string ⟨#[]⟩, .string ⟨#[]⟩, .string ⟨#[]⟩, .string ⟨#[]⟩, .string ⟨#[]⟩, .string ⟨#[]⟩, .string ⟨#[]⟩, .string ⟨#[]⟩, .string ⟨#[]⟩] 87)).frozen? ⟨w.heap.size, k, none⟩ = false := by
  intro k hk
  refine ⟨?_, frozen_of_row _ w.heap.size k _ _ (heap_alloc_new w _)⟩
  rw [cell_of_row _ w.heap.size k _ _ (0, 0) (heap_alloc_new w _)]
  have e : k = 0 ∨ k = 1 ∨ k = 2 ∨ k = 3 ∨ k = 4 ∨ k = 5 ∨ k = 6 ∨ k = 7 ∨ k = 8 ∨ k = 9 ∨ k = 10 ∨ k = 11 ∨ k = 12 ∨ k = 13 ∨ k = 14 := by omega
  rcases e with rfl | rfl | rfl | rfl | rfl | rfl | rfl | rfl | rfl | rfl | rfl | rfl | rfl | rfl | rfl <;> rfl

set_option maxRecDepth 20000 in
set_option maxHeartbeats 6400000 in
theorem iInOrder (w : World) : Calls Try.prog 71 #[] w fun e w' => e = .returned (.agg nameArr) ∧ Below w.heap.size w w' := by
  have kN := fun W => iNumbers W
  have hmem := num_at
  have hin := num_of
  have hinj := name_inj
  have hne : Hid (∀ k, k < 15 → (nameArr).getD k undef = .string (nameList.getD k ⟨#[]⟩)) := by
    intro k hk
    have e : k = 0 ∨ k = 1 ∨ k = 2 ∨ k = 3 ∨ k = 4 ∨ k = 5 ∨ k = 6 ∨ k = 7 ∨ k = 8 ∨ k = 9 ∨ k = 10 ∨ k = 11 ∨ k = 12 ∨ k = 13 ∨ k = 14 := by omega
    rcases e with rfl | rfl | rfl | rfl | rfl | rfl | rfl | rfl | rfl | rfl | rfl | rfl | rfl | rfl | rfl <;> rfl
  obtain ⟨nm, hnm⟩ : ∃ nm : Nat → ByteArray, (fun k => nameList.getD k ⟨#[]⟩) = nm := ⟨_, rfl⟩
  have hnm' : ∀ k, nameList.getD k ⟨#[]⟩ = nm k := fun k => congrFun hnm k
  simp only [hnm'] at hmem hin hinj hne
  clear hnm hnm'
  generalize numOf = f at *
  have s1 : (w.alloc (.cells #[.string ⟨#[]⟩, .string ⟨#[]⟩, .string ⟨#[]⟩, .string ⟨#[]⟩, .string ⟨#[]⟩, .string ⟨#[]⟩, .string ⟨#[]⟩, .string ⟨#[]⟩, .string ⟨#[]⟩, .string ⟨#[]⟩, .string ⟨#[]⟩, .string ⟨#[]⟩, .string ⟨#[]⟩, .string ⟨#[]⟩, .string ⟨#[]⟩] 87)).heap.size = w.heap.size + 1 := by simp
  have s2 : ((w.alloc (.cells #[.string ⟨#[]⟩, .string ⟨#[]⟩, .string ⟨#[]⟩, .string ⟨#[]⟩, .string ⟨#[]⟩, .string ⟨#[]⟩, .string ⟨#[]⟩, .string ⟨#[]⟩, .string ⟨#[]⟩, .string ⟨#[]⟩, .string ⟨#[]⟩, .string ⟨#[]⟩, .string ⟨#[]⟩, .string ⟨#[]⟩, .string ⟨#[]⟩] 87)).alloc (.cells #[.string ⟨#[]⟩, .string ⟨#[]⟩, .string ⟨#[]⟩, .string ⟨#[]⟩, .string ⟨#[]⟩, .string ⟨#[]⟩, .string ⟨#[]⟩, .string ⟨#[]⟩, .string ⟨#[]⟩, .string ⟨#[]⟩, .string ⟨#[]⟩, .string ⟨#[]⟩, .string ⟨#[]⟩, .string ⟨#[]⟩, .string ⟨#[]⟩] 87)).heap.size = w.heap.size + 1 + 1 := by simp
  have B0 : Below w.heap.size w ((w.alloc (.cells #[.string ⟨#[]⟩, .string ⟨#[]⟩, .string ⟨#[]⟩, .string ⟨#[]⟩, .string ⟨#[]⟩, .string ⟨#[]⟩, .string ⟨#[]⟩, .string ⟨#[]⟩, .string ⟨#[]⟩, .string ⟨#[]⟩, .string ⟨#[]⟩, .string ⟨#[]⟩, .string ⟨#[]⟩, .string ⟨#[]⟩, .string ⟨#[]⟩] 87)).alloc (.cells #[.string ⟨#[]⟩, .string ⟨#[]⟩, .string ⟨#[]⟩, .string ⟨#[]⟩, .string ⟨#[]⟩, .string ⟨#[]⟩, .string ⟨#[]⟩, .string ⟨#[]⟩, .string ⟨#[]⟩, .string ⟨#[]⟩, .string ⟨#[]⟩, .string ⟨#[]⟩, .string ⟨#[]⟩, .string ⟨#[]⟩, .string ⟨#[]⟩] 87)) := ((below_new w (.cells #[.string ⟨#[]⟩, .string ⟨#[]⟩, .string ⟨#[]⟩, .string ⟨#[]⟩, .string ⟨#[]⟩, .string ⟨#[]⟩, .string ⟨#[]⟩, .string ⟨#[]⟩, .string ⟨#[]⟩, .string ⟨#[]⟩, .string ⟨#[]⟩, .string ⟨#[]⟩, .string ⟨#[]⟩, .string ⟨#[]⟩, .string ⟨#[]⟩] 87))).alloc (by simp) _
  have hR : ∀ k, k < 15 → ((w.alloc (.cells #[.string ⟨#[]⟩, .string ⟨#[]⟩, .string ⟨#[]⟩, .string ⟨#[]⟩, .string ⟨#[]⟩, .string ⟨#[]⟩, .string ⟨#[]⟩, .string ⟨#[]⟩, .string ⟨#[]⟩, .string ⟨#[]⟩, .string ⟨#[]⟩, .string ⟨#[]⟩, .string ⟨#[]⟩, .string ⟨#[]⟩, .string ⟨#[]⟩] 87)).alloc (.cells #[.string ⟨#[]⟩, .string ⟨#[]⟩, .string ⟨#[]⟩, .string ⟨#[]⟩, .string ⟨#[]⟩, .string ⟨#[]⟩, .string ⟨#[]⟩, .string ⟨#[]⟩, .string ⟨#[]⟩, .string ⟨#[]⟩, .string ⟨#[]⟩, .string ⟨#[]⟩, .string ⟨#[]⟩, .string ⟨#[]⟩, .string ⟨#[]⟩] 87)).cell? ⟨w.heap.size, k, none⟩ = some (.string ⟨#[]⟩) ∧ ((w.alloc (.cells #[.string ⟨#[]⟩, .string ⟨#[]⟩, .string ⟨#[]⟩, .string ⟨#[]⟩, .string ⟨#[]⟩, .string ⟨#[]⟩, .string ⟨#[]⟩, .string ⟨#[]⟩, .string ⟨#[]⟩, .string ⟨#[]⟩, .string ⟨#[]⟩, .string ⟨#[]⟩, .string ⟨#[]⟩, .string ⟨#[]⟩, .string ⟨#[]⟩] 87)).alloc (.cells #[.string ⟨#[]⟩, .string ⟨#[]⟩, .string ⟨#[]⟩, .string ⟨#[]⟩, .string ⟨#[]⟩, .string ⟨#[]⟩, .string ⟨#[]⟩, .string ⟨#[]⟩, .string ⟨#[]⟩, .string ⟨#[]⟩, .string ⟨#[]⟩, .string ⟨#[]⟩, .string ⟨#[]⟩, .string ⟨#[]⟩, .string ⟨#[]⟩] 87)).frozen? ⟨w.heap.size, k, none⟩ = false := by
    intro k hk
    have h := newZ w k hk
    have b := below_new (w.alloc (.cells #[.string ⟨#[]⟩, .string ⟨#[]⟩, .string ⟨#[]⟩, .string ⟨#[]⟩, .string ⟨#[]⟩, .string ⟨#[]⟩, .string ⟨#[]⟩, .string ⟨#[]⟩, .string ⟨#[]⟩, .string ⟨#[]⟩, .string ⟨#[]⟩, .string ⟨#[]⟩, .string ⟨#[]⟩, .string ⟨#[]⟩, .string ⟨#[]⟩] 87)) (.cells #[.string ⟨#[]⟩, .string ⟨#[]⟩, .string ⟨#[]⟩, .string ⟨#[]⟩, .string ⟨#[]⟩, .string ⟨#[]⟩, .string ⟨#[]⟩, .string ⟨#[]⟩, .string ⟨#[]⟩, .string ⟨#[]⟩, .string ⟨#[]⟩, .string ⟨#[]⟩, .string ⟨#[]⟩, .string ⟨#[]⟩, .string ⟨#[]⟩] 87)
    exact ⟨(b.cell (p := ⟨w.heap.size, k, none⟩) (by show w.heap.size < _; omega)).trans h.1, (b.frozen (p := ⟨w.heap.size, k, none⟩) (by show w.heap.size < _; omega)).trans h.2⟩
  have hV := newZ (w.alloc (.cells #[.string ⟨#[]⟩, .string ⟨#[]⟩, .string ⟨#[]⟩, .string ⟨#[]⟩, .string ⟨#[]⟩, .string ⟨#[]⟩, .string ⟨#[]⟩, .string ⟨#[]⟩, .string ⟨#[]⟩, .string ⟨#[]⟩, .string ⟨#[]⟩, .string ⟨#[]⟩, .string ⟨#[]⟩, .string ⟨#[]⟩, .string ⟨#[]⟩] 87))
  rw [s1] at hV
  go_enter Try.func71, Try.ntmps71
  go_wp2_with fail
  refine (kN _).mono ?_
  generalize (w.alloc (.cells #[.string ⟨#[]⟩, .string ⟨#[]⟩, .string ⟨#[]⟩, .string ⟨#[]⟩, .string ⟨#[]⟩, .string ⟨#[]⟩, .string ⟨#[]⟩, .string ⟨#[]⟩, .string ⟨#[]⟩, .string ⟨#[]⟩, .string ⟨#[]⟩, .string ⟨#[]⟩, .string ⟨#[]⟩, .string ⟨#[]⟩, .string ⟨#[]⟩] 87)).alloc (.cells #[.string ⟨#[]⟩, .string ⟨#[]⟩, .string ⟨#[]⟩, .string ⟨#[]⟩, .string ⟨#[]⟩, .string ⟨#[]⟩, .string ⟨#[]⟩, .string ⟨#[]⟩, .string ⟨#[]⟩, .string ⟨#[]⟩, .string ⟨#[]⟩, .string ⟨#[]⟩, .string ⟨#[]⟩, .string ⟨#[]⟩, .string ⟨#[]⟩] 87) = w0 at *
  clear s1
  rw [s2]
  rintro e w1 ⟨rfl, hM, b1⟩
  have hR1 : ∀ k, k < 15 → w1.cell? ⟨w.heap.size, k, none⟩ = some (.string ⟨#[]⟩) ∧ w1.frozen? ⟨w.heap.size, k, none⟩ = false := fun k hk => ⟨(b1.cell (p := ⟨w.heap.size, k, none⟩) (by show w.heap.size < _; omega)).trans (hR k hk).1, (b1.frozen (p := ⟨w.heap.size, k, none⟩) (by show w.heap.size < _; omega)).trans (hR k hk).2⟩
  have hV1 : ∀ k, k < 15 → w1.cell? ⟨w.heap.size + 1, k, none⟩ = some (.string ⟨#[]⟩) ∧ w1.frozen? ⟨w.heap.size + 1, k, none⟩ = false := fun k hk => ⟨(b1.cell (p := ⟨w.heap.size + 1, k, none⟩) (by show w.heap.size + 1 < _; omega)).trans (hV k hk).1, (b1.frozen (p := ⟨w.heap.size + 1, k, none⟩) (by show w.heap.size + 1 < _; omega)).trans (hV k hk).2⟩
  have hMlt := hM.lt
  have B1 := B0.trans (b1.mono (by omega))
  clear hR hV b1 B0
  go_wp2_with (first | (refine wpM_range w1 _ rfl _ rfl w1.heap.size (w.heap.size + 1 + 1) 15 f rfl hM (Below.refl _ _) (Nat.le_refl _) ?_; intro w2 cnt0 hG b2 hs2) | go_in)
  go_frame
  have hR2 : ∀ k, k < 15 → w2.cell? ⟨w.heap.size, k, none⟩ = some (.string ⟨#[]⟩) ∧ w2.frozen? ⟨w.heap.size, k, none⟩ = false := fun k hk => ⟨(b2.cell (p := ⟨w.heap.size, k, none⟩) (by show w.heap.size < _; omega)).trans (hR1 k hk).1, (b2.frozen (p := ⟨w.heap.size, k, none⟩) (by show w.heap.size < _; omega)).trans (hR1 k hk).2⟩
  have hV2 : ∀ k, k < 15 → w2.cell? ⟨w.heap.size + 1, k, none⟩ = some (.string ⟨#[]⟩) ∧ w2.frozen? ⟨w.heap.size + 1, k, none⟩ = false := fun k hk => ⟨(b2.cell (p := ⟨w.heap.size + 1, k, none⟩) (by show w.heap.size + 1 < _; omega)).trans (hV1 k hk).1, (b2.frozen (p := ⟨w.heap.size + 1, k, none⟩) (by show w.heap.size + 1 < _; omega)).trans (hV1 k hk).2⟩
  have B2 := B1.trans (b2.mono B1.size)
  generalize hr : w1.heap.size = r at *
  have hrB : w.heap.size + 1 + 1 < r := hMlt
  clear hR1 hV1 b2 B1 hM hs2
  go_loopw [2] (fun _ wr => ∃ (left : ByteArray → Bool) (cnt : Nat), RangeIs wr (w.heap.size + 1 + 1) r 15 f left cnt ∧ (∀ k, k < 15 → wr.cell? ⟨w.heap.size + 1, k, none⟩ = some (.string (if left (nm k) then ⟨#[]⟩ else nm k)) ∧ wr.frozen? ⟨w.heap.size + 1, k, none⟩ = false) ∧ (∀ k, k < 15 → wr.cell? ⟨w.heap.size, k, none⟩ = some (.string ⟨#[]⟩) ∧ wr.frozen? ⟨w.heap.size, k, none⟩ = false) ∧ Below w.heap.size w wr) (fun _ wr => wr.rangeLeft (w.heap.size + 1 + 1) r)
  case atStart => exact ⟨_, _, hG, fun k hk => by rw [if_pos (hin k hk)]; exact hV2 k hk, hR2, B2⟩
  case round =>
    obtain ⟨left, cnt, hG, hV, hR, B⟩ := hrel
    go_wp2_with (first | (refine wpM_next wr wr rfl _ rfl r (w.heap.size + 1 + 1) r 15 f left cnt rfl hG (Below.refl _ _) (Nat.le_refl _) ?_ ?_) | go_in)
    · intro hl0
      have hv : ∀ k, k < 15 → wr.cell? ⟨w.heap.size + 1, k, none⟩ = some (.string (nm k)) := fun k hk => by
        have := (hV k hk).1
        rw [hl0 (nm k)] at this
        exact this
      have e0 := hv 0 (by omega)
      have e1 := hv 1 (by omega)
      have e2 := hv 2 (by omega)
      have e3 := hv 3 (by omega)
      have e4 := hv 4 (by omega)
      have e5 := hv 5 (by omega)
      have e6 := hv 6 (by omega)
      have e7 := hv 7 (by omega)
      have e8 := hv 8 (by omega)
      have e9 := hv 9 (by omega)
      have e10 := hv 10 (by omega)
      have e11 := hv 11 (by omega)
      have e12 := hv 12 (by omega)
      have e13 := hv 13 (by omega)
      have e14 := hv 14 (by omega)
      have r0 := (hR 0 (by omega)).1
      have t0 := (hR 0 (by omega)).2
      have r1 := (hR 1 (by omega)).1
      have t1 := (hR 1 (by omega)).2
      have r2 := (hR 2 (by omega)).1
      have t2 := (hR 2 (by omega)).2
      have r3 := (hR 3 (by omega)).1
      have t3 := (hR 3 (by omega)).2
      have r4 := (hR 4 (by omega)).1
      have t4 := (hR 4 (by omega)).2
      have r5 := (hR 5 (by omega)).1
      have t5 := (hR 5 (by omega)).2
      have r6 := (hR 6 (by omega)).1
      have t6 := (hR 6 (by omega)).2
      have r7 := (hR 7 (by omega)).1
      have t7 := (hR 7 (by omega)).2
      have r8 := (hR 8 (by omega)).1
      have t8 := (hR 8 (by omega)).2
      have r9 := (hR 9 (by omega)).1
      have t9 := (hR 9 (by omega)).2
      have r10 := (hR 10 (by omega)).1
      have t10 := (hR 10 (by omega)).2
      have r11 := (hR 11 (by omega)).1
      have t11 := (hR 11 (by omega)).2
      have r12 := (hR 12 (by omega)).1
      have t12 := (hR 12 (by omega)).2
      have r13 := (hR 13 (by omega)).1
      have t13 := (hR 13 (by omega)).2
      have r14 := (hR 14 (by omega)).1
      have t14 := (hR 14 (by omega)).2
      have HB : Hid (Below w.heap.size w _) := (((((((((((((((B.setCell (p := ⟨w.heap.size, 0, none⟩) (by show w.heap.size ≤ w.heap.size; omega) (.string (nm 0))).setCell (p := ⟨w.heap.size, 1, none⟩) (by show w.heap.size ≤ w.heap.size; omega) (.string (nm 1))).setCell (p := ⟨w.heap.size, 2, none⟩) (by show w.heap.size ≤ w.heap.size; omega) (.string (nm 2))).setCell (p := ⟨w.heap.size, 3, none⟩) (by show w.heap.size ≤ w.heap.size; omega) (.string (nm 3))).setCell (p := ⟨w.heap.size, 4, none⟩) (by show w.heap.size ≤ w.heap.size; omega) (.string (nm 4))).setCell (p := ⟨w.heap.size, 5, none⟩) (by show w.heap.size ≤ w.heap.size; omega) (.string (nm 5))).setCell (p := ⟨w.heap.size, 6, none⟩) (by show w.heap.size ≤ w.heap.size; omega) (.string (nm 6))).setCell (p := ⟨w.heap.size, 7, none⟩) (by show w.heap.size ≤ w.heap.size; omega) (.string (nm 7))).setCell (p := ⟨w.heap.size, 8, none⟩) (by show w.heap.size ≤ w.heap.size; omega) (.string (nm 8))).setCell (p := ⟨w.heap.size, 9, none⟩) (by show w.heap.size ≤ w.heap.size; omega) (.string (nm 9))).setCell (p := ⟨w.heap.size, 10, none⟩) (by show w.heap.size ≤ w.heap.size; omega) (.string (nm 10))).setCell (p := ⟨w.heap.size, 11, none⟩) (by show w.heap.size ≤ w.heap.size; omega) (.string (nm 11))).setCell (p := ⟨w.heap.size, 12, none⟩) (by show w.heap.size ≤ w.heap.size; omega) (.string (nm 12))).setCell (p := ⟨w.heap.size, 13, none⟩) (by show w.heap.size ≤ w.heap.size; omega) (.string (nm 13))).setCell (p := ⟨w.heap.size, 14, none⟩) (by show w.heap.size ≤ w.heap.size; omega) (.string (nm 14)))
      have HN : Hid (#[.string (nm 0), .string (nm 1), .string (nm 2), .string (nm 3), .string (nm 4), .string (nm 5), .string (nm 6), .string (nm 7), .string (nm 8), .string (nm 9), .string (nm 10), .string (nm 11), .string (nm 12), .string (nm 13), .string (nm 14)] = nameArr) := by
        have h := hne
        unfold Hid at h
        unfold Hid
        apply Array.ext
        · rfl
        · intro k h1 h2
          have hk : k < 15 := h1
          have e : k = 0 ∨ k = 1 ∨ k = 2 ∨ k = 3 ∨ k = 4 ∨ k = 5 ∨ k = 6 ∨ k = 7 ∨ k = 8 ∨ k = 9 ∨ k = 10 ∨ k = 11 ∨ k = 12 ∨ k = 13 ∨ k = 14 := by omega
          rcases e with rfl | rfl | rfl | rfl | rfl | rfl | rfl | rfl | rfl | rfl | rfl | rfl | rfl | rfl | rfl <;> (first | exact (h 0 (by omega)).symm | exact (h 1 (by omega)).symm | exact (h 2 (by omega)).symm | exact (h 3 (by omega)).symm | exact (h 4 (by omega)).symm | exact (h 5 (by omega)).symm | exact (h 6 (by omega)).symm | exact (h 7 (by omega)).symm | exact (h 8 (by omega)).symm | exact (h 9 (by omega)).symm | exact (h 10 (by omega)).symm | exact (h 11 (by omega)).symm | exact (h 12 (by omega)).symm | exact (h 13 (by omega)).symm | exact (h 14 (by omega)).symm)
      clear hv hV hR hne hmem hin hinj kN hG B
      go_wp2
      (try simp only [Exit.inBlock, Exit.then])
      refine bodyPost_ret (v := .agg #[.string (nm 0), .string (nm 1), .string (nm 2), .string (nm 3), .string (nm 4), .string (nm 5), .string (nm 6), .string (nm 7), .string (nm 8), .string (nm 9), .string (nm 10), .string (nm 11), .string (nm 12), .string (nm 13), .string (nm 14)]) ?_ rfl ⟨by rw [show #[.string (nm 0), .string (nm 1), .string (nm 2), .string (nm 3), .string (nm 4), .string (nm 5), .string (nm 6), .string (nm 7), .string (nm 8), .string (nm 9), .string (nm 10), .string (nm 11), .string (nm 12), .string (nm 13), .string (nm 14)] = nameArr from HN], HB.out⟩
      rw [results_cell1 rfl]
      go_simp
    · intro s v w3 cnt3 hls hfs hG3 hlt b3 hg3 hs3 hen
      obtain ⟨c, rfl, hc, hs⟩ := hmem s v hfs
      have hlw : r < wr.heap.size := hG.lt
      have hcell := fun (b k : Nat) (hb : b < r) (x : Value) (h : wr.cell? ⟨b, k, none⟩ = some x) => hg3.cell (a := ⟨b, k, none⟩) h (fun e => by injection e with e; exact absurd (show b = r from e) (Nat.ne_of_lt hb))
      have hfroz := fun (b k : Nat) (hb : b < r) => World.frozen?_of_block (w := wr) (w' := w3) (a := ⟨b, k, none⟩) (hg3.block b (Nat.lt_trans hb hlw) (fun e => by injection e with e; exact absurd e (Nat.ne_of_lt hb)))
      have hV3 : ∀ k, k < 15 → w3.cell? ⟨w.heap.size + 1, k, none⟩ = some (.string (if left (nm k) then ⟨#[]⟩ else nm k)) ∧ w3.frozen? ⟨w.heap.size + 1, k, none⟩ = false := fun k hk => ⟨hcell _ k (by omega) _ (hV k hk).1, (hfroz _ k (by omega)).trans (hV k hk).2⟩
      have hR3 : ∀ k, k < 15 → w3.cell? ⟨w.heap.size, k, none⟩ = some (.string ⟨#[]⟩) ∧ w3.frozen? ⟨w.heap.size, k, none⟩ = false := fun k hk => ⟨hcell _ k (by omega) _ (hR k hk).1, (hfroz _ k (by omega)).trans (hR k hk).2⟩
      have B3 : Below w.heap.size w w3 := B.trans (b3.mono (by omega))
      have hx := (hV3 c hc).1
      have hf := (hV3 c hc).2
      obtain ⟨old, hold⟩ : ∃ old, (if left (nm c) then (⟨#[]⟩ : ByteArray) else nm c) = old := ⟨_, rfl⟩
      rw [hold] at hx
      have hstep : ∀ k, k < 15 → (w3.setCell ⟨w.heap.size + 1, c, none⟩ (.string s)).cell? ⟨w.heap.size + 1, k, none⟩ = some (.string (if (left (nm k) && !decide (nm k = s)) then ⟨#[]⟩ else nm k)) ∧ (w3.setCell ⟨w.heap.size + 1, c, none⟩ (.string s)).frozen? ⟨w.heap.size + 1, k, none⟩ = false := by
        intro k hk
        refine ⟨?_, by rw [World.frozen?_setCell]; exact (hV3 k hk).2⟩
        by_cases e : k = c
        · subst e
          rw [World.cell?_setCell_same _ _ _ hx, hs]
          simp
        · rw [World.cell?_setCell_other _ _ _ _ (by intro h; injection h with h1 h2; exact e h2.symm), (hV3 k hk).1]
          have : nm k ≠ s := fun h => e (hinj k c hk hc (h.trans hs.symm))
          simp [this]
      have hstepR : ∀ k, k < 15 → (w3.setCell ⟨w.heap.size + 1, c, none⟩ (.string s)).cell? ⟨w.heap.size, k, none⟩ = some (.string ⟨#[]⟩) ∧ (w3.setCell ⟨w.heap.size + 1, c, none⟩ (.string s)).frozen? ⟨w.heap.size, k, none⟩ = false := by
        intro k hk
        refine ⟨?_, by rw [World.frozen?_setCell]; exact (hR3 k hk).2⟩
        rw [World.cell?_setCell_other _ _ _ _ (by intro h; injection h with h1 h2; omega)]
        exact (hR3 k hk).1
      have hGs := hG3.kept (w' := w3.setCell ⟨w.heap.size + 1, c, none⟩ (.string s)) (row := some (w.heap.size + 1)) ⟨rfl, rfl, rfl, by simp [World.setCell], fun k _ hk => Below.heap_setCell w3 ⟨w.heap.size + 1, c, none⟩ _ k (fun e => hk (by rw [e]))⟩ (by intro e; injection e with e; omega) (by intro e; injection e with e; omega)
      have BS := B3.setCell (p := ⟨w.heap.size + 1, c, none⟩) (by show w.heap.size ≤ w.heap.size + 1; omega) (.string s)
      have hm3 := hGs.left_eq
      have hm0 := hG.left_eq
      clear hcell hfroz hV hR hV3 hR3 B3 B hG3 hG hmem hin hinj hne kN hold hls hfs b3 hg3
      go_wp2
      go_roundw
      case rel => exact ⟨_, cnt3, hGs, hstep, hstepR, BS⟩
      case measure => rw [hm3, hm0]; exact hlt

def funR (k : Int) : ByteArray := if 0 ≤ k ∧ k ≤ 14 then nameList.getD k.toNat ⟨#[]⟩ else ⟨#[]⟩

theorem funOkAt (k : Int) (w : World) : Calls Try.prog 70 #[.int .i64 k] w fun e w' => e = .returned (.bool (decide (0 ≤ k ∧ k ≤ 14))) ∧ w' = w := by
  by_cases h1 : 0 ≤ k
  · by_cases h2 : k < 15
    · rw [decide_eq_true ⟨h1, by omega⟩]
      go_enter Try.func70, Try.ntmps70
      go_wp2
      go_ret
      exact ⟨rfl, rfl⟩
    · rw [decide_eq_false (by omega)]
      have h3 : decide (k < 15) = false := decide_eq_false h2
      clear h2
      go_enter Try.func70, Try.ntmps70
      go_wp2
      go_ret
      exact ⟨rfl, rfl⟩
  · rw [decide_eq_false (by omega)]
    have h3 : decide (0 ≤ k) = false := decide_eq_false h1
    clear h1
    go_enter Try.func70, Try.ntmps70
    go_wp2
    go_ret
    exact ⟨rfl, rfl⟩

theorem rowNm (nm : Nat → ByteArray) (j : Nat) (hj : j < 15) (W : World) : (W.alloc (.cells #[.string (nm 0), .string (nm 1), .string (nm 2), .string (nm 3), .string (nm 4), .string (nm 5), .string (nm 6), .string (nm 7), .string (nm 8), .string (nm 9), .string (nm 10), .string (nm 11), .string (nm 12), .string (nm 13), .string (nm 14)] 87)).cell? ⟨W.heap.size, j, none⟩ = some (.string (nm j)) := by
  rw [cell_of_row _ W.heap.size j _ _ (0, 0) (heap_alloc_new W _)]
  have e : j = 0 ∨ j = 1 ∨ j = 2 ∨ j = 3 ∨ j = 4 ∨ j = 5 ∨ j = 6 ∨ j = 7 ∨ j = 8 ∨ j = 9 ∨ j = 10 ∨ j = 11 ∨ j = 12 ∨ j = 13 ∨ j = 14 := by omega
  rcases e with rfl | rfl | rfl | rfl | rfl | rfl | rfl | rfl | rfl | rfl | rfl | rfl | rfl | rfl | rfl <;> rfl

set_option maxRecDepth 20000 in
set_option maxHeartbeats 6400000 in
theorem iFunText (k : Int) (w : World) : Calls Try.prog 40 #[.int .i64 k] w fun e w' => e = .returned (.string (funR k)) ∧ Below w.heap.size w w' := by
  have kO := fun W => funOkAt k W
  have kN := fun W => iInOrder W
  by_cases h : 0 ≤ k ∧ k ≤ 14
  · rw [decide_eq_true h] at kO
    obtain ⟨j, rfl⟩ := Int.eq_ofNat_of_zero_le h.1
    have hj : j < 15 := by omega
    have e : funR (j : Int) = nameList.getD j ⟨#[]⟩ := by unfold funR; rw [if_pos h]; rfl
    obtain ⟨nm, hnm⟩ : ∃ nm : Nat → ByteArray, nm = fun k => nameList.getD k ⟨#[]⟩ := ⟨_, rfl⟩
    have hN : nameArr = #[.string (nm 0), .string (nm 1), .string (nm 2), .string (nm 3), .string (nm 4), .string (nm 5), .string (nm 6), .string (nm 7), .string (nm 8), .string (nm 9), .string (nm 10), .string (nm 11), .string (nm 12), .string (nm 13), .string (nm 14)] := by rw [hnm]; rfl
    have e2 : nameList.getD j ⟨#[]⟩ = nm j := by rw [hnm]
    rw [hN] at kN
    rw [e, e2]
    have hc := rowNm nm j hj
    obtain ⟨y, hy⟩ : ∃ y, nm j = y := ⟨_, rfl⟩
    rw [hy] at hc ⊢
    clear hN e e2 hnm hy h
    go_enter Try.func40, Try.ntmps40
    go_wp2_with fail
    refine (kO _).mono ?_
    rintro e w1 ⟨rfl, rfl⟩
    go_wp2_with fail
    refine (kN _).mono ?_
    rintro e w2 ⟨rfl, b2⟩
    have HB := b2.trans ((below_new w2 (.cells #[.string (nm 0), .string (nm 1), .string (nm 2), .string (nm 3), .string (nm 4), .string (nm 5), .string (nm 6), .string (nm 7), .string (nm 8), .string (nm 9), .string (nm 10), .string (nm 11), .string (nm 12), .string (nm 13), .string (nm 14)] 87)).mono b2.size)
    have hcx := hc w2
    clear hc
    go_wp2
    go_ret
    exact ⟨rfl, HB⟩
  · rw [decide_eq_false h] at kO
    have e : funR k = ⟨#[]⟩ := if_neg h
    rw [e]
    clear h e
    go_enter Try.func40, Try.ntmps40
    go_wp2_with fail
    refine (kO _).mono ?_
    rintro e w1 ⟨rfl, rfl⟩
    go_wp2
    go_ret
    exact ⟨rfl, Below.refl _ _⟩

set_option maxRecDepth 20000 in
set_option maxHeartbeats 6400000 in
theorem sFunText (k : Int) (w : World) : Calls Try.prog 39 #[.int .i64 k] w fun e w' => e = .returned (.string (funR k)) ∧ Below w.heap.size w w' := by
  have hB := below_new w (.cells (nameList.map Value.string).toArray 9)
  have hc := newRow w nameList 9
  have kN := sNames w
  by_cases h : 0 ≤ k ∧ k ≤ 14
  · have hin := fun W => in_yes k 0 14 W h.1 h.2
    obtain ⟨j, rfl⟩ := Int.eq_ofNat_of_zero_le h.1
    have hj : j < 15 := by omega
    have e : funR (j : Int) = nameList.getD j ⟨#[]⟩ := by unfold funR; rw [if_pos h]; rfl
    rw [e]
    have hcj := hc j hj
    obtain ⟨y, hy⟩ : ∃ y, nameList.getD j ⟨#[]⟩ = y := ⟨_, rfl⟩
    rw [hy] at hcj ⊢
    clear hc e hy h
    generalize w.alloc (.cells (nameList.map Value.string).toArray 9) = W at *
    go_enter Try.func39, Try.ntmps39
    go_wp2_with fail
    refine (hin _).mono ?_
    rintro e w1 ⟨rfl, rfl⟩
    go_wp2_with fail
    refine kN.mono ?_
    rintro e w2 ⟨rfl, rfl⟩
    go_wp2
    go_ret
    exact ⟨rfl, hB⟩
  · have hin := fun W => in_no k 0 14 W h
    have e : funR k = ⟨#[]⟩ := if_neg h
    rw [e]
    clear h e kN hc hB
    go_enter Try.func39, Try.ntmps39
    go_wp2_with fail
    refine (hin _).mono ?_
    rintro e w1 ⟨rfl, rfl⟩
    go_wp2
    go_ret
    exact ⟨rfl, Below.refl _ _⟩

theorem walkFunText (k : Int) (w : World) : Calls Try.prog 11 #[.int .i64 k] w fun e w' => e = .returned (.bool true) ∧ Below w.heap.size w w' := by
  go_enter Try.func11, Try.ntmps11
  go_wp2_with fail
  refine (sFunText k w).mono ?_
  rintro e w1 ⟨rfl, b1⟩
  go_wp2_with fail
  refine (iFunText k w1).mono ?_
  rintro e w2 ⟨rfl, b2⟩
  have B := b1.trans (b2.mono b1.size)
  generalize funR k = s
  clear b1 b2
  go_wp2
  go_ret
  exact ⟨rfl, B⟩

end Go.Proofs.Ytocaaklhlmnonaa
