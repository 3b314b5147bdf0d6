/- Maps from texts to ints that the call makes: a literal, a look-up, a delete; numbersOfNames, FunOf of both sides. -/
import Derived.Test.YtocaaklhlmnonaaIdxB
import Derived.Maps.OwnSet
import Derived.StringKeys
import Derived.Maps.OwnOps
import Derived.Maps.RangeWalk
namespace Go.Proofs.Ytocaaklhlmnonaa
open Go.RowKit Go.Maps Go.ChangeMaps
set_option linter.unusedSimpArgs false

theorem zeroI (w : World) : (zeroValue 3).run Try.prog w = .ok (.int .i64 0) w := by kernel_rfl
theorem keyS : Keyed Try.prog 9 := string_keyed Try.underlying9
abbrev litS (s : ByteArray) : Lit := .string s.data.toList
theorem litS_inj {s t : ByteArray} (h : litS s = litS t) : s = t := by
  have e : s.data.toList = t.data.toList := by injection h
  cases s; cases t
  simp only at e
  congr 1
  exact Array.toList_inj.1 e

/-- Block B is a map that holds f. -/
def MapIs (w : World) (B n : Nat) (f : ByteArray → Option Int) : Prop :=
  ∃ D : DataW Unit, w.ownsMap Try.prog 9 (plainElem Try.prog 3) B n D ∧ ∀ s : ByteArray, Maps.has D (litS s) = (f s).isSome ∧ ∀ v, f s = some v → ∀ z, D.atKey (litS s) z = .lit (.int .i64 v)
theorem MapIs.lt {w : World} {B n : Nat} {f : ByteArray → Option Int} (h : MapIs w B n f) : B < w.heap.size := by
  obtain ⟨D, h, _⟩ := h
  exact h.lt
theorem MapIs.made (w : World) : MapIs (w.alloc (.map #[] 0)) w.heap.size 0 fun _ => none :=
  ⟨.map [], World.ownsMap_made _ _ _ _, fun s => ⟨rfl, fun v h => by cases h⟩⟩
def putF (f : ByteArray → Option Int) (k : ByteArray) (v : Option Int) : ByteArray → Option Int := fun s => if s = k then v else f s

/-- An entry of a map's literal. -/
theorem wpM_insert (w0 w : World) {ops : Array Oper} {rest : List Oper} {o : Oper} {a : Act} {Q : Exit → Act → World → Prop} (hg : o.guard = none) (m x v : Operand) (hop : o.op = Op.insert 85 m x v)
    (base B n : Nat) (f : ByteArray → Option Int) (key : ByteArray) (val : Int) (hm : a.eval m = .map (some B)) (hM : MapIs w B n f) (hx : a.eval x = .string key) (hv : a.eval v = .int .i64 val)
    (hlen : key.size ≤ 100) (hw : (Lit.int .i64 val).wf = true) (hn : n ≤ 1000) (hB : Below base w0 w) (hbB : base ≤ B)
    (hK : ∀ w', MapIs w' B (n + 1) (putF f key (some val)) → Below base w0 w' → wpList Try.prog ops Q rest (a.put o.dst undef) w') :
    wpList Try.prog ops Q (o :: rest) a w := by
  obtain ⟨D, hown, hf⟩ := hM
  refine wpList_plain hg fun K' hK' => ?_
  have hl : key.size ≤ maxLen := by unfold maxLen; omega
  obtain ⟨w', hrun, r1, r2⟩ := hown.update keyS Try.underlying85 (by unfold maxLen; omega) (WideMaps.keyOf_string_mk Try.underlying9 hl) (plainElem_int Try.underlying3 hw)
  unfold Oper.wp
  simp [execOp, hop, hm, hx, hv, hrun, Result.andThen]
  refine hK' _ _ (hK w' ⟨_, r1, fun s => ?_⟩ (hB.grown r2 (Nat.le_of_lt (Nat.lt_of_le_of_lt hbB hown.lt)) (fun k hk => by cases hk; exact hbB)))
  unfold putF
  by_cases e : s = key
  · subst e
    rw [if_pos rfl]
    have hk : WideAt.IsKeyLit (litS s) := trivial
    exact ⟨has_put_same hown.isMap hk _, fun v hv z => by cases hv; exact atKey_put_same hown.isMap hk _ _⟩
  · rw [if_neg e]
    have hne : litS s ≠ litS key := fun h => e (litS_inj h)
    exact ⟨(has_put_other hne _).trans (hf s).1, fun v hv z => (atKey_put_other hne _ _).trans ((hf s).2 v hv z)⟩

/-- 'v, ok := m[k]'. -/
theorem wpM_look (w : World) {ops : Array Oper} {rest : List Oper} {o : Oper} {a : Act} {Q : Exit → Act → World → Prop} (hg : o.guard = none) (m x : Operand) (hop : o.op = Op.lookup 85 m x true)
    (B n : Nat) (f : ByteArray → Option Int) (key : ByteArray) (hm : a.eval m = .map (some B)) (hM : MapIs w B n f) (hx : a.eval x = .string key) (hlen : key.size ≤ maxLen)
    (hK : wpList Try.prog ops Q rest (a.put o.dst (.tuple #[.int .i64 ((f key).getD 0), .bool (f key).isSome])) w) :
    wpList Try.prog ops Q (o :: rest) a w := by
  obtain ⟨D, hown, hf⟩ := hM
  refine wpList_lookup_own_ok_int w hg m x _ hop 9 3 .i64 keyS Try.underlying85 Try.underlying3 (zeroI _) B n D hm hown _ _ hx (WideMaps.keyOf_string_mk Try.underlying9 hlen) fun c hc _ => ?_
  obtain ⟨h1, h2⟩ := hf key
  rw [show Maps.has D (.string key.data.toList) = (f key).isSome from h1]
  cases e : f key with
  | none =>
    rw [e] at h1 hK
    have := atKey_of_not_has h1 (.lit (.int .i64 0))
    rw [show D.atKey (.string key.data.toList) (.lit (.int .i64 0)) = _ from this] at hc
    cases hc
    exact hK
  | some v =>
    rw [e] at hK
    have := h2 v e (.lit (.int .i64 0))
    rw [show D.atKey (.string key.data.toList) (.lit (.int .i64 0)) = _ from this] at hc
    cases hc
    exact hK

/-- 'delete(m, k)'. -/
theorem wpM_delete (w0 w : World) {ops : Array Oper} {rest : List Oper} {o : Oper} {a : Act} {Q : Exit → Act → World → Prop} (hg : o.guard = none) (m x : Operand) (hop : o.op = Op.call { callee := Callee.builtin Builtin.delete, args := #[m, x], argTypes := #[85, 9] })
    (base B n : Nat) (f : ByteArray → Option Int) (key : ByteArray) (hm : a.eval m = .map (some B)) (hM : MapIs w B n f) (hx : a.eval x = .string key) (hlen : key.size ≤ 100) (hB : Below base w0 w) (hbB : base ≤ B)
    (hK : ∀ w', MapIs w' B n (putF f key none) → Below base w0 w' → wpList Try.prog ops Q rest (a.put o.dst (.tuple #[])) w') :
    wpList Try.prog ops Q (o :: rest) a w := by
  obtain ⟨D, hown, hf⟩ := hM
  have hl : key.size ≤ maxLen := by unfold maxLen; omega
  refine wpList_delete_own w hg m x _ 9 hop 3 keyS Try.underlying85 _ B n D hm hown _ _ hx (WideMaps.keyOf_string_mk Try.underlying9 hl) fun w' r1 r2 => ?_
  refine hK w' ⟨_, r1, fun s => ?_⟩ (hB.grown r2.grown (Nat.le_of_lt (Nat.lt_of_le_of_lt hbB hown.lt)) (fun k hk => by cases hk; exact hbB))
  unfold putF
  by_cases e : s = key
  · subst e
    rw [if_pos rfl]
    exact ⟨has_del_same, fun v hv => by cases hv⟩
  · rw [if_neg e]
    have hne : litS s ≠ litS key := fun h => e (litS_inj h)
    exact ⟨(has_del_other hne).trans (hf s).1, fun v hv z => (atKey_del_other hne _).trans ((hf s).2 v hv z)⟩

def nameList : List ByteArray := [⟨#[109, 117, 108]⟩, ⟨#[100, 105, 118]⟩, ⟨#[115, 113, 114, 116]⟩, ⟨#[104, 121, 112, 111, 116]⟩, ⟨#[101, 120, 112]⟩, ⟨#[108, 111, 103]⟩, ⟨#[115, 105, 110]⟩, ⟨#[99, 111, 115]⟩, ⟨#[116, 97, 110]⟩, ⟨#[97, 116, 97, 110]⟩, ⟨#[97, 116, 97, 110, 50]⟩, ⟨#[115, 105, 110, 104]⟩, ⟨#[99, 111, 115, 104]⟩, ⟨#[116, 97, 110, 104]⟩, ⟨#[97, 116, 97, 110, 104]⟩]
/-- The number of a name, where it is one. -/
def numOf (s : ByteArray) : Option Int := if placeR s nameList 0 < 0 then none else some (placeR s nameList 0)
/-- The literal's entries, one put behind the other. -/
def fillF : List ByteArray → Nat → (ByteArray → Option Int) → ByteArray → Option Int
  | [], _, f => f
  | x :: r, k, f => fillF r (k + 1) (putF f x (some (k : Int)))
theorem fill_at (s : ByteArray) : ∀ (xs : List ByteArray) (k : Nat) (f : ByteArray → Option Int), xs.Nodup → fillF xs k f s = if placeR s xs k < 0 then f s else some (placeR s xs k)
  | [], k, f, _ => by simp [fillF, placeR]
  | x :: r, k, f, hn => by
    have ih := fill_at s r (k + 1) (putF f x (some (k : Int))) (List.nodup_cons.1 hn).2
    show fillF r (k + 1) (putF f x (some (k : Int))) s = _
    rw [ih]
    have hp : ∀ (ys : List ByteArray) (m : Nat), s ∉ ys → placeR s ys m = -1 := by
      intro ys
      induction ys with
      | nil => intro m _; rfl
      | cons y t iht =>
        intro m hm
        rw [List.mem_cons, not_or] at hm
        show (if y = s then _ else _) = _
        rw [if_neg (fun e => hm.1 e.symm)]
        exact iht _ hm.2
    by_cases e : x = s
    · subst e
      have hx : placeR x r (k + 1) = -1 := hp r _ (List.nodup_cons.1 hn).1
      have h2 : placeR x (x :: r) k = k := by show (if x = x then _ else _) = _; rw [if_pos rfl]
      rw [hx, h2, if_pos (by omega), if_neg (by omega)]
      unfold putF
      rw [if_pos rfl]
    · have h2 : placeR s (x :: r) k = placeR s r (k + 1) := by show (if x = s then _ else _) = _; rw [if_neg e]
      have h3 : putF f x (some (k : Int)) s = f s := if_neg (fun h => e h.symm)
      rw [h2, h3]
theorem names_nodup : nameList.Nodup := by decide +kernel
theorem fill_names : fillF nameList 0 (fun _ => none) = numOf := by
  funext s
  rw [fill_at s nameList 0 _ names_nodup]
  rfl

set_option maxRecDepth 20000 in
set_option maxHeartbeats 3200000 in
theorem iNumbers (w : World) : Calls Try.prog 69 #[] w fun e w' => e = .returned (.map (some w.heap.size)) ∧ MapIs w' w.heap.size 15 numOf ∧ Below w.heap.size w w' := by
  rw [← fill_names]
  have hmm := @run_makeMap Try.prog
  have hM := MapIs.made w
  have hB := below_new w (.map #[] 0)
  go_enter Try.func69, Try.ntmps69
  go_wp2_with (first | (refine wpM_insert w _ rfl _ _ _ rfl w.heap.size w.heap.size _ _ _ _ rfl hM rfl rfl (by decide) (by decide) (by decide) hB (Nat.le_refl _) ?_; clear hM hB; intro w1 hM hB) | go_in)
  go_ret
  exact ⟨rfl, hM, hB⟩

end Go.Proofs.Ytocaaklhlmnonaa
