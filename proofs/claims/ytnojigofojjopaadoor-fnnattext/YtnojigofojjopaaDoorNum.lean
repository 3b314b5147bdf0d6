/- Decimal texts: their numbers, and which texts are a number's own digits (plain facts, no program). -/
import Derived.Below
namespace Go.Proofs.YtnojigofojjopaaDoor

def isDig (c : UInt8) : Prop := 48 ≤ c.toNat ∧ c.toNat ≤ 57
instance (c : UInt8) : Decidable (isDig c) := by unfold isDig; infer_instance
def val (l : List UInt8) : Nat := l.foldl (fun a c => 10 * a + (c.toNat - 48)) 0
theorem val_snoc (l : List UInt8) (c : UInt8) : val (l ++ [c]) = 10 * val l + (c.toNat - 48) := by simp [val, List.foldl_append]
theorem val_lt (l : List UInt8) (h : ∀ c ∈ l, isDig c) : val l < 10 ^ l.length := by
  suffices ∀ (r : List UInt8), (∀ c ∈ r.reverse, isDig c) → val r.reverse < 10 ^ r.length by
    have := this l.reverse (by simpa using h); simpa using this
  intro r
  induction r with
  | nil => intro _; simp [val]
  | cons c r ih =>
    intro h
    simp only [List.reverse_cons] at h ⊢
    have h1 := ih (fun x hx => h x (by simp at hx ⊢; exact .inl hx))
    have h2 : isDig c := h c (by simp)
    rw [val_snoc, List.length_cons, Nat.pow_succ]
    unfold isDig at h2
    omega

/-- A text that begins with no nought has a number of as many digits. -/
theorem val_ge (c : UInt8) (hc : isDig c) (h48 : c ≠ 48) : ∀ r : List UInt8, (∀ x ∈ r.reverse, isDig x) → 10 ^ r.length ≤ val (c :: r.reverse) := by
  intro r
  induction r with
  | nil =>
    intro _
    have : c.toNat ≠ 48 := fun e => h48 (by apply UInt8.toNat_inj.1; simpa using e)
    unfold isDig at hc
    simp [val]
    omega
  | cons x r ih =>
    intro h
    simp only [List.reverse_cons] at h ⊢
    have h1 := ih (fun y hy => h y (by simp at hy ⊢; exact .inl hy))
    have h2 : isDig x := h x (by simp)
    rw [← List.cons_append, val_snoc, List.length_cons, Nat.pow_succ]
    omega
theorem val_ge' (c : UInt8) (r : List UInt8) (hc : isDig c) (h48 : c ≠ 48) (h : ∀ x ∈ r, isDig x) : 10 ^ r.length ≤ val (c :: r) := by
  have := val_ge c hc h48 r.reverse (by simpa using h)
  simpa using this

/-- The decimal digits of a number ahead of 'out'. -/
def digL (k : Nat) (out : List UInt8) : List UInt8 := if 0 < k then digL (k / 10) ((48 + UInt8.ofNat (k % 10)) :: out) else out
  termination_by k
  decreasing_by omega
theorem digL_pos (k : Nat) (out : List UInt8) (h : 0 < k) : digL k out = digL (k / 10) ((48 + UInt8.ofNat (k % 10)) :: out) := by
  conv => lhs; rw [digL]
  rw [if_pos h]
theorem digL_zero (out : List UInt8) : digL 0 out = out := by rw [digL]; simp
def numL (k : Nat) : List UInt8 := if k = 0 then [48] else digL k []

theorem byte_of_dig (c : UInt8) (h : isDig c) (q : Nat) : 48 + UInt8.ofNat ((10 * q + (c.toNat - 48)) % 10) = c := by
  unfold isDig at h
  apply UInt8.toNat_inj.1
  rw [UInt8.toNat_add, UInt8.toNat_ofNat']
  have : (48 : UInt8).toNat = 48 := rfl
  omega

/-- A text of digits that begins with no nought is its number's own text. -/
theorem digL_val (c : UInt8) (hc : isDig c) (h48 : c ≠ 48) : ∀ (r out : List UInt8), (∀ x ∈ r.reverse, isDig x) → digL (val (c :: r.reverse)) out = c :: r.reverse ++ out := by
  intro r
  induction r with
  | nil =>
    intro out h
    have h1 := val_ge c hc h48 [] (by simp)
    have e : val [c] = 10 * 0 + (c.toNat - 48) := by simp [val]
    rw [List.reverse_nil] at h1 ⊢
    rw [digL_pos _ _ (by simp at h1; omega), e, byte_of_dig c hc 0]
    have : (10 * 0 + (c.toNat - 48)) / 10 = 0 := by unfold isDig at hc; omega
    rw [this, digL_zero]; rfl
  | cons x r ih =>
    intro out h
    simp only [List.reverse_cons] at h ⊢
    have h1 := val_ge c hc h48 r (fun y hy => h y (by simp at hy ⊢; exact .inl hy))
    have hp : 0 < 10 ^ r.length := Nat.pow_pos (by omega)
    have h2 : isDig x := h x (by simp)
    rw [← List.cons_append, val_snoc, digL_pos _ _ (by omega), byte_of_dig x h2]
    have : (10 * val (c :: r.reverse) + (x.toNat - 48)) / 10 = val (c :: r.reverse) := by unfold isDig at h2; omega
    rw [this, ih _ (fun y hy => h y (by simp at hy ⊢; exact .inl hy))]
    simp
theorem numL_val (c : UInt8) (r : List UInt8) (hc : isDig c) (h48 : c ≠ 48) (h : ∀ x ∈ r, isDig x) : numL (val (c :: r)) = c :: r := by
  have h1 := val_ge' c r hc h48 h
  have hp : 0 < 10 ^ r.length := Nat.pow_pos (by omega)
  have h2 := digL_val c hc h48 r.reverse [] (by simpa using h)
  rw [numL, if_neg (by omega)]
  simpa using h2

/-- The text of a number that is not 0 begins with no nought. -/
theorem digL_head (k : Nat) : ∀ out, 0 < k → ∃ c r, digL k out = c :: r ∧ c ≠ 48 := by
  induction k using Nat.strongRecOn with
  | ind k ih =>
    intro out h
    rw [digL_pos k out h]
    by_cases hq : 0 < k / 10
    · exact ih (k / 10) (by omega) _ hq
    · have : k / 10 = 0 := by omega
      rw [this, digL_zero]
      refine ⟨_, _, rfl, fun e => ?_⟩
      have := congrArg UInt8.toNat e
      rw [UInt8.toNat_add, UInt8.toNat_ofNat'] at this
      have h48 : (48 : UInt8).toNat = 48 := rfl
      omega
theorem numL_nought (r : List UInt8) (hr : r ≠ []) (k : Nat) : numL k ≠ 48 :: r := by
  intro e
  unfold numL at e
  split at e
  · simp at e; exact hr e
  · obtain ⟨c, r', h1, h2⟩ := digL_head k [] (by omega)
    rw [h1] at e
    simp at e
    exact h2 e.1

/-- Which texts are a number's. -/
def good (l : List UInt8) : Prop := 1 ≤ l.length ∧ l.length ≤ 6 ∧ (∀ c ∈ l, isDig c) ∧ (l.head? = some 48 → l.length = 1)
instance (l : List UInt8) : Decidable (good l) := by unfold good; infer_instance
theorem good_text (l : List UInt8) (h1 : 1 ≤ l.length) (h6 : l.length ≤ 6) (hd : ∀ c ∈ l, isDig c) : good l ↔ numL (val l) = l := by
  match l, h1 with
  | c :: r, _ =>
    by_cases h48 : c = 48
    · subst h48
      by_cases hr : r = []
      · subst hr
        exact ⟨fun _ => by simp [val, numL], fun _ => ⟨by simp, by simp, hd, by simp⟩⟩
      · refine ⟨fun h => ?_, fun h => absurd h (numL_nought r hr _)⟩
        have := h.2.2.2 rfl
        simp at this
        exact absurd this hr
    · refine ⟨fun _ => numL_val c r (hd c (by simp)) h48 (fun x hx => hd x (by simp [hx])), fun _ => ⟨by simp, h6, hd, fun e => ?_⟩⟩
      simp at e
      exact absurd e h48
theorem good_lt (l : List UInt8) (h : good l) : val l ≤ 999999 := by
  have h1 := val_lt l h.2.2.1
  have h2 : 10 ^ l.length ≤ 10 ^ 6 := Nat.pow_le_pow_right (by omega) h.2.1
  omega
/-- What the program asks is what the specification asks. -/
theorem good_of_small (c : UInt8) (r : List UInt8) (hd : ∀ x ∈ c :: r, isDig x) (h0 : ¬ (c = 48 ∧ r ≠ [])) (hv : val (c :: r) ≤ 999999) : good (c :: r) := by
  by_cases h48 : c = 48
  · have hr : r = [] := Classical.byContradiction fun h => h0 ⟨h48, h⟩
    subst hr
    exact ⟨by simp, by simp, hd, by simp⟩
  · have h1 := val_ge' c r (hd c (by simp)) h48 (fun x hx => hd x (by simp [hx]))
    refine ⟨by simp, ?_, hd, fun e => by simp at e; exact absurd e h48⟩
    rw [List.length_cons]
    apply Classical.byContradiction
    intro hn
    have h2 : 10 ^ 6 ≤ 10 ^ r.length := Nat.pow_le_pow_right (by omega) (by omega)
    omega

def numR (l : List UInt8) : Int × Bool := if good l then ((val l : Int), true) else (0, false)

end Go.Proofs.YtnojigofojjopaaDoor
