/- A number's bytes are read as it was; what stands between bytes, put together, is the text (plain facts). -/
import Derived.Test.YtnanabbkogakmaaDoorGetDefs
import Derived.Test.YtnanabbkogakmaaDoorPut
import Derived.Test.YtnanabbkogakmaaDoorCutI
namespace Go.Proofs.YtnanabbkogakmaaDoor
open Go.RowKit

theorem pow_next (k : Nat) : (128 : Int) ^ (k + 1) = 128 * 128 ^ k := by rw [Int.pow_succ]; omega

theorem drop_head {xs r : List Int} {i : Nat} {d : Int} (h : xs.drop i = d :: r) : i < xs.length ∧ xs.getD i 0 = d ∧ xs.drop (i + 1) = r := by
  have hlen : i < xs.length := by
    apply Classical.byContradiction; intro hn
    rw [List.drop_of_length_le (by omega)] at h; cases h
  have e := List.drop_eq_getElem_cons hlen
  rw [h] at e
  injection e with e1 e2
  refine ⟨hlen, ?_, e2.symm⟩
  rw [List.getD_eq_getElem?_getD, List.getElem?_eq_getElem hlen, e1]
  rfl

theorem getFrom_groups (xs post : List Int) (a : Nat) : ∀ (f : Nat) (m : Int) (k : Nat) (acc : Int) (g : Nat), xs.drop (a + k) = groups f m ++ post → 0 ≤ m → m < capOf f → f ≤ g → (0 < k → 0 < m) → acc + m * 128 ^ k ≤ 2147483647 →
    getFrom xs a (g + 1) k acc = some (acc + m * 128 ^ k, (a : Int) + k + (groups f m).length) := by
  intro f
  induction f with
  | zero =>
    intro m k acc g hd h0 h1 hg hk hmax
    have hm : m < 128 := by have : capOf 0 = 128 := rfl; omega
    have hgr : groups 0 m = [m] := rfl
    rw [hgr] at hd ⊢
    obtain ⟨hlen, hx, hd'⟩ := drop_head hd
    have e : m % 128 = m := by omega
    rw [getFrom_good xs a g k acc m hlen hx hm (by rw [e]; rintro (h | h); have := hk h.1; omega; omega), e]
    simp
  | succ f ih =>
    intro m k acc g hd h0 h1 hg hk hmax
    by_cases hm : 127 < m
    · have hgr : groups (f + 1) m = (m % 128 + 128) :: groups f (m / 128) := by simp [groups, hm]
      rw [hgr] at hd ⊢
      obtain ⟨hlen, hx, hd'⟩ := drop_head hd
      have e : (m % 128 + 128) % 128 = m % 128 := by omega
      have esum : acc + m % 128 * 128 ^ k + m / 128 * 128 ^ (k + 1) = acc + m * 128 ^ k := by
        have hdm : m = 128 * (m / 128) + m % 128 := by omega
        rw [pow_next]
        have h3 : m * (128 : Int) ^ k = (128 * (m / 128) + m % 128) * 128 ^ k := by rw [← hdm]
        rw [h3, Int.add_mul, Int.mul_assoc 128, Int.mul_left_comm (m / 128) 128]
        omega
      obtain ⟨g', rfl⟩ : ∃ g', g = g' + 1 := ⟨g - 1, by omega⟩
      rw [getFrom_more xs a (g' + 1) k acc _ hlen hx (by omega), e, ih (m / 128) (k + 1) _ g' hd' (by omega) (by rw [capOf_succ] at h1; omega) (by omega) (fun _ => by omega) (by rw [esum]; exact hmax), esum]
      simp only [List.length_cons, Option.some.injEq, Prod.mk.injEq, true_and]
      omega
    · have hgr : groups (f + 1) m = [m] := groups_last _ _ hm
      rw [hgr] at hd ⊢
      obtain ⟨hlen, hx, hd'⟩ := drop_head hd
      have e : m % 128 = m := by omega
      rw [getFrom_good xs a g k acc m hlen hx (by omega) (by rw [e]; rintro (h | h); have := hk h.1; omega; omega), e]
      simp

theorem getR_put (n : Int) (h0 : 0 ≤ n) (h1 : n ≤ 2147483647) : getR (7 :: (put n ++ [9])) 1 = some (n, 1 + ((put n).length : Int)) := by
  have hp : put n = groups 4 n := by rw [put, if_pos ⟨h0, h1⟩]
  unfold getR
  rw [if_neg (by omega)]
  have := getFrom_groups (7 :: (put n ++ [9])) [9] 1 4 n 0 0 4 (by rw [hp]; rfl) h0 (by rw [capOf_four]; omega) (by omega) (fun h => absurd h (by omega)) (by simpa using h1)
  simp only [Int.pow_zero, Int.mul_one, Int.zero_add] at this
  rw [hp] at this ⊢
  have e : ((1 : Int).toNat) = 1 := rfl
  rw [e, this]
  simp

theorem put_pos (n : Int) (h0 : 0 ≤ n) (h1 : n ≤ 2147483647) : 0 < (put n).length := by
  rw [put, if_pos ⟨h0, h1⟩]
  unfold groups
  split <;> simp

/-- Each byte of a number's is one. -/
theorem groups_byte (f : Nat) : ∀ (m : Int), 0 ≤ m → m < capOf f → ∀ x ∈ groups f m, 0 ≤ x ∧ x ≤ 255 := by
  induction f with
  | zero =>
    intro m h0 h1 x hx
    have : capOf 0 = 128 := rfl
    simp [groups] at hx; omega
  | succ f ih =>
    intro m h0 h1 x hx
    unfold groups at hx
    split at hx
    · rcases List.mem_cons.1 hx with rfl | hx
      · omega
      · exact ih (m / 128) (by omega) (by rw [capOf_succ] at h1; omega) x hx
    · simp at hx; omega
theorem put_byte (n : Int) : ∀ j, 0 ≤ (7 :: (put n ++ [9])).getD j 0 ∧ (7 :: (put n ++ [9])).getD j 0 ≤ 255 := by
  intro j
  rw [List.getD_eq_getElem?_getD]
  cases e : (7 :: (put n ++ [9]))[j]? with
  | none => simp
  | some x =>
    have hx := List.mem_of_getElem? e
    simp only [Option.getD_some]
    rcases List.mem_cons.1 hx with rfl | hx
    · omega
    · rcases List.mem_append.1 hx with hx | hx
      · unfold put at hx
        split at hx
        · rename_i h
          exact groups_byte 4 n h.1 (by rw [capOf_four]; omega) x hx
        · simp at hx
      · simp at hx; omega

/-- Texts put together with a byte between them. -/
def jn (b : UInt8) : List (List UInt8) → List UInt8
  | [] => []
  | p :: r => r.foldl (fun acc q => acc ++ b :: q) p
theorem jn_snoc (b : UInt8) (l : List (List UInt8)) (q : List UInt8) (h : l ≠ []) : jn b (l ++ [q]) = jn b l ++ b :: q := by
  match l, h with
  | p :: r, _ => simp [jn, List.foldl_append]
theorem jn_more (b : UInt8) (l : List (List UInt8)) (x y : List UInt8) : jn b (l ++ [x ++ y]) = jn b (l ++ [x]) ++ y := by
  by_cases h : l = []
  · subst h; simp [jn]
  · rw [jn_snoc b l _ h, jn_snoc b l _ h]; simp

def lists (ps : List ByteArray) : List (List UInt8) := ps.map fun p => p.data.toList

theorem jn_cut (s : ByteArray) (b : UInt8) (k : Nat) (hk : k ≤ s.size) : jn b (lists ((cutAt s (b.toNat : Int) k).1 ++ [s.extract (cutAt s (b.toNat : Int) k).2 k])) = s.data.toList.take k := by
  induction k with
  | zero => simp [cutAt, lists, jn]
  | succ k ih =>
    have ih := ih (by omega)
    have hlt : k < s.size := by omega
    have hle := (cutAt_le s (b.toNat : Int) k).2
    have htk : s.data.toList.take (k + 1) = s.data.toList.take k ++ [s[k]] := by
      rw [List.take_succ_eq_append_getElem (by simpa using hlt)]; rfl
    by_cases hb : (s[k].toNat : Int) = (b.toNat : Int)
    · have hbe : s[k] = b := UInt8.toNat_inj.1 (by omega)
      rw [cutAt_hit s _ k hlt hb, htk, hbe, ← ih]
      have e0 : (s.extract (k + 1) (k + 1)).data.toList = [] := by rw [Lib.extract_data]; simp
      simp only [lists, List.map_append, List.map_cons, List.map_nil, e0]
      rw [jn_snoc b _ _ (by simp)]
    · rw [cutAt_miss s _ k hlt hb, htk, ← ih]
      have e1 : (s.extract (cutAt s (b.toNat : Int) k).2 (k + 1)).data.toList = (s.extract (cutAt s (b.toNat : Int) k).2 k).data.toList ++ [s[k]] := by
        rw [Lib.extract_data, Lib.extract_data]
        have hl : s.data.toList.length = s.size := by rw [Array.length_toList]; rfl
        rw [show k + 1 - (cutAt s (b.toNat : Int) k).2 = (k - (cutAt s (b.toNat : Int) k).2) + 1 by omega, List.take_succ_eq_append_getElem (by rw [List.length_drop]; omega)]
        congr 2
        rw [List.getElem_drop]
        have : (cutAt s (b.toNat : Int) k).2 + (k - (cutAt s (b.toNat : Int) k).2) = k := by omega
        simp only [this]
        rfl
      simp only [lists, List.map_append, List.map_cons, List.map_nil, e1]
      rw [jn_more]
theorem jn_cuts (s : ByteArray) (b : UInt8) : jn b (lists (cuts s (b.toNat : Int))) = s.data.toList := by
  have := jn_cut s b s.size (Nat.le_refl _)
  rw [List.take_of_length_le (by rw [Array.length_toList]; exact Nat.le_refl _)] at this
  exact this

end Go.Proofs.YtnanabbkogakmaaDoor
