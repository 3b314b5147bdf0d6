/- The program's greatRead and NatFrom, each by its contract. -/
import Derived.Test.YtnojigofojjopaaDoorGDig
import Derived.Test.YtnojigofojjopaaDoorGList
namespace Go.Proofs.YtnojigofojjopaaDoor
open Go.RowKit

/-- What is answered of a text that is read: the number that NatFrom tells where it fits, or none. -/
def readA (s : ByteArray) (w : World) (e : Ending) (w' : World) : Prop := ∃ (N : Nat) (ok : Bool), e = .returned (.tuple #[.agg (gC N), .bool ok]) ∧ (limbs N).length ≤ 49 ∧ (ok = true → fromR s = fitR N) ∧ (ok = false → fromR s = ([], false)) ∧ Below w.heap.size w w'
theorem readA.no {s : ByteArray} {w w' : World} (N : Nat) (hl : (limbs N).length ≤ 49) (h : fromR s = ([], false)) (hb : Below w.heap.size w w') : readA s w (.returned (.tuple #[.agg (gC N), .bool false])) w' :=
  ⟨N, false, rfl, hl, (fun h => by cases h), fun _ => h, hb⟩
theorem readA.yes {s : ByteArray} {w w' : World} {V : Nat} (hl : (limbs V).length ≤ 49) (h : fromR s = fitR V) (hb : Below w.heap.size w w') : readA s w (.returned (.tuple #[.agg (gC V), .bool true])) w' :=
  ⟨V, true, rfl, hl, fun _ => h, (fun h => by cases h), hb⟩

theorem read_yes (c : UInt8) (r : List UInt8) (hd : ∀ x ∈ c :: r, isDig x) (h0 : ¬ (c = 48 ∧ r ≠ [])) (hl : (limbs (val (c :: r))).length ≤ 48) : fromOk (c :: r) := by
  have hc : isDig c := hd c (by simp)
  have hr : ∀ x ∈ r, isDig x := fun x hx => hd x (by simp [hx])
  have hlt : val (c :: r) < 10 ^ 348 := by
    have h1 := limbs_lt (val (c :: r))
    have h2 : (16777216 : Nat) ^ (limbs (val (c :: r))).length ≤ 16777216 ^ 48 := Nat.pow_le_pow_right (by omega) hl
    exact Nat.lt_trans (Nat.lt_of_lt_of_le h1 h2) (by decide +kernel)
  by_cases h48 : c = 48
  · have hr0 : r = [] := by
      apply Classical.byContradiction
      intro h
      exact h0 ⟨h48, h⟩
    subst hr0 h48
    refine ⟨by simp, by simp, hd, hl, ?_⟩
    decide
  · refine ⟨by simp, ?_, hd, hl, numL_val c r hc h48 hr⟩
    have h1 := val_ge' c r hc h48 hr
    have h2 : r.length < 348 := by
      apply Classical.byContradiction
      intro h
      have h3 := Nat.pow_le_pow_right (show 0 < 10 by omega) (Nat.le_of_not_lt h)
      have h4 : (10 : Nat) ^ 348 ≤ val (c :: r) := Nat.le_trans h3 h1
      exact absurd hlt (Nat.not_lt.2 h4)
    simp; omega

/-- What the digits tell is what NatFrom tells, where no nought is ahead of others. -/
theorem read_fit (l : List UInt8) (hne : l ≠ []) (h0 : ¬ (l.head? = some 48 ∧ 1 < l.length)) (hd : ∀ x ∈ l, isDig x) : (if fromOk l then (limbs (val l), true) else ([], false)) = fitR (val l) := by
  obtain ⟨c, r, rfl⟩ : ∃ c r, l = c :: r := by
    cases l with
    | nil => exact absurd rfl hne
    | cons c r => exact ⟨c, r, rfl⟩
  by_cases hl : (limbs (val (c :: r))).length ≤ 48
  · rw [if_pos (read_yes c r hd (fun h => h0 ⟨by rw [h.1]; rfl, by
      have : 0 < r.length := List.length_pos_iff.2 h.2
      simp; omega⟩) hl)]
    unfold fitR
    rw [if_pos hl]
  · rw [if_neg (fun h => hl h.2.2.2.1)]
    unfold fitR
    rw [if_neg hl]
theorem read_no (l : List UInt8) (h : l = [] ∨ (l.head? = some 48 ∧ 1 < l.length) ∨ ¬ ((∀ x ∈ l, isDig x) ∧ (limbs (val l)).length ≤ 48)) : ¬ fromOk l := by
  intro hf
  obtain ⟨f1, f2, f3, f4, f5⟩ := hf
  rcases h with h | h | h
  · subst h; simp at f1
  · obtain ⟨h1, h2⟩ := h
    cases l with
    | nil => simp at h2
    | cons c r =>
      simp at h1
      subst h1
      refine numL_nought r ?_ _ f5
      intro e
      subst e
      simp at h2
  · exact h ⟨f3, f4⟩

theorem bytes_nil {s : ByteArray} (h : s.size = 0) : s = ⟨#[]⟩ := by
  obtain ⟨d⟩ := s
  have : d.size = 0 := h
  congr
  exact Array.eq_empty_of_size_eq_zero this
theorem bytes_ne {s : ByteArray} (h : 0 < s.size) : ¬ s.toList = [] := by
  rw [ByteArray.toList_eq]
  intro e
  have : s.data.size = 0 := by rw [← Array.length_toList, e]; rfl
  have h2 : s.size = s.data.size := rfl
  omega
theorem head_at {s : ByteArray} (h : 0 < s.size) : s.data.toList.head? = some s[0] ∧ s.data.toList ≠ [] ∧ s.data.toList.length = s.size := by
  have hl : s.data.toList.length = s.size := by rw [Array.length_toList]; rfl
  refine ⟨?_, ?_, hl⟩
  · rw [List.head?_eq_getElem?, List.getElem?_eq_getElem (by omega)]
    rfl
  · intro e
    rw [e] at hl
    simp at hl
    omega

set_option maxHeartbeats 3200000 in
set_option maxRecDepth 20000 in
theorem gRead (s : ByteArray) (w : World) (hs : s.size ≤ 1048576) :
    Calls Tryd.prog 34 #[.string s] w (readA s w) := by
  have R0 := GB.made0 w
  have B0 := alloc_below w (.cells Tryd.zeroCells50 50)
  have z0 : (limbs 0).length ≤ 49 := by rw [limbs_zero]; simp
  by_cases h0 : s.size = 0
  · obtain rfl := bytes_nil h0
    have HX : Hid (fromR ⟨#[]⟩ = ([], false)) := by show _ = _; unfold fromR; rw [if_neg (read_no _ (.inl rfl))]
    clear h0 hs
    go_enter Tryd.func34, Tryd.ntmps34
    go_wp2_with (first | ((with_reducible (refine wpL_id ?_)); refine wpG_build0 rfl rfl ?_) | ((with_reducible (refine wpL_id ?_)); refine wpN_store rfl (.tmp 2) (.tmp 16) rfl w.heap.size _ _ 0 rfl rfl R0 (by rw [limbs_zero]; simp) ?_; intro w6 g6 t6 s6))
    (try simp only [Exit.inBlock, Exit.then])
    refine bodyPost_ret (v := .tuple #[.agg (gC 0), .bool false]) ?_ rfl (readA.no 0 z0 HX.out (t6.below B0 B0.size (by simp)))
    exact results_great_tmp rfl _ _ w.heap.size _ _ _ rfl rfl g6
  · have hp : 0 < s.size := by omega
    have hp' : (0 : Int) < (s.size : Int) := by omega
    have ene := bytes_ne hp
    have enb : s.toList.isEmpty = false := by simpa using ene
    obtain ⟨hh, hne, hlen⟩ := head_at hp
    have hc255 : s[0].toNat < 256 := s[0].toNat_lt
    by_cases hz : s[0] = 48 ∧ 1 < s.size
    · have HX : Hid (fromR s = ([], false)) := by show _ = _; unfold fromR; rw [if_neg (read_no _ (.inr (.inl ⟨by rw [hh, hz.1], by omega⟩)))]
      have e48 : s[0].toNat = 48 := by rw [hz.1]; rfl
      have e48' : ((s[0].toNat : Int) == 48) = true := by rw [e48]; rfl
      have h1 : decide ((1 : Int) < (s.size : Int)) = true := decide_eq_true (by omega)
      have h1' : (1 : Int) < (s.size : Int) := by omega
      clear hz hh hne hlen
      go_enter Tryd.func34, Tryd.ntmps34
      go_wp2_with (first | ((with_reducible (refine wpL_id ?_)); refine wpG_build0 rfl rfl ?_) | ((with_reducible (refine wpL_id ?_)); refine wpN_store rfl (.tmp 2) (.tmp 16) rfl w.heap.size _ _ 0 rfl rfl R0 (by rw [limbs_zero]; simp) ?_; intro w6 g6 t6 s6))
      (try simp only [Exit.inBlock, Exit.then])
      refine bodyPost_ret (v := .tuple #[.agg (gC 0), .bool false]) ?_ rfl (readA.no 0 z0 HX.out (t6.below B0 B0.size (by simp)))
      exact results_great_tmp rfl _ _ w.heap.size _ _ _ rfl rfl g6
    · have kD := fun W => gDigits s W hs
      have HZ : Hid (∀ (N : Nat) (ok : Bool), (ok = true → (∀ c ∈ s.data.toList, isDig c) ∧ N = val s.data.toList) → (ok = false → ¬ ((∀ c ∈ s.data.toList, isDig c) ∧ (limbs (val s.data.toList)).length ≤ 48)) → (ok = true → fromR s = fitR N) ∧ (ok = false → fromR s = ([], false))) := by
        intro N ok h1 h2
        constructor
        · intro h
          obtain ⟨hd, rfl⟩ := h1 h
          exact read_fit _ hne (fun q => hz ⟨by have := q.1; rw [hh] at this; exact Option.some.inj this, by have := q.2; omega⟩) hd
        · intro h
          unfold fromR
          rw [if_neg (read_no _ (.inr (.inr (h2 h))))]
      have hend : ∀ W, Below w.heap.size w W → GB W w.heap.size (List.replicate 98 0) 0 → True := fun _ _ _ => trivial
      by_cases h48 : s[0] = 48
      · have e48 : s[0].toNat = 48 := by rw [h48]; rfl
        have e48' : ((s[0].toNat : Int) == 48) = true := by rw [e48]; rfl
        have h1 : decide ((1 : Int) < (s.size : Int)) = false := decide_eq_false (fun q => hz ⟨h48, by omega⟩)
        have h1' : ¬ ((1 : Int) < (s.size : Int)) := fun q => hz ⟨h48, by omega⟩
        clear hz hh hne hlen h48
        go_enter Tryd.func34, Tryd.ntmps34
        go_wp2_with fail
        refine (kD _).mono ?_
        rintro e w1 ⟨N, ok, rfl, hl, q1, q2, b1⟩
        have R1 := R0.below b1 R0.lt
        have B1 := B0.trans (b1.mono B0.size)
        obtain ⟨p1, p2⟩ := HZ.out N ok q1 q2
        have HP : Hid ((ok = true → fromR s = fitR N) ∧ (ok = false → fromR s = ([], false))) := ⟨p1, p2⟩
        clear q1 q2 p1 p2 HZ kD
        go_wp2_with (first | ((with_reducible (refine wpL_id ?_)); refine wpN_store rfl (.tmp 2) (.tmp 19) rfl w.heap.size _ _ N rfl rfl R1 (by omega) ?_; intro w6 g6 t6 s6))
        (try simp only [Exit.inBlock, Exit.then])
        refine bodyPost_ret (v := .tuple #[.agg (gC N), .bool ok]) ?_ rfl ?_
        · exact results_great_tmp rfl _ _ w.heap.size _ _ _ rfl rfl g6
        · exact ⟨N, ok, rfl, hl, HP.out.1, HP.out.2, t6.below B1 B1.size (by simp)⟩
      · have e48' : ((s[0].toNat : Int) == 48) = false := by
          rw [beq_eq_false_iff_ne]
          intro e
          apply h48
          have e2 : s[0].toNat = 48 := by omega
          exact UInt8.toNat_inj.1 e2
        clear hz hh hne hlen h48
        go_enter Tryd.func34, Tryd.ntmps34
        go_wp2_with fail
        refine (kD _).mono ?_
        rintro e w1 ⟨N, ok, rfl, hl, q1, q2, b1⟩
        have R1 := R0.below b1 R0.lt
        have B1 := B0.trans (b1.mono B0.size)
        obtain ⟨p1, p2⟩ := HZ.out N ok q1 q2
        have HP : Hid ((ok = true → fromR s = fitR N) ∧ (ok = false → fromR s = ([], false))) := ⟨p1, p2⟩
        clear q1 q2 p1 p2 HZ kD
        go_wp2_with (first | ((with_reducible (refine wpL_id ?_)); refine wpN_store rfl (.tmp 2) (.tmp 19) rfl w.heap.size _ _ N rfl rfl R1 (by omega) ?_; intro w6 g6 t6 s6))
        (try simp only [Exit.inBlock, Exit.then])
        refine bodyPost_ret (v := .tuple #[.agg (gC N), .bool ok]) ?_ rfl ?_
        · exact results_great_tmp rfl _ _ w.heap.size _ _ _ rfl rfl g6
        · exact ⟨N, ok, rfl, hl, HP.out.1, HP.out.2, t6.below B1 B1.size (by simp)⟩

set_option maxHeartbeats 3200000 in
set_option maxRecDepth 20000 in
theorem iNatFrom (s : ByteArray) (w : World) (hs : s.size ≤ 1048576) :
    Calls Tryd.prog 17 #[.string s] w (ansI w (fromR s)) := by
  have kR := fun W => gRead s W hs
  go_enter Tryd.func17, Tryd.ntmps17
  go_wp2_with fail
  refine (kR _).mono ?_
  rintro e w1 ⟨N, ok, rfl, hl, q1, q2, b1⟩
  have R0 := GB.made0 w1
  have B1 := b1.alloc b1.size (.cells Tryd.zeroCells50 50)
  have hs1 := b1.size
  cases ok
  · have HX : Hid (fromR s = ([], false)) := q2 rfl
    clear q1 q2 kR
    go_wp2_with (first | ((with_reducible (refine wpL_id ?_)); refine wpN_store rfl (.tmp 4) (.tmp 9) rfl w1.heap.size _ _ N rfl rfl R0 (by omega) ?_; intro w6 g6 t6 s6; have B2 := t6.below B1 B1.size (by simp; omega)))
    go_ret2
    exact ⟨_, by rw [HX.out]; rfl, by rw [HX.out]; exact nil_own _ _, B2⟩
  · have HX : Hid (fromR s = fitR N) := q1 rfl
    have kL := fun W => gList N W (by omega)
    clear q1 q2 kR
    go_wp2_with (first | ((with_reducible (refine wpL_id ?_)); refine wpN_store rfl (.tmp 4) (.tmp 9) rfl w1.heap.size _ _ N rfl rfl R0 (by omega) ?_; intro w6 g6 t6 s6; have B2 := t6.below B1 B1.size (by simp; omega); have A6 := GN.ga g6 (by omega)) | ((with_reducible (refine wpL_id ?_)); refine wpA_load rfl (.tmp 4) rfl w1.heap.size 0 N rfl A6 ?_))
    refine (kL _).mono ?_
    rintro e w7 ⟨v7, rfl, o7, b7⟩
    go_wp2
    go_ret2
    exact ⟨v7, by rw [HX.out]; rfl, by rw [HX.out]; exact ownsI_mono o7 B2.size, B2.trans (b7.mono B2.size)⟩

end Go.Proofs.YtnojigofojjopaaDoor
