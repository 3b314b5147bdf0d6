/- Decide of the program, by its contract. -/
import Derived.Test.YtnplnekfeabneaaDecS
import Derived.Test.YtnplnekfeabneaaHeldB
import Derived.Test.YtnplnekfeabneaaJustB
import Derived.Test.YtnplnekfeabneaaMoved
import Derived.Test.YtnplnekfeabneaaBx1
namespace Go.Proofs.Ytnplnekfeabneaa
open Go.RowKit
set_option linter.unusedSimpArgs false

theorem results_two {fn : Func} {p q : Tmp} {ty ty' : TypeId} (h : fn.results = #[.cell p ty, .cell q ty']) (tmps : Array Value) (P : Program) (w : World) :
    (results fn tmps).run P w = ((asAddr (tmps.getD p undef)).run P w).andThen fun a w₁ => ((loadVar ty a).run P w₁).andThen fun v w₂ => ((asAddr (tmps.getD q undef)).run P w₂).andThen fun b w₃ => ((loadVar ty' b).run P w₃).andThen fun v' w₄ => .ok (.tuple #[v, v']) w₄ := by
  simp only [results, h]
  simp [Sem.run_bind, Result.andThen]

/-- What is decided fits. -/
theorem dec_fits {x y : Int} {m : Int} (k : Nat) (hk : 0 < k) (hle : x ≤ y) (m1 : (limbs x.natAbs).length ≤ 48) (m2 : (limbs y.natAbs).length ≤ 48) (hne : x ≠ y) (_ : fracI (x * 2 + 1) (2 ^ k) m = fracI (y * 2 - 1) (2 ^ k) m) : (fitW (fracI (x * 2 + 1) (2 ^ k) m)).2 = true := by
  obtain ⟨j, rfl⟩ : ∃ j, k = j + 1 := ⟨k - 1, by omega⟩
  have hq : (x * 2 + 1) / 2 ^ (j + 1) = x / 2 ^ j := by
    rw [Int.pow_succ, Int.mul_comm (2 ^ j) 2, ← Int.ediv_ediv_of_nonneg (by omega), show (x * 2 + 1) / 2 = x by omega]
  have ha := abs_ediv x j
  have hb : x / 2 ^ j ≤ max x 0 - 0 := by
    rcases Int.le_total 0 x with h | h
    · exact Int.le_trans (Int.ediv_le_self _ h) (by omega)
    · have hp : (0 : Int) < 2 ^ j := Int.pow_pos (by omega)
      have : x / 2 ^ j ≤ 0 := Int.le_trans (Int.ediv_le_ediv hp h) (by rw [Int.zero_ediv]; omega)
      omega
  have hlo : x < 0 → x / 2 ^ j < 0 := fun h => Int.ediv_neg_of_neg_of_pos h (Int.pow_pos (by omega))
  have hp : fracI (x * 2 + 1) (2 ^ (j + 1)) m = x / 2 ^ j ∨ fracI (x * 2 + 1) (2 ^ (j + 1)) m = x / 2 ^ j + 1 := by
    unfold fracI
    rw [hq]
    generalize x / 2 ^ j = q at *
    unfold pickI
    repeat' split
    all_goals omega
  have hn : (fracI (x * 2 + 1) (2 ^ (j + 1)) m).natAbs ≤ max x.natAbs y.natAbs := by
    generalize x / 2 ^ j = q at *
    generalize fracI (x * 2 + 1) (2 ^ (j + 1)) m = F at *
    rcases Int.le_total 0 x with h | h <;> rcases hp with e | e <;> omega
  have hl : (limbs (fracI (x * 2 + 1) (2 ^ (j + 1)) m).natAbs).length ≤ 48 := by
    rcases Nat.le_total x.natAbs y.natAbs with h | h
    · exact Nat.le_trans (limbs_mono (show _ ≤ y.natAbs by omega)) m2
    · exact Nat.le_trans (limbs_mono (show _ ≤ x.natAbs by omega)) m1
  unfold fitW
  rw [if_pos hl]

/-- A way out that is no panic. -/
def calm (Q : Exit → Act → World → Prop) : Exit → Act → World → Prop
  | .panic _, _, _ => False
  | e, a, w => Q e a w
theorem calm_of {Q : Exit → Act → World → Prop} : ∀ e a w, calm Q e a w → Q e a w := by
  intro e a w h
  cases e <;> first | exact h | exact h.elim
set_option maxHeartbeats 1600000 in
/-- What is deferred: where it is not decided, nought is handed back. -/
theorem cloYes (b c : Nat) (x0 x1 : Value) (w : World) (hb : w.cell? ⟨b, 0, none⟩ = some (.bool true)) (_h0 : w.cell? ⟨c, 0, none⟩ = some x0) (_h1 : w.cell? ⟨c, 1, none⟩ = some x1) (_f0 : w.frozen? ⟨c, 0, none⟩ = false) (_f1 : w.frozen? ⟨c, 1, none⟩ = false) :
    CallsD Try.prog 27 #[.pointer (some ⟨b, 0, none⟩), .pointer (some ⟨c, 0, none⟩)] .returning w fun e u' w' => u' = .returning ∧ e = .returned (.tuple #[]) ∧ w' = w := by
  refine callsD_of_wp (R := fun e w' => e = .returned (.tuple #[]) ∧ w' = w) Try.func27 rfl ?_
  simp only [Try.ntmps27, List.size_toArray, List.length_cons, List.length_nil, Nat.reduceAdd, Nat.reduceSub, Array.replicate_succ, Array.replicate_zero, List.push_toArray, List.append_toArray, List.nil_append, List.cons_append]
  go_wp2
  (try simp only [Exit.inBlock, Exit.then])
  refine bodyPost_end (results_none rfl _ _ _) rfl ⟨rfl, ?_⟩
  rfl
set_option maxHeartbeats 1600000 in
/-- What is deferred: where it is not decided, nought is handed back. -/
theorem cloNo (b c : Nat) (x0 x1 : Value) (w : World) (hb : w.cell? ⟨b, 0, none⟩ = some (.bool false)) (h0 : w.cell? ⟨c, 0, none⟩ = some x0) (h1 : w.cell? ⟨c, 1, none⟩ = some x1) (f0 : w.frozen? ⟨c, 0, none⟩ = false) (f1 : w.frozen? ⟨c, 1, none⟩ = false) :
    CallsD Try.prog 27 #[.pointer (some ⟨b, 0, none⟩), .pointer (some ⟨c, 0, none⟩)] .returning w fun e u' w' => u' = .returning ∧ e = .returned (.tuple #[]) ∧ w' = (w.setCell ⟨c, 0, none⟩ (.bool false)).setCell ⟨c, 1, none⟩ (.slice none 0 0) := by
  refine callsD_of_wp (R := fun e w' => e = .returned (.tuple #[]) ∧ w' = (w.setCell ⟨c, 0, none⟩ (.bool false)).setCell ⟨c, 1, none⟩ (.slice none 0 0)) Try.func27 rfl ?_
  simp only [Try.ntmps27, List.size_toArray, List.length_cons, List.length_nil, Nat.reduceAdd, Nat.reduceSub, Array.replicate_succ, Array.replicate_zero, List.push_toArray, List.append_toArray, List.nil_append, List.cons_append]
  go_wp2
  (try simp only [Exit.inBlock, Exit.then])
  refine bodyPost_end (results_none rfl _ _ _) rfl ⟨rfl, ?_⟩
  rfl

set_option maxRecDepth 20000 in
set_option maxHeartbeats 6400000 in
theorem iDecide (va : Value) (a : Vh) (p f m : Int) (w : World) (ha : rowV w va a) (hl0 : a.1.2.length ≤ 1048576) (hl1 : a.2.2.length ≤ 1048576) :
    Calls Try.prog 7 #[va, .int .i64 p, .int .i64 f, .int .i64 m] w fun e w' => ∃ v, e = .returned (.tuple #[v, .bool (decR a p f m).2]) ∧ ownsW w' w.heap.size v (decR a p f m).1 ∧ Below w.heap.size w w' := by
  have hmf : ∀ (fn : Fn) (first cap : Array Value) (w : World), (Instr.makeFunc fn first cap).run Try.prog w = .ok (.func fn first cap) w := fun _ _ _ _ => rfl
  have kA := fun W (h : Below w.heap.size w W) => heldAt_c va a p f W (ha.below h (Nat.le_refl _)) hl0 hl1
  by_cases hok : heldOk a p f = true
  case neg =>
    have hf : heldOk a p f = false := by simpa using hok
    rw [hf] at kA
    have HN : Hid (decR a p f m = ((false, []), false)) := by show _ = _; unfold decR; rw [if_neg (fun q => hok q.1)]
    generalize decR a p f m = rr at *
    clear hok hf hl0 hl1
    obtain ⟨s, t, rfl, hs, ht⟩ := ha
    obtain ⟨ad, cap, rfl, -⟩ := id hs
    obtain ⟨ae, cbp, rfl, -⟩ := id ht
    obtain ⟨g, hg⟩ : ∃ g, a.1.1 = g := ⟨_, rfl⟩
    obtain ⟨g', hg'⟩ : ∃ g, a.2.1 = g := ⟨_, rfl⟩
    obtain ⟨len, hlen⟩ : ∃ l, a.1.2.length = l := ⟨_, rfl⟩
    obtain ⟨len2, hlen2⟩ : ∃ l, a.2.2.length = l := ⟨_, rfl⟩
    rw [hg, hg', hlen, hlen2] at kA
    rw [hg, hg', hlen, hlen2]
    clear hs ht hg hg' hlen hlen2
    have s1 : (w.alloc (.cells #[.bool g, .slice ad len cap, .bool g', .slice ae len2 cbp] 32)).heap.size = w.heap.size + 1 := by simp
    have s2 : ((w.alloc (.cells #[.bool g, .slice ad len cap, .bool g', .slice ae len2 cbp] 32)).alloc (.cells #[.bool false, .slice none 0 0] 28)).heap.size = w.heap.size + 2 := by simp
    have V := ((BoxV.made w (.bool g) (.slice ad len cap) (.bool g') (.slice ae len2 cbp) 32).below (below1 _ (.cells #[.bool false, .slice none 0 0] 28)) (Nat.le_refl _)).below (below1 _ (.cells #[.bool false] 4)) (Nat.le_refl _)
    have R := (BoxW.made (w.alloc (.cells #[.bool g, .slice ad len cap, .bool g', .slice ae len2 cbp] 32)) (.bool false) (.slice none 0 0) 28).below (below1 _ (.cells #[.bool false] 4)) (Nat.le_refl _)
    rw [s1] at R
    have K := Bx1.made ((w.alloc (.cells #[.bool g, .slice ad len cap, .bool g', .slice ae len2 cbp] 32)).alloc (.cells #[.bool false, .slice none 0 0] 28)) (.bool false) 4
    rw [s2] at K
    have B := below3 w (.cells #[.bool g, .slice ad len cap, .bool g', .slice ae len2 cbp] 32) (.cells #[.bool false, .slice none 0 0] 28) (.cells #[.bool false] 4)
    clear s1 s2
    go_enter_defers Try.func7, Try.ntmps7
    go_wp2_with fail
    refine (kA _ B).mono ?_
    generalize ((w.alloc (.cells #[.bool g, .slice ad len cap, .bool g', .slice ae len2 cbp] 32)).alloc (.cells #[.bool false, .slice none 0 0] 28)).alloc (.cells #[.bool false] 4) = w0 at *
    rintro e w1 ⟨X, Y, rfl, b1, hXY⟩
    replace V := V.below b1 (Nat.le_refl _)
    replace R := R.below b1 (Nat.le_refl _)
    replace K := K.below b1 (Nat.le_refl _)
    replace B := B.trans (b1.mono B.size)
    clear b1
    have E := BoxW.made w1 (.pointer X) (.pointer Y) 51
    have bE := below1 w1 (.cells #[.pointer X, .pointer Y] 51)
    replace V := V.below bE (Nat.le_refl _)
    replace R := R.below bE (Nat.le_refl _)
    replace K := K.below bE (Nat.le_refl _)
    replace B := B.trans (bE.mono B.size)
    clear bE
    clear kA hXY E
    have Rc0 := R.c0
    have Rf0 := R.f0
    have Rc1 := R.c1
    have Rf1 := R.f1
    have Kc0 := K.c0
    have Kf0 := K.f0
    have HB := B
    have hR := R.hi
    have hK := K.hi
    clear V R K B
    go_wp2
    (try simp only [Exit.inBlock, Exit.then])
    refine ⟨.tuple #[.agg #[.bool false, .slice none 0 0], .bool false], ?_, _, by rw [HN.out], by rw [HN.out]; exact nilW _ _, (((HB.setCell (p := ⟨w.heap.size + 1, 0, none⟩) (by show w.heap.size ≤ w.heap.size + 1; omega) (.bool false)).setCell (p := ⟨w.heap.size + 1, 1, none⟩) (by show w.heap.size ≤ w.heap.size + 1; omega) (.slice none 0 0)).setCell (p := ⟨w.heap.size + 2, 0, none⟩) (by show w.heap.size ≤ w.heap.size + 2; omega) (.bool false))⟩
    rw [results_two rfl]
    go_simp
  have z := heldOk_yes hok
  have zv := okV_yes z.1
  have m1 := okW_lenV zv.1
  have m2 := okW_lenV zv.2.1
  obtain ⟨k, hk⟩ : ∃ k : Nat, p + 1 - f = k := ⟨(p + 1 - f).toNat, by omega⟩
  have hk1 : k ≤ 481 := by omega
  have hk0 : 0 < k := by omega
  have p0 : 1 ≤ p := z.2.1.1
  have p1 : p ≤ 480 := z.2.1.2
  have f0 : 0 ≤ f := z.2.2.1.1
  have f1 : f ≤ 60 := z.2.2.1.2
  have l1 := dbl_len (valW a.1) 1 m1 (by omega)
  have l2 := dbl_len (valW a.2) (-1) m2 (by omega)
  rw [show valW a.2 * 2 + -1 = valW a.2 * 2 - 1 by omega] at l2
  have kJ := fun i j W h1 h2 => just_c i j (valW a.1) (valW a.2) W h1 h2 m1 m2 l1.1 l2.1
  unfold spanE at kJ
  have hfit := dec_fits k hk0 zv.2.2 m1 m2 (m := m)
  rw [hok] at kA
  have HD : Hid (decR a p f m = if valW a.1 ≠ valW a.2 ∧ 0 ≤ m ∧ m ≤ 4 then (if fracI (valW a.1 * 2 + 1) (2 ^ k) m = fracI (valW a.2 * 2 - 1) (2 ^ k) m then fitW (fracI (valW a.1 * 2 + 1) (2 ^ k) m) else ((false, []), false)) else ((false, []), false)) := by
    show _ = _
    unfold decR
    rw [hk, Int.toNat_natCast]
    by_cases q : valW a.1 ≠ valW a.2 ∧ 0 ≤ m ∧ m ≤ 4
    · rw [if_pos q, if_pos ⟨hok, q⟩]
    · rw [if_neg q, if_neg (fun q2 => q q2.2)]
  have hj : f - (p + 1) = -(k : Int) := by omega
  generalize decR a p f m = rr at *
  replace hk : Hid _ := hk
  clear hok z zv m1 m2 hl0 hl1
  obtain ⟨s, t, rfl, hs, ht⟩ := ha
  obtain ⟨ad, cap, rfl, -⟩ := id hs
  obtain ⟨ae, cbp, rfl, -⟩ := id ht
  obtain ⟨g, hg⟩ : ∃ g, a.1.1 = g := ⟨_, rfl⟩
  obtain ⟨g', hg'⟩ : ∃ g, a.2.1 = g := ⟨_, rfl⟩
  obtain ⟨len, hlen⟩ : ∃ l, a.1.2.length = l := ⟨_, rfl⟩
  obtain ⟨len2, hlen2⟩ : ∃ l, a.2.2.length = l := ⟨_, rfl⟩
  rw [hg, hg', hlen, hlen2] at kA
  rw [hg, hg', hlen, hlen2]
  clear hs ht hg hg' hlen hlen2
  generalize valW a.1 = x at *
  generalize valW a.2 = y at *
  have kO := fun i j W h1 h2 => sOrder i j x y W h1 h2
  have hc : (((if x < y then -1 else if y < x then 1 else 0 : Int)) == 0) = decide (x = y) := cmpZ_eq x y
  generalize (if x < y then -1 else if y < x then 1 else 0 : Int) = cz at *
  have s1 : (w.alloc (.cells #[.bool g, .slice ad len cap, .bool g', .slice ae len2 cbp] 32)).heap.size = w.heap.size + 1 := by simp
  have s2 : ((w.alloc (.cells #[.bool g, .slice ad len cap, .bool g', .slice ae len2 cbp] 32)).alloc (.cells #[.bool false, .slice none 0 0] 28)).heap.size = w.heap.size + 2 := by simp
  have V := ((BoxV.made w (.bool g) (.slice ad len cap) (.bool g') (.slice ae len2 cbp) 32).below (below1 _ (.cells #[.bool false, .slice none 0 0] 28)) (Nat.le_refl _)).below (below1 _ (.cells #[.bool false] 4)) (Nat.le_refl _)
  have R := (BoxW.made (w.alloc (.cells #[.bool g, .slice ad len cap, .bool g', .slice ae len2 cbp] 32)) (.bool false) (.slice none 0 0) 28).below (below1 _ (.cells #[.bool false] 4)) (Nat.le_refl _)
  rw [s1] at R
  have K := Bx1.made ((w.alloc (.cells #[.bool g, .slice ad len cap, .bool g', .slice ae len2 cbp] 32)).alloc (.cells #[.bool false, .slice none 0 0] 28)) (.bool false) 4
  rw [s2] at K
  have B := below3 w (.cells #[.bool g, .slice ad len cap, .bool g', .slice ae len2 cbp] 32) (.cells #[.bool false, .slice none 0 0] 28) (.cells #[.bool false] 4)
  clear s1 s2
  go_enter_defers Try.func7, Try.ntmps7
  go_wp2_with fail
  refine (kA _ B).mono ?_
  generalize ((w.alloc (.cells #[.bool g, .slice ad len cap, .bool g', .slice ae len2 cbp] 32)).alloc (.cells #[.bool false, .slice none 0 0] 28)).alloc (.cells #[.bool false] 4) = w0 at *
  rintro e w1 ⟨X, Y, rfl, b1, hXY⟩
  replace V := V.below b1 (Nat.le_refl _)
  replace R := R.below b1 (Nat.le_refl _)
  replace K := K.below b1 (Nat.le_refl _)
  replace B := B.trans (b1.mono B.size)
  clear b1
  have E := BoxW.made w1 (.pointer X) (.pointer Y) 51
  have bE := below1 w1 (.cells #[.pointer X, .pointer Y] 51)
  obtain ⟨i, j, rfl, rfl, si, sj⟩ := hXY (by first | exact trivial | rfl)
  replace si := si.below bE si.lt
  replace sj := sj.below bE sj.lt
  replace V := V.below bE (Nat.le_refl _)
  replace R := R.below bE (Nat.le_refl _)
  replace K := K.below bE (Nat.le_refl _)
  replace B := B.trans (bE.mono B.size)
  clear bE
  clear kA hXY
  have Ec0 := E.c0
  have Ec1 := E.c1
  go_wp2_with fail
  clear Ec0 Ec1
  generalize w1.alloc (.cells #[.pointer (some ⟨i, 0, none⟩), .pointer (some ⟨j, 0, none⟩)] 51) = w2 at *
  obtain ⟨eb, heb⟩ : ∃ b, w1.heap.size = b := ⟨_, rfl⟩
  rw [heb] at E
  (try rw [heb])
  clear heb
  refine (kO i j _ si sj).mono ?_
  rintro e w3 ⟨rfl, b3⟩
  replace si := si.below b3 si.lt
  replace sj := sj.below b3 sj.lt
  replace V := V.below b3 (Nat.le_refl _)
  replace R := R.below b3 (Nat.le_refl _)
  replace K := K.below b3 (Nat.le_refl _)
  replace E := E.below b3 (Nat.le_refl _)
  replace B := B.trans (b3.mono B.size)
  clear b3
  clear kO
  by_cases hxy : x = y
  · have HN : Hid (rr = ((false, []), false)) := by show _ = _; rw [HD.out, if_neg (fun q => q.1 hxy)]
    rw [decide_eq_true hxy] at hc
    clear hxy HD l1 l2 kJ E si sj
    have Rc0 := R.c0
    have Rf0 := R.f0
    have Rc1 := R.c1
    have Rf1 := R.f1
    have Kc0 := K.c0
    have Kf0 := K.f0
    have HB := B
    have hR := R.hi
    have hK := K.hi
    clear V R K B
    go_wp2
    (try simp only [Exit.inBlock, Exit.then])
    refine ⟨.tuple #[.agg #[.bool false, .slice none 0 0], .bool false], ?_, _, by rw [HN.out], by rw [HN.out]; exact nilW _ _, (((HB.setCell (p := ⟨w.heap.size + 1, 0, none⟩) (by show w.heap.size ≤ w.heap.size + 1; omega) (.bool false)).setCell (p := ⟨w.heap.size + 1, 1, none⟩) (by show w.heap.size ≤ w.heap.size + 1; omega) (.slice none 0 0)).setCell (p := ⟨w.heap.size + 2, 0, none⟩) (by show w.heap.size ≤ w.heap.size + 2; omega) (.bool false))⟩
    rw [results_two rfl]
    go_simp
  · rw [decide_eq_false hxy] at hc
    by_cases hm : 0 ≤ m ∧ m ≤ 4
    case neg =>
        have HN : Hid (rr = ((false, []), false)) := by show _ = _; rw [HD.out, if_neg (fun q => hm q.2)]
        go_wp2_with fail
        refine (modeOk_no m _ hm).mono ?_
        rintro e w4 ⟨rfl, rfl⟩
        clear hm hxy HD l1 l2 kJ E si sj
        have Rc0 := R.c0
        have Rf0 := R.f0
        have Rc1 := R.c1
        have Rf1 := R.f1
        have Kc0 := K.c0
        have Kf0 := K.f0
        have HB := B
        have hR := R.hi
        have hK := K.hi
        clear V R K B
        go_wp2
        (try simp only [Exit.inBlock, Exit.then])
        refine ⟨.tuple #[.agg #[.bool false, .slice none 0 0], .bool false], ?_, _, by rw [HN.out], by rw [HN.out]; exact nilW _ _, (((HB.setCell (p := ⟨w.heap.size + 1, 0, none⟩) (by show w.heap.size ≤ w.heap.size + 1; omega) (.bool false)).setCell (p := ⟨w.heap.size + 1, 1, none⟩) (by show w.heap.size ≤ w.heap.size + 1; omega) (.slice none 0 0)).setCell (p := ⟨w.heap.size + 2, 0, none⟩) (by show w.heap.size ≤ w.heap.size + 2; omega) (.bool false))⟩
        rw [results_two rfl]
        go_simp
    have HD2 : Hid (rr = if fracI (x * 2 + 1) (2 ^ k) m = fracI (y * 2 - 1) (2 ^ k) m then fitW (fracI (x * 2 + 1) (2 ^ k) m) else ((false, []), false)) := by show _ = _; rw [HD.out, if_pos ⟨hxy, hm⟩]
    clear HD
    replace hfit := hfit hxy
    go_wp2_with fail
    refine (modeOk_yes m _ hm.1 hm.2).mono ?_
    rintro e w4 ⟨rfl, rfl⟩
    clear hxy
    have Ec0 := E.c0
    have Ec1 := E.c1
    go_wp2_with fail
    clear Ec0 Ec1
    refine (kJ i j _ si sj).mono ?_
    rintro e w5 ⟨c, d, rfl, sc, sd, b5⟩
    replace V := V.below b5 (Nat.le_refl _)
    replace R := R.below b5 (Nat.le_refl _)
    replace K := K.below b5 (Nat.le_refl _)
    replace E := E.below b5 (Nat.le_refl _)
    replace B := B.trans (b5.mono B.size)
    clear b5
    clear kJ si sj
    have bI := below1 w5 (.cells #[.pointer (some ⟨c, 0, none⟩), .pointer (some ⟨d, 0, none⟩)] 51)
    have J := BoxW.made w5 (.pointer (some ⟨c, 0, none⟩)) (.pointer (some ⟨d, 0, none⟩)) 51
    replace sc := sc.below bI sc.lt
    replace sd := sd.below bI sd.lt
    replace V := V.below bI (Nat.le_refl _)
    replace R := R.below bI (Nat.le_refl _)
    replace K := K.below bI (Nat.le_refl _)
    replace E := E.below bI (Nat.le_refl _)
    replace B := B.trans (bI.mono B.size)
    clear bI
    have Jc0 := J.c0
    have Jc1 := J.c1
    go_wp2_with fail
    clear Jc0 Jc1
    generalize w5.alloc (.cells #[.pointer (some ⟨c, 0, none⟩), .pointer (some ⟨d, 0, none⟩)] 51) = w6 at *
    obtain ⟨jb, hjb⟩ : ∃ b, w5.heap.size = b := ⟨_, rfl⟩
    rw [hjb] at J
    (try rw [hjb])
    clear hjb
    have hK6 := K.hi
    refine (movedDown_c (p + 1) f k c (x * 2 + 1) m _ sc hj hk0 (by omega) (by omega) hm.1 hm.2).mono ?_
    rintro e w7 ⟨c1, rfl, hc1, s1, b7⟩
    replace sd := sd.below b7 sd.lt
    replace V := V.below b7 (Nat.le_refl _)
    replace R := R.below b7 (Nat.le_refl _)
    replace K := K.below b7 (Nat.le_refl _)
    replace E := E.below b7 (Nat.le_refl _)
    replace J := J.below b7 (Nat.le_refl _)
    replace B := B.trans (b7.mono B.size)
    clear b7
    have Jc0 := J.c0
    have Jc1 := J.c1
    go_wp2_with fail
    clear Jc0 Jc1
    have hK7 := K.hi
    refine (movedDown_c (p + 1) f k d (y * 2 - 1) m _ sd hj hk0 (by omega) (by omega) hm.1 hm.2).mono ?_
    rintro e w8 ⟨d1, rfl, hd1, s2, b8⟩
    replace s1 := s1.below b8 s1.lt
    replace V := V.below b8 (Nat.le_refl _)
    replace R := R.below b8 (Nat.le_refl _)
    replace K := K.below b8 (Nat.le_refl _)
    replace E := E.below b8 (Nat.le_refl _)
    replace J := J.below b8 (Nat.le_refl _)
    replace B := B.trans (b8.mono B.size)
    clear b8
    generalize fracI (x * 2 + 1) (2 ^ k) m = X at *
    generalize fracI (y * 2 - 1) (2 ^ k) m = Y at *
    clear l1 l2 sc sd E J
    go_wp2_with fail
    refine (sWhole c1 X _ s1).mono ?_
    rintro e w9 ⟨v9, rfl, o9, b9⟩
    have hR8 := K.hi
    have hB8 := B.size
    replace s1 := s1.below b9 s1.lt
    replace s2 := s2.below b9 s2.lt
    replace V := V.below b9 (Nat.le_refl _)
    replace R := R.below b9 (Nat.le_refl _)
    replace K := K.below b9 (Nat.le_refl _)
    replace B := B.trans (b9.mono B.size)
    clear b9
    obtain ⟨r9, hr9⟩ : ∃ r, fitW X = r := ⟨_, rfl⟩
    rw [hr9] at o9 HD2 hfit
    rw [hr9]
    clear hr9
    obtain ⟨⟨n3, l3⟩, ok3⟩ := r9
    obtain ⟨s9, rfl, q9⟩ := o9
    obtain ⟨ad9, cp9, rfl, -⟩ := q9.row
    have q9k : ownsI w9 w8.heap.size (.slice ad9 l3.length cp9) l3 := q9
    clear q9
    have Rc0 := R.c0
    have Rf0 := R.f0
    have Rc1 := R.c1
    have Rf1 := R.f1
    go_wp2_with fail
    have hl1 := K.hi
    have hs1 := s1.lt
    have hs2 := s2.lt
    have hv := V.hi
    clear Rc0 Rf0 Rc1 Rf1
    replace R := (R.set0 (.bool n3)).set1 (.slice ad9 l3.length cp9)
    replace K := K.tn ((tnC w9 (w.heap.size + 1) 0 (.bool n3)).trans (tnC _ (w.heap.size + 1) 1 (.slice ad9 l3.length cp9))) (fun k hk hs => by simp at hk hs; omega)
    replace s1 := s1.tn ((tnC w9 (w.heap.size + 1) 0 (.bool n3)).trans (tnC _ (w.heap.size + 1) 1 (.slice ad9 l3.length cp9))) (fun h => by simp at h; omega)
    replace s2 := s2.tn ((tnC w9 (w.heap.size + 1) 0 (.bool n3)).trans (tnC _ (w.heap.size + 1) 1 (.slice ad9 l3.length cp9))) (fun h => by simp at h; omega)
    replace q9k := (q9k.other (w.heap.size + 1) 0 (by omega) (.bool n3)).other (w.heap.size + 1) 1 (by omega) (.slice ad9 l3.length cp9)
    replace B := ((B.setCell (p := ⟨w.heap.size + 1, 0, none⟩) (by show w.heap.size ≤ w.heap.size + 1; omega) (.bool n3)).setCell (p := ⟨w.heap.size + 1, 1, none⟩) (by show w.heap.size ≤ w.heap.size + 1; omega) (.slice ad9 l3.length cp9))
    clear V
    generalize ((w9.setCell ⟨w.heap.size + 1, 0, none⟩ (.bool n3)).setCell ⟨w.heap.size + 1, 1, none⟩ (.slice ad9 l3.length cp9)) = w10 at *
    have bd := (Below.refl w10.heap.size w10).drew
    replace q9k := q9k.below bd (Nat.le_refl _)
    replace s1 := s1.below bd s1.lt
    replace s2 := s2.below bd s2.lt
    replace R := R.below bd (Nat.le_refl _)
    replace K := K.below bd (Nat.le_refl _)
    replace B := B.trans (bd.mono B.size)
    clear bd
    have Rc0 := R.c0
    have Rf0 := R.f0
    have Rc1 := R.c1
    have Rf1 := R.f1
    have Kc0 := K.c0
    have Kf0 := K.f0
    have hne1 : ¬ w.heap.size + 2 = w.heap.size + 1 := by omega
    have hne2 : ¬ w.heap.size + 1 = w.heap.size + 2 := by omega
    refine wp_mono (?_ : Code.wp _ _ (calm _) _ _) calm_of
    go_region_with (first | (go_at_call 25; refine (sOrder c1 d1 X Y _ s1 s2).mono ?_; rintro e w12 ⟨rfl, b12⟩; replace q9k := q9k.below b12 (Nat.le_refl _); replace R := R.below b12 (Nat.le_refl _); replace K := K.below b12 (Nat.le_refl _); replace B := B.trans (b12.mono B.size); clear b12; have hc2 : (((if X < Y then -1 else if Y < X then 1 else 0 : Int)) == 0) = decide (X = Y) := cmpZ_eq X Y; generalize (if X < Y then -1 else if Y < X then 1 else 0 : Int) = cz2 at *; obtain ⟨okb, hob⟩ : ∃ b, decide (X = Y) = b := ⟨_, rfl⟩; rw [hob] at hc2; replace hob : Hid _ := hob; have Sc0 := R.c0; have Sc1 := R.c1; have Sf0 := R.f0; have Sf1 := R.f1; have Lc0 := K.c0; have Lf0 := K.f0))
    all_goals
      simp only [calm]
      clear Sc0 Sc1 Sf0 Sf1 Lc0 Lf0 Rc0 Rc1 Rf0 Rf1 Kc0 Kf0
      have R2 := ((R.set0 (.bool n3)).set1 (.slice ad9 l3.length cp9)).other (w.heap.size + 2) 0 (by omega) (.bool okb)
      have K2 := ((K.other (w.heap.size + 1) 0 (by omega) (.bool n3)).other (w.heap.size + 1) 1 (by omega) (.slice ad9 l3.length cp9)).set0 (.bool okb)
      have q2 := ((q9k.other (w.heap.size + 1) 0 (by omega) (.bool n3)).other (w.heap.size + 1) 1 (by omega) (.slice ad9 l3.length cp9)).other (w.heap.size + 2) 0 (by omega) (.bool okb)
      have B2 := ((B.setCell (p := ⟨w.heap.size + 1, 0, none⟩) (by show w.heap.size ≤ w.heap.size + 1; omega) (.bool n3)).setCell (p := ⟨w.heap.size + 1, 1, none⟩) (by show w.heap.size ≤ w.heap.size + 1; omega) (.slice ad9 l3.length cp9)).setCell (p := ⟨w.heap.size + 2, 0, none⟩) (by show w.heap.size ≤ w.heap.size + 2; omega) (.bool okb)
      generalize ((w12.setCell ⟨w.heap.size + 1, 0, none⟩ (.bool n3)).setCell ⟨w.heap.size + 1, 1, none⟩ (.slice ad9 l3.length cp9)).setCell ⟨w.heap.size + 2, 0, none⟩ (.bool okb) = w14 at *
      clear R K q9k B
      skip
      clear s1 s2 hc1 hd1 hc2
      replace hob := hob.out
      go_wp2
      (try simp only [Exit.inBlock, Exit.then])
      refine leaves_cons (f := 27) (args := #[.pointer (some ⟨w.heap.size + 2, 0, none⟩), .pointer (some ⟨w.heap.size + 1, 0, none⟩)]) (by simp) (by simp [go_sem]) ?_
      by_cases hXY : X = Y
      · obtain rfl : okb = true := by rw [← hob]; exact decide_eq_true hXY
        have HN : Hid (rr = ((n3, l3), ok3)) := by show _ = _; rw [HD2.out, if_pos hXY]
        obtain rfl : ok3 = true := hfit hXY
        clear HD2 hfit hXY hob
        refine (cloYes (w.heap.size + 2) (w.heap.size + 1) _ _ w14 K2.c0 R2.c0 R2.c1 R2.f0 R2.f1).mono ?_
        rintro e u' w15 ⟨rfl, rfl, rfl⟩
        have R2c0 := R2.c0
        have R2c1 := R2.c1
        have K2c0 := K2.c0
        simp only [Leaves, settle]
        refine ⟨.tuple #[.agg #[.bool n3, .slice ad9 l3.length cp9], .bool true], ?_, _, by rw [HN.out], by rw [HN.out]; exact ⟨_, rfl, ownsI_mono q2 hB8⟩, B2⟩
        rw [results_two rfl]
        go_simp
      · obtain rfl : okb = false := by rw [← hob]; exact decide_eq_false hXY
        have HN : Hid (rr = ((false, []), false)) := by show _ = _; rw [HD2.out, if_neg hXY]
        clear HD2 hfit hXY hob q2
        refine (cloNo (w.heap.size + 2) (w.heap.size + 1) _ _ w14 K2.c0 R2.c0 R2.c1 R2.f0 R2.f1).mono ?_
        rintro e u' w15 ⟨rfl, rfl, rfl⟩
        replace K2 := K2.tn ((tnC w14 (w.heap.size + 1) 0 (.bool false)).trans (tnC _ (w.heap.size + 1) 1 (.slice none 0 0))) (fun k hk hs => by simp at hk hs; omega)
        replace R2 := (R2.set0 (.bool false)).set1 (.slice none 0 0)
        have R2c0 := R2.c0
        have R2c1 := R2.c1
        have K2c0 := K2.c0
        simp only [Leaves, settle]
        refine ⟨.tuple #[.agg #[.bool false, .slice none 0 0], .bool false], ?_, _, by rw [HN.out], by rw [HN.out]; exact nilW _ _, ((B2.setCell (p := ⟨w.heap.size + 1, 0, none⟩) (by show w.heap.size ≤ w.heap.size + 1; omega) (.bool false)).setCell (p := ⟨w.heap.size + 1, 1, none⟩) (by show w.heap.size ≤ w.heap.size + 1; omega) (.slice none 0 0))⟩
        rw [results_two rfl]
        go_simp

end Go.Proofs.Ytnplnekfeabneaa
