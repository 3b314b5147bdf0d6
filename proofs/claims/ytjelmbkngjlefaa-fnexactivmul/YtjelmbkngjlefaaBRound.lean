/- The program's modeOk, Turned, rises and rounded, each by its contract. -/
import Derived.Test.YtjelmbkngjlefaaGRest
import Derived.Test.YtjelmbkngjlefaaRoundM
import Derived.Test.YtjelmbkngjlefaaGB
namespace Go.Proofs.Ytjelmbkngjlefaa
open Go.RowKit
set_option linter.unusedSimpArgs false

theorem modeOk_yes (m : Int) (w : World) (h0 : 0 ≤ m) (h4 : m ≤ 4) : Calls Try.prog 104 #[.int .i64 m] w fun e w' => e = .returned (.bool true) ∧ w' = w := by
  go_enter Try.func104, Try.ntmps104
  go_wp2
  go_ret
  exact ⟨rfl, rfl⟩
theorem modeOk_no (m : Int) (w : World) (h : ¬ (0 ≤ m ∧ m ≤ 4)) : Calls Try.prog 104 #[.int .i64 m] w fun e w' => e = .returned (.bool false) ∧ w' = w := by
  by_cases h1 : 0 ≤ m
  · have h2 : ¬ (m ≤ 4) := fun h2 => h ⟨h1, h2⟩
    have h2' : decide (m ≤ 4) = false := decide_eq_false h2
    clear h
    go_enter Try.func104, Try.ntmps104
    go_wp2
    go_ret
    exact ⟨rfl, rfl⟩
  · have h1' : decide (0 ≤ m) = false := decide_eq_false h1
    clear h
    go_enter Try.func104, Try.ntmps104
    go_wp2
    go_ret
    exact ⟨rfl, rfl⟩
theorem turned_c (m : Int) (w : World) (h0 : 0 ≤ m) (h4 : m ≤ 4) : Calls Try.prog 92 #[.int .i64 m] w fun e w' => e = .returned (.int .i64 (turnI m)) ∧ Below w.heap.size w w' := by
  have km := fun W => modeOk_yes m W h0 h4
  have hm5 : m = 0 ∨ m = 1 ∨ m = 2 ∨ m = 3 ∨ m = 4 := by omega
  rcases hm5 with rfl | rfl | rfl | rfl | rfl
  · go_enter Try.func92, Try.ntmps92
    go_wp2
    go_ret
    exact ⟨rfl, Below.refl _ _⟩
  · go_enter Try.func92, Try.ntmps92
    go_wp2
    go_ret
    exact ⟨rfl, Below.refl _ _⟩
  · go_enter Try.func92, Try.ntmps92
    go_wp2_with fail
    refine (km _).mono ?_
    rintro e w1 ⟨rfl, rfl⟩
    go_wp2
    go_ret
    exact ⟨rfl, Below.refl _ _⟩
  · go_enter Try.func92, Try.ntmps92
    go_wp2_with fail
    refine (km _).mono ?_
    rintro e w1 ⟨rfl, rfl⟩
    go_wp2
    go_ret
    exact ⟨rfl, Below.refl _ _⟩
  · go_enter Try.func92, Try.ntmps92
    go_wp2_with fail
    refine (km _).mono ?_
    rintro e w1 ⟨rfl, rfl⟩
    go_wp2
    go_ret
    exact ⟨rfl, Below.refl _ _⟩

theorem wpB_loadG {ops : Array Oper} {rest : List Oper} {o : Oper} {a : Act} {w : World} {Q : Exit → Act → World → Prop} (hw : Region.wanted o (yielded ops a.tmps) = true) (x : Operand) (ho : o.op = .load 102 x)
    (b n : Nat) (s : Bool) (t : Int) (hx : a.eval x = .pointer (some ⟨b, 0, none⟩)) (hg : BN w b n s t)
    (h : wpList Try.prog ops Q rest (a.put o.dst (.agg (bC n s t))) w) : wpList Try.prog ops Q (o :: rest) a w :=
  wpList_step fun K hK => by
    rw [if_pos hw]
    unfold Oper.wp execOp
    simp only [ho, hx, Instr.loadAt, Instr.sureAddr, Sem.run_bind, Sem.run_pure, Result.andThen_ok, hg.load]
    exact hK _ _ h

set_option maxRecDepth 20000 in
set_option maxHeartbeats 3200000 in
theorem bRises (q : Nat) (s : Bool) (h mode : Int) (w : World) (hl : (limbs q).length ≤ 98) (h0 : 0 ≤ mode) (h4 : mode ≤ 4) :
    Calls Try.prog 93 #[.agg (bC q s h), .int .i64 mode] w fun e w' => e = .returned (.bool (risesI q h mode)) ∧ Below w.heap.size w w' := by
  have M0 := BN.made w q s h hl
  have B0 := alloc_below w (.cells (bC q s h) 102)
  have c9 := M0.half
  have A0 := M0.ga
  have kB : ∀ W, GA W w.heap.size 0 q → Calls Try.prog 102 #[.pointer (some ⟨w.heap.size, 0, none⟩), .int .i64 0] W fun e w' => e = .returned (.int .u32 ((q % 2 : Nat) : Int)) ∧ w' = W := fun W hW => by
    have := gBit w.heap.size 0 q 0 W (by omega) hW
    rw [Nat.pow_zero, Nat.div_one] at this
    exact this
  obtain ⟨rv, hrv⟩ : ∃ rv, risesI q h mode = rv := ⟨_, rfl⟩
  rw [hrv]
  clear M0
  have hm5 : mode = 0 ∨ mode = 1 ∨ mode = 2 ∨ mode = 3 ∨ mode = 4 := by omega
  rcases hm5 with rfl | rfl | rfl | rfl | rfl
  · skip
    have e1 : rv = false := by rw [← hrv]; simp [risesI, *]
    subst e1
    clear hrv kB
    go_enter Try.func93, Try.ntmps93
    go_wp2
    go_ret
    exact ⟨rfl, B0⟩
  · skip
    have e1 : rv = true := by rw [← hrv]; simp [risesI, *]
    subst e1
    clear hrv kB
    go_enter Try.func93, Try.ntmps93
    go_wp2
    go_ret
    exact ⟨rfl, B0⟩
  · skip
    have e1 : rv = false := by rw [← hrv]; simp [risesI, *]
    subst e1
    clear hrv kB
    go_enter Try.func93, Try.ntmps93
    go_wp2
    go_ret
    exact ⟨rfl, B0⟩
  · by_cases hh : h = 0
    · subst hh
      have e1 : rv = decide (q % 2 = 1) := by rw [← hrv]; simp [risesI]
      have e2 : (((q % 2 : Nat) : Int) == 1) = decide (q % 2 = 1) := by
        by_cases hq : q % 2 = 1
        · simp [hq]
        · rw [decide_eq_false hq, beq_eq_false_iff_ne]; omega
      subst e1
      have hq2 : q % 2 < 2 := Nat.mod_lt _ (by omega)
      generalize decide (q % 2 = 1) = dv at *
      generalize q % 2 = qq at *
      clear hrv
      go_enter Try.func93, Try.ntmps93
      go_wp2_with fail
      refine (kB _ A0).mono ?_
      rintro e w1 ⟨rfl, rfl⟩
      go_wp2
      go_ret
      exact ⟨rfl, B0⟩
    · by_cases hp : 0 ≤ h
      · skip
        have e1 : rv = true := by rw [← hrv]; simp [risesI, *]
        subst e1
        clear hrv kB
        go_enter Try.func93, Try.ntmps93
        go_wp2
        go_ret
        exact ⟨rfl, B0⟩
      · skip
        have e1 : rv = false := by rw [← hrv]; simp [risesI, *]
        subst e1
        clear hrv kB
        go_enter Try.func93, Try.ntmps93
        go_wp2
        go_ret
        exact ⟨rfl, B0⟩
  · by_cases hp : 0 ≤ h
    · skip
      have e1 : rv = true := by rw [← hrv]; simp [risesI, *]
      subst e1
      clear hrv kB
      go_enter Try.func93, Try.ntmps93
      go_wp2
      go_ret
      exact ⟨rfl, B0⟩
    · skip
      have e1 : rv = false := by rw [← hrv]; simp [risesI, *]
      subst e1
      clear hrv kB
      go_enter Try.func93, Try.ntmps93
      go_wp2
      go_ret
      exact ⟨rfl, B0⟩

set_option maxRecDepth 20000 in
set_option maxHeartbeats 6400000 in
/-- rounded: the floor or one more, with its sign. -/
theorem bRounded (q : Nat) (s : Bool) (h mode : Int) (neg : Bool) (w : World) (hl : (limbs q).length ≤ 97) (h0 : 0 ≤ mode) (h4 : mode ≤ 4) :
    Calls Try.prog 74 #[.agg (bC q s h), .bool neg, .int .i64 mode] w fun e w' => ∃ c, e = .returned (.pointer (some ⟨c, 0, none⟩)) ∧ w.heap.size ≤ c ∧ SG w' c (if neg = true then -((roundN q s h neg mode : Nat) : Int) else ((roundN q s h neg mode : Nat) : Int)) ∧ Below w.heap.size w w' := by
  have M0 := BN.made w q s h (by omega)
  have B0 := alloc_below w (.cells (bC q s h) 102)
  have s0 : (w.alloc (.cells (bC q s h) 102)).heap.size = w.heap.size + 1 := by simp
  have hl1 : (limbs (q + 1)).length ≤ 98 := by have := succ_lenG q; omega
  have kX := fun W => gNext q W hl
  have kT := fun W => turned_c mode W h0 h4
  have ht0 : 0 ≤ turnI mode ∧ turnI mode ≤ 4 := by
    unfold turnI
    split
    · omega
    · split <;> omega
  cases neg
  · have kR := fun W => bRises q s h mode W (by omega) h0 h4
    have hrn : ∀ v : Bool, risesI q h mode = v → roundN q s h false mode = if s = false ∧ v = true then q + 1 else q := fun v hv => by unfold roundN; simp [hv]
    clear kT ht0
    obtain ⟨rv, hrv⟩ : ∃ rv, risesI q h mode = rv := ⟨_, rfl⟩
    rw [hrv] at kR
    have hrn := hrn rv hrv
    clear hrv
    cases s
    · cases rv
      · have hrn : roundN q false h false mode = q := by rw [hrn]; simp
        rw [hrn]
        have kN := fun W => newSigned_c false (q) W (by omega)
        clear hrn
        go_enter Try.func74, Try.ntmps74
        have M1 := M0
        have B1 := B0
        clear M0 B0
        have cw := M1.whole
        go_wp2_with (first
          | (go_at_call 93; refine (kR _).mono ?_; rintro e w2 ⟨rfl, b2⟩; have M2 := M1.below b2 M1.lt; have B2 := B1.trans (b2.mono B1.size); have A2 := M2.ga)
          | (go_at_call 68; fail)
          | ((with_reducible (refine wpL_id ?_)); refine wpB_loadG rfl (.tmp 3) rfl w.heap.size q false h rfl M1 ?_)
          | ((with_reducible (refine wpL_id ?_)); refine wpA_load rfl (.tmp 23) rfl w.heap.size 0 q rfl A2 ?_))
        refine (kN _).mono ?_
        rintro e w9 ⟨c, rfl, hc, s9, b9⟩
        go_wp2
        go_ret
        exact ⟨c, rfl, Nat.le_trans B2.size hc, s9, B2.trans (b9.mono B2.size)⟩
      · have hrn : roundN q false h false mode = q + 1 := by rw [hrn]; simp
        rw [hrn]
        have kN := fun W => newSigned_c false (q + 1) W (by omega)
        clear hrn
        go_enter Try.func74, Try.ntmps74
        have M1 := M0
        have B1 := B0
        clear M0 B0
        have cw := M1.whole
        go_wp2_with (first
          | (go_at_call 93; refine (kR _).mono ?_; rintro e w2 ⟨rfl, b2⟩; have M2 := M1.below b2 M1.lt; have B2 := B1.trans (b2.mono B1.size); have A2 := M2.ga)
          | (go_at_call 72; refine (kX _).mono ?_; rintro e w3 ⟨rfl, b3⟩; have M3 := M2.below b3 M2.lt; have B3 := B2.trans (b3.mono B2.size); clear A2)
          | (go_at_call 68; fail)
          | ((with_reducible (refine wpL_id ?_)); refine wpB_loadG rfl (.tmp 3) rfl w.heap.size q false h rfl M1 ?_)
          | ((with_reducible (refine wpL_id ?_)); refine wpA_load rfl (.tmp 18) rfl w.heap.size 0 q rfl A2 ?_)
          | ((with_reducible (refine wpL_id ?_)); refine wpB_put rfl (.tmp 21) (.tmp 20) rfl w.heap.size q (q + 1) false h rfl rfl M3 (by omega) ?_; intro w4 M4 t4 s4; have B4 := t4.below B3 B3.size (by simp); have A4 := M4.ga)
          | ((with_reducible (refine wpL_id ?_)); refine wpA_load rfl (.tmp 23) rfl w.heap.size 0 (q + 1) rfl A4 ?_))
        refine (kN _).mono ?_
        rintro e w9 ⟨c, rfl, hc, s9, b9⟩
        go_wp2
        go_ret
        exact ⟨c, rfl, Nat.le_trans B4.size hc, s9, B4.trans (b9.mono B4.size)⟩
    · skip
      have hrn : roundN q true h false mode = q := by rw [hrn]; simp
      rw [hrn]
      have kN := fun W => newSigned_c false q W (by omega)
      clear hrn kR
      go_enter Try.func74, Try.ntmps74
      have M1 := M0
      have B1 := B0
      clear M0 B0
      have cw := M1.whole
      have A1 := M1.ga
      go_wp2_with (first
        | (go_at_call 68; fail)
        | ((with_reducible (refine wpL_id ?_)); refine wpA_load rfl (.tmp 23) rfl w.heap.size 0 q rfl A1 ?_))
      refine (kN _).mono ?_
      rintro e w9 ⟨c, rfl, hc, s9, b9⟩
      go_wp2
      go_ret
      exact ⟨c, rfl, Nat.le_trans B1.size hc, s9, B1.trans (b9.mono B1.size)⟩
  · obtain ⟨tm, htm⟩ : ∃ tm, turnI mode = tm := ⟨_, rfl⟩
    rw [htm] at kT ht0
    have kR := fun W => bRises q s h tm W (by omega) ht0.1 ht0.2
    have hrn : ∀ v : Bool, risesI q h tm = v → roundN q s h true mode = if s = false ∧ v = true then q + 1 else q := fun v hv => by unfold roundN; rw [← htm] at hv; simp [hv]
    clear htm
    obtain ⟨rv, hrv⟩ : ∃ rv, risesI q h tm = rv := ⟨_, rfl⟩
    rw [hrv] at kR
    have hrn := hrn rv hrv
    clear hrv
    cases s
    · cases rv
      · have hrn : roundN q false h true mode = q := by rw [hrn]; simp
        rw [hrn]
        have kN := fun W => newSigned_c true (q) W (by omega)
        clear hrn
        go_enter Try.func74, Try.ntmps74
        go_wp2_with fail
        refine (kT _).mono ?_
        generalize w.alloc (.cells (bC q false h) 102) = w0 at *
        rintro e w1 ⟨rfl, b1⟩
        have M1 := M0.below b1 M0.lt
        have B1 := B0.trans (b1.mono B0.size)
        clear M0 B0 b1 kT
        have cw := M1.whole
        go_wp2_with (first
          | (go_at_call 93; refine (kR _).mono ?_; rintro e w2 ⟨rfl, b2⟩; have M2 := M1.below b2 M1.lt; have B2 := B1.trans (b2.mono B1.size); have A2 := M2.ga)
          | (go_at_call 68; fail)
          | ((with_reducible (refine wpL_id ?_)); refine wpB_loadG rfl (.tmp 3) rfl w.heap.size q false h rfl M1 ?_)
          | ((with_reducible (refine wpL_id ?_)); refine wpA_load rfl (.tmp 23) rfl w.heap.size 0 q rfl A2 ?_))
        refine (kN _).mono ?_
        rintro e w9 ⟨c, rfl, hc, s9, b9⟩
        go_wp2
        go_ret
        exact ⟨c, rfl, Nat.le_trans B2.size hc, s9, B2.trans (b9.mono B2.size)⟩
      · have hrn : roundN q false h true mode = q + 1 := by rw [hrn]; simp
        rw [hrn]
        have kN := fun W => newSigned_c true (q + 1) W (by omega)
        clear hrn
        go_enter Try.func74, Try.ntmps74
        go_wp2_with fail
        refine (kT _).mono ?_
        generalize w.alloc (.cells (bC q false h) 102) = w0 at *
        rintro e w1 ⟨rfl, b1⟩
        have M1 := M0.below b1 M0.lt
        have B1 := B0.trans (b1.mono B0.size)
        clear M0 B0 b1 kT
        have cw := M1.whole
        go_wp2_with (first
          | (go_at_call 93; refine (kR _).mono ?_; rintro e w2 ⟨rfl, b2⟩; have M2 := M1.below b2 M1.lt; have B2 := B1.trans (b2.mono B1.size); have A2 := M2.ga)
          | (go_at_call 72; refine (kX _).mono ?_; rintro e w3 ⟨rfl, b3⟩; have M3 := M2.below b3 M2.lt; have B3 := B2.trans (b3.mono B2.size); clear A2)
          | (go_at_call 68; fail)
          | ((with_reducible (refine wpL_id ?_)); refine wpB_loadG rfl (.tmp 3) rfl w.heap.size q false h rfl M1 ?_)
          | ((with_reducible (refine wpL_id ?_)); refine wpA_load rfl (.tmp 18) rfl w.heap.size 0 q rfl A2 ?_)
          | ((with_reducible (refine wpL_id ?_)); refine wpB_put rfl (.tmp 21) (.tmp 20) rfl w.heap.size q (q + 1) false h rfl rfl M3 (by omega) ?_; intro w4 M4 t4 s4; have B4 := t4.below B3 B3.size (by simp); have A4 := M4.ga)
          | ((with_reducible (refine wpL_id ?_)); refine wpA_load rfl (.tmp 23) rfl w.heap.size 0 (q + 1) rfl A4 ?_))
        refine (kN _).mono ?_
        rintro e w9 ⟨c, rfl, hc, s9, b9⟩
        go_wp2
        go_ret
        exact ⟨c, rfl, Nat.le_trans B4.size hc, s9, B4.trans (b9.mono B4.size)⟩
    · skip
      have hrn : roundN q true h true mode = q := by rw [hrn]; simp
      rw [hrn]
      have kN := fun W => newSigned_c true q W (by omega)
      clear hrn kR
      go_enter Try.func74, Try.ntmps74
      go_wp2_with fail
      refine (kT _).mono ?_
      generalize w.alloc (.cells (bC q true h) 102) = w0 at *
      rintro e w1 ⟨rfl, b1⟩
      have M1 := M0.below b1 M0.lt
      have B1 := B0.trans (b1.mono B0.size)
      clear M0 B0 b1 kT
      have cw := M1.whole
      have A1 := M1.ga
      go_wp2_with (first
        | (go_at_call 68; fail)
        | ((with_reducible (refine wpL_id ?_)); refine wpA_load rfl (.tmp 23) rfl w.heap.size 0 q rfl A1 ?_))
      refine (kN _).mono ?_
      rintro e w9 ⟨c, rfl, hc, s9, b9⟩
      go_wp2
      go_ret
      exact ⟨c, rfl, Nat.le_trans B1.size hc, s9, B1.trans (b9.mono B1.size)⟩

end Go.Proofs.Ytjelmbkngjlefaa
