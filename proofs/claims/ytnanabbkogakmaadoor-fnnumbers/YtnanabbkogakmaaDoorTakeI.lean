/- The program's GetNum of whatever row of bytes and place, by its contract. -/
import Derived.Test.YtnanabbkogakmaaDoorGroups
namespace Go.Proofs.YtnanabbkogakmaaDoor
open Go.RowKit

theorem cells_of {w : World} {base g n cap : Nat} {xs : List Int} (h : w.ownsRow base 5 1 (.slice (some ⟨g, 0, none⟩) n cap) n (xs.map (Value.int .u8))) (hn : xs.length = n) :
    ∀ j, j < n → w.cell? ⟨g, j, none⟩ = some (.int .u8 (xs.getD j 0)) := by
  intro j hj
  rw [h.cellAt j (by omega)]
  simp [List.getElem?_map, List.getElem?_eq_getElem (by omega : j < xs.length), List.getD]

theorem below2 (w : World) (o o' : Obj) : Below w.heap.size w ((w.alloc o).alloc o') := ((Below.refl _ _).alloc (Nat.le_refl _) o).alloc (by simp) o'

theorem readGroups_out (a0 : Option Addr) (len cap : Nat) (q : Int) (w : World) (u : TypeId) (pv : Value) (hout : q < 0 ∨ (len : Int) ≤ q) (hvar : w.cell? ⟨0, 0, none⟩ = some (.iface u pv)) :
    Calls Tryd.prog 15 #[.slice a0 len cap, .int .i64 q] w fun e w' => e = endT u pv none ∧ w' = w := by
  have HO : Hid (q < 0 ∨ (len : Int) ≤ q) := hout
  clear hout
  go_enter Tryd.func15, Tryd.ntmps15
  go_wp2
  refine wp_loop_rounds 1 ?_
  rw [rounds_succ]
  go_wp2_with (go_at_call 19; refine (groupAt_no a0 len cap q _ u pv HO.out hvar).mono ?_; rintro e w' ⟨rfl, rfl⟩)
  exact ⟨rfl, rfl, rfl⟩

/-- A row that is owned, at whatever place: what is needed of it. -/
theorem row_cases {w : World} {base : Nat} {v : Value} {xs : List Int} (h : ownsB w base v xs) (q : Int) :
    (∃ a0 len cap, v = .slice a0 len cap ∧ len = xs.length ∧ (q < 0 ∨ (len : Int) ≤ q) ∧ getR xs q = none) ∨
    (∃ g cap a : Nat, v = .slice (some ⟨g, 0, none⟩) xs.length cap ∧ q = a ∧ a < xs.length ∧ getR xs q = getFrom xs a 5 0 0 ∧ ∀ j, j < xs.length → w.cell? ⟨g, j, none⟩ = some (.int .u8 (xs.getD j 0))) := by
  by_cases hq : q < 0 ∨ (xs.length : Int) ≤ q
  · have hr : getR xs q = none := by
      unfold getR
      by_cases h0 : q < 0
      · rw [if_pos h0]
      · rw [if_neg h0]; exact getFrom_out _ _ _ _ _ (by omega)
    rcases h.2 with ⟨rfl, h0⟩ | ⟨g1, c1, _, rfl, -⟩
    · exact .inl ⟨none, 0, 0, rfl, h0.symm, by rw [← h0]; exact hq, hr⟩
    · exact .inl ⟨_, _, c1, rfl, rfl, hq, hr⟩
  · obtain ⟨a, rfl⟩ := Int.eq_ofNat_of_zero_le (by omega : 0 ≤ q)
    rcases h.2 with ⟨rfl, h0⟩ | ⟨g1, c1, _, rfl, -⟩
    · omega
    · refine .inr ⟨g1, c1, a, rfl, rfl, by omega, ?_, cells_of h rfl⟩
      unfold getR
      rw [if_neg (by omega)]
      rfl

theorem readGroups (base : Nat) (v : Value) (xs : List Int) (q : Int) (w : World) (u : TypeId) (pv : Value) (h : ownsB w base v xs) (hlen : xs.length ≤ 1048576) (hb : ∀ j, 0 ≤ xs.getD j 0 ∧ xs.getD j 0 ≤ 255) (hvar : w.cell? ⟨0, 0, none⟩ = some (.iface u pv)) :
    Calls Tryd.prog 15 #[v, .int .i64 q] w fun e w' => e = endT u pv (getR xs q) ∧ w' = w := by
  rcases row_cases h q with ⟨a0, len, cap, rfl, rfl, h1, h2⟩ | ⟨g, cap, a, rfl, rfl, h1, h2, h3⟩
  · rw [h2]; exact readGroups_out a0 _ cap q w u pv h1 hvar
  · rw [h2]; exact readGroups_nat g _ cap a xs w u pv rfl hlen (by omega) h3 hb hvar

theorem catch3_panicking (p q r : Addr) (x y : Int) (z : Bool) (u : TypeId) (pv : Value) (older : List PanicEntry) (w : World) (hp : w.cell? p = some (.int .i64 x)) (hq : w.cell? q = some (.int .i64 y)) (hr : w.cell? r = some (.bool z)) (hpz : w.frozen? p = false) (hqz : w.frozen? q = false) (hrz : w.frozen? r = false) (h1 : q.block ≠ p.block) (h2 : r.block ≠ p.block) (h3 : r.block ≠ q.block) :
    CallsD Tryd.prog 14 #[.pointer (some p), .pointer (some q), .pointer (some r)] (.panicking ({ v := .iface u pv, recovered := false } :: older)) w fun e u' w' =>
      e = .returned (.tuple #[]) ∧ u' = .panicking ({ v := .iface u pv, recovered := true } :: older) ∧ w' = ((w.setCell p (.int .i64 0)).setCell q (.int .i64 0)).setCell r (.bool false) := by
  have hq' : (w.setCell p (.int .i64 0)).cell? q = some (.int .i64 y) := (World.cell?_setCell_other _ _ _ _ (fun e => h1 (by rw [e]))).trans hq
  have hqz' : (w.setCell p (.int .i64 0)).frozen? q = false := (World.frozen?_setCell _ _ _ _).trans hqz
  have hr' : ((w.setCell p (.int .i64 0)).setCell q (.int .i64 0)).cell? r = some (.bool z) := ((World.cell?_setCell_other _ _ _ _ (fun e => h3 (by rw [e]))).trans (World.cell?_setCell_other _ _ _ _ (fun e => h2 (by rw [e])))).trans hr
  have hrz' : ((w.setCell p (.int .i64 0)).setCell q (.int .i64 0)).frozen? r = false := ((World.frozen?_setCell _ _ _ _).trans (World.frozen?_setCell _ _ _ _)).trans hrz
  refine callsD_of_wpS Tryd.func14 rfl fun c₀ cs hu => ?_
  apply wpS_seq
  apply wpS_region
  simp [wpOpsS, go_sem, recoverD, hu, Tryd.ntmps14, Exit.thenS]
  refine wpS_cond (t := true) (by simp [Act.eval, Array.replicate]) ?_
  simp only [if_true]
  apply wpS_region
  simp [wpOpsS, go_sem, hp, hpz, hq', hqz', hr', hrz', bodyPostS, results, Tryd.results14]

theorem catch3_idle (p q r : Addr) (w : World) :
    CallsD Tryd.prog 14 #[.pointer (some p), .pointer (some q), .pointer (some r)] .returning w fun e u' w' => e = .returned (.tuple #[]) ∧ u' = .returning ∧ w' = w := by
  refine callsD_of_wpS Tryd.func14 rfl fun c₀ cs hu => ?_
  apply wpS_seq
  apply wpS_region
  simp [wpOpsS, go_sem, recoverD, hu, Tryd.ntmps14, Exit.thenS]
  refine wpS_cond (t := false) (by simp [Act.eval, Array.replicate]) ?_
  simp only [Bool.false_eq_true, if_false]
  refine wpS_of_wp (wp_skip ?_)
  cases c₀
  simp_all [bodyPostS, results, Tryd.results14]

theorem below3 (w : World) (o o' o'' : Obj) : Below w.heap.size w (((w.alloc o).alloc o').alloc o'') := (below2 w o o').alloc (by simp; omega) o''

set_option maxHeartbeats 1600000 in
theorem iget (base : Nat) (v : Value) (xs : List Int) (q : Int) (w : World) (u : TypeId) (pv : Value) (h : ownsB w base v xs) (hlen : xs.length ≤ 1048576) (hb : ∀ j, 0 ≤ xs.getD j 0 ∧ xs.getD j 0 ≤ 255) (hvar : w.cell? ⟨0, 0, none⟩ = some (.iface u pv)) :
    Calls Tryd.prog 8 #[v, .int .i64 q] w fun e w' => e = .returned (resT (getR xs q)) ∧ Below w.heap.size w w' := by
  have hmf : ∀ (fn : Fn) (first cap : Array Value) (w : World), (Instr.makeFunc fn first cap).run Tryd.prog w = .ok (.func fn first cap) w := fun _ _ _ _ => rfl
  have B := below3 w (.cells #[.int .i64 0] 3) (.cells #[.int .i64 0] 3) (.cells #[.bool false] 4)
  have hv2 : (((w.alloc (.cells #[.int .i64 0] 3)).alloc (.cells #[.int .i64 0] 3)).alloc (.cells #[.bool false] 4)).cell? ⟨0, 0, none⟩ = some (.iface u pv) := (B.cell (p := ⟨0, 0, none⟩) (block_lt_of_cell hvar)).trans hvar
  have ho2 : ownsB (((w.alloc (.cells #[.int .i64 0] 3)).alloc (.cells #[.int .i64 0] 3)).alloc (.cells #[.bool false] 4)) base v xs := h.below B (Nat.le_refl _)
  have hrg := readGroups base v xs q _ u pv ho2 hlen hb hv2
  clear ho2 hv2 h hb
  cases hR : getR xs q with
  | none =>
    rw [hR] at hrg
    simp only [endT] at hrg
    clear hR
    go_enter_defers Tryd.func8, Tryd.ntmps8
    go_wp2_with (go_at_call 15; refine hrg.mono ?_; rintro e w' ⟨rfl, rfl⟩)
    refine leaves_cons (f := 14) (args := #[.pointer (some ⟨w.heap.size, 0, none⟩), .pointer (some ⟨w.heap.size + 1, 0, none⟩), .pointer (some ⟨w.heap.size + 2, 0, none⟩)]) (by simp) (by simp [go_sem]) ?_
    refine (catch3_panicking ⟨w.heap.size, 0, none⟩ ⟨w.heap.size + 1, 0, none⟩ ⟨w.heap.size + 2, 0, none⟩ 0 0 false u pv [] _ ?_ ?_ ?_ ?_ ?_ ?_ ?_ ?_ ?_).mono ?_
    iterate 6 (· simp [go_sem])
    iterate 3 (· simp)
    rintro e u' w'' ⟨rfl, rfl, rfl⟩
    simp [Leaves, settle, results, Tryd.results8, go_sem, resT]
    exact below3 _ _ _ _
  | some np =>
    obtain ⟨n, p⟩ := np
    rw [hR] at hrg
    simp only [endT] at hrg
    clear hR
    go_enter_defers Tryd.func8, Tryd.ntmps8
    go_wp2_with (go_at_call 15; refine hrg.mono ?_; rintro e w' ⟨rfl, rfl⟩)
    go_region
    all_goals (try go_wp2)
    all_goals
      refine leaves_cons (f := 14) (args := #[.pointer (some ⟨w.heap.size, 0, none⟩), .pointer (some ⟨w.heap.size + 1, 0, none⟩), .pointer (some ⟨w.heap.size + 2, 0, none⟩)]) (by simp) (by simp [go_sem]) ?_
      refine (catch3_idle ⟨w.heap.size, 0, none⟩ ⟨w.heap.size + 1, 0, none⟩ ⟨w.heap.size + 2, 0, none⟩ _).mono ?_
      rintro e u' w'' ⟨rfl, rfl, rfl⟩
      simp [Leaves, settle, results, Tryd.results8, go_sem, resT]
      exact (below3 _ _ _ _).drew

end Go.Proofs.YtnanabbkogakmaaDoor
