/- PutNum, of the specification and of the program: each by its contract. -/
import Derived.Test.YtnanabbkogakmaaDoorParts
namespace Go.Proofs.YtnanabbkogakmaaDoor
open Go.RowKit

/-- The bytes of a number: seven bits a byte, the low ones first; 'f' bounds how many. -/
def groups : Nat → Int → List Int
  | 0, n => [n]
  | f + 1, n => if 127 < n then (n % 128 + 128) :: groups f (n / 128) else [n]

theorem groups_last (f : Nat) (n : Int) (h : ¬ 127 < n) : groups f n = [n] := by
  cases f with
  | zero => rfl
  | succ f => simp [groups, h]

def capOf (f : Nat) : Int := 128 ^ (f + 1)
theorem capOf_succ (f : Nat) : capOf (f + 1) = 128 * capOf f := by unfold capOf; rw [Int.pow_succ 128 (f + 1)]; omega
theorem capOf_four : capOf 4 = 34359738368 := by rfl
theorem groups_step (f : Nat) (n : Int) (h : 127 < n) (hb : n < capOf f) : ∃ f', groups f n = (n % 128 + 128) :: groups f' (n / 128) ∧ n / 128 < capOf f' ∧ f' + 1 = f := by
  cases f with
  | zero => exfalso; have : capOf 0 = 128 := by rfl
            omega
  | succ f =>
    refine ⟨f, by simp [groups, h], ?_, rfl⟩
    rw [capOf_succ] at hb
    omega

theorem groups_le (f : Nat) (n : Int) : (groups f n).length ≤ f + 1 := by
  induction f generalizing n with
  | zero => simp [groups]
  | succ f ih => unfold groups; split <;> simp; exact ih _

/-- 'append(out, byte)' on a row of the call's own. -/
theorem wpB_app (w0 w : World) {ops : Array Oper} {rest : List Oper} {o : Oper} {a : Act} {Q : Exit → Act → World → Prop} (hgd : o.guard = none) (s x : Operand)
    (ho : o.op = Op.call { callee := Callee.builtin Builtin.append, args := #[s, x], argTypes := #[22, 22] }) (base : Nat) (v : Value) (xs : List Int) (y : Int)
    (hs : a.eval s = v) (hown : ownsB w base v xs) (hb : Below base w0 w) (hx : a.eval x = .slice (some ⟨w.heap.size, 0, none⟩) 1 1) (hlen : xs.length ≤ 1099511627776) (hbase : base ≤ w.heap.size)
    (h : ∀ v' w', ownsB w' base v' (xs ++ [y]) → Below base w0 w' → wpList Tryd.prog ops Q rest (a.put o.dst v') w') :
    wpList Tryd.prog ops Q (o :: rest) a (w.alloc (.cells #[.int .u8 y] 5)) := by
  obtain ⟨i0, hi, hz0, hz1, hz2⟩ := info_parts Tryd.info5
  refine wpList_append_own _ hgd s x 22 ho base 5 i0 (.int .u8 0) 1 1 Tryd.underlying22 hi hz0 hz1 hz2 rfl (by decide) v xs.length (xs.map (Value.int .u8)) hs (World.ownsRow.alloc hown _) ⟨w.heap.size, 0, none⟩ 1 1 [.int .u8 y] hx rfl ?_ ?_ ?_ ?_ ?_ ?_
  · intro j u hj
    match j, hj with
    | 0, hj => simp at hj; subst hj; simp [Addr.add]
  · intro u hu; simp at hu; subst hu; rfl
  · unfold maxLen; omega
  · omega
  · simp; omega
  · intro v' w' ho' hg _
    refine h v' w' ?_ ((hb.alloc hbase _).grown hg (by simp; omega) fun k hk => (World.ownsRow.lt hown k hk).1)
    unfold ownsB
    simpa using ho'

theorem l1In_yes (x lo hi : Int) (w : World) (h1 : lo ≤ x) (h2 : x ≤ hi) : Calls Tryd.prog 13 #[.int .i64 x, .int .i64 lo, .int .i64 hi] w fun e w' => e = .returned (.bool true) ∧ w' = w := by
  go_enter Tryd.func13, Tryd.ntmps13
  go_wp2
  go_ret
  exact ⟨rfl, rfl⟩

set_option maxHeartbeats 1600000 in
theorem sput_in (n : Int) (w : World) (h0 : 0 ≤ n) (h1 : n ≤ 2147483647) :
    Calls Tryd.prog 7 #[.int .i64 n] w fun e w' => ∃ v, e = .returned v ∧ ownsB w' w.heap.size v (groups 4 n) ∧ Below w.heap.size w w' := by
  go_enter Tryd.func7, Tryd.ntmps7
  go_wp2_with (go_at_call 13; refine (l1In_yes _ _ _ _ h0 h1).mono ?_; rintro e w' ⟨rfl, rfl⟩)
  go_loopw [0, 3] (fun t v wr => ∃ (m : Int) (f : Nat) (pre : List Int), 0 ≤ m ∧ m ≤ 2147483647 ∧ t = .int .i64 m ∧ m < capOf f ∧ pre.length + f ≤ 4 ∧ Hid (groups 4 n = pre ++ groups f m) ∧ ownsB wr w.heap.size v pre ∧ Below w.heap.size w wr) (fun t _ _ => (intOf t).toNat)
  case atStart => exact ⟨n, 4, [], h0, h1, rfl, by rw [capOf_four]; omega, by simp, rfl, World.ownsRow_made _ _ 0 (Nat.le_refl _) (by decide) rfl, (Below.refl _ _).alloc (Nat.le_refl _) _⟩
  case round =>
    obtain ⟨m, f, pre, hm0, hm1, rfl, hcap, hlen, HG, hown, hb⟩ := hrel
    have hsz := hb.size
    by_cases hlt : 127 < m
    · go_wp2_with (at_builtin; refine wpB_app w wr rfl (.tmp 11) (.tmp 16) rfl w.heap.size _ pre _ rfl hown hb rfl (by omega) hsz ?_; intro v' w1 hown' hb')
      obtain ⟨f', hg1, hg2, hg3⟩ := groups_step f m hlt hcap
      go_roundw
      case rel => exact ⟨m / 128, f', pre ++ [m % 128 + 128], by omega, by omega, rfl, hg2, by simp; omega, by have := HG.out; rw [hg1] at this; show _ = _; rw [this]; simp, hown', hb'⟩
      case measure => simp [intOf]; omega
    · go_wp2_with (at_builtin; refine wpB_app w wr rfl (.tmp 20) (.tmp 23) rfl w.heap.size _ pre _ rfl hown hb rfl (by omega) hsz ?_; intro v' w1 hown' hb')
      go_ret
      exact ⟨_, rfl, by rw [HG.out, groups_last f m (by omega)]; exact hown', hb'⟩

set_option maxHeartbeats 1600000 in
theorem sput_out (n : Int) (w : World) (h : n < 0 ∨ 2147483647 < n) :
    Calls Tryd.prog 7 #[.int .i64 n] w fun e w' => ∃ v, e = .returned v ∧ ownsB w' w.heap.size v [] ∧ Below w.heap.size w w' := by
  have hown : ownsB (w.alloc (.cells #[] 5)) w.heap.size (.slice (some ⟨w.heap.size, 0, none⟩) 0 0) [] := World.ownsRow_made _ _ 0 (Nat.le_refl _) (by decide) rfl
  rcases h with h | h
  · go_enter Tryd.func7, Tryd.ntmps7
    go_wp2
    go_ret
    exact ⟨_, rfl, hown, (Below.refl _ _).alloc (Nat.le_refl _) _⟩
  · have h' : 0 ≤ n := by omega
    have hd : decide (n ≤ 2147483647) = false := by simp; omega
    go_enter Tryd.func7, Tryd.ntmps7
    go_wp2
    go_ret
    exact ⟨_, rfl, hown, (Below.refl _ _).alloc (Nat.le_refl _) _⟩

set_option maxHeartbeats 1600000 in
theorem iput_in (n : Int) (w : World) (h0 : 0 ≤ n) (h1 : n ≤ 2147483647) :
    Calls Tryd.prog 6 #[.int .i64 n] w fun e w' => ∃ v, e = .returned v ∧ ownsB w' w.heap.size v (groups 4 n) ∧ Below w.heap.size w w' := by
  go_enter Tryd.func6, Tryd.ntmps6
  go_wp2
  go_loopw [0, 3] (fun t v wr => ∃ (m : Int) (f : Nat) (pre : List Int), 0 ≤ m ∧ m ≤ 2147483647 ∧ t = .int .i64 m ∧ m < capOf f ∧ pre.length + f ≤ 4 ∧ Hid (groups 4 n = pre ++ groups f m) ∧ ownsB wr w.heap.size v pre ∧ Below w.heap.size w wr) (fun t _ _ => (intOf t).toNat)
  case atStart => exact ⟨n, 4, [], h0, h1, rfl, by rw [capOf_four]; omega, by simp, rfl, World.ownsRow_nil _ _ _ _, Below.refl _ _⟩
  case round =>
    obtain ⟨m, f, pre, hm0, hm1, rfl, hcap, hlen, HG, hown, hb⟩ := hrel
    have hsz := hb.size
    by_cases hlt : 127 < m
    · go_wp2_with (at_builtin; refine wpB_app w wr rfl (.tmp 12) (.tmp 17) rfl w.heap.size _ pre _ rfl hown hb rfl (by omega) hsz ?_; intro v' w1 hown' hb')
      obtain ⟨f', hg1, hg2, hg3⟩ := groups_step f m hlt hcap
      rw [Int.add_comm 128 (m % 128)] at hown'
      go_roundw
      case rel => exact ⟨m / 128, f', pre ++ [m % 128 + 128], by omega, by omega, rfl, hg2, by simp; omega, by have := HG.out; rw [hg1] at this; show _ = _; rw [this]; simp, hown', hb'⟩
      case measure => simp [intOf]; omega
    · go_wp2_with (at_builtin; refine wpB_app w wr rfl (.tmp 21) (.tmp 24) rfl w.heap.size _ pre _ rfl hown hb rfl (by omega) hsz ?_; intro v' w1 hown' hb')
      go_ret
      exact ⟨_, rfl, by rw [HG.out, groups_last f m (by omega)]; exact hown', hb'⟩

set_option maxHeartbeats 1600000 in
theorem iput_out (n : Int) (w : World) (h : n < 0 ∨ 2147483647 < n) :
    Calls Tryd.prog 6 #[.int .i64 n] w fun e w' => ∃ v, e = .returned v ∧ ownsB w' w.heap.size v [] ∧ Below w.heap.size w w' := by
  rcases h with h | h
  · go_enter Tryd.func6, Tryd.ntmps6
    go_wp2
    go_ret
    exact ⟨_, rfl, World.ownsRow_nil _ _ _ _, Below.refl _ _⟩
  · have h' : ¬ n < 0 := by omega
    go_enter Tryd.func6, Tryd.ntmps6
    go_wp2
    go_ret
    exact ⟨_, rfl, World.ownsRow_nil _ _ _ _, Below.refl _ _⟩

/-- The bytes of whatever number. -/
def put (n : Int) : List Int := if 0 ≤ n ∧ n ≤ 2147483647 then groups 4 n else []
theorem put_le (n : Int) : (put n).length ≤ 5 := by
  unfold put
  split
  · exact groups_le 4 n
  · simp
theorem sput (n : Int) (w : World) : Calls Tryd.prog 7 #[.int .i64 n] w fun e w' => ∃ v, e = .returned v ∧ ownsB w' w.heap.size v (put n) ∧ Below w.heap.size w w' := by
  by_cases h : 0 ≤ n ∧ n ≤ 2147483647
  · rw [put, if_pos h]; exact sput_in n w h.1 h.2
  · rw [put, if_neg h]; exact sput_out n w (by omega)
theorem iput (n : Int) (w : World) : Calls Tryd.prog 6 #[.int .i64 n] w fun e w' => ∃ v, e = .returned v ∧ ownsB w' w.heap.size v (put n) ∧ Below w.heap.size w w' := by
  by_cases h : 0 ≤ n ∧ n ≤ 2147483647
  · rw [put, if_pos h]; exact iput_in n w h.1 h.2
  · rw [put, if_neg h]; exact iput_out n w (by omega)

end Go.Proofs.YtnanabbkogakmaaDoor
