/- The program's Parts, by its contract; strings.Clone. -/
import Derived.Test.YtnanabbkogakmaaDoorOwnS
import Derived.Lib.BufferWrite
namespace Go.Proofs.YtnanabbkogakmaaDoor
open Go.RowKit

theorem below_grow_new {B : Nat} {w : World} (hB : B ≤ w.heap.size) (o : Obj) (cs : Array Value) : Below B w ((w.alloc o).setRow w.heap.size cs) :=
  ((Below.refl B w).alloc hB o).trans ⟨rfl, rfl, rfl, by simp, fun k hk => setRow_other _ _ _ _ (by omega)⟩

set_option maxHeartbeats 4000000 in
/-- stringslite.Clone: the same bytes; nothing that was there turns. -/
theorem clone_in (s : ByteArray) (w : World) (hs : s.size ≤ 1099511627776) :
    Calls Tryd.prog 21 #[.string s] w fun e w' => e = .returned (.string s) ∧ Below w.heap.size w w' := by
  by_cases h0 : s.size = 0
  · obtain rfl : s = ⟨#[]⟩ := ByteArray.ext (Array.eq_empty_of_size_eq_zero h0)
    go_enter Tryd.func21, Tryd.ntmps21
    go_wp2
    go_ret
    exact ⟨rfl, Below.refl _ _⟩
  · obtain ⟨i0, hi, hz0, hz1, hz2⟩ := info_parts Tryd.info5
    have hone : Tryd.prog.cellsOf 5 = 1 := by kernel_rfl
    have hsz1 : (Tryd.prog.info? 5).map (·.size) = some 1 := by kernel_rfl
    have e0 : ((s.size : Int) == 0) = false := by rw [beq_eq_false_iff_ne]; omega
    -- the row that 'make' lays, under a name
    obtain ⟨M, hMs, hmk⟩ : ∃ M : Array Value, M.size = s.size ∧ ∀ W : World, (Instr.makeSlice 22 (.int .i64 (s.size : Int)) (.int .i64 (s.size : Int))).run Tryd.prog W = .ok (.slice (some ⟨W.heap.size, 0, none⟩) s.size s.size) (W.alloc (.cells M 5)) := by
      refine ⟨madeCells (Value.int .u8 0).cells (((s.size : Nat) : Int).toNat * i0.size), by rw [size_madeCells, hz1]; simp, fun W => ?_⟩
      have h := run_make (P := Tryd.prog) W 22 5 i0 (.int .u8 0) Tryd.underlying22 hi hz0 .i64 .i64 (s.size : Int) (s.size : Int) (by omega) (by omega) (by rw [hz2]; omega) (by omega)
      simpa using h
    -- what 'copy' writes into it
    obtain ⟨Y, hYl, hcp⟩ : ∃ Y : Array Value, Y.toList = Lib.byteCells s.data.toList ∧ (Builtin.copy_ #[22, 9] 3 #[.slice (some ⟨w.heap.size, 0, none⟩) s.size s.size, .string s]).run Tryd.prog (w.alloc (.cells M 5)) = .ok (goInt s.size) ((w.alloc (.cells M 5)).setRow w.heap.size Y) := by
      refine ⟨_, ?_, Lib.run_copy_row_string (P := Tryd.prog) (w.alloc (.cells M 5)) 22 9 3 5 w.heap.size 0 s.size s.size s M 5 Tryd.underlying22 hsz1 (heap_alloc_new w _) (Nat.le_refl _) (by omega)⟩
      rw [List.toList_toArray, List.take_zero, List.nil_append, List.drop_of_length_le (by rw [Array.length_toList]; omega), List.append_nil]
    have hYs : Y.size = s.size := by rw [← Array.length_toList, hYl, Lib.byteCells_length, ← Lib.size_eq]
    have hrow : ((w.alloc (.cells M 5)).setRow w.heap.size Y).heap[w.heap.size]? = some (.cells Y 5 (0, 0)) := setRow_heap _ _ M _ 5 (0, 0) (heap_alloc_new w _)
    have hne : s.data.toList ≠ [] := fun e => h0 (by rw [Lib.size_eq, e]; rfl)
    have hus := Lib.run_unsafeString_row (P := Tryd.prog) ((w.alloc (.cells M 5)).setRow w.heap.size Y) 49 3 9 5 Tryd.underlying49 hone w.heap.size Y.size (by unfold World.shape?; rw [hrow]) s.data.toList hne (by rw [← Lib.size_eq]; omega) (by rw [← Lib.size_eq]; omega)
      (fun j x hx => Lib.cells_of_row hrow Y.size j _ (by rw [List.take_of_length_le (by rw [Array.length_toList]; exact Nat.le_refl _), hYl]; simp [Lib.byteCells, hx]))
    rw [← Lib.size_eq] at hus
    have hb : Below w.heap.size w ((w.alloc (.cells M 5)).setRow w.heap.size Y) := below_grow_new (Nat.le_refl _) _ _
    clear hYl hz0 hz1 hz2 hi
    go_enter Tryd.func21, Tryd.ntmps21
    go_wp2
    go_ret
    exact ⟨rfl, Lib.below_freeze hb (p := ⟨w.heap.size, 0, none⟩) (Nat.le_refl _) _⟩

theorem clone (s : ByteArray) (w : World) (hs : s.size ≤ 1099511627776) :
    Calls Tryd.prog 17 #[.string s] w fun e w' => e = .returned (.string s) ∧ Below w.heap.size w w' := by
  go_enter Tryd.func17, Tryd.ntmps17
  go_wp2_with (go_at_call 21; refine (clone_in s _ hs).mono ?_; rintro e w' ⟨rfl, hb⟩)
  go_ret
  exact ⟨rfl, hb⟩

/-- What stands ahead of place 'i': the parts that are closed, and where the open one begins. -/
def cutAt (s : ByteArray) (b : Int) : Nat → List ByteArray × Nat
  | 0 => ([], 0)
  | i + 1 => if (if h : i < s.size then (s[i].toNat : Int) else -1) = b then ((cutAt s b i).1 ++ [s.extract (cutAt s b i).2 i], i + 1) else cutAt s b i
def cuts (s : ByteArray) (b : Int) : List ByteArray := (cutAt s b s.size).1 ++ [s.extract (cutAt s b s.size).2 s.size]
theorem cutAt_hit (s : ByteArray) (b : Int) (i : Nat) (h : i < s.size) (hb : (s[i].toNat : Int) = b) : cutAt s b (i + 1) = ((cutAt s b i).1 ++ [s.extract (cutAt s b i).2 i], i + 1) := by
  conv => lhs; rw [cutAt]
  rw [dif_pos h, if_pos hb]
theorem cutAt_miss (s : ByteArray) (b : Int) (i : Nat) (h : i < s.size) (hb : ¬ (s[i].toNat : Int) = b) : cutAt s b (i + 1) = cutAt s b i := by
  conv => lhs; rw [cutAt]
  rw [dif_pos h, if_neg hb]
theorem cutAt_le (s : ByteArray) (b : Int) (i : Nat) : (cutAt s b i).1.length ≤ i ∧ (cutAt s b i).2 ≤ i := by
  induction i with
  | zero => simp [cutAt]
  | succ i ih =>
    rw [cutAt]
    split <;> split <;> first | omega | (simp only [List.length_append, List.length_singleton]; omega)

set_option maxHeartbeats 1600000 in
theorem iparts (s : ByteArray) (b : Int) (w : World) (hs : s.size ≤ 1048576) :
    Calls Tryd.prog 10 #[.string s, .int .u8 b] w fun e w' => ∃ v, e = .returned v ∧ ownsS w' w.heap.size v (cuts s b) ∧ Below w.heap.size w w' := by
  go_enter Tryd.func10, Tryd.ntmps10
  go_wp2
  go_loopw [5, 6, 7] (fun v f i wr => ∃ (k : Nat) (out : List ByteArray) (from' : Nat), i = .int .i64 k ∧ f = .int .i64 from' ∧ out.length ≤ k ∧ k ≤ s.size ∧ from' ≤ k ∧ ownsS wr w.heap.size v out ∧ Below w.heap.size w wr ∧ Hid (cutAt s b k = (out, from'))) (fun _ _ i _ => s.size - (intOf i).toNat)
  case atStart => exact ⟨0, [], 0, rfl, rfl, by simp, Nat.zero_le _, Nat.le_refl _, World.ownsRow_nil _ _ _ _, Below.refl _ _, rfl⟩
  case round =>
    obtain ⟨k, out, from', rfl, rfl, hlen, hk, hf, hown, hb, HC⟩ := hrel
    have hsz := hb.size
    by_cases hlt : k < s.size
    · by_cases hit : (s[k].toNat : Int) = b
      · have e2 : ((s[k].toNat : Int) == b) = true := by simpa using hit
        have H := Hid.out HC
        have hnext : cutAt s b (k + 1) = (out ++ [s.extract from' k], k + 1) := by rw [cutAt_hit s b k hlt hit, H]
        have HN : Hid (cutAt s b (k + 1) = (out ++ [s.extract from' k], k + 1)) := hnext
        clear H hnext hit
        go_wp2_with fail
        refine (clone (s.extract from' k) wr (by rw [ByteArray.size_extract]; omega)).mono ?_
        rintro e w1 ⟨rfl, b1⟩
        have hown1 : ownsS w1 w.heap.size u5 out := hown.below b1 (Nat.le_refl _)
        have hb1 : Below w.heap.size w w1 := hb.trans (b1.mono hsz)
        have hsz1 := hb1.size
        clear hown hb b1 hsz
        go_wp2_with (at_builtin; refine wpS_app w w1 rfl (.tmp 19) (.tmp 25) rfl w.heap.size _ out _ rfl hown1 hb1 rfl (by omega) hsz1 ?_; intro v' w2 hown' hb')
        go_roundw
        case rel => exact ⟨k + 1, _, k + 1, by go_num, by go_num, by rw [List.length_append, List.length_singleton]; omega, by omega, Nat.le_refl _, hown', hb', HN⟩
        case measure => simp [intOf]; omega
      · have e2 : ((s[k].toNat : Int) == b) = false := by rw [beq_eq_false_iff_ne]; exact hit
        have HN : Hid (cutAt s b (k + 1) = (out, from')) := by show _ = _; rw [cutAt_miss s b k hlt hit]; exact HC.out
        clear hit
        go_wp2
        go_roundw
        case rel => exact ⟨k + 1, _, from', by go_num, rfl, by omega, by omega, by omega, hown, hb, HN⟩
        case measure => simp [intOf]; omega
    · obtain rfl : k = s.size := by omega
      have HN : Hid (out ++ [s.extract from' s.size] = cuts s b) := by show _ = _; rw [cuts, HC.out]
      go_wp2_with fail
      refine (clone (s.extract from' s.size) wr (by rw [ByteArray.size_extract]; omega)).mono ?_
      rintro e w1 ⟨rfl, b1⟩
      have hown1 : ownsS w1 w.heap.size u5 out := hown.below b1 (Nat.le_refl _)
      have hb1 : Below w.heap.size w w1 := hb.trans (b1.mono hsz)
      have hsz1 := hb1.size
      clear hown hb b1 hsz
      go_wp2_with (at_builtin; refine wpS_app w w1 rfl (.tmp 29) (.tmp 34) rfl w.heap.size _ out _ rfl hown1 hb1 rfl (by omega) hsz1 ?_; intro v' w2 hown' hb')
      go_ret
      exact ⟨_, rfl, by rw [← HN.out]; exact hown', hb'⟩

end Go.Proofs.YtnanabbkogakmaaDoor
