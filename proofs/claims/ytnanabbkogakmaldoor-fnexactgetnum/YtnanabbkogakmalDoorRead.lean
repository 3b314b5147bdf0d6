/- Number, of the specification and of the program: each by its contract. -/
import Derived.Test.YtnanabbkogakmalDoorRows
import Derived.Test.YtnanabbkogakmalDoorNum
import Derived.WalkKit
import Derived.WalkSpells
import Derived.WalkLawsBesides
import Derived.WalkSmall
import Derived.Laws.BytesString
import Derived.Defers
import Derived.Recover
import Derived.Laws.Pointers
namespace Go.Proofs.YtnanabbkogakmalDoor
open Go.RowKit

theorem conv1 (W : World) (n : Int) : (convert 25 9 (.slice (some ⟨W.heap.size, 0, none⟩) 1 1)).run Tryd.prog (W.alloc (.cells #[.int .u8 n] 5)) = .ok (.string ⟨#[UInt8.ofNat n.toNat]⟩) (W.alloc (.cells #[.int .u8 n] 5)) := by
  rw [run_convert_bytes_string _ 25 9 5 _ _ _ Tryd.underlying25 Tryd.underlying5 Tryd.underlying9]
  rw [run_bytesToString _ ⟨W.heap.size, 0, none⟩ 1 1 [n] (by simp [loadCells, go_sem])]
  rfl

theorem toList_snoc (x : UInt8) (out : ByteArray) : ((⟨#[x]⟩ : ByteArray) ++ out).data.toList = x :: out.data.toList := by
  rw [ByteArray.data_append]; simp
theorem size_snoc (x : UInt8) (out : ByteArray) : ((⟨#[x]⟩ : ByteArray) ++ out).size = out.size + 1 := by
  rw [ByteArray.size_append]; show 1 + out.size = _; omega

set_option maxHeartbeats 1600000 in
/-- The specification's Digits of a number above 0. -/
theorem digits_pos (k : Nat) (w : World) (h0 : 0 < k) (h1 : k ≤ 1099511627776) :
    Calls Tryd.prog 11 #[.int .i64 k] w fun e w' => ∃ t, e = .returned (.string t) ∧ t.data.toList = digL k [] ∧ Below w.heap.size w w' := by
  have hk : ((k : Int) == 0) = false := by rw [beq_eq_false_iff_ne]; omega
  have hk' : ¬ ((k : Int) < 0) := by omega
  have hcv := conv1
  go_enter Tryd.func11, Tryd.ntmps11
  go_wp2
  go_loopw [0, 4, 5] (fun t v d wr => ∃ (m : Nat) (out : ByteArray), m ≤ 1099511627776 ∧ out.size + m ≤ k ∧ t = .int .i64 m ∧ v = .string out ∧ Hid (digL k [] = digL m out.data.toList) ∧ Below w.heap.size w wr) (fun t _ _ _ => (intOf t).toNat)
  case atStart => exact ⟨k, ⟨#[]⟩, by omega, by show 0 + k ≤ k; omega, rfl, rfl, rfl, Below.refl _ _⟩
  case round =>
    obtain ⟨m, out, hm1, hsz, rfl, rfl, HD, hb⟩ := hrel
    have hhs := hb.size
    by_cases hlt : 0 < m
    · have hlt' : (0 : Int) < m := by omega
      have e0 : ((m : Int) == 0) = false := by rw [beq_eq_false_iff_ne]; omega
      have e1 : ¬ ((m : Int) % 10 < 0) := by omega
      go_wp2
      go_roundw
      case rel => exact ⟨m / 10, _, by omega, by rw [size_snoc]; omega, by go_num, rfl, by show _ = _; rw [HD.out, digL_pos m _ hlt, toList_snoc], hb.alloc hhs _⟩
      case measure => simp [intOf]; omega
    · have hm0 : m = 0 := by omega
      subst hm0
      have hd : digL k [] = out.data.toList := HD.out.trans (digL_zero _)
      clear HD
      go_wp2
      go_ret
      exact ⟨_, rfl, hd.symm, hb⟩

/-- The specification's Digits of a number that is not below 0. -/
theorem digits_nat (k : Nat) (w : World) (h1 : k ≤ 1099511627776) :
    Calls Tryd.prog 11 #[.int .i64 k] w fun e w' => ∃ t, e = .returned (.string t) ∧ t.data.toList = numL k ∧ Below w.heap.size w w' := by
  by_cases h0 : 0 < k
  · rw [numL, if_neg (by omega)]; exact digits_pos k w h0 h1
  · obtain rfl : k = 0 := by omega
    go_enter Tryd.func11, Tryd.ntmps11
    go_wp2
    go_ret
    exact ⟨_, rfl, by simp [numL], Below.refl _ _⟩

theorem take_snoc (s : ByteArray) (k : Nat) (h : k < s.size) : s.data.toList.take (k + 1) = s.data.toList.take k ++ [s[k]] := by
  rw [List.take_succ_eq_append_getElem (by simpa using h)]; rfl
theorem all_snoc {s : ByteArray} {k : Nat} (h : k < s.size) (hd : isDig s[k]) (ha : ∀ c ∈ s.data.toList.take k, isDig c) : ∀ c ∈ s.data.toList.take (k + 1), isDig c := by
  rw [take_snoc s k h]
  intro c hc
  rcases List.mem_append.1 hc with hc | hc
  · exact ha c hc
  · simp at hc; subst hc; exact hd
theorem mem_at {s : ByteArray} {k : Nat} (h : k < s.size) : s[k] ∈ s.data.toList := by
  show s.data[k] ∈ s.data.toList
  simp

set_option maxHeartbeats 1600000 in
theorem snum_mid (s : ByteArray) (w : World) (h1 : 1 ≤ s.size) (h6 : s.size ≤ 6) :
    Calls Tryd.prog 5 #[.string s] w fun e w' => e = .returned (.tuple #[.int .i64 (numR s.data.toList).1, .bool (numR s.data.toList).2]) ∧ Below w.heap.size w w' := by
  have hlen : s.data.toList.length = s.size := by rw [Array.length_toList]; rfl
  have ha : ¬ ((s.size : Int) < 1) := by omega
  have hb : ¬ ((6 : Int) < s.size) := by omega
  go_enter Tryd.func5, Tryd.ntmps5
  go_wp2
  go_loop [4, 5] (fun n i => ∃ k : Nat, k ≤ s.size ∧ i = .int .i64 k ∧ n = .int .i64 (val (s.data.toList.take k)) ∧ (∀ c ∈ s.data.toList.take k, isDig c)) (fun _ i => s.size - (intOf i).toNat)
  case atStart => exact ⟨0, Nat.zero_le _, rfl, rfl, by simp⟩
  case round =>
    obtain ⟨k, hk, rfl, rfl, hd⟩ := hrel
    have hv := val_lt _ hd
    have hv6 : val (s.data.toList.take k) < 1000000 := by
      have : 10 ^ (s.data.toList.take k).length ≤ 10 ^ 6 := Nat.pow_le_pow_right (by omega) (by rw [List.length_take]; omega)
      omega
    clear hv
    by_cases hlt : k < s.size
    · have hc255 : s[k].toNat < 256 := s[k].toNat_lt
      by_cases hdig : isDig s[k]
      · have hd' := all_snoc hlt hdig hd
        have hvs := val_snoc (s.data.toList.take k) s[k]
        rw [← take_snoc s k hlt] at hvs
        have HV : Hid (val (s.data.toList.take (k + 1)) = 10 * val (s.data.toList.take k) + (s[k].toNat - 48)) := hvs
        obtain ⟨g1, g2⟩ := hdig
        clear hvs hd
        go_wp2
        go_round
        case rel => exact ⟨k + 1, by omega, by go_num, by rw [HV.out]; go_num, hd'⟩
        case measure => simp [intOf]; omega
      · have hbad : numR s.data.toList = (0, false) := by rw [numR, if_neg fun hg => hdig (hg.2.2.1 _ (mem_at hlt))]
        have HB : Hid (numR s.data.toList = (0, false)) := hbad
        have hor : (s[k].toNat : Int) < 48 ∨ 57 < (s[k].toNat : Int) := by unfold isDig at hdig; omega
        clear hd hbad hdig
        rcases hor with h | h
        · go_wp2
          go_ret2
          exact ⟨by rw [HB.out]; rfl, Below.refl _ _⟩
        · have h' : ¬ ((s[k].toNat : Int) < 48) := by omega
          go_wp2
          go_ret2
          exact ⟨by rw [HB.out]; rfl, Below.refl _ _⟩
    · have hke : k = s.size := by omega
      have htk : s.data.toList.take k = s.data.toList := List.take_of_length_le (by omega)
      rw [htk] at hd hv6 ⊢
      have hgt := good_text s.data.toList (by omega) (by omega) hd
      clear htk
      go_wp2_with fail
      refine (digits_nat (val s.data.toList) w (by omega)).mono ?_
      rintro e w1 ⟨t, rfl, ht, b1⟩
      by_cases hg : good s.data.toList
      · have hts : t = s := ByteArray.ext (Array.toList_inj.1 (ht.trans (hgt.1 hg)))
        have hR : numR s.data.toList = ((val s.data.toList : Int), true) := by rw [numR, if_pos hg]
        have HR : Hid (numR s.data.toList = ((val s.data.toList : Int), true)) := hR
        clear hgt hR ht
        subst hts
        go_wp2
        go_ret2
        exact ⟨by rw [HR.out]; rfl, b1⟩
      · have hR : numR s.data.toList = (0, false) := by rw [numR, if_neg hg]
        have HR : Hid (numR s.data.toList = (0, false)) := hR
        have hts : (t.toList == s.toList) = false := by
          rw [beq_eq_false_iff_ne, ByteArray.toList_eq, ByteArray.toList_eq, ht]
          exact fun e => hg (hgt.2 e)
        clear hgt hR ht
        go_wp2
        go_ret2
        exact ⟨by rw [HR.out]; rfl, b1⟩

/-- The specification's Number. -/
theorem snum (s : ByteArray) (w : World) :
    Calls Tryd.prog 5 #[.string s] w fun e w' => e = .returned (.tuple #[.int .i64 (numR s.data.toList).1, .bool (numR s.data.toList).2]) ∧ Below w.heap.size w w' := by
  have hlen : s.data.toList.length = s.size := by rw [Array.length_toList]; rfl
  by_cases h : 1 ≤ s.size ∧ s.size ≤ 6
  · exact snum_mid s w h.1 h.2
  · have hbad : numR s.data.toList = (0, false) := by rw [numR, if_neg fun hg => h ⟨by rw [← hlen]; exact hg.1, by rw [← hlen]; exact hg.2.1⟩]
    rw [hbad]
    have hor : (s.size : Int) < 1 ∨ (6 : Int) < s.size := by omega
    clear hbad
    rcases hor with h | h
    · go_enter Tryd.func5, Tryd.ntmps5
      go_wp2
      go_ret2
      exact ⟨rfl, Below.refl _ _⟩
    · have h' : ¬ ((s.size : Int) < 1) := by omega
      go_enter Tryd.func5, Tryd.ntmps5
      go_wp2
      go_ret2
      exact ⟨rfl, Below.refl _ _⟩

/-- What the program's own panic leaves: the variable's value, not recovered. -/
def thrown (u : TypeId) (pv : Value) : List PanicEntry := [{ v := .iface u pv, recovered := false }]

theorem digitAt_yes (s : ByteArray) (k : Nat) (w : World) (hlt : k < s.size) (hd : isDig s[k]) :
    Calls Tryd.prog 16 #[.string s, .int .i64 k] w fun e w' => e = .returned (.int .i64 ((s[k].toNat - 48 : Nat) : Int)) ∧ w' = w := by
  obtain ⟨g1, g2⟩ := hd
  have a1 : ¬ ((s[k].toNat : Int) < 48) := by omega
  have a2 : ¬ ((57 : Int) < (s[k].toNat : Int)) := by omega
  go_enter Tryd.func16, Tryd.ntmps16
  go_wp2
  go_ret
  exact ⟨by go_num, rfl⟩

theorem digitAt_no (s : ByteArray) (k : Nat) (w : World) (u : TypeId) (pv : Value) (hlt : k < s.size) (hd : ¬ isDig s[k]) (hv : w.cell? ⟨0, 0, none⟩ = some (.iface u pv)) :
    Calls Tryd.prog 16 #[.string s, .int .i64 k] w fun e w' => e = .panicked (thrown u pv) ∧ w' = w := by
  have hor : (s[k].toNat : Int) < 48 ∨ 57 < (s[k].toNat : Int) := by unfold isDig at hd; omega
  rcases hor with h | h
  · go_enter Tryd.func16, Tryd.ntmps16
    go_wp2
    exact ⟨rfl, rfl, rfl⟩
  · have h' : ¬ ((s[k].toNat : Int) < 48) := by omega
    go_enter Tryd.func16, Tryd.ntmps16
    go_wp2
    exact ⟨rfl, rfl, rfl⟩

theorem list_of (s : ByteArray) (h : 0 < s.size) : ∃ r, s.data.toList = s[0] :: r ∧ r.length + 1 = s.size := by
  have hl : s.data.toList.length = s.size := by rw [Array.length_toList]; rfl
  match e : s.data.toList with
  | [] => rw [e] at hl; simp at hl; omega
  | c :: r =>
    refine ⟨r, ?_, by rw [e] at hl; simpa using hl⟩
    have h0 : s.data.toList[0]'(by omega) = s[0] := by simp [ByteArray.getElem_eq_getElem_data]
    have h1 : s.data.toList[0]'(by omega) = c := by simp [e]
    rw [← h0, h1]

set_option maxHeartbeats 1600000 in
theorem readDigits_yes (s : ByteArray) (w : World) (hg : good s.data.toList) :
    Calls Tryd.prog 13 #[.string s] w fun e w' => e = .returned (.int .i64 (val s.data.toList)) ∧ w' = w := by
  have hlen : s.data.toList.length = s.size := by rw [Array.length_toList]; rfl
  have h1 : 0 < s.size := by have := hg.1; omega
  have h6 : s.size ≤ 6 := by have := hg.2.1; omega
  have hall := hg.2.2.1
  have hemp : s.toList.isEmpty = false := by rw [ByteArray.toList_eq, List.isEmpty_eq_false_iff]; intro e; rw [e] at hlen; simp at hlen; omega
  have hhead : (s[0].toNat : Int) = 48 → s.size = 1 := by
    intro h
    obtain ⟨r, hr, _⟩ := list_of s h1
    rw [← hlen]
    refine hg.2.2.2 ?_
    rw [hr]
    simp only [List.head?_cons, Option.some.injEq]
    exact UInt8.toNat_inj.1 (by show s[0].toNat = 48; omega)
  have hor : ((s[0].toNat : Int) == 48) = false ∨ (((s[0].toNat : Int) == 48) = true ∧ ¬ ((1 : Int) < s.size)) := by
    by_cases h : (s[0].toNat : Int) = 48
    · exact .inr ⟨by simpa using h, by have := hhead h; omega⟩
    · exact .inl (by rw [beq_eq_false_iff_ne]; exact h)
  clear hhead
  have key : ∀ k, k ≤ s.size → val (s.data.toList.take k) ≤ 999999 := fun k hk => by
    have hv := val_lt (s.data.toList.take k) (fun c hc => hall c (List.mem_of_mem_take hc))
    have : 10 ^ (s.data.toList.take k).length ≤ 10 ^ 6 := Nat.pow_le_pow_right (by omega) (by rw [List.length_take]; omega)
    omega
  rcases hor with ho | ⟨ho, ho'⟩
  all_goals
    go_enter Tryd.func13, Tryd.ntmps13
    go_wp2
    go_loop [3, 4] (fun n i => ∃ k : Nat, k ≤ s.size ∧ i = .int .i64 k ∧ n = .int .i64 (val (s.data.toList.take k))) (fun _ i => s.size - (intOf i).toNat)
    case atStart => exact ⟨0, Nat.zero_le _, rfl, rfl⟩
    case round =>
      obtain ⟨k, hk, rfl, rfl⟩ := hrel
      have hv := key k hk
      by_cases hlt : k < s.size
      · have hd : isDig s[k] := hall _ (mem_at hlt)
        have hv' := key (k + 1) hlt
        have hvs := val_snoc (s.data.toList.take k) s[k]
        rw [← take_snoc s k hlt] at hvs
        have HV : Hid (val (s.data.toList.take (k + 1)) = 10 * val (s.data.toList.take k) + (s[k].toNat - 48)) := hvs
        rw [hvs] at hv'
        have hv2 : (val (s.data.toList.take k) : Int) * 10 + ((s[k].toNat - 48 : Nat) : Int) ≤ 999999 := by omega
        have hv3 : ((s[k].toNat - 48 : Nat) : Int) ≤ 9 := by unfold isDig at hd; omega
        clear hvs hv'
        go_wp2_with (go_at_call 16; refine (digitAt_yes s k w hlt hd).mono ?_; rintro e w' ⟨rfl, rfl⟩)
        go_round
        case rel => exact ⟨k + 1, by omega, by go_num, by rw [HV.out]; go_num⟩
        case measure => simp [intOf]; omega
      · have htk : s.data.toList.take k = s.data.toList := List.take_of_length_le (by omega)
        go_wp2
        go_ret
        exact ⟨by rw [← htk]; rfl, rfl⟩

set_option maxHeartbeats 1600000 in
theorem readDigits_no (s : ByteArray) (w : World) (u : TypeId) (pv : Value) (hs : s.size ≤ 1048576) (hg : ¬ good s.data.toList) (hvar : w.cell? ⟨0, 0, none⟩ = some (.iface u pv)) :
    Calls Tryd.prog 13 #[.string s] w fun e w' => e = .panicked (thrown u pv) ∧ w' = w := by
  have hlen : s.data.toList.length = s.size := by rw [Array.length_toList]; rfl
  by_cases h0 : s.size = 0
  · obtain rfl : s = ⟨#[]⟩ := ByteArray.ext (Array.eq_empty_of_size_eq_zero h0)
    go_enter Tryd.func13, Tryd.ntmps13
    go_wp2
    exact ⟨rfl, rfl, rfl⟩
  · have h1 : 0 < s.size := by omega
    have hemp : s.toList.isEmpty = false := by rw [ByteArray.toList_eq, List.isEmpty_eq_false_iff]; intro e; rw [e] at hlen; simp at hlen; omega
    obtain ⟨r, hr, hrl⟩ := list_of s h1
    by_cases hz : (s[0].toNat : Int) = 48 ∧ (1 : Int) < s.size
    · obtain ⟨z1, z2⟩ := hz
      have z3 : ((s[0].toNat : Int) == 48) = true := by simpa using z1
      clear z1 hr
      go_enter Tryd.func13, Tryd.ntmps13
      go_wp2
      exact ⟨rfl, rfl, rfl⟩
    · have hor : ((s[0].toNat : Int) == 48) = false ∨ (((s[0].toNat : Int) == 48) = true ∧ ¬ ((1 : Int) < s.size)) := by
        by_cases h : (s[0].toNat : Int) = 48
        · exact .inr ⟨by simpa using h, fun h2 => hz ⟨h, h2⟩⟩
        · exact .inl (by rw [beq_eq_false_iff_ne]; exact h)
      have hz' : ¬ (s[0] = 48 ∧ r ≠ []) := fun ⟨e1, e2⟩ => hz ⟨by rw [e1]; rfl, by have : r.length ≠ 0 := fun e => e2 (List.eq_nil_of_length_eq_zero e); omega⟩
      have last : (∀ c ∈ s.data.toList, isDig c) → val s.data.toList ≤ 999999 → False := fun ha hv => by
        rw [hr] at ha hv hg
        exact hg (good_of_small s[0] r ha hz' hv)
      clear hz hz' hr hg
      rcases hor with ho | ⟨ho, ho'⟩
      all_goals
        go_enter Tryd.func13, Tryd.ntmps13
        go_wp2
        go_loop [3, 4] (fun n i => ∃ k : Nat, k ≤ s.size ∧ i = .int .i64 k ∧ n = .int .i64 (val (s.data.toList.take k)) ∧ val (s.data.toList.take k) ≤ 999999 ∧ (∀ c ∈ s.data.toList.take k, isDig c)) (fun _ i => s.size - (intOf i).toNat)
        case atStart => exact ⟨0, Nat.zero_le _, rfl, rfl, by simp [val], by simp⟩
        case round =>
          obtain ⟨k, hk, rfl, rfl, hv, hall⟩ := hrel
          by_cases hlt : k < s.size
          · by_cases hd : isDig s[k]
            · have hall' := all_snoc hlt hd hall
              have hvs := val_snoc (s.data.toList.take k) s[k]
              rw [← take_snoc s k hlt] at hvs
              have HV : Hid (val (s.data.toList.take (k + 1)) = 10 * val (s.data.toList.take k) + (s[k].toNat - 48)) := hvs
              have hv3 : ((s[k].toNat - 48 : Nat) : Int) ≤ 9 := by unfold isDig at hd; omega
              clear hvs hall
              by_cases hbig : (val (s.data.toList.take k) : Int) * 10 + ((s[k].toNat - 48 : Nat) : Int) ≤ 999999
              · go_wp2_with (go_at_call 16; refine (digitAt_yes s k w hlt hd).mono ?_; rintro e w' ⟨rfl, rfl⟩)
                go_round
                case rel => exact ⟨k + 1, by omega, by go_num, by rw [HV.out]; go_num, by rw [HV.out]; omega, hall'⟩
                case measure => simp [intOf]; omega
              · have hbig' : (999999 : Int) < (val (s.data.toList.take k) : Int) * 10 + ((s[k].toNat - 48 : Nat) : Int) := by omega
                go_wp2_with (go_at_call 16; refine (digitAt_yes s k w hlt hd).mono ?_; rintro e w' ⟨rfl, rfl⟩)
                exact ⟨rfl, rfl, rfl⟩
            · clear hall
              go_wp2_with (go_at_call 16; refine (digitAt_no s k w u pv hlt hd hvar).mono ?_; rintro e w' ⟨rfl, rfl⟩)
              exact ⟨rfl, rfl, rfl⟩
          · have htk : s.data.toList.take k = s.data.toList := List.take_of_length_le (by omega)
            rw [htk] at hv hall
            exact (last hall hv).elim

theorem catch2_panicking (p q : Addr) (x : Int) (y : Bool) (u : TypeId) (pv : Value) (older : List PanicEntry) (w : World) (hp : w.cell? p = some (.int .i64 x)) (hq : w.cell? q = some (.bool y)) (hpz : w.frozen? p = false) (hqz : w.frozen? q = false) (hne : q.block ≠ p.block) :
    CallsD Tryd.prog 12 #[.pointer (some p), .pointer (some q)] (.panicking ({ v := .iface u pv, recovered := false } :: older)) w fun e u' w' =>
      e = .returned (.tuple #[]) ∧ u' = .panicking ({ v := .iface u pv, recovered := true } :: older) ∧ w' = (w.setCell p (.int .i64 0)).setCell q (.bool false) := by
  have hq' : (w.setCell p (.int .i64 0)).cell? q = some (.bool y) := (World.cell?_setCell_other _ _ _ _ (fun e => hne (by rw [e]))).trans hq
  have hqz' : (w.setCell p (.int .i64 0)).frozen? q = false := (World.frozen?_setCell _ _ _ _).trans hqz
  refine callsD_of_wpS Tryd.func12 rfl fun c₀ cs hu => ?_
  apply wpS_seq
  apply wpS_region
  simp [wpOpsS, go_sem, recoverD, hu, Tryd.ntmps12, Exit.thenS]
  refine wpS_cond (t := true) (by simp [Act.eval, Array.replicate]) ?_
  simp only [if_true]
  apply wpS_region
  simp [wpOpsS, go_sem, hp, hpz, hq', hqz', bodyPostS, results, Tryd.results12]

theorem catch2_idle (p q : Addr) (w : World) :
    CallsD Tryd.prog 12 #[.pointer (some p), .pointer (some q)] .returning w fun e u' w' => e = .returned (.tuple #[]) ∧ u' = .returning ∧ w' = w := by
  refine callsD_of_wpS Tryd.func12 rfl fun c₀ cs hu => ?_
  apply wpS_seq
  apply wpS_region
  simp [wpOpsS, go_sem, recoverD, hu, Tryd.ntmps12, Exit.thenS]
  refine wpS_cond (t := false) (by simp [Act.eval, Array.replicate]) ?_
  simp only [Bool.false_eq_true, if_false]
  refine wpS_of_wp (wp_skip ?_)
  cases c₀
  simp_all [bodyPostS, results, Tryd.results12]

end Go.Proofs.YtnanabbkogakmalDoor
