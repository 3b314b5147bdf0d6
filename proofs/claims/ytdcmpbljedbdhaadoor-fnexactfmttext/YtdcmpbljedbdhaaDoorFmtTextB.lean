/- FmtText of the specification and of the program, each by its contract (strconv.Itoa by the library's own). -/
import Derived.Test.YtdcmpbljedbdhaaDoorIFmtOk
import Derived.Test.YtdcmpbljedbdhaaDoorDigits
import Derived.Test.YtdcmpbljedbdhaaDoorItoa
namespace Go.Proofs.YtdcmpbljedbdhaaDoor
open Go.RowKit
set_option linter.unusedSimpArgs false

def fmtTL (g : Bool) (m n : Int) : List UInt8 := if fok m n = true then (if g = true then [81] else [85, 81]) ++ (Lib.itoa (m - n) ++ (46 :: Lib.itoa n)) else []
theorem itoa_len (n : Int) (h0 : 0 ≤ n) (h1 : n ≤ 60) : (Lib.itoa n).length ≤ 2 := by
  have h : ∀ k : Fin 61, (Lib.itoa ((k.val : Nat) : Int)).length ≤ 2 := by decide +kernel
  obtain ⟨k, rfl⟩ := Int.eq_ofNat_of_zero_le h0
  exact h ⟨k, by omega⟩
theorem size_of_list {t : ByteArray} {l : List UInt8} (h : t.data.toList = l) : t.size = l.length := by rw [← h]; rfl
theorem app_list (a b : ByteArray) : (a ++ b).data.toList = a.data.toList ++ b.data.toList := by rw [ByteArray.data_append]; simp

set_option maxHeartbeats 1600000 in
theorem sFmtText (g : Bool) (m n : Int) (w : World) :
    Calls Tryd.prog 6 #[vF g m n] w fun e w' => ∃ t, e = .returned (.string t) ∧ t.data.toList = fmtTL g m n ∧ Below w.heap.size w w' := by
  have kF := fun W => sFmtOk g m n W
  have B0 := BoxF.made w g m n 25
  obtain ⟨b, hb⟩ : ∃ b, fok m n = b := ⟨_, rfl⟩
  rw [hb] at kF
  cases b
  · have HR : Hid (fmtTL g m n = []) := by show _ = _; unfold fmtTL; rw [if_neg (by rw [hb]; simp)]
    clear hb
    go_enter Tryd.func6, Tryd.ntmps6
    go_wp2_with fail
    refine (kF _).mono ?_
    rintro e w1 ⟨rfl, b1⟩
    have B1 := B0.below b1
    clear B0 b1
    go_wp2
    go_ret
    exact ⟨_, rfl, by rw [HR.out], B1.2.2.2.2⟩
  · have hm := of_decide_eq_true hb
    have HR : Hid (fmtTL g m n = (if g = true then [81] else [85, 81]) ++ (Lib.itoa (m - n) ++ (46 :: Lib.itoa n))) := by show _ = _; unfold fmtTL; rw [if_pos hb]
    clear hb
    obtain ⟨d, hd⟩ : ∃ d, m - n = d := ⟨_, rfl⟩
    rw [hd] at HR
    have hsub : IntKind.i64.wrap (m - n) = d := by rw [IntKind.wrap_i64]; omega
    have kD := fun W (_ : Below w.heap.size w W) => digits_any d W (by omega) (by omega)
    have hd0 : 0 ≤ d ∧ d ≤ 60 := by omega
    replace hd : Hid _ := hd
    have kE := fun W (_ : Below w.heap.size w W) => digits_any n W (by omega) (by omega)
    cases g
    · go_enter Tryd.func6, Tryd.ntmps6
      go_wp2_with fail
      refine (kF _).mono ?_
      rintro e w1 ⟨rfl, b1⟩
      have B1 := B0.below b1
      clear B0 b1
      obtain ⟨d0, d1, d2, -, -⟩ := id B1
      go_wp2_with fail
      have B2 := B1.below (Below.refl w1.heap.size w1).drew
      clear d0 d1 d2
      obtain ⟨d0, d1, d2, -, -⟩ := id B2
      clear B1
      go_region_held (fun W => W.cell? ⟨w.heap.size, 0, none⟩ = some (.bool false) ∧ W.cell? ⟨w.heap.size, 1, none⟩ = some (.int .i64 m) ∧ W.cell? ⟨w.heap.size, 2, none⟩ = some (.int .i64 n)) (go_keep) (first
        | (go_at_call 19; have hq := B3; clear hq; refine (kE _ B3.2.2.2.2).mono ?_; rintro e w4 ⟨t4, rfl, l4, b4⟩; have s4 : t4.size ≤ 2 := (by rw [size_of_list l4]; exact itoa_len _ (by omega) (by omega)); replace l4 : Hid _ := l4; have B4 := B3.below b4; obtain ⟨f0, f1, f2, -, -⟩ := id B4)
        | (go_at_call 19; (try simp only [hsub]); refine (kD _ B2.2.2.2.2).mono ?_; rintro e w3 ⟨t3, rfl, l3, b3⟩; have s3 : t3.size ≤ 2 := (by rw [size_of_list l3]; exact itoa_len _ (by omega) (by omega)); replace l3 : Hid _ := l3; have B3 := B2.below b3; obtain ⟨e0, e1, e2, -, -⟩ := id B3))
      all_goals
        go_wp2
        go_ret
        exact ⟨_, rfl, by rw [HR.out]; simp only [app_list, l3.out, l4.out]; simp, B4.2.2.2.2⟩
    · go_enter Tryd.func6, Tryd.ntmps6
      go_wp2_with fail
      refine (kF _).mono ?_
      rintro e w1 ⟨rfl, b1⟩
      have B1 := B0.below b1
      clear B0 b1
      obtain ⟨d0, d1, d2, -, -⟩ := id B1
      go_wp2_with fail
      have B2 := B1.below (Below.refl w1.heap.size w1).drew
      clear d0 d1 d2
      obtain ⟨d0, d1, d2, -, -⟩ := id B2
      clear B1
      go_region_held (fun W => W.cell? ⟨w.heap.size, 0, none⟩ = some (.bool true) ∧ W.cell? ⟨w.heap.size, 1, none⟩ = some (.int .i64 m) ∧ W.cell? ⟨w.heap.size, 2, none⟩ = some (.int .i64 n)) (go_keep) (first
        | (go_at_call 19; have hq := B3; clear hq; refine (kE _ B3.2.2.2.2).mono ?_; rintro e w4 ⟨t4, rfl, l4, b4⟩; have s4 : t4.size ≤ 2 := (by rw [size_of_list l4]; exact itoa_len _ (by omega) (by omega)); replace l4 : Hid _ := l4; have B4 := B3.below b4; obtain ⟨f0, f1, f2, -, -⟩ := id B4)
        | (go_at_call 19; (try simp only [hsub]); refine (kD _ B2.2.2.2.2).mono ?_; rintro e w3 ⟨t3, rfl, l3, b3⟩; have s3 : t3.size ≤ 2 := (by rw [size_of_list l3]; exact itoa_len _ (by omega) (by omega)); replace l3 : Hid _ := l3; have B3 := B2.below b3; obtain ⟨e0, e1, e2, -, -⟩ := id B3))
      all_goals
        go_wp2
        go_ret
        exact ⟨_, rfl, by rw [HR.out]; simp only [app_list, l3.out, l4.out]; simp, B4.2.2.2.2⟩

set_option maxHeartbeats 1600000 in
theorem idigits' (n : Int) (w : World) (h0 : -9223372036854775808 ≤ n) (h1 : n ≤ 9223372036854775807) (htab : Lib.TabIs Tryd.prog w "internal/strconv.uint64pow10" .u64 Lib.pow10Tab) :
    Calls Tryd.prog 21 #[.int .i64 n] w fun e w' => ∃ t, e = .returned (.string t) ∧ t.data.toList = Lib.itoa n ∧ Below w.heap.size w w' := by
  refine (idigits n w h0 h1 htab).mono ?_
  rintro e w' ⟨rfl, b⟩
  exact ⟨_, rfl, rfl, b⟩

set_option maxHeartbeats 1600000 in
theorem iFmtText (g : Bool) (m n : Int) (w : World) (htab : Lib.TabIs Tryd.prog w "internal/strconv.uint64pow10" .u64 Lib.pow10Tab) :
    Calls Tryd.prog 8 #[vF g m n] w fun e w' => ∃ t, e = .returned (.string t) ∧ t.data.toList = fmtTL g m n ∧ Below w.heap.size w w' := by
  have kF := fun W => iFmtOk g m n W
  have B0 := BoxF.made w g m n 25
  have T := fun W (h : Below w.heap.size w W) => tab_below h htab gPow
  obtain ⟨b, hb⟩ : ∃ b, fok m n = b := ⟨_, rfl⟩
  rw [hb] at kF
  cases b
  · have HR : Hid (fmtTL g m n = []) := by show _ = _; unfold fmtTL; rw [if_neg (by rw [hb]; simp)]
    clear hb
    go_enter Tryd.func8, Tryd.ntmps8
    go_wp2_with fail
    refine (kF _).mono ?_
    rintro e w1 ⟨rfl, b1⟩
    have B1 := B0.below b1
    clear B0 b1
    go_wp2
    go_ret
    exact ⟨_, rfl, by rw [HR.out], B1.2.2.2.2⟩
  · have hm := of_decide_eq_true hb
    have HR : Hid (fmtTL g m n = (if g = true then [81] else [85, 81]) ++ (Lib.itoa (m - n) ++ (46 :: Lib.itoa n))) := by show _ = _; unfold fmtTL; rw [if_pos hb]
    clear hb
    obtain ⟨d, hd⟩ : ∃ d, m - n = d := ⟨_, rfl⟩
    rw [hd] at HR
    have hsub : IntKind.i64.wrap (m - n) = d := by rw [IntKind.wrap_i64]; omega
    have kD := fun W h => idigits' d W (by omega) (by omega) (T W h)
    have hd0 : 0 ≤ d ∧ d ≤ 60 := by omega
    replace hd : Hid _ := hd
    have kE := fun W h => idigits' n W (by omega) (by omega) (T W h)
    clear T htab
    go_enter Tryd.func8, Tryd.ntmps8
    go_wp2_with fail
    refine (kF _).mono ?_
    rintro e w1 ⟨rfl, b1⟩
    have B1 := B0.below b1
    clear B0 b1
    obtain ⟨d0, d1, d2, -, -⟩ := id B1
    go_wp2_with fail
    have B2 := B1.below (Below.refl w1.heap.size w1).drew
    clear d0 d1 d2
    obtain ⟨d0, d1, d2, -, -⟩ := id B2
    clear B1
    go_region_held (fun W => W.cell? ⟨w.heap.size, 0, none⟩ = some (.bool g) ∧ W.cell? ⟨w.heap.size, 1, none⟩ = some (.int .i64 m) ∧ W.cell? ⟨w.heap.size, 2, none⟩ = some (.int .i64 n)) (go_keep) (first
      | (go_at_call 21; have hq := B3; clear hq; refine (kE _ B3.2.2.2.2).mono ?_; rintro e w4 ⟨t4, rfl, l4, b4⟩; have s4 : t4.size ≤ 2 := (by rw [size_of_list l4]; exact itoa_len _ (by omega) (by omega)); replace l4 : Hid _ := l4; have B4 := B3.below b4; obtain ⟨f0, f1, f2, -, -⟩ := id B4)
      | (go_at_call 21; (try simp only [hsub]); refine (kD _ B2.2.2.2.2).mono ?_; rintro e w3 ⟨t3, rfl, l3, b3⟩; have s3 : t3.size ≤ 2 := (by rw [size_of_list l3]; exact itoa_len _ (by omega) (by omega)); replace l3 : Hid _ := l3; have B3 := B2.below b3; obtain ⟨e0, e1, e2, -, -⟩ := id B3))
    all_goals
      by_cases hg : g = true
      · go_wp2
        go_ret
        exact ⟨_, rfl, by rw [HR.out, if_pos hg]; simp only [app_list, l3.out, l4.out]; simp, B4.2.2.2.2⟩
      · have hg' : g = false := by simpa using hg
        go_wp2
        go_ret
        exact ⟨_, rfl, by rw [HR.out, if_neg hg]; simp only [app_list, l3.out, l4.out]; simp, B4.2.2.2.2⟩

end Go.Proofs.YtdcmpbljedbdhaaDoor
