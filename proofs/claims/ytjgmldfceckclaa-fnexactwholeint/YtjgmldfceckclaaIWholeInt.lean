/- The program's WholeInt and WholeCmp, each by its contract. -/
import Derived.Test.YtjgmldfceckclaaSFrom
namespace Go.Proofs.Ytjgmldfceckclaa
open Go.RowKit

set_option maxRecDepth 20000 in
set_option maxHeartbeats 1600000 in
theorem iWholeInt (va : Value) (a : Wh) (w : World) (ha : rowW w va a) (hl : a.2.length ≤ 1048576) :
    Calls Try.prog 22 #[va] w fun e w' => e = .returned (.tuple #[.int .i64 (wintR a).1, .bool (wintR a).2]) ∧ Below w.heap.size w w' := by
  by_cases hok : okW a = true
  · have kF := fun W (h : Below w.heap.size w W) => sFromYes va a W (ha.below h (Nat.le_refl _)) hl hok
    have HR : Hid (wintR a = (if nbits (valW a).natAbs ≤ 63 then valW a else 0, decide (nbits (valW a).natAbs ≤ 63))) := by
      show _ = _
      unfold wintR
      by_cases h2 : (valW a).natAbs ≤ 9223372036854775807
      · have h3 := (nbits_63 _).2 h2
        rw [if_pos ⟨hok, h2⟩, if_pos h3, decide_eq_true h3]
      · have h3 : ¬ nbits (valW a).natAbs ≤ 63 := fun q => h2 ((nbits_63 _).1 q)
        rw [if_neg (fun q => h2 q.2), if_neg h3, decide_eq_false h3]
    have kS := fun b W h => sSmallS b (valW a) W h
    obtain ⟨z1, hz1⟩ : ∃ z, (if nbits (valW a).natAbs ≤ 63 then valW a else 0) = z := ⟨_, rfl⟩
    obtain ⟨z2, hz2⟩ : ∃ z, decide (nbits (valW a).natAbs ≤ 63) = z := ⟨_, rfl⟩
    simp only [hz1, hz2] at kS
    rw [hz1, hz2] at HR
    obtain ⟨s, rfl, hs⟩ := ha
    obtain ⟨ad, cap, rfl, -⟩ := id hs
    have HR1 : Hid ((wintR a).1 = z1 ∧ (wintR a).2 = z2) := by show _ ∧ _; rw [HR.out]; exact ⟨rfl, rfl⟩
    generalize (wintR a).1 = y1 at *
    generalize (wintR a).2 = y2 at *
    generalize valW a = z at *
    generalize a.1 = g at *
    generalize a.2.length = len at *
    have B0 := below1 w (.cells #[.bool g, .slice ad len cap] 24)
    clear hs hok hz1 hz2 HR
    go_enter Try.func22, Try.ntmps22
    go_wp2_with fail
    refine (kF _ B0).mono ?_
    rintro e w1 ⟨b, rfl, hb, s1, b1⟩
    have B1 := B0.trans (b1.mono B0.size)
    go_wp2_with fail
    refine (kS b w1 s1).mono ?_
    rintro e w2 ⟨rfl, b2⟩
    go_wp2
    go_ret2
    exact ⟨by rw [HR1.out.1, HR1.out.2]; rfl, B1.trans (b2.mono B1.size)⟩
  · have hf : okW a = false := by simpa using hok
    have kF := fun W (h : Below w.heap.size w W) => sFromNo va a W (ha.below h (Nat.le_refl _)) hl hf
    have HR : Hid (wintR a = (0, false)) := by show _ = _; unfold wintR; rw [if_neg (fun q => hok q.1)]
    obtain ⟨s, rfl, hs⟩ := ha
    obtain ⟨ad, cap, rfl, -⟩ := id hs
    have HR1 : Hid ((wintR a).1 = 0 ∧ (wintR a).2 = false) := by show _ ∧ _; rw [HR.out]; exact ⟨rfl, rfl⟩
    generalize (wintR a).1 = y1 at *
    generalize (wintR a).2 = y2 at *
    generalize a.1 = g at *
    generalize a.2.length = len at *
    have B0 := below1 w (.cells #[.bool g, .slice ad len cap] 24)
    clear hs hok hf HR
    go_enter Try.func22, Try.ntmps22
    go_wp2_with fail
    refine (kF _ B0).mono ?_
    rintro e w1 ⟨rfl, b1⟩
    go_wp2
    go_ret2
    exact ⟨by rw [HR1.out.1, HR1.out.2]; rfl, B0.trans (b1.mono B0.size)⟩

theorem ord_z {x y : Int} : (if x < y then (-1 : Int) else if y < x then 1 else 0) = if decide (x < 0) = decide (y < 0) then (if x < 0 then cmpI y.natAbs x.natAbs else cmpI x.natAbs y.natAbs) else (if x < 0 then -1 else 1) := by
  unfold cmpI
  by_cases hx : x < 0 <;> by_cases hy : y < 0 <;> simp [hx, hy] <;> (repeat' split) <;> omega

set_option maxRecDepth 20000 in
set_option maxHeartbeats 1600000 in
/-- order: how two numbers with a sign stand to each other. -/
theorem sOrder (a b : Nat) (x y : Int) (w : World) (ha : SG w a x) (hb : SG w b y) :
    Calls Try.prog 55 #[.pointer (some ⟨a, 0, none⟩), .pointer (some ⟨b, 0, none⟩)] w fun e w' => e = .returned (.int .i64 (if x < y then -1 else if y < x then 1 else 0)) ∧ Below w.heap.size w w' := by
  obtain ⟨r, hr⟩ : ∃ r, (if x < y then (-1 : Int) else if y < x then 1 else 0) = r := ⟨_, rfl⟩
  rw [hr]
  rw [ord_z] at hr
  have ca := ha.sign
  have cb := hb.sign
  have kA := fun q => gOrder a 1 b 1 x.natAbs y.natAbs (w.drewN q).drew (ha.mag.drewN q).drew (hb.mag.drewN q).drew
  have kB := fun q => gOrder b 1 a 1 y.natAbs x.natAbs (w.drewN q).drew (hb.mag.drewN q).drew (ha.mag.drewN q).drew
  have D : ∀ q, Below w.heap.size w (w.drewN q) := fun q => ⟨rfl, rfl, rfl, Nat.le_refl _, fun _ _ => rfl⟩
  have D2 : ∀ q, Below w.heap.size w (w.drewN q).drew := fun q => ⟨rfl, rfl, rfl, Nat.le_refl _, fun _ _ => rfl⟩
  by_cases hx : x < 0 <;> by_cases hy : y < 0
  · rw [decide_eq_true hx] at ca hr
    rw [decide_eq_true hy] at cb hr
    rw [if_pos rfl, if_pos hx] at hr
    simp only [hr] at kB
    clear kA
    clear hx hy hr ha hb
    go_enter Try.func55, Try.ntmps55
    go_wp2_with fail
    go_quiet (fail)
    go_wp2_with fail
    go_region_held (fun _ => True) (trivial)
      (first
        | (go_at_call 85
           refine (kB nq).mono ?_
           rintro e w5 ⟨rfl, b5⟩))
    go_wp2
    go_ret
    exact ⟨rfl, (D2 nq).trans b5⟩
  · rw [decide_eq_true hx] at ca hr
    rw [decide_eq_false hy] at cb hr
    rw [if_neg (by simp), if_pos hx] at hr
    have HRR : Hid (r = -1) := hr.symm
    clear hr
    clear hx hy ha hb kA kB
    go_enter Try.func55, Try.ntmps55
    go_wp2_with fail
    go_quiet (fail)
    go_wp2
    go_ret
    exact ⟨by rw [HRR.out]; rfl, D nq⟩
  · rw [decide_eq_false hx] at ca hr
    rw [decide_eq_true hy] at cb hr
    rw [if_neg (by simp), if_neg hx] at hr
    have HRR : Hid (r = 1) := hr.symm
    clear hr
    clear hx hy ha hb kA kB
    go_enter Try.func55, Try.ntmps55
    go_wp2_with fail
    go_quiet (fail)
    go_wp2
    go_ret
    exact ⟨by rw [HRR.out]; rfl, D nq⟩
  · rw [decide_eq_false hx] at ca hr
    rw [decide_eq_false hy] at cb hr
    rw [if_pos rfl, if_neg hx] at hr
    simp only [hr] at kA
    clear kB
    clear hx hy hr ha hb
    go_enter Try.func55, Try.ntmps55
    go_wp2_with fail
    go_quiet (fail)
    go_wp2_with fail
    go_region_held (fun _ => True) (trivial)
      (first
        | (go_at_call 85
           refine (kA nq).mono ?_
           rintro e w5 ⟨rfl, b5⟩))
    go_wp2
    go_ret
    exact ⟨rfl, (D2 nq).trans b5⟩

end Go.Proofs.Ytjgmldfceckclaa
