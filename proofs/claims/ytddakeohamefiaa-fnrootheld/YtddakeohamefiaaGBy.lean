/- The program's by, with a divisor of many words, by its contract. -/
import Derived.Test.YtddakeohamefiaaGB
import Derived.WalkMore
import Derived.ScopeJumps
namespace Go.Proofs.Ytddakeohamefiaa
open Go.RowKit
set_option linter.unusedSimpArgs false

theorem results_pair {fn : Func} {p q : Tmp} (h : fn.results = #[.cell p 80, .cell q 80]) (tmps : Array Value) (w : World) (b c m n : Nat)
    (hp : tmps.getD p undef = .pointer (some ⟨b, 0, none⟩)) (hq : tmps.getD q undef = .pointer (some ⟨c, 0, none⟩)) (hg : GA w b 0 m) (hh : GA w c 0 n) : (results fn tmps).run Try.prog w = .ok (.tuple #[.agg (gC m), .agg (gC n)]) w := by
  have hp' : tmps[p]?.getD undef = .pointer (some ⟨b, 0, none⟩) := by simpa using hp
  have hq' : tmps[q]?.getD undef = .pointer (some ⟨c, 0, none⟩) := by simpa using hq
  simp [results, h, hp', hq', asAddr, hg.load, hh.load]
theorem nbits_low {d : Nat} (h : 0 < d) : 1 ≤ nbits d ∧ 2 ^ (nbits d - 1) ≤ d := by
  have h1 := nbits_pos d h
  refine ⟨by omega, ?_⟩
  apply Classical.byContradiction
  intro h2
  have := nbits_le_pow (nbits d - 1) d (by omega)
  omega
theorem by_start {m d p : Nat} (hd : 0 < d) (hp : nbits m + 1 ≤ p + nbits d) : m / 2 ^ p < d := by
  obtain ⟨h1, h2⟩ := nbits_low hd
  rw [Nat.div_lt_iff_lt_mul (Nat.pow_pos (by omega))]
  have h3 := lt_nbits m
  have h4 := Nat.pow_le_pow_right (by omega : 0 < 2) (show nbits m ≤ (nbits d - 1) + p by omega)
  rw [Nat.pow_add] at h4
  have h5 := Nat.mul_le_mul_right (2 ^ p) h2
  omega
theorem by_step {m d t : Nat} (hd : 0 < d) {zs : List Int} (hr : inR zs) (hl : zs.length = 98) (ht : t / 24 < 98) (hz : num zs = m / 2 ^ (t + 1) / d * 2 ^ (t + 1)) :
    (m / 2 ^ (t + 1) % d * 2 ^ 1 + m / 2 ^ t % 2 < d → m / 2 ^ t % d = m / 2 ^ (t + 1) % d * 2 ^ 1 + m / 2 ^ t % 2 ∧ num zs = m / 2 ^ t / d * 2 ^ t) ∧
    (d ≤ m / 2 ^ (t + 1) % d * 2 ^ 1 + m / 2 ^ t % 2 → m / 2 ^ t % d = m / 2 ^ (t + 1) % d * 2 ^ 1 + m / 2 ^ t % 2 - d ∧ inR (zs.set (t / 24) (zs.getD (t / 24) 0 + 2 ^ (t % 24))) ∧ num (zs.set (t / 24) (zs.getD (t / 24) 0 + 2 ^ (t % 24))) = m / 2 ^ t / d * 2 ^ t) := by
  have hb : m / 2 ^ t % 2 ≤ 1 := by omega
  have hn := bit_next m t
  have hdb := div_bit (h := m / 2 ^ (t + 1)) hd hb hn
  have hroom := limb_room hr t _ hz
  have e2 : (2 : Nat) ^ (t + 1) = 2 * 2 ^ t := by rw [Nat.pow_succ, Nat.mul_comm]
  constructor
  · intro h
    rw [if_neg (by omega)] at hdb
    refine ⟨by omega, ?_⟩
    rw [hz, hdb.2, e2]
    grind
  · intro h
    rw [if_pos (by omega)] at hdb
    have h0 := (inR_getD hr (t / 24)).1
    have p0 := two_pow_pos (t % 24)
    have hin := inR_set hr (t / 24) (y := zs.getD (t / 24) 0 + 2 ^ (t % 24)) (by omega) hroom
    refine ⟨by omega, hin, ?_⟩
    have e1 := lval_set zs (t / 24) (zs.getD (t / 24) 0 + 2 ^ (t % 24)) (by omega)
    have e3 : (16777216 : Int) ^ (t / 24) * 2 ^ (t % 24) = ((2 ^ t : Nat) : Int) := by rw [← pow24N t]; simp
    rw [show zs.getD (t / 24) 0 + 2 ^ (t % 24) - zs.getD (t / 24) 0 = 2 ^ (t % 24) by omega, e3, ← num_val hin, ← num_val hr] at e1
    have e4 : num (zs.set (t / 24) (zs.getD (t / 24) 0 + 2 ^ (t % 24))) = num zs + 2 ^ t := by omega
    rw [e4, hz, hdb.2, e2]
    grind

end Go.Proofs.Ytddakeohamefiaa
