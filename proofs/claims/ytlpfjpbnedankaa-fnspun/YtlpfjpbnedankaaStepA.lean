/- 'append(row of the call's own, row...)' as one step of a region that draws its order: where the new row lies. -/
import Derived.Test.YtlpfjpbnedankaaBase
import Derived.Deep.RegionHeldLaw
import Derived.Maps.AppendAt
namespace Go.Proofs.Ytlpfjpbnedankaa
open Go.RowKit
set_option linter.unusedSimpArgs false

theorem stepA {w : World} {ops : Array Oper} {o : Oper} {a : Act} {K : Act → World → Prop} {Q : Exit → Act → World → Prop} {E : Prop} (hgd : o.guard = none) (s x : Operand)
    (ho : o.op = Op.call { callee := Callee.builtin Builtin.append, args := #[s, x], argTypes := #[25, 25] }) (base : Nat) (v v2 : Value) (xs ys : List Int)
    (hs : a.eval s = v) (hown : ownsI w base v xs) (hx : a.eval x = v2) (hy : rowI w v2 ys) (hlen : xs.length + ys.length ≤ 1099511627776) (hbase : base ≤ w.heap.size)
    (h : ∀ v' w', ownsI w' base v' (xs ++ ys) → Tn (blkI v) w w' → (∀ k ∈ blkI v', k ∈ blkI v ∨ k = w.heap.size) → K (a.put o.dst v') w') :
    if Region.wanted o (yielded ops a.tmps) = true then Oper.wp Try.prog o a w K Q else E := by
  have hw : Region.wanted o (yielded ops a.tmps) = true := by simp [Region.wanted, hgd]
  rw [if_pos hw]
  obtain ⟨i0, hi, hz0, hz1, hz2⟩ := info_parts Try.info3
  obtain ⟨ad, cap, rfl, h2, h3, h4, h5, h6⟩ := hy
  cases ad with
  | none =>
    have hc := h4 rfl
    have hy0 : ys.length = 0 := by omega
    obtain rfl := List.eq_nil_of_length_eq_zero hy0
    subst hc
    have hx' : a.eval x = .slice none 0 0 := hx
    have hrun := run_append_owned_none (P := Try.prog) (w := w) base 25 o.type 3 i0 1 Try.underlying25 hi v xs.length (xs.map (Value.int .i64)) hown
    unfold Oper.wp
    simp [execOp, ho, resolve, invoke, builtin, hs, hx', hrun, Result.andThen]
    exact h v w (by rw [List.append_nil]; exact hown) ⟨rfl, rfl, rfl, Nat.le_refl _, fun _ _ _ => rfl⟩ (fun k hk => .inl hk)
  | some ad =>
    obtain ⟨g0, off0, spot⟩ := ad
    have hsp : spot = none := h5 _ rfl
    subst hsp
    obtain ⟨v', w', hr, q1, q2, -, q4⟩ := run_append_own_at (P := Try.prog) w base 25 o.type 3 i0 (.int .i64 0) 1 8 Try.underlying25 hi hz0 hz1 hz2 rfl (by decide) v xs.length (xs.map (Value.int .i64)) hown ⟨g0, off0, none⟩ ys.length cap (ys.map (Value.int .i64)) (by simp) (by
      intro j u hj
      rw [List.getElem?_map] at hj
      have hjl : j < ys.length := by
        apply Classical.byContradiction; intro hn
        rw [List.getElem?_eq_none (by omega)] at hj; cases hj
      obtain ⟨g, off, e, hg, hc⟩ := h6 j hjl
      cases e
      rw [List.getElem?_eq_getElem hjl] at hj
      simp only [Option.map_some, Option.some.injEq] at hj
      subst hj
      have hgd : ys.getD j 0 = ys[j] := by rw [List.getD_eq_getElem?_getD, List.getElem?_eq_getElem hjl]; rfl
      rw [hgd] at hc
      unfold Addr.add
      by_cases hj0 : j = 0
      · subst hj0; simpa using hc
      · simpa [hj0] using hc) (by intro u hu; obtain ⟨z, _, rfl⟩ := List.mem_map.1 hu; rfl) (by unfold maxLen; omega) (by omega) hbase
    unfold Oper.wp execOp
    simp only [ho, resolve, invoke, builtin, Sem.run_bind, Sem.run_pure, Result.andThen_ok, List.map_toArray, List.map_cons, List.map_nil, hs, hx, hr]
    refine h v' w' ?_ (Tn.of_grown q2) ?_
    · unfold ownsI
      rw [List.length_append, List.map_append]
      exact q1
    · intro k hk
      unfold blkI at hk ⊢
      rw [Option.mem_toList] at hk ⊢
      rcases q4 with e | e
      · exact .inl (e ▸ hk)
      · rw [e] at hk
        exact .inr (Option.some.inj hk).symm
theorem made_empty (w : World) : ownsI (w.alloc (.cells #[] 3)) w.heap.size (.slice (some ⟨w.heap.size, 0, none⟩) 0 0) [] := made_own w
theorem nilI (w : World) (base : Nat) : ownsI w base (.slice none 0 0) [] := ⟨rfl, .inl ⟨rfl, rfl⟩⟩

end Go.Proofs.Ytlpfjpbnedankaa
