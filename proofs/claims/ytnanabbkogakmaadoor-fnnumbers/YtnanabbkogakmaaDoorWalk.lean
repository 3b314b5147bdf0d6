/- The law FnNumbers: its walk. -/
import Derived.Test.YtnanabbkogakmaaDoorTrip
import Derived.Test.YtnanabbkogakmaaDoorTakeI
import Derived.Test.YtnanabbkogakmaaDoorDrawNum
import Derived.Laws.AppendOwnNone
import Derived.Laws.BytesString
namespace Go.Proofs.YtnanabbkogakmaaDoor
open Go.RowKit

theorem conv1 (W : World) (n : Int) : (convert 22 9 (.slice (some ⟨W.heap.size, 0, none⟩) 1 1)).run Tryd.prog (W.alloc (.cells #[.int .u8 n] 5)) = .ok (.string ⟨#[UInt8.ofNat n.toNat]⟩) (W.alloc (.cells #[.int .u8 n] 5)) := by
  rw [run_convert_bytes_string _ 22 9 5 _ _ _ Tryd.underlying22 Tryd.underlying5 Tryd.underlying9]
  rw [run_bytesToString _ ⟨W.heap.size, 0, none⟩ 1 1 [n] (by simp [loadCells, go_sem])]
  rfl

theorem conv1d (W : World) (n : Int) : (convert 22 9 (.slice (some ⟨W.heap.size, 0, none⟩) 1 1)).run Tryd.prog (W.alloc (.cells #[.int .u8 n] 5)).drew = .ok (.string ⟨#[UInt8.ofNat n.toNat]⟩) (W.alloc (.cells #[.int .u8 n] 5)).drew := by
  rw [run_convert_bytes_string _ 22 9 5 _ _ _ Tryd.underlying22 Tryd.underlying5 Tryd.underlying9]
  rw [run_bytesToString _ ⟨W.heap.size, 0, none⟩ 1 1 [n] (by simp [loadCells, go_sem])]
  rfl

set_option maxHeartbeats 1600000 in
theorem iput_nil (n : Int) (w : World) (h : n < 0 ∨ 2147483647 < n) :
    Calls Tryd.prog 6 #[.int .i64 n] w fun e w' => e = .returned (.slice none 0 0) ∧ w' = w := by
  rcases h with h | h
  · go_enter Tryd.func6, Tryd.ntmps6
    go_wp2
    go_ret
    exact ⟨rfl, rfl⟩
  · have h' : ¬ n < 0 := by omega
    go_enter Tryd.func6, Tryd.ntmps6
    go_wp2
    go_ret
    exact ⟨rfl, rfl⟩

theorem row_form {w : World} {base : Nat} {v : Value} {xs : List Int} (h : ownsB w base v xs) (h0 : 0 < xs.length) : ∃ g c, v = .slice (some ⟨g, 0, none⟩) xs.length c := by
  rcases h.2 with ⟨_, h1⟩ | ⟨g, c, _, rfl, -⟩
  · omega
  · exact ⟨g, c, rfl⟩

theorem lit_own (w : World) (y : Int) : ownsB (w.alloc (.cells #[.int .u8 y] 5)) w.heap.size (.slice (some ⟨w.heap.size, 0, none⟩) 1 1) [y] :=
  World.ownsRow_lit w #[.int .u8 y] 1 (Nat.le_refl _) (by decide) rfl

/-- 'append(row, row...)': both rows of the call's own. -/
theorem wpB_all (w0 w : World) {ops : Array Oper} {rest : List Oper} {o : Oper} {a : Act} {Q : Exit → Act → World → Prop} (hgd : o.guard = none) (s x : Operand)
    (ho : o.op = Op.call { callee := Callee.builtin Builtin.append, args := #[s, x], argTypes := #[22, 22] }) (base B : Nat) (v : Value) (xs ys : List Int) (g c : Nat)
    (hs : a.eval s = v) (hown : ownsB w base v xs) (hx : a.eval x = .slice (some ⟨g, 0, none⟩) ys.length c) (hy : ownsB w B (.slice (some ⟨g, 0, none⟩) ys.length c) ys) (hb : Below base w0 w) (hlen : xs.length + ys.length ≤ 1099511627776) (hbase : base ≤ w.heap.size)
    (h : ∀ v' w', ownsB w' base v' (xs ++ ys) → Below base w0 w' → wpList Tryd.prog ops Q rest (a.put o.dst v') w') :
    wpList Tryd.prog ops Q (o :: rest) a w := by
  obtain ⟨i0, hi, hz0, hz1, hz2⟩ := info_parts Tryd.info5
  refine wpList_append_own _ hgd s x 22 ho base 5 i0 (.int .u8 0) 1 1 Tryd.underlying22 hi hz0 hz1 hz2 rfl (by decide) v xs.length (xs.map (Value.int .u8)) hs hown ⟨g, 0, none⟩ ys.length c (ys.map (Value.int .u8)) hx (by simp) ?_ ?_ ?_ ?_ hbase ?_
  · exact World.ownsRow.cells hy rfl
  · intro u hu; obtain ⟨z, _, rfl⟩ := List.mem_map.1 hu; rfl
  · unfold maxLen; omega
  · omega
  · intro v' w' ho' hg _
    refine h v' w' ?_ (hb.grown hg hbase fun k hk => (World.ownsRow.lt hown k hk).1)
    unfold ownsB
    rw [List.length_append, List.map_append]
    exact ho'

theorem big_no (a : Option Addr) (len cap : Nat) (w : World) (h : len ≤ 1048576) : Calls Tryd.prog 4 #[.slice a len cap] w fun e w' => e = .returned (.bool false) ∧ w' = w := by
  have h' : ¬ (1048576 : Int) < (len : Int) := by omega
  go_enter Tryd.func4, Tryd.ntmps4
  go_wp2
  go_ret
  exact ⟨rfl, rfl⟩
theorem big_yes (a : Option Addr) (len cap : Nat) (w : World) (h : ¬ len ≤ 1048576) : Calls Tryd.prog 4 #[.slice a len cap] w fun e w' => e = .returned (.bool true) ∧ w' = w := by
  have h' : (1048576 : Int) < (len : Int) := by omega
  go_enter Tryd.func4, Tryd.ntmps4
  go_wp2
  go_ret
  exact ⟨rfl, rfl⟩

theorem putList_bd {n : Int} (h : n ∈ putList) : -9223372036854775808 ≤ n ∧ n ≤ 9223372036854775807 := by
  simp [putList] at h
  omega
theorem partList_bd {s : ByteArray} (h : s ∈ partList) : s.size ≤ 6 := by
  simp [partList] at h
  rcases h with rfl | rfl | rfl | rfl | rfl | rfl <;> decide

theorem cutAt_part (s : ByteArray) (b : Int) (i : Nat) : ∀ p ∈ (cutAt s b i).1, p.size ≤ s.size := by
  induction i with
  | zero => intro p hp; simp [cutAt] at hp
  | succ i ih =>
    intro p hp
    rw [cutAt] at hp
    split at hp <;> split at hp
    all_goals first
      | exact ih p hp
      | (rcases List.mem_append.1 hp with hp | hp
         · exact ih p hp
         · simp at hp; subst hp; rw [ByteArray.size_extract]; omega)
theorem cuts_part (s : ByteArray) (b : Int) : ∀ p ∈ cuts s b, p.size ≤ s.size := by
  intro p hp
  rcases List.mem_append.1 hp with hp | hp
  · exact cutAt_part s b _ p hp
  · simp at hp; subst hp; rw [ByteArray.size_extract]; omega
theorem cuts_pos (s : ByteArray) (b : Int) : 0 < (cuts s b).length ∧ (cuts s b).length ≤ s.size + 1 := by
  have := (cutAt_le s b s.size).1
  unfold cuts
  rw [List.length_append, List.length_singleton]
  omega
theorem text_form {w : World} {base : Nat} {v : Value} {xs : List ByteArray} (h : ownsS w base v xs) (h0 : 0 < xs.length) : ∃ g c, v = .slice (some ⟨g, 0, none⟩) xs.length c ∧ g < w.heap.size := by
  have hlt := fun q => World.ownsRow.lt h q
  rcases h.2 with ⟨_, h1⟩ | ⟨g, c, _, rfl, -⟩
  · omega
  · exact ⟨g, c, rfl, (hlt g rfl).2⟩
theorem getD_mem {xs : List ByteArray} {k : Nat} (h : k < xs.length) : xs.getD k ⟨#[]⟩ ∈ xs := by
  rw [List.getD_eq_getElem?_getD, List.getElem?_eq_getElem h]; exact List.getElem_mem _
theorem lists_take (b : UInt8) (ps : List ByteArray) (k : Nat) (h1 : 0 < k) (h : k < ps.length) : jn b (lists (ps.take (k + 1))) = jn b (lists (ps.take k)) ++ b :: (ps.getD k ⟨#[]⟩).data.toList := by
  rw [List.take_succ_eq_append_getElem h, lists, List.map_append, List.map_cons, List.map_nil, jn_snoc b _ _ (by
    intro e
    have h2 : (List.map (fun p : ByteArray => p.data.toList) (ps.take k)).length = k := by rw [List.length_map, List.length_take]; omega
    rw [e] at h2
    simp at h2
    omega)]
  rw [List.getD_eq_getElem?_getD, List.getElem?_eq_getElem h]
  rfl

set_option maxHeartbeats 3200000 in
theorem walk_in (a0 : Option Addr) (len cap : Nat) (zs : List Int) (w : World) (u : TypeId) (pv : Value) (hlen : len ≤ 1048576) (hcode : CodeIs w a0 len cap zs) (hvar : w.cell? ⟨0, 0, none⟩ = some (.iface u pv)) :
    Calls Tryd.prog 3 #[.slice a0 len cap] w fun e w' => e = .returned (.bool true) ∧ Below w.heap.size w w' := by
  have hs' : ¬ (1048576 : Int) < (len : Int) := by omega
  go_enter Tryd.func3, Tryd.ntmps3
  go_wp2_with fail
  refine (big_no a0 len cap w hlen).mono ?_
  rintro e w ⟨rfl, rfl⟩
  go_wp2_with fail
  refine (drawPut a0 len cap zs w hlen hcode).mono ?_
  rintro e w1 ⟨n, rfl, hn, b1⟩
  obtain ⟨n0, n1⟩ := putList_bd hn
  have hv1 : w1.cell? ⟨0, 0, none⟩ = some (.iface u pv) := (b1.cell (p := ⟨0, 0, none⟩) (block_lt_of_cell hvar)).trans hvar
  have hcode1 := hcode.below b1
  clear hn hcode hvar
  by_cases hin : 0 ≤ n ∧ n ≤ 2147483647
  · obtain ⟨i0, i1⟩ := hin
    have hpl := put_le n
    have hpp := put_pos n i0 i1
    have hget := getR_put n i0 i1
    have hby := put_byte n
    go_wp2_with fail
    refine (iput n w1).mono ?_
    rintro e w2 ⟨v2, rfl, o2, b2⟩
    obtain ⟨g2, c2, rfl⟩ := row_form o2 hpp
    have hv2 : w2.cell? ⟨0, 0, none⟩ = some (.iface u pv) := (b2.cell (p := ⟨0, 0, none⟩) (block_lt_of_cell hv1)).trans hv1
    have hcode2 := hcode1.below b2
    have b12 : Below w.heap.size w w2 := b1.trans (b2.mono b1.size)
    clear b2 b1 hcode1 hv1
    have o2' : ownsB (w2.alloc (.cells #[.int .u8 7] 5)) w1.heap.size (.slice (some ⟨g2, 0, none⟩) (put n).length c2) (put n) := World.ownsRow.alloc o2 _
    have bl : Below w2.heap.size w2 (w2.alloc (.cells #[.int .u8 7] 5)) := (Below.refl _ _).alloc (Nat.le_refl _) _
    have hl7 : ([7] ++ put n).length ≤ 1099511627776 := by simp; omega
    go_wp2_with (first | (at_builtin; refine wpB_all w2 _ rfl (.tmp 20) (.tmp 21) rfl w2.heap.size w1.heap.size _ [7] (put n) g2 c2 rfl (lit_own w2 7) rfl o2' bl (by simp; omega) (by simp) ?_; intro v3 w3 o3 b3) | (at_builtin; refine wpB_app w2 w3 rfl (.tmp 22) (.tmp 23) rfl w2.heap.size _ ([7] ++ put n) 9 rfl o3 b3 rfl hl7 b3.size ?_; intro v4 w4 o4 b4))
    have o4' : ownsB w4 w2.heap.size v4 (7 :: (put n ++ [9])) := by simpa using o4
    have hv4 : w4.cell? ⟨0, 0, none⟩ = some (.iface u pv) := (b4.cell (p := ⟨0, 0, none⟩) (block_lt_of_cell hv2)).trans hv2
    have hcode4 := hcode2.below b4
    have b14 : Below w.heap.size w w4 := b12.trans (b4.mono b12.size)
    clear o3 b3 o2' bl o4 b12 hcode2 hv2 b4 o2
    refine (sput n w4).mono ?_
    rintro e w5 ⟨v5, rfl, o5, b5⟩
    obtain ⟨g5, c5, rfl⟩ := row_form o5 hpp
    have o45 := o4'.below b5 (Nat.le_refl _)
    have hv5 : w5.cell? ⟨0, 0, none⟩ = some (.iface u pv) := (b5.cell (p := ⟨0, 0, none⟩) (block_lt_of_cell hv4)).trans hv4
    have hcode5 := hcode4.below b5
    have b15 : Below w.heap.size w w5 := b14.trans (b5.mono b14.size)
    have hpp' : (0 : Int) < ((put n).length : Int) := by omega
    clear o4' b5 b14 hcode4 hv4 o5
    go_wp2_with fail
    refine (iget w2.heap.size v4 (7 :: (put n ++ [9])) 1 w5 u pv o45 (by simp; omega) hby hv5).mono ?_
    rintro e w6 ⟨rfl, b6⟩
    rw [hget]
    simp only [resT]
    have hcode6 := hcode5.below b6
    have b16 : Below w.heap.size w w6 := b15.trans (b6.mono b15.size)
    have en : (n == n) = true := by simp
    clear hcode5 b15 b6 o45 hv5 hget hby
    go_wp2_with fail
    refine (drawParts a0 len cap zs w6 hlen hcode6).mono ?_
    rintro e w7 ⟨s, y, rfl, hsm, hy, b7⟩
    have hs6 := partList_bd hsm
    obtain ⟨b, rfl⟩ : ∃ b : UInt8, y = (b.toNat : Int) := by rcases hy with rfl | rfl; exact ⟨44, rfl⟩; exact ⟨47, rfl⟩
    have b17 : Below w.heap.size w w7 := b16.trans (b7.mono b16.size)
    clear hsm hy b7 b16 hcode6
    go_wp2_with fail
    refine (iparts s (b.toNat : Int) w7 (by omega)).mono ?_
    rintro e w8 ⟨v8, rfl, o8, b8⟩
    obtain ⟨hc0, hc1⟩ := cuts_pos s (b.toNat : Int)
    have hcp := cuts_part s (b.toNat : Int)
    have hjn := jn_cuts s b
    obtain ⟨ps, hps⟩ : ∃ ps, cuts s (b.toNat : Int) = ps := ⟨_, rfl⟩
    rw [hps] at o8 hc0 hc1 hcp hjn
    clear hps
    obtain ⟨g, c, rfl, hgw⟩ := text_form o8 hc0
    have hcell := cellsS_of o8 rfl
    have HCELL : Hid (∀ j, j < ps.length → w8.cell? ⟨g, j, none⟩ = some (.string (ps.getD j ⟨#[]⟩))) := hcell
    have b18 : Below w.heap.size w w8 := b17.trans (b8.mono b17.size)
    have e0 : ((ps.length : Int) == 0) = false := by rw [beq_eq_false_iff_ne]; omega
    have hcell0 := hcell 0 hc0
    have hin0 : (0 : Int) < (ps.length : Int) := by omega
    obtain ⟨p0, hp0⟩ : ∃ p0, ps.getD 0 ⟨#[]⟩ = p0 := ⟨_, rfl⟩
    rw [hp0] at hcell0
    have HJ : Hid (jn b (lists ps) = s.data.toList) := hjn
    have HP0 : Hid (p0.data.toList = jn b (lists (ps.take 1)) ∧ p0.size ≤ 6) := by
      refine ⟨?_, ?_⟩
      · rw [← hp0, List.take_succ_eq_append_getElem hc0, List.getD_eq_getElem?_getD, List.getElem?_eq_getElem hc0]; rfl
      · rw [← hp0]; exact Nat.le_trans (hcp _ (getD_mem hc0)) hs6
    clear hjn b8 b17 hp0 o8 hcell
    have hcv := conv1
    have hcv' := conv1d
    go_wp2
    go_loopw [12, 13] (fun t i wr => ∃ (k : Nat) (out : ByteArray), 1 ≤ k ∧ k ≤ ps.length ∧ i = .int .i64 k ∧ t = .string out ∧ out.size ≤ 8 * k ∧ Hid (out.data.toList = jn b (lists (ps.take k))) ∧ Below w8.heap.size w8 wr) (fun _ i _ => ps.length - (intOf i).toNat)
    case atStart => exact ⟨1, p0, Nat.le_refl _, hc0, rfl, rfl, by have := HP0.out.2; omega, HP0.out.1, Below.refl _ _⟩
    case round =>
      obtain ⟨k, out, hk1, hk, rfl, rfl, hos, HO, hbk⟩ := hrel
      by_cases hlt : k < ps.length
      · have hck : wr.cell? ⟨g, k, none⟩ = some (.string (ps.getD k ⟨#[]⟩)) := (hbk.cell (p := ⟨g, k, none⟩) hgw).trans (HCELL.out k hlt)
        have hpk : (ps.getD k ⟨#[]⟩).size ≤ 6 := Nat.le_trans (hcp _ (getD_mem hlt)) hs6
        have hnext := lists_take b ps k hk1 hlt
        obtain ⟨q, hq⟩ : ∃ q, ps.getD k ⟨#[]⟩ = q := ⟨_, rfl⟩
        rw [hq] at hck hpk hnext
        have HX : Hid (jn b (lists (ps.take (k + 1))) = jn b (lists (ps.take k)) ++ b :: q.data.toList) := hnext
        have hgr : g < wr.heap.size := Nat.lt_of_lt_of_le hgw hbk.size
        have hck' : ∀ o, (wr.alloc o).cell? ⟨g, k, none⟩ = some (.string q) := fun o => (World.cell?_alloc_past _ _ _ hgr).trans hck
        have z1 : ¬ 9223372036854775807 < out.size + 1 := by omega
        have z2 : ¬ 9223372036854775807 < out.size + 1 + q.size := by omega
        have hos' : out.size ≤ 1000 := by omega
        clear hnext hq HCELL hcell0 hcp
        go_wp2
        go_region
        go_wp2
        go_roundw
        case rel => exact ⟨k + 1, out ++ ⟨#[b]⟩ ++ q, by omega, by omega, by go_num, rfl, by rw [ByteArray.size_append, ByteArray.size_append]; show out.size + 1 + q.size ≤ _; omega, by show _ = _; rw [HX.out, ← HO.out, ByteArray.data_append, ByteArray.data_append]; simp, (hbk.alloc hbk.size _).drew⟩
        case measure => simp [intOf]; omega
      · have hkl : k = ps.length := by omega
        subst hkl
        have hout : out = s := ByteArray.ext (Array.toList_inj.1 (by rw [HO.out, List.take_of_length_le (Nat.le_refl _)]; exact HJ.out))
        subst hout
        clear HCELL hcell0 hcp
        go_wp2
        go_ret
        exact ⟨rfl, b18.trans (hbk.mono b18.size)⟩
  · have hout : n < 0 ∨ 2147483647 < n := by omega
    have hpz : put n = [] := by rw [put, if_neg hin]
    go_wp2_with fail
    refine (iput_nil n w1 hout).mono ?_
    rintro e w1 ⟨rfl, rfl⟩
    obtain ⟨j0, hj, hz0, hz1, hz2⟩ := info_parts Tryd.info5
    have bl : Below w1.heap.size w1 (w1.alloc (.cells #[.int .u8 7] 5)) := (Below.refl _ _).alloc (Nat.le_refl _) _
    go_wp2_with (first | (at_builtin; refine wpList_append_own_none rfl (.tmp 20) (.tmp 21) 22 rfl w1.heap.size 5 j0 1 Tryd.underlying22 hj _ _ _ rfl (lit_own w1 7) rfl ?_) | (at_builtin; refine wpB_app w1 (w1.alloc (.cells #[.int .u8 7] 5)) rfl (.tmp 22) (.tmp 23) rfl w1.heap.size _ [7] 9 rfl (lit_own w1 7) bl (by simp [go_sem]) (by simp) (by simp) ?_; intro v4 w4 o4 b4))
    have hcode4 := hcode1.below b4
    have b14 : Below w.heap.size w w4 := b1.trans (b4.mono b1.size)
    clear o4 b4 hcode1 hv1 b1 bl hz0 hz1 hz2 hj
    refine (sput n w4).mono ?_
    rintro e w5 ⟨v5, rfl, o5, b5⟩
    rw [hpz] at o5
    have hcode5 := hcode4.below b5
    have b15 : Below w.heap.size w w5 := b14.trans (b5.mono b14.size)
    obtain ⟨a5, c5, rfl⟩ : ∃ a5 c5, v5 = .slice a5 0 c5 := by
      rcases o5.2 with ⟨rfl, _⟩ | ⟨g, c, _, rfl, -⟩
      · exact ⟨_, _, rfl⟩
      · exact ⟨_, _, rfl⟩
    clear o5 b5 b14 hcode4 hpz hin
    go_wp2_with fail
    refine (drawParts a0 len cap zs w5 hlen hcode5).mono ?_
    rintro e w7 ⟨s, y, rfl, hsm, hy, b7⟩
    have hs6 := partList_bd hsm
    obtain ⟨b, rfl⟩ : ∃ b : UInt8, y = (b.toNat : Int) := by rcases hy with rfl | rfl; exact ⟨44, rfl⟩; exact ⟨47, rfl⟩
    have b17 : Below w.heap.size w w7 := b15.trans (b7.mono b15.size)
    clear hsm hy b7 b15 hcode5
    go_wp2_with fail
    refine (iparts s (b.toNat : Int) w7 (by omega)).mono ?_
    rintro e w8 ⟨v8, rfl, o8, b8⟩
    obtain ⟨hc0, hc1⟩ := cuts_pos s (b.toNat : Int)
    have hcp := cuts_part s (b.toNat : Int)
    have hjn := jn_cuts s b
    obtain ⟨ps, hps⟩ : ∃ ps, cuts s (b.toNat : Int) = ps := ⟨_, rfl⟩
    rw [hps] at o8 hc0 hc1 hcp hjn
    clear hps
    obtain ⟨g, c, rfl, hgw⟩ := text_form o8 hc0
    have hcell := cellsS_of o8 rfl
    have HCELL : Hid (∀ j, j < ps.length → w8.cell? ⟨g, j, none⟩ = some (.string (ps.getD j ⟨#[]⟩))) := hcell
    have b18 : Below w.heap.size w w8 := b17.trans (b8.mono b17.size)
    have e0 : ((ps.length : Int) == 0) = false := by rw [beq_eq_false_iff_ne]; omega
    have hcell0 := hcell 0 hc0
    have hin0 : (0 : Int) < (ps.length : Int) := by omega
    obtain ⟨p0, hp0⟩ : ∃ p0, ps.getD 0 ⟨#[]⟩ = p0 := ⟨_, rfl⟩
    rw [hp0] at hcell0
    have HJ : Hid (jn b (lists ps) = s.data.toList) := hjn
    have HP0 : Hid (p0.data.toList = jn b (lists (ps.take 1)) ∧ p0.size ≤ 6) := by
      refine ⟨?_, ?_⟩
      · rw [← hp0, List.take_succ_eq_append_getElem hc0, List.getD_eq_getElem?_getD, List.getElem?_eq_getElem hc0]; rfl
      · rw [← hp0]; exact Nat.le_trans (hcp _ (getD_mem hc0)) hs6
    clear hjn b8 b17 hp0 o8 hcell
    have hcv := conv1
    have hcv' := conv1d
    go_wp2
    go_loopw [12, 13] (fun t i wr => ∃ (k : Nat) (out : ByteArray), 1 ≤ k ∧ k ≤ ps.length ∧ i = .int .i64 k ∧ t = .string out ∧ out.size ≤ 8 * k ∧ Hid (out.data.toList = jn b (lists (ps.take k))) ∧ Below w8.heap.size w8 wr) (fun _ i _ => ps.length - (intOf i).toNat)
    case atStart => exact ⟨1, p0, Nat.le_refl _, hc0, rfl, rfl, by have := HP0.out.2; omega, HP0.out.1, Below.refl _ _⟩
    case round =>
      obtain ⟨k, out, hk1, hk, rfl, rfl, hos, HO, hbk⟩ := hrel
      by_cases hlt : k < ps.length
      · have hck : wr.cell? ⟨g, k, none⟩ = some (.string (ps.getD k ⟨#[]⟩)) := (hbk.cell (p := ⟨g, k, none⟩) hgw).trans (HCELL.out k hlt)
        have hpk : (ps.getD k ⟨#[]⟩).size ≤ 6 := Nat.le_trans (hcp _ (getD_mem hlt)) hs6
        have hnext := lists_take b ps k hk1 hlt
        obtain ⟨q, hq⟩ : ∃ q, ps.getD k ⟨#[]⟩ = q := ⟨_, rfl⟩
        rw [hq] at hck hpk hnext
        have HX : Hid (jn b (lists (ps.take (k + 1))) = jn b (lists (ps.take k)) ++ b :: q.data.toList) := hnext
        have hgr : g < wr.heap.size := Nat.lt_of_lt_of_le hgw hbk.size
        have hck' : ∀ o, (wr.alloc o).cell? ⟨g, k, none⟩ = some (.string q) := fun o => (World.cell?_alloc_past _ _ _ hgr).trans hck
        have z1 : ¬ 9223372036854775807 < out.size + 1 := by omega
        have z2 : ¬ 9223372036854775807 < out.size + 1 + q.size := by omega
        have hos' : out.size ≤ 1000 := by omega
        clear hnext hq HCELL hcell0 hcp
        go_wp2
        go_region
        go_wp2
        go_roundw
        case rel => exact ⟨k + 1, out ++ ⟨#[b]⟩ ++ q, by omega, by omega, by go_num, rfl, by rw [ByteArray.size_append, ByteArray.size_append]; show out.size + 1 + q.size ≤ _; omega, by show _ = _; rw [HX.out, ← HO.out, ByteArray.data_append, ByteArray.data_append]; simp, (hbk.alloc hbk.size _).drew⟩
        case measure => simp [intOf]; omega
      · have hkl : k = ps.length := by omega
        subst hkl
        have hout : out = s := ByteArray.ext (Array.toList_inj.1 (by rw [HO.out, List.take_of_length_le (Nat.le_refl _)]; exact HJ.out))
        subst hout
        clear HCELL hcell0 hcp
        go_wp2
        go_ret
        exact ⟨rfl, b18.trans (hbk.mono b18.size)⟩

theorem walk_numbers (a0 : Option Addr) (len cap : Nat) (zs : List Int) (w : World) (u : TypeId) (pv : Value) (hr : IsRow .u8 w a0 len cap zs) (hvar : w.cell? ⟨0, 0, none⟩ = some (.iface u pv)) :
    Calls Tryd.prog 3 #[.slice a0 len cap] w fun e w' => e = .returned (.bool true) ∧ Below w.heap.size w w' := by
  by_cases hs : len ≤ 1048576
  · exact walk_in a0 len cap zs w u pv hs (code_of hr) hvar
  · go_enter Tryd.func3, Tryd.ntmps3
    go_wp2_with (go_at_call 4; refine (big_yes a0 len cap w hs).mono ?_; rintro e w ⟨rfl, rfl⟩)
    go_ret
    exact ⟨rfl, Below.refl _ _⟩

end Go.Proofs.YtnanabbkogakmaaDoor
