/-
  The program's line reader: what takeIns does.
-/
import Derived.Test.YtpmkfdinkomaiaaGreatDoorGQ11
namespace Go.Proofs.YtpmkfdinkomaiaaGreatDoor
open Go.RowKit Go.Maps

theorem info25c : (Tryz.prog.info? 51).map (fun i => (i.zero, i.size, i.bytes)) = some (some (.agg #[.int .i64 0, .int .i64 0]), 2, 16) := by kernel_rfl
theorem map_block {w w' : World} {K n : Nat} {D : DataW Unit} (h : w.ownsMap Tryz.prog 9 (plainElem (H := Unit) Tryz.prog 3) K n D) (hb : w'.heap[K]? = w.heap[K]?) : w'.ownsMap Tryz.prog 9 (plainElem (H := Unit) Tryz.prog 3) K n D := by
  obtain ⟨es, clock, h1, h2⟩ := h
  exact ⟨es, clock, hb.trans h1, h2⟩
/-- The map of words lies in block K. -/
def OpsAt (w : World) (K : Nat) : Prop := w.ownsMap Tryz.prog 9 (plainElem (H := Unit) Tryz.prog 3) K 26 (dOps 26)
theorem OpsAt.below {w w' : World} {K : Nat} (h : OpsAt w K) (hb : Below w.heap.size w w') : OpsAt w' K := map_block h (hb.block K (World.ownsMap.lt h))

/-- What a line's words are, where they say an instruction. -/
def SaysIns (ws : List ByteArray) (O : Nat) (A : Int) : Prop := ∃ s, 1 ≤ O ∧ O ≤ 26 ∧ words[O]? = some s ∧ ((A = 0 ∧ ws = [s]) ∨ (Fits A ∧ ws = [s, numText A]))
def InsPost (R base K : Nat) (a1 : Option Addr) (c1 : Nat) (a2 : Option Addr) (c2 : Nat) (ts : List ByteArray) (fs : List Fn) (cs : List (Option Addr × Nat)) (rest : ByteArray) (w : World) (e : Ending) (w' : World) : Prop :=
  ∃ ws, WordsOf rest ws ∧ Below R w w' ∧ w'.heap[K]? = w.heap[K]? ∧
    ((∃ (op a : Int) (fs0 : List Fn) (f : Fn) (cs0 : List (Option Addr × Nat)) (c c' : Option Addr × Nat), e = .returned (.bool true) ∧ fs = fs0 ++ [f] ∧ cs = cs0 ++ [c] ∧ (∀ O A, SaysIns ws O A → op = O ∧ a = A) ∧ LineAt w' R (.map (some K)) a1 ts.length c1 a2 fs.length c2 ∧ ModOwn w' base a1 c1 a2 c2 ts (fs0 ++ [⟨f.params, f.locals, f.code ++ [(op, a)]⟩]) (cs0 ++ [c'])) ∨
     (e = .returned (.bool false) ∧ (fs ≠ [] → ∀ O A, ¬ SaysIns ws O A) ∧ LineAt w' R (.map (some K)) a1 ts.length c1 a2 fs.length c2 ∧ ModOwn w' base a1 c1 a2 c2 ts fs cs))

set_option maxRecDepth 100000 in
set_option maxHeartbeats 4000000 in
theorem takeIns_any (R base K : Nat) (a1 a2 : Option Addr) (c1 c2 : Nat) (ts : List ByteArray) (fs : List Fn) (cs : List (Option Addr × Nat)) (rest : ByteArray) (w : World)
    (hR : LineAt w R (.map (some K)) a1 ts.length c1 a2 fs.length c2) (hm : ModOwn w base a1 c1 a2 c2 ts fs cs) (hK : OpsAt w K) (hRb : R < base) (hKb : K < base) (hbw : base ≤ w.heap.size) (hfs : fs.length ≤ 1048576) (hcd : ∀ f ∈ fs, f.code.length ≤ 1048576) (hls : rest.size ≤ 1048576) (hv : Vars w) :
    Calls Tryz.prog 46 #[.pointer (some ⟨R, 0, none⟩), .string rest] w (InsPost R base K a1 c1 a2 c2 ts fs cs rest w) := by
  obtain ⟨i0, hi, hz0, hz1, hz2⟩ := info_parts info25c
  have hz3 : ∀ W : World, (zeroValue 3).run Tryz.prog W = .ok (.int .i64 0) W := fun _ => by kernel_rfl
  go_enter Tryz.func46, Tryz.ntmps46
  go_wp2_with fail
  refine (words_any rest _ hls).mono ?_
  rintro e w1 ⟨ws, a, c, rfl, hW, hown1, hb1⟩
  have hR1 : LineAt w1 R (.map (some K)) a1 ts.length c1 a2 fs.length c2 := block_kept hR hb1
  have hm1 := hm.below hb1
  have hv1 := hv.below hb1
  have hK1 : OpsAt w1 K := hK.below hb1
  have hbR1 : Below R w w1 := hb1.mono (by omega)
  have hKK1 : w1.heap[K]? = w.heap[K]? := hb1.block K (World.ownsMap.lt hK)
  have hz1' : base ≤ w1.heap.size := Nat.le_trans hbw hb1.size
  obtain ⟨g, rfl, hcs⟩ := own_strs hown1 hW.one
  have hwl := hW.few
  have hw1 := hW.one
  have k0 := hcs 0 hw1
  obtain ⟨s, hs⟩ : ∃ s, s = ws[0] := ⟨_, rfl⟩
  have hsz : s.size ≤ 1048576 := by rw [hs]; exact Nat.le_trans (hW.small _ (List.getElem_mem _)) hls
  rw [← hs] at k0
  have HS : Hid (ws[0]? = some s) := by rw [hs]; exact List.getElem?_eq_getElem _
  have HCS : Hid (∀ i (hi : i < ws.length), w1.cell? ⟨g, i, none⟩ = some (.string ws[i])) := hcs
  clear hs hcs
  have hkey : keyOf Tryz.prog 9 (.string s) = some (.string s.data.toList) := Go.WideMaps.keyOf_string_mk Tryz.underlying9 (Nat.le_trans hsz (by unfold maxLen; omega))
  have rc := block_cell hR1
  clear hb1 hR hm hK hv
  obtain ⟨cc, bb, HLK, HCB⟩ : ∃ (cc : Int) (bb : Bool), (∀ n, (Instr.lookup 57 (.map (some K)) (.string s) true).run Tryz.prog (w1.drewN n) = .ok (.tuple #[.int .i64 cc, .bool bb]) (w1.drewN n)) ∧ Hid ((bb = true ∧ ∃ j : Nat, cc = j ∧ 1 ≤ j ∧ j ≤ 26 ∧ words[j]? = some s) ∨ (bb = false ∧ ∀ j, 1 ≤ j → j ≤ 26 → words[j]? ≠ some s)) := by
    have hD := dOps_get (H := Unit) s 26 (Nat.le_refl _)
    have hlk : ∀ n, ∃ v ps, (Instr.lookup 57 (.map (some K)) (.string s) true).run Tryz.prog (w1.drewN n) = .ok (.tuple #[v, .bool (has (dOps (H := Unit) 26) (.string s.data.toList))]) (w1.drewN n) ∧ plainElem (H := Unit) Tryz.prog 3 v = some ((dOps 26).atKey (.string s.data.toList) (.lit (.int .i64 0)), ps) := fun n =>
      World.ownsMap.look_ok (map_block (w' := w1.drewN n) hK1 rfl) law9 Tryz.underlying57 (hz3 _) (plainElem_int Tryz.underlying3 (by decide)) hkey
    rcases hD with ⟨j, h1, h2, h3, h4, h5⟩ | ⟨h1, h2⟩
    · refine ⟨j, true, fun n => ?_, .inl ⟨rfl, j, rfl, h1, h2, h3⟩⟩
      obtain ⟨v, ps, hr, hp⟩ := hlk n
      rw [h4] at hp
      obtain ⟨c', rfl, hc, -⟩ := plainElem_int_inv Tryz.underlying3 hp
      simp only [Prod.mk.injEq, DataW.lit.injEq, Lit.int.injEq, true_and] at hc
      rw [hr, h5, ← hc.1]
    · obtain ⟨v, ps, hr, hp⟩ := hlk 0
      obtain ⟨c', rfl, hc, -⟩ := plainElem_int_inv Tryz.underlying3 hp
      refine ⟨c', false, fun n => ?_, .inr ⟨rfl, h1⟩⟩
      obtain ⟨v2, ps2, hr2, hp2⟩ := hlk n
      obtain ⟨c2, rfl, hc2, -⟩ := plainElem_int_inv Tryz.underlying3 hp2
      have : c2 = c' := by
        simp only [Prod.mk.injEq] at hc hc2
        have := hc2.1.symm.trans hc.1
        simpa using this
      rw [hr2, h2, this]
  go_wp2
  go_quiet (fail)
  obtain ⟨w2, hw2⟩ : ∃ w2, w2 = w1.drewN nq := ⟨_, rfl⟩
  have hb2 : Below w1.heap.size w1 w2 := by rw [hw2]; exact below_draws (Below.refl _ _) _
  rw [← hw2]
  clear hw2 HLK
  have hR2 : LineAt w2 R (.map (some K)) a1 ts.length c1 a2 fs.length c2 := block_kept hR1 hb2
  have hm2 := hm1.below hb2
  have hv2 := hv1.below hb2
  have hbR2 : Below R w w2 := hbR1.trans (hb2.mono (by omega))
  have hKK2 : w2.heap[K]? = w.heap[K]? := (hb2.block K (World.ownsMap.lt hK1)).trans hKK1
  have hz2' : base ≤ w2.heap.size := Nat.le_trans hz1' hb2.size
  have rc2 := block_cell hR2
  have HW : Hid (WordsOf rest ws) := hW
  have hcs2 : Hid (∀ i (hi : i < ws.length), w2.cell? ⟨g, i, none⟩ = some (.string ws[i])) := fun i hi => cell_later hb2 (HCS.out i hi)
  clear hb2 hR1 hm1 hv1 hK1 hbR1 hKK1 hz1' rc hown1 HCS k0 hkey
  by_cases hno : bb = false ∨ 2 < ws.length ∨ fs.length = 0
  · have HF : Hid (fs ≠ [] → ∀ O A, ¬ SaysIns ws O A) := fun hne O A ⟨s', h1, h2, h3, h4⟩ => by
      rcases hno with h | h | h
      · rcases HCB.out with ⟨h', -⟩ | ⟨-, h'⟩
        · rw [h] at h'; cases h'
        · refine h' O h1 h2 ?_
          have e := HS.out
          rcases h4 with ⟨-, rfl⟩ | ⟨-, rfl⟩
          · simp at e; rw [← e]; exact h3
          · simp at e; rw [← e]; exact h3
      · rcases h4 with ⟨-, rfl⟩ | ⟨-, rfl⟩ <;> simp at h
      · exact hne (List.eq_nil_of_length_eq_zero h)
    clear hW
    cases bb
    · go_wp2
      go_ret
      exact ⟨ws, HW.out, hbR2, hKK2, Or.inr ⟨rfl, HF.out, hR2, hm2⟩⟩
    by_cases h2 : 2 < ws.length
    · have h2' : (2 : Int) < (ws.length : Int) := by omega
      go_wp2
      go_ret
      exact ⟨ws, HW.out, hbR2, hKK2, Or.inr ⟨rfl, HF.out, hR2, hm2⟩⟩
    · have h2' : ¬ (2 : Int) < (ws.length : Int) := by omega
      have h0 : ((fs.length : Int) == 0) = true := by
        rcases hno with h | h | h
        · cases h
        · omega
        · rw [h]; rfl
      go_wp2
      go_ret
      exact ⟨ws, HW.out, hbR2, hKK2, Or.inr ⟨rfl, HF.out, hR2, hm2⟩⟩
  -- TAIL
  obtain ⟨hb1', hno2⟩ : bb = true ∧ ¬ (2 < ws.length ∨ fs.length = 0) := by
    cases bb
    · exact absurd (Or.inl rfl) hno
    · exact ⟨rfl, fun h => hno (.inr h)⟩
  clear hno
  subst hb1'
  obtain ⟨jj, hjj, j1, j2, j3⟩ : ∃ j : Nat, cc = j ∧ 1 ≤ j ∧ j ≤ 26 ∧ words[j]? = some s := by
    rcases HCB.out with ⟨-, h⟩ | ⟨h, -⟩
    · exact h
    · cases h
  have HJ3 : Hid (words[jj]? = some s) := j3
  have HJJ : Hid (cc = jj) := hjj
  clear HCB j3 hjj
  obtain ⟨fs0, f, rfl⟩ : ∃ fs0 f, fs = fs0 ++ [f] := ⟨fs.dropLast, fs.getLast (fun e => hno2 (.inr (by rw [e]; rfl))), (List.dropLast_concat_getLast _).symm⟩
  obtain ⟨cs0, cl, rfl⟩ : ∃ cs0 cl, cs = cs0 ++ [cl] := by
    have hl := hm2.codes.len
    have hne : cs ≠ [] := fun e => by rw [e] at hl; simp at hl
    exact ⟨cs.dropLast, cs.getLast hne, (List.dropLast_concat_getLast _).symm⟩
  have hcf : f.code.length ≤ 1048576 := hcd f (by simp)
  have hw2 : ws.length ≤ 2 := Nat.le_of_not_lt fun h => hno2 (.inl h)
  have hw2' : ¬ (2 : Int) < (ws.length : Int) := by omega
  obtain ⟨g2, hg2⟩ : ∃ g2, a2 = some ⟨g2, 0, none⟩ := by
    obtain ⟨g2, e, -⟩ := own_put hm2.funcs 0 (by simp)
    exact ⟨g2, e⟩
  subst hg2
  have hfl : (fs0 ++ [f]).length = fs0.length + 1 := by simp
  have hfs' : fs0.length + 1 ≤ 1048576 := by rw [← hfl]; exact hfs
  have hne0 : (((fs0.length : Int) + 1) == 0) = false := by rw [beq_eq_false_iff_ne]; omega
  have hR2' : LineAt w2 R (.map (some K)) a1 ts.length c1 (some ⟨g2, 0, none⟩) (fs0.length + 1) c2 := by rw [← hfl]; exact hR2
  rw [hfl] at rc2
  clear hcd hfs hW hno2
  have hKw : K < w2.heap.size := by omega
  have hX0 : (w2.alloc (.cells #[.int .i64 cc, .int .i64 0] 51)).heap[w2.heap.size]? = some (.cells #[.int .i64 cc, .int .i64 0] 51 (0, 0)) := block_new _ _ _
  have hbX : Below w2.heap.size w2 (w2.alloc (.cells #[.int .i64 cc, .int .i64 0] 51)) := (Below.refl _ _).alloc (Nat.le_refl _) _
  by_cases h1 : ws.length = 1
  · have h1' : ((ws.length : Int) == 2) = false := by rw [beq_eq_false_iff_ne]; omega
    have HSI : Hid (∀ O A, SaysIns ws O A → cc = O ∧ (0 : Int) = A) := fun O A ⟨s', q1, q2, q3, q4⟩ => by
      have e := HS.out
      rcases q4 with ⟨rfl, rfl⟩ | ⟨-, rfl⟩
      · simp at e; subst e; exact ⟨by rw [HJJ.out, words_one HJ3.out q3], rfl⟩
      · simp at h1
    obtain ⟨w5, hw5⟩ : ∃ w5, w5 = w2.alloc (.cells #[.int .i64 cc, .int .i64 0] 51) := ⟨_, rfl⟩
    go_wp2
    rw [← hw5]
    have hX5 := hX0
    have hb5 := hbX
    rw [← hw5] at hX5 hb5
    clear hw5 hX0 hbX
    have hR5 : LineAt w5 R (.map (some K)) a1 ts.length c1 (some ⟨g2, 0, none⟩) (fs0.length + 1) c2 := block_kept hR2' hb5
    have hm5 := hm2.below hb5
    have hbR5 : Below R w w5 := hbR2.trans (hb5.mono (by omega))
    have hKK5 : w5.heap[K]? = w.heap[K]? := (hb5.block K (by omega)).trans hKK2
    have hz5 : base ≤ w5.heap.size := Nat.le_trans hz2' hb5.size
    have rc5 := block_cell hR5
    have hwr : IntKind.i64.wrap ((fs0.length : Int) + 1 - 1) = (fs0.length : Int) := by rw [IntKind.wrap_i64]; omega
    clear rc2
    go_wp2
    go_quiet (fail)
    have hq : Below w5.heap.size w5 (w5.drewN nq) := below_draws (Below.refl _ _) _
    generalize w5.drewN nq = w6 at hq ⊢
    have hR6 : LineAt w6 R (.map (some K)) a1 ts.length c1 (some ⟨g2, 0, none⟩) (fs0.length + 1) c2 := block_kept hR5 hq
    have hm6 := hm5.below hq
    have hbR6 : Below R w w6 := hbR5.trans (hq.mono (by omega))
    have hKK6 : w6.heap[K]? = w.heap[K]? := (hq.block K (by omega)).trans hKK5
    have hz6 : base ≤ w6.heap.size := Nat.le_trans hz5 hq.size
    have hX6 := block_kept hX5 hq
    obtain ⟨_, e6, hbg, -, hcl, -⟩ := own_put hm6.funcs (fs0.length * 3 + 2) (by simp; omega)
    cases e6
    have HL0 : Hid (fs0.length = cs0.length) := by
      have := hm6.codes.len
      simp only [List.length_append, List.length_cons, List.length_nil] at this
      show fs0.length = cs0.length
      omega
    have hc6 : w6.cell? ⟨g2, fs0.length * 3 + 2, none⟩ = some (.slice cl.1 f.code.length cl.2) := by
      rw [hcl, fnVals_snoc HL0.out, List.getElem?_append_right (by rw [fnVals_len HL0.out]; omega), fnVals_len HL0.out]
      have e9 : fs0.length * 3 + 2 - fs0.length * 3 = 2 := by omega
      rw [e9]; rfl
    have hcown : w6.ownsRow base 51 2 (.slice cl.1 f.code.length cl.2) f.code.length (codeVals f.code) := by
      have hl0 := HL0.out
      have := hm6.codes.own fs0.length (by simp) (by simp [hl0])
      have e2 : (cs0 ++ [cl])[fs0.length]'(by simp [hl0]) = cl := by simp [hl0]
      have e3 : (fs0 ++ [f])[fs0.length]'(by simp) = f := by simp
      rw [e2, e3] at this
      exact this
    have x6 := block_cell hX6
    have hcA : (w6.alloc (.cells #[.int .i64 cc, .int .i64 0] 51)).cell? ⟨g2, fs0.length * 3 + 2, none⟩ = some (.slice cl.1 f.code.length cl.2) := cell_later ((Below.refl _ _).alloc (Nat.le_refl _) _) hc6
    clear hcl hR5 hm5 hbR5 hKK5 hq rc5 hX5
    go_wp2
    go_region_law (first
      | (refine step_append_lies _ (by rfl) _ _ _ (by rfl) base 51 i0 (.agg #[.int .i64 0, .int .i64 0]) 2 16 Tryz.underlying46 hi hz0 hz1 hz2 rfl (by decide) _ _ _ (by rfl) (World.ownsRow.drew (World.ownsRow.alloc hcown _)) ⟨w6.heap.size, 0, none⟩ 1 1 [.int .i64 cc, .int .i64 0] (by rfl) (by rfl) (World.news_of_block (cs := #[.int .i64 cc, .int .i64 0]) (t := 51) (fr := (0, 0)) (by exact heap_alloc_new w6 _)) (by simp [Value.oneCell']) (by decide) (by unfold maxLen; omega) (by omega) (by simp; omega) (w6.heap.size + 1) (by simp) ?_; intro g4 cp w7 hown7 hgrow7' hat7 hlt7; have hgrow7 : (w6.alloc (.cells #[.int .i64 cc, .int .i64 0] 51)).grownBy w7 (Value.slice cl.1 f.code.length cl.2).ownBlock := ⟨hgrow7'.os, hgrow7'.tape, hgrow7'.output, hgrow7'.size, hgrow7'.block⟩; clear hgrow7'; have hk7 : Keeps base [51] (w6.alloc (.cells #[.int .i64 cc, .int .i64 0] 51)) w7 := Keeps.grown (World.ownsRow.alloc hcown _) hgrow7 (by simp); have hf7 := own_keeps (World.ownsRow.alloc hm6.funcs _) hk7 (by simp); obtain ⟨_, e7, -, hfz7, hcc7, ⟨u7, hu7⟩, -, -⟩ := own_put hf7 (fs0.length * 3 + 2) (by simp; omega); cases e7; rw [hu7] at hcc7; clear hf7 hu7)
      | (refine step_append_lies _ (by rfl) _ _ _ (by rfl) base 51 i0 (.agg #[.int .i64 0, .int .i64 0]) 2 16 Tryz.underlying46 hi hz0 hz1 hz2 rfl (by decide) _ _ _ (by rfl) (World.ownsRow.alloc (World.ownsRow.drew hcown) _) ⟨w6.heap.size, 0, none⟩ 1 1 [.int .i64 cc, .int .i64 0] (by rfl) (by rfl) (World.news_of_block (cs := #[.int .i64 cc, .int .i64 0]) (t := 51) (fr := (0, 0)) (by exact heap_alloc_new w6 _)) (by simp [Value.oneCell']) (by decide) (by unfold maxLen; omega) (by omega) (by simp; omega) (w6.heap.size + 1) (by simp) ?_; intro g4 cp w7 hown7 hgrow7' hat7 hlt7; have hgrow7 : (w6.alloc (.cells #[.int .i64 cc, .int .i64 0] 51)).grownBy w7 (Value.slice cl.1 f.code.length cl.2).ownBlock := ⟨hgrow7'.os, hgrow7'.tape, hgrow7'.output, hgrow7'.size, hgrow7'.block⟩; clear hgrow7'; have hk7 : Keeps base [51] (w6.alloc (.cells #[.int .i64 cc, .int .i64 0] 51)) w7 := Keeps.grown (World.ownsRow.alloc hcown _) hgrow7 (by simp); have hf7 := own_keeps (World.ownsRow.alloc hm6.funcs _) hk7 (by simp); obtain ⟨_, e7, -, hfz7, hcc7, ⟨u7, hu7⟩, -, -⟩ := own_put hf7 (fs0.length * 3 + 2) (by simp; omega); cases e7; rw [hu7] at hcc7; clear hf7 hu7))
    all_goals
      have hbA : Below w6.heap.size w6 (w6.alloc (.cells #[.int .i64 cc, .int .i64 0] 51)) := (Below.refl _ _).alloc (Nat.le_refl _) _
      have hmA := hm6.below hbA
      have hown8 : w7.ownsRow base 51 2 (.slice (some ⟨g4, 0, none⟩) (f.code.length + 1) cp) (f.code.length + 1) (codeVals (f.code ++ [(cc, 0)])) := by
        have e : codeVals (f.code ++ [(cc, 0)]) = codeVals f.code ++ [.int .i64 cc, .int .i64 0] := by simp [codeVals]
        rw [e]
        exact hown7
      have hm8 := ModOwn.addIns hmA hgrow7 hown8 (by
        rcases hat7 with h | h
        · exact .inl h
        · exact .inr (by simp; omega))
      have hb8 : Below base w6 (w7.setCell ⟨g2, fs0.length * 3 + 2, none⟩ (.slice (some ⟨g4, 0, none⟩) (f.code.length + 1) cp)) := ((hbA.mono hz6).trans (hk7.toBelow (by simp; omega))).setCell hbg _
      have hR8 : LineAt (w7.setCell ⟨g2, fs0.length * 3 + 2, none⟩ (.slice (some ⟨g4, 0, none⟩) (f.code.length + 1) cp)) R (.map (some K)) a1 ts.length c1 (some ⟨g2, 0, none⟩) (fs0 ++ [f]).length c2 := by rw [hfl]; exact (hb8.block R hRb).trans hR6
      have hKK8 := (hb8.block K hKb).trans hKK6
      have hbR8 : Below R w _ := hbR6.trans (hb8.mono (by omega))
      clear hmA hown8 hb8 hk7 hgrow7 hown7 hat7 hfz7 hcc7 hcA hc6 x6 hX6 hm6 hR6 hbA hcown
      generalize (w7.setCell ⟨g2, fs0.length * 3 + 2, none⟩ (.slice (some ⟨g4, 0, none⟩) (f.code.length + 1) cp)) = w8 at hm8 hR8 hKK8 hbR8 ⊢
      go_wp2
      go_ret
      exact ⟨ws, HW.out, hbR8, hKK8, Or.inl ⟨cc, 0, fs0, f, cs0, cl, (some ⟨g4, 0, none⟩, cp), rfl, rfl, rfl, HSI.out, hR8, hm8⟩⟩
  have h2 : ws.length = 2 := by omega
  obtain ⟨s2, hs2⟩ : ∃ s2, ws = [s, s2] := by
    have e := HS.out
    match ws, h2 with
    | [x0, x1], _ => simp at e; exact ⟨x1, by rw [e]⟩
  have hz2s : s2.size ≤ 1048576 := Nat.le_trans (HW.out.small s2 (by rw [hs2]; simp)) hls
  have k1 : (w2.alloc (.cells #[.int .i64 cc, .int .i64 0] 51)).cell? ⟨g, 1, none⟩ = some (.string s2) := by
    have := hcs2.out 1 (by omega)
    simp only [hs2, List.getElem_cons_succ, List.getElem_cons_zero] at this
    exact cell_later hbX this
  have HWS : Hid (ws = [s, s2]) := hs2
  have h2' : ((ws.length : Int) == 2) = true := by rw [h2]; rfl
  clear hs2 hcs2
  obtain ⟨wx, hwx⟩ : ∃ wx, wx = w2.alloc (.cells #[.int .i64 cc, .int .i64 0] 51) := ⟨_, rfl⟩
  rw [← hwx] at hX0 hbX
  have hvx := hv2.below hbX
  go_wp2_with fail
  rw [← hwx]
  clear hwx
  refine (iAtoi_any s2 _ hz2s hvx).mono ?_
  rintro e w3 ⟨hE, hb3⟩
  have hX3 := block_kept hX0 hb3
  have hb3' : Below w2.heap.size w2 w3 := hbX.trans (hb3.mono hbX.size)
  clear hX0 hbX hb3 k1 hvx
  rcases hE with ⟨av, rfl, hav⟩ | ⟨v1, N1, rfl, hav⟩
  · have HSI : Hid (∀ O A, SaysIns ws O A → cc = O ∧ av = A) := fun O A ⟨s', q1, q2, q3, q4⟩ => by
      have e := HWS.out
      rcases q4 with ⟨-, h⟩ | ⟨hA, h⟩
      · rw [e] at h; simp at h
      · rw [e] at h
        injection h with h3 h4
        injection h4 with h4 _
        subst h3
        exact ⟨by rw [HJJ.out, words_one HJ3.out q3], hav A hA h4⟩
    have x3 := block_cell hX3
    have x3f := block_free hX3
    have hX5 := block_set (i := 1) hX3 (.int .i64 av)
    have hb5 : Below w2.heap.size w2 (w3.setCell ⟨w2.heap.size, 1, none⟩ (.int .i64 av)) := hb3'.setCell (p := ⟨w2.heap.size, 1, none⟩) (Nat.le_refl _) _
    obtain ⟨w5, hw5⟩ : ∃ w5, w5 = w3.setCell ⟨w2.heap.size, 1, none⟩ (.int .i64 av) := ⟨_, rfl⟩
    rw [← hw5] at hX5 hb5
    have rc3 : ∀ i, w5.cell? ⟨R, i, none⟩ = #[Value.map (some K), .slice a1 ts.length c1, .slice (some ⟨g2, 0, none⟩) (fs0.length + 1) c2][i]? := block_cell (block_kept hR2' hb5)
    clear hb3' hX3 hav
    go_wp2
    rw [← hw5]
    clear hw5 x3 x3f rc3
    simp only [List.setIfInBounds_toArray, List.set_cons_succ, List.set_cons_zero] at hX5
    have hR5 : LineAt w5 R (.map (some K)) a1 ts.length c1 (some ⟨g2, 0, none⟩) (fs0.length + 1) c2 := block_kept hR2' hb5
    have hm5 := hm2.below hb5
    have hbR5 : Below R w w5 := hbR2.trans (hb5.mono (by omega))
    have hKK5 : w5.heap[K]? = w.heap[K]? := (hb5.block K (by omega)).trans hKK2
    have hz5 : base ≤ w5.heap.size := Nat.le_trans hz2' hb5.size
    have rc5 := block_cell hR5
    have hwr : IntKind.i64.wrap ((fs0.length : Int) + 1 - 1) = (fs0.length : Int) := by rw [IntKind.wrap_i64]; omega
    clear rc2
    go_wp2
    go_quiet (fail)
    have hq : Below w5.heap.size w5 (w5.drewN nq) := below_draws (Below.refl _ _) _
    generalize w5.drewN nq = w6 at hq ⊢
    have hR6 : LineAt w6 R (.map (some K)) a1 ts.length c1 (some ⟨g2, 0, none⟩) (fs0.length + 1) c2 := block_kept hR5 hq
    have hm6 := hm5.below hq
    have hbR6 : Below R w w6 := hbR5.trans (hq.mono (by omega))
    have hKK6 : w6.heap[K]? = w.heap[K]? := (hq.block K (by omega)).trans hKK5
    have hz6 : base ≤ w6.heap.size := Nat.le_trans hz5 hq.size
    have hX6 := block_kept hX5 hq
    obtain ⟨_, e6, hbg, -, hcl, -⟩ := own_put hm6.funcs (fs0.length * 3 + 2) (by simp; omega)
    cases e6
    have HL0 : Hid (fs0.length = cs0.length) := by
      have := hm6.codes.len
      simp only [List.length_append, List.length_cons, List.length_nil] at this
      show fs0.length = cs0.length
      omega
    have hc6 : w6.cell? ⟨g2, fs0.length * 3 + 2, none⟩ = some (.slice cl.1 f.code.length cl.2) := by
      rw [hcl, fnVals_snoc HL0.out, List.getElem?_append_right (by rw [fnVals_len HL0.out]; omega), fnVals_len HL0.out]
      have e9 : fs0.length * 3 + 2 - fs0.length * 3 = 2 := by omega
      rw [e9]; rfl
    have hcown : w6.ownsRow base 51 2 (.slice cl.1 f.code.length cl.2) f.code.length (codeVals f.code) := by
      have hl0 := HL0.out
      have := hm6.codes.own fs0.length (by simp) (by simp [hl0])
      have e2 : (cs0 ++ [cl])[fs0.length]'(by simp [hl0]) = cl := by simp [hl0]
      have e3 : (fs0 ++ [f])[fs0.length]'(by simp) = f := by simp
      rw [e2, e3] at this
      exact this
    have x6 := block_cell hX6
    have hcA : (w6.alloc (.cells #[.int .i64 cc, .int .i64 av] 51)).cell? ⟨g2, fs0.length * 3 + 2, none⟩ = some (.slice cl.1 f.code.length cl.2) := cell_later ((Below.refl _ _).alloc (Nat.le_refl _) _) hc6
    clear hcl hR5 hm5 hbR5 hKK5 hq rc5 hX5
    go_wp2
    go_region_law (first
      | (refine step_append_lies _ (by rfl) _ _ _ (by rfl) base 51 i0 (.agg #[.int .i64 0, .int .i64 0]) 2 16 Tryz.underlying46 hi hz0 hz1 hz2 rfl (by decide) _ _ _ (by rfl) (World.ownsRow.drew (World.ownsRow.alloc hcown _)) ⟨w6.heap.size, 0, none⟩ 1 1 [.int .i64 cc, .int .i64 av] (by rfl) (by rfl) (World.news_of_block (cs := #[.int .i64 cc, .int .i64 av]) (t := 51) (fr := (0, 0)) (by exact heap_alloc_new w6 _)) (by simp [Value.oneCell']) (by decide) (by unfold maxLen; omega) (by omega) (by simp; omega) (w6.heap.size + 1) (by simp) ?_; intro g4 cp w7 hown7 hgrow7' hat7 hlt7; have hgrow7 : (w6.alloc (.cells #[.int .i64 cc, .int .i64 av] 51)).grownBy w7 (Value.slice cl.1 f.code.length cl.2).ownBlock := ⟨hgrow7'.os, hgrow7'.tape, hgrow7'.output, hgrow7'.size, hgrow7'.block⟩; clear hgrow7'; have hk7 : Keeps base [51] (w6.alloc (.cells #[.int .i64 cc, .int .i64 av] 51)) w7 := Keeps.grown (World.ownsRow.alloc hcown _) hgrow7 (by simp); have hf7 := own_keeps (World.ownsRow.alloc hm6.funcs _) hk7 (by simp); obtain ⟨_, e7, -, hfz7, hcc7, ⟨u7, hu7⟩, -, -⟩ := own_put hf7 (fs0.length * 3 + 2) (by simp; omega); cases e7; rw [hu7] at hcc7; clear hf7 hu7)
      | (refine step_append_lies _ (by rfl) _ _ _ (by rfl) base 51 i0 (.agg #[.int .i64 0, .int .i64 0]) 2 16 Tryz.underlying46 hi hz0 hz1 hz2 rfl (by decide) _ _ _ (by rfl) (World.ownsRow.alloc (World.ownsRow.drew hcown) _) ⟨w6.heap.size, 0, none⟩ 1 1 [.int .i64 cc, .int .i64 av] (by rfl) (by rfl) (World.news_of_block (cs := #[.int .i64 cc, .int .i64 av]) (t := 51) (fr := (0, 0)) (by exact heap_alloc_new w6 _)) (by simp [Value.oneCell']) (by decide) (by unfold maxLen; omega) (by omega) (by simp; omega) (w6.heap.size + 1) (by simp) ?_; intro g4 cp w7 hown7 hgrow7' hat7 hlt7; have hgrow7 : (w6.alloc (.cells #[.int .i64 cc, .int .i64 av] 51)).grownBy w7 (Value.slice cl.1 f.code.length cl.2).ownBlock := ⟨hgrow7'.os, hgrow7'.tape, hgrow7'.output, hgrow7'.size, hgrow7'.block⟩; clear hgrow7'; have hk7 : Keeps base [51] (w6.alloc (.cells #[.int .i64 cc, .int .i64 av] 51)) w7 := Keeps.grown (World.ownsRow.alloc hcown _) hgrow7 (by simp); have hf7 := own_keeps (World.ownsRow.alloc hm6.funcs _) hk7 (by simp); obtain ⟨_, e7, -, hfz7, hcc7, ⟨u7, hu7⟩, -, -⟩ := own_put hf7 (fs0.length * 3 + 2) (by simp; omega); cases e7; rw [hu7] at hcc7; clear hf7 hu7))
    all_goals
      have hbA : Below w6.heap.size w6 (w6.alloc (.cells #[.int .i64 cc, .int .i64 av] 51)) := (Below.refl _ _).alloc (Nat.le_refl _) _
      have hmA := hm6.below hbA
      have hown8 : w7.ownsRow base 51 2 (.slice (some ⟨g4, 0, none⟩) (f.code.length + 1) cp) (f.code.length + 1) (codeVals (f.code ++ [(cc, av)])) := by
        have e : codeVals (f.code ++ [(cc, av)]) = codeVals f.code ++ [.int .i64 cc, .int .i64 av] := by simp [codeVals]
        rw [e]
        exact hown7
      have hm8 := ModOwn.addIns hmA hgrow7 hown8 (by
        rcases hat7 with h | h
        · exact .inl h
        · exact .inr (by simp; omega))
      have hb8 : Below base w6 (w7.setCell ⟨g2, fs0.length * 3 + 2, none⟩ (.slice (some ⟨g4, 0, none⟩) (f.code.length + 1) cp)) := ((hbA.mono hz6).trans (hk7.toBelow (by simp; omega))).setCell hbg _
      have hR8 : LineAt (w7.setCell ⟨g2, fs0.length * 3 + 2, none⟩ (.slice (some ⟨g4, 0, none⟩) (f.code.length + 1) cp)) R (.map (some K)) a1 ts.length c1 (some ⟨g2, 0, none⟩) (fs0 ++ [f]).length c2 := by rw [hfl]; exact (hb8.block R hRb).trans hR6
      have hKK8 := (hb8.block K hKb).trans hKK6
      have hbR8 : Below R w _ := hbR6.trans (hb8.mono (by omega))
      clear hmA hown8 hb8 hk7 hgrow7 hown7 hat7 hfz7 hcc7 hcA hc6 x6 hX6 hm6 hR6 hbA hcown
      generalize (w7.setCell ⟨g2, fs0.length * 3 + 2, none⟩ (.slice (some ⟨g4, 0, none⟩) (f.code.length + 1) cp)) = w8 at hm8 hR8 hKK8 hbR8 ⊢
      go_wp2
      go_ret
      exact ⟨ws, HW.out, hbR8, hKK8, Or.inl ⟨cc, av, fs0, f, cs0, cl, (some ⟨g4, 0, none⟩, cp), rfl, rfl, rfl, HSI.out, hR8, hm8⟩⟩
  · have HF : Hid (∀ O A, ¬ SaysIns ws O A) := fun O A ⟨s', q1, q2, q3, q4⟩ => by
      have e := HWS.out
      rcases q4 with ⟨-, h⟩ | ⟨hA, h⟩
      · rw [e] at h; simp at h
      · rw [e] at h
        injection h with h3 h4
        injection h4 with h4 _
        exact hav A hA h4
    have hb9 : Below R w w3 := hbR2.trans (hb3'.mono (by omega))
    have hR9 := block_kept hR2 hb3'
    have hm9 := hm2.below hb3'
    have hKK9 : w3.heap[K]? = w.heap[K]? := (hb3'.block K (by omega)).trans hKK2
    clear hb3' hX3 hav
    go_wp2
    go_ret
    exact ⟨ws, HW.out, hb9, hKK9, Or.inr ⟨rfl, fun _ => HF.out, hR9, hm9⟩⟩
end Go.Proofs.YtpmkfdinkomaiaaGreatDoor
