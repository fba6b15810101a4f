/-
What spec.l10Specs and spec.SpecsOf return.
-/
import Derived.Test.YtbjmgmmekmfjhaaGreatDoorGS37
import Derived.Test.YtbjmgmmekmfjhaaGreatDoorGS22
import Derived.Deep.AppendLies
namespace Go.Proofs.YtbjmgmmekmfjhaaGreatDoor
set_option maxRecDepth 100000
open Go.RowKit Go.Sort Go.Lib
theorem app_none4 (W : World) (a p : Option Addr) (n cap c : Nat) (h : n ≤ cap) (ty : TypeId) : (Builtin.append_ #[32, 32] ty #[.slice a n cap, .slice p 0 c]).run Tryz.prog W = .ok (.slice a n cap) W := by
 obtain ⟨i0, hi, hz0, hz1, hz2⟩ := info_parts info97
 cases a <;> cases p <;> simp [Builtin.append_, run_underlying Tryz.underlying32, sizeOf, typeInfo, hi, Builtin.lenOf, Builtin.firstCells, loadCells, loadCellsFrom, storeCells, h]
theorem St.nil0 {w : World} {g : Nat} (h : w.heap[g]? = some (Obj.cells #[] 97 (0, 0))) : St w g 0 #[] := ⟨#[], h, rfl, Nat.le_refl _, fun j hj => absurd hj (by simp)⟩
theorem St.at_list {w : World} {g cap : Nat} {l : List Si} (h : St w g cap l.toArray) (j : Nat) (hj : j < l.length) : w.cell? ⟨g, j * 4, none⟩ = some (.int .i64 l[j].f) ∧ w.cell? ⟨g, j * 4 + 1, none⟩ = some (.int .i64 l[j].pc) ∧ w.cell? ⟨g, j * 4 + 2, none⟩ = some (.int .i64 l[j].seen) ∧ w.cell? ⟨g, j * 4 + 3, none⟩ = some (.int .i64 l[j].target) := by
 have := h.row (j := j) (by simpa using hj)
 rw [getElem!_pos l.toArray j (by simpa using hj)] at this
 simpa using this
theorem flat4_take (l : List Si) (j : Nat) (hj : j ≤ l.length) : flat4 (l.take j) = (flat4 l).take (j * 4) := by
 have h : flat4 l = flat4 (l.take j) ++ flat4 (l.drop j) := by rw [← flat4_app, List.take_append_drop]
 have e : (flat4 (l.take j)).length = j * 4 := by rw [flat4_len, List.length_take]; omega
 rw [h, ← e, List.take_left]
theorem flat4_drop (l : List Si) (j : Nat) (hj : j ≤ l.length) : flat4 (l.drop j) = (flat4 l).drop (j * 4) := by
 have h : flat4 l = flat4 (l.take j) ++ flat4 (l.drop j) := by rw [← flat4_app, List.take_append_drop]
 have e : (flat4 (l.take j)).length = j * 4 := by rw [flat4_len, List.length_take]; omega
 rw [h, ← e, List.drop_left]
theorem flat_same (l : List Si) (t : Nat) (ht : t < l.length * 4) : (flat4 l)[t]? = some ((flatK encS 4 l.toArray)[t]!) := by
 rw [flat_at _ _ (by simpa using ht)]
 obtain ⟨i, r, hr, rfl⟩ : ∃ i r, r < 4 ∧ t = i * 4 + r := ⟨t / 4, t % 4, by omega, by omega⟩
 obtain ⟨q0, q1, q2, q3⟩ := flat4_at l i (by omega)
 rw [show (i * 4 + r) / 4 = i by omega, show (i * 4 + r) % 4 = r by omega, getElem!_pos l.toArray i (by simp; omega)]
 obtain rfl | rfl | rfl | rfl : r = 0 ∨ r = 1 ∨ r = 2 ∨ r = 3 := by omega
 · rw [Nat.add_zero, q0]; rfl
 · rw [q1]; rfl
 · rw [q2]; rfl
 · rw [q3]; rfl
theorem St.lies {w : World} {g cap : Nat} {l : List Si} (h : St w g cap l.toArray) (t : Nat) (u : Value) (hu : (flat4 l)[t]? = some u) : w.cell? ⟨g, t, none⟩ = some u := by
 have ht : t < l.length * 4 := by
  rw [← flat4_len]
  exact (List.getElem?_eq_some_iff.1 hu).1
 rw [h.cells t (by simpa using ht), ← flat_same l t ht, hu]
theorem one4 (l : List Si) : ∀ u ∈ flat4 l, u.oneCell' = true := by
 intro u hu
 unfold flat4 at hu
 obtain ⟨s, -, hs⟩ := List.mem_flatMap.1 hu
 simp [encS] at hs
 rcases hs with rfl | rfl | rfl | rfl <;> rfl
theorem addr_add (g o i : Nat) : (⟨g, o, none⟩ : Addr).add i = ⟨g, o + i, none⟩ := by unfold Addr.add; split <;> simp_all
theorem St.take_lies {w : World} {g cap j : Nat} {l : List Si} (h : St w g cap l.toArray) (hj : j ≤ l.length) : ∀ (i : Nat) (u : Value), (flat4 (l.take j))[i]? = some u → w.cell? ((⟨g, 0, none⟩ : Addr).add i) = some u := by
 intro i u hu
 rw [flat4_take l j hj, List.getElem?_take] at hu
 split at hu
 · rw [addr_add, Nat.zero_add]; exact h.lies i u hu
 · cases hu
theorem St.drop_lies {w : World} {g cap j : Nat} {l : List Si} (h : St w g cap l.toArray) (hj : j ≤ l.length) : ∀ (i : Nat) (u : Value), (flat4 (l.drop j))[i]? = some u → w.cell? ((⟨g, j * 4, none⟩ : Addr).add i) = some u := by
 intro i u hu
 rw [flat4_drop l j hj, List.getElem?_drop] at hu
 rw [addr_add]; exact h.lies _ u hu
theorem own_made {w : World} {N : Nat} (hN : N = w.heap.size) : (w.alloc (.cells #[] 97)).ownsRow N 97 4 (.slice (some ⟨w.heap.size, 0, none⟩) 0 0) 0 (flat4 []) := by
 have := World.ownsRow_made (base := N) (e := 97) (size := 4) w #[] 0 (by omega) (by unfold maxLen; omega) rfl
 rw [show flat4 [] = [] from rfl]
 simpa using this
theorem wpList_run {ops : Array Oper} {rest : List Oper} {o : Oper} {a : Act} {Q : Exit → Act → World → Prop} {w : World} {t ty : TypeId} {v1 v2 v' : Value} {w' : World}
  (hr : (Builtin.append_ #[t, t] ty #[v1, v2]).run Tryz.prog w = .ok v' w') (hgd : o.guard = none) (s x : Operand)
  (ho : o.op = .call { callee := .builtin .append, args := #[s, x], argTypes := #[t, t] }) (hs : a.eval s = v1) (hx : a.eval x = v2) (hty : o.type = ty)
  (h : wpList Tryz.prog ops Q rest (a.put o.dst v') w') : wpList Tryz.prog ops Q (o :: rest) a w :=
 wpList_plain hgd fun _ hK => by
  unfold Oper.wp execOp
  simp only [ho, hty, resolve, invoke, builtin, Sem.run_bind, Sem.run_pure, Result.andThen_ok, List.map_toArray, List.map_cons, List.map_nil, hs, hx, hr]
  exact hK _ _ h
theorem run_app4 (w : World) (base dg n dcap : Nat) (Ls : List Si) (hown : w.ownsRow base 97 4 (.slice (some ⟨dg, 0, none⟩) n dcap) n (flat4 Ls)) (p : Option Addr) (m c : Nat) (news : List Si) (hl : news.length = m)
  (hlies : 0 < m → ∃ ad, p = some ad ∧ ∀ (i : Nat) (u : Value), (flat4 news)[i]? = some u → w.cell? (ad.add i) = some u) (hn : n + m ≤ 100000) (hbase : base ≤ w.heap.size) :
  ∃ g cap w', (Builtin.append_ #[32, 32] 32 #[.slice (some ⟨dg, 0, none⟩) n dcap, .slice p m c]).run Tryz.prog w = .ok (.slice (some ⟨g, 0, none⟩) (n + m) cap) w' ∧
   w'.ownsRow base 97 4 (.slice (some ⟨g, 0, none⟩) (n + m) cap) (n + m) (flat4 (Ls ++ news)) ∧ Below base w w' := by
 obtain ⟨i0, hi, hz0, hz1, hz2⟩ := info_parts info97
 by_cases hm : 0 < m
 ·
  obtain ⟨ad, rfl, hli⟩ := hlies hm
  obtain ⟨g, cap, w', hr, h2, h3, -, -⟩ := run_append_lies (P := Tryz.prog) w 32 32 base 97 i0 (.agg #[.int .i64 0, .int .i64 0, .int .i64 0, .int .i64 0]) 4 32 Tryz.underlying32 hi hz0 hz1 hz2 rfl (by decide) _ n _ hown ad m c (flat4 news) (by rw [flat4_len, hl]) hli (one4 _) hm (by unfold maxLen; omega) (by omega) hbase _ rfl
  refine ⟨g, cap, w', hr, by rw [flat4_app]; exact h2, ?_⟩
  exact (Keeps.grown (ts := [97]) hown h3 (by simp)).toBelow hbase
 ·
  obtain rfl : m = 0 := by omega
  have hnc : n ≤ dcap := by
   rcases hown.2 with ⟨e, -⟩ | ⟨b, cp, cur, e, -, -, h1, -⟩
   · cases e
   · cases e; exact h1
  obtain rfl : news = [] := List.eq_nil_of_length_eq_zero hl
  exact ⟨dg, dcap, w, app_none4 w _ p n dcap c hnc _, by simpa using hown, Below.refl _ _⟩
set_option maxHeartbeats 8000000 in
theorem sL10Specs_any (oa ea : Option Addr) (oc ec : Nat) (ts : List ByteArray) (fs : List Fn) (D : FastD) (w : World) (hP : FastP ts fs D) (hf : FastAt w 0 oa ea D) :
  Calls Tryz.prog 50 #[.agg #[.int .i64 D.fn, .int .i64 D.entry, .int .i64 D.vals, .int .i64 D.nums, .slice oa D.ops.length oc, .slice ea D.exits.length ec]] w fun e w' => ∃ v S, e = .returned v ∧ SpecsA ts fs D S ∧ SSl w' w.heap.size v S ∧ Below w.heap.size w w' := by
 have hel : D.exits.length ≤ 1500 := hP.2.2.2.1
 have HP : Hid (FastP ts fs D) := hP
 clear hP
 obtain ⟨w0, hw0⟩ : ∃ w0, w0 = w.alloc (.cells #[.int .i64 D.fn, .int .i64 D.entry, .int .i64 D.vals, .int .i64 D.nums, .slice oa D.ops.length oc, .slice ea D.exits.length ec] 41) := ⟨_, rfl⟩
 have hb0 : Below w.heap.size w w0 := by rw [hw0]; exact (Below.refl _ _).alloc (Nat.le_refl _) _
 have hF0 : w0.heap[w.heap.size]? = some (.cells #[.int .i64 D.fn, .int .i64 D.entry, .int .i64 D.vals, .int .i64 D.nums, .slice oa D.ops.length oc, .slice ea D.exits.length ec] 41 (0, 0)) := by rw [hw0]; exact block_new _ _ _
 obtain ⟨w1, hw1⟩ : ∃ w1, w1 = w0.alloc (.cells #[] 97) := ⟨_, rfl⟩
 have hb1 : Below w0.heap.size w0 w1 := by rw [hw1]; exact (Below.refl _ _).alloc (Nat.le_refl _) _
 have hS1 : St w1 w0.heap.size 0 #[] := St.nil0 (by rw [hw1]; exact block_new _ _ _)
 have g44 := guard44
 go_enter Tryz.func50, Tryz.ntmps50
 go_upto_region 2 with fail
 rw [← hw0, ← hw1]
 have hz01 : w0.heap.size = w.heap.size + 1 := by rw [hw0]; simp
 rw [hz01] at hS1
 have hF1 := block_kept hF0 hb1
 have hB1 := hb0.trans (hb1.mono hb0.size)
 clear hw0 hw1 hb0 hb1 hF0
 go_wp2
 go_loopw [3, 4] (fun q i wr => ∃ (k g cap : Nat), k ≤ D.exits.length ∧ i = .int .i64 k ∧ q = .slice (some ⟨g, 0, none⟩) (insT D k).length cap ∧ w.heap.size < g ∧ Hid (St wr g cap (insT D k).toArray) ∧ Hid (wr.heap[w.heap.size]? = some (.cells #[.int .i64 D.fn, .int .i64 D.entry, .int .i64 D.vals, .int .i64 D.nums, .slice oa D.ops.length oc, .slice ea D.exits.length ec] 41 (0, 0))) ∧ Hid (Below w.heap.size w wr)) (fun _ i _ => D.exits.length - (intOf i).toNat)
 case atStart => exact ⟨0, w.heap.size + 1, 0, by omega, rfl, rfl, by omega, hS1, hF1, hB1⟩
 case round =>
  obtain ⟨k, g, cap, hk, rfl, rfl, hgw, HST, HBX, HB⟩ := hrel
  clear hS1 hF1 hB1 hz01
  have y1 := block_cell HBX.out
  obtain ⟨HAS, HME, HLE⟩ : Hid ((insT D k).Pairwise SLt) ∧ Hid (∀ x, x ∈ insT D k ↔ x ∈ specT D k) ∧ Hid ((insT D k).length ≤ k) := ⟨(insT_all D k).1, (insT_all D k).2.1, Nat.le_trans (insT_all D k).2.2 (specT_len D k hk)⟩
  by_cases hlt : k < D.exits.length
  case neg =>
   obtain rfl : k = D.exits.length := by omega
   have z2 : ¬ (D.exits.length : Int) < (D.exits.length : Int) := by omega
   have HR : Hid (SpecsA ts fs D (insT D D.exits.length) ∧ SSl wr w.heap.size (.slice (some ⟨g, 0, none⟩) (insT D D.exits.length).length cap) (insT D D.exits.length)) := ⟨.inl ⟨HP.out, HAS.out, fun x => by rw [HME.out, specT_all], by have := HLE.out; omega⟩, .inr ⟨g, cap, rfl, by omega, HST.out⟩⟩
   go_wp2
   go_ret
   exact ⟨_, rfl, insT D D.exits.length, HR.out.1, HR.out.2, HB.out⟩
  have zk : (k : Int) < (D.exits.length : Int) := by omega
  have hll : (insT D k).length ≤ 1500 := by have := HLE.out; omega
  obtain ⟨be, oe, xf, xc, ya, yc, hea, -, e0, e1, e2, e3, e4, -, -, -, -⟩ := hf.exits k hlt
  subst hea
  have f0 := cell_later HB.out e0
  have f1 := cell_later HB.out e1
  have f2 := cell_later HB.out e2
  have f3 := cell_later HB.out e3
  have f4 := cell_later HB.out e4
  clear e0 e1 e2 e3 e4
  by_cases hk2 : D.exits[k].kind = 2
  case neg =>
   have gk : (D.exits[k].kind != 2) = true := by simpa using hk2
   have HT : Hid (insT D (k + 1) = insT D k) := insT_no D k hlt hk2
   clear hk2
   go_wp2
   go_roundw
   case rel => exact ⟨k + 1, g, cap, by omega, by go_num, by rw [HT.out], hgw, by rw [HT.out]; exact HST, HBX, HB⟩
   case measure => simp [intOf]; omega
  have gk : (D.exits[k].kind != 2) = false := by simpa using hk2
  obtain ⟨s, hs⟩ : ∃ s, s = D.exits[k].spec := ⟨_, rfl⟩
  have HT : Hid (insT D (k + 1) = insS s (insT D k)) := by rw [hs]; exact insT_yes D k hlt hk2
  rw [← hs] at f1 f2 f3 f4
  obtain ⟨l, hl⟩ : ∃ l, l = insT D k := ⟨_, rfl⟩
  rw [← hl] at HT HAS HLE HST hll ⊢
  clear hk2 hs HME hl
  obtain ⟨sb, hsb⟩ : ∃ sb, sb = wr.heap.size := ⟨_, rfl⟩
  obtain ⟨wb, hwb⟩ : ∃ wb, wb = wr.alloc (.cells #[.int .i64 s.f, .int .i64 s.pc, .int .i64 s.seen, .int .i64 s.target] 97) := ⟨_, rfl⟩
  have hqb : Below wr.heap.size wr wb := by rw [hwb]; exact (Below.refl _ _).alloc (Nat.le_refl _) _
  have hsbk : wb.heap[sb]? = some (.cells #[.int .i64 s.f, .int .i64 s.pc, .int .i64 s.seen, .int .i64 s.target] 97 (0, 0)) := by rw [hwb, hsb]; exact block_new _ _ _
  have HSTb := hids (HST.out.mono hqb)
  have HBXb := hids (block_kept HBX.out hqb)
  have HBb := hids (HB.out.trans (hqb.mono HB.out.size))
  have HSBb := hids hsbk
  have hdc : l.length ≤ cap := by obtain ⟨c, -, -, h, -⟩ := HST.out; simpa using h
  go_upto_region 7 with fail
  rw [← hwb, ← hsb]
  clear hwb hsb f0 f1 f2 f3 f4 y1 hqb hsbk HST HBX HB
  go_wp2
  go_loopw [6] (fun s6 wx => ∃ j : Nat, j ≤ l.length ∧ s6 = .int .i64 j ∧ Hid (∀ i (h : i < l.length), i < j → SLt l[i] s) ∧ Hid (Below wb.heap.size wb wx)) (fun i _ => l.length - (intOf i).toNat)
  case atStart => exact ⟨0, by omega, rfl, fun i _ h => absurd h (by omega), Below.refl _ _⟩
  case round =>
   obtain ⟨j, hj, rfl, HLO, HX⟩ := hrel
   have HSTx := hids (HSTb.out.mono HX.out)
   have HBXx := hids (block_kept HBXb.out HX.out)
   have HBx := hids (HBb.out.trans (HX.out.mono HBb.out.size))
   have HSBx := hids (block_kept HSBb.out HX.out)
   obtain ⟨wo, hwo⟩ : ∃ wo, wo = wr := ⟨_, rfl⟩
   rw [← hwo] at HX HSTx HBXx HBx HSBx ⊢
   clear hwo
   have zj0 : (0 : Int) ≤ (j : Int) := by omega
   by_cases hjl : j < l.length
   case neg =>
    have HJN : Hid (j = l.length) := by show _ = _; omega
    have zj : ¬ (j : Int) < (l.length : Int) := by omega
    have HPL : Hid (place s l = j) := place_is s l j hj HLO.out (fun h => absurd h hjl)
    have HNM : Hid (¬ s ∈ l) := fun q => by obtain ⟨h, -⟩ := (in_place HAS.out).1 q; rw [HPL.out] at h; exact hjl h
    have HS : Hid (∀ w', Below wo.heap.size wo w' → w'.cell? ⟨sb, 0, none⟩ = some (.int .i64 s.f) ∧ w'.cell? ⟨sb, 1, none⟩ = some (.int .i64 s.pc) ∧ w'.cell? ⟨sb, 2, none⟩ = some (.int .i64 s.seen) ∧ w'.cell? ⟨sb, 3, none⟩ = some (.int .i64 s.target)) := fun w' q => ⟨block_cell (block_kept HSBx.out q) 0, block_cell (block_kept HSBx.out q) 1, block_cell (block_kept HSBx.out q) 2, block_cell (block_kept HSBx.out q) 3⟩
    clear hjl
    go_upto_region 8 with fail
    refine wp_below (by kernel_rfl) (by kernel_rfl) ?_
    iterate 3
     refine q_want (v := ?_) (by kernel_rfl) ?_ ?_
     rotate_left
     ·
      intro w' hC
      obtain ⟨j0, j1, j2, j3⟩ := HS.out w' hC
      go_simp
      try with_reducible rfl
     try simp only [Act.put, sAr, sZe, sSu]
    refine q_want (v := .bool false) (by kernel_rfl) ?_ ?_
    ·
     intro w' hC
     obtain ⟨j0, j1, j2, j3⟩ := HS.out w' hC
     go_simp
     (try simp); (try omega)
    try simp only [Act.put, sAr, sZe, sSu]
    refine q_want (v := ?_) (by kernel_rfl) ?_ ?_
    rotate_left
    ·
     intro w' hC
     obtain ⟨j0, j1, j2, j3⟩ := HS.out w' hC
     go_simp
     try with_reducible rfl
    try simp only [Act.put, sAr, sZe, sSu]
    iterate 6 go_big_quiet_skip
    refine q_want (v := ?_) (by kernel_rfl) ?_ ?_
    rotate_left
    ·
     intro w' hC
     obtain ⟨j0, j1, j2, j3⟩ := HS.out w' hC
     go_simp
     try with_reducible rfl
    try simp only [Act.put, sAr, sZe, sSu]
    refine wpQuiet_nil ?_
    intro w2 q2
    go_upto_region 10 with fail
    have HS2 := hids fun w' (q : Below w2.heap.size w2 w') => HS.out w' (q2.trans (q.mono q2.size))
    have q20 := hids q2
    clear q2 HS
    refine wp_below (by kernel_rfl) (by kernel_rfl) ?_
    iterate 3
     refine q_want (v := ?_) (by kernel_rfl) ?_ ?_
     rotate_left
     ·
      intro w' hC
      obtain ⟨j0, j1, j2, j3⟩ := HS2.out w' hC
      go_simp
      try with_reducible rfl
     try simp only [Act.put, sAr, sZe, sSu]
    refine q_want (v := .bool false) (by kernel_rfl) ?_ ?_
    ·
     intro w' hC
     obtain ⟨j0, j1, j2, j3⟩ := HS2.out w' hC
     go_simp
     (try simp); (try omega)
    try simp only [Act.put, sAr, sZe, sSu]
    refine q_want (v := ?_) (by kernel_rfl) ?_ ?_
    rotate_left
    ·
     intro w' hC
     obtain ⟨j0, j1, j2, j3⟩ := HS2.out w' hC
     go_simp
     try with_reducible rfl
    try simp only [Act.put, sAr, sZe, sSu]
    iterate 6 go_big_quiet_skip
    refine q_want (v := ?_) (by kernel_rfl) ?_ ?_
    rotate_left
    ·
     intro w' hC
     obtain ⟨j0, j1, j2, j3⟩ := HS2.out w' hC
     go_simp
     try with_reducible rfl
    try simp only [Act.put, sAr, sZe, sSu]
    refine wpQuiet_nil ?_
    intro w2 q2
    have HST := hids (HSTx.out.mono (q20.out.trans (q2.mono q20.out.size)))
    have HBX := hids (block_kept HBXx.out (q20.out.trans (q2.mono q20.out.size)))
    have HSB := hids (block_kept HSBx.out (q20.out.trans (q2.mono q20.out.size)))
    have HB2 := hids (HBx.out.trans ((q20.out.trans (q2.mono q20.out.size)).mono HBx.out.size))
    clear q2 HS2
    by_cases hjc : j < cap
    ·
     have hjl2 : j ≤ l.length := hj
     obtain ⟨wa, hwa⟩ : ∃ wa, wa = w2.alloc (.cells #[] 97) := ⟨_, rfl⟩
     have hqa : Below w2.heap.size w2 wa := by rw [hwa]; exact (Below.refl _ _).alloc (Nat.le_refl _) _
     have hoa : wa.ownsRow w2.heap.size 97 4 (.slice (some ⟨w2.heap.size, 0, none⟩) 0 0) 0 (flat4 []) := by rw [hwa]; exact own_made rfl
     obtain ⟨g1, cap1, w3, hr1, hown1, q1⟩ := run_app4 wa w2.heap.size w2.heap.size 0 0 [] hoa (some ⟨g, 0, none⟩) j cap (l.take j) (by rw [List.length_take]; omega) (fun _ => ⟨_, rfl, (HST.out.mono hqa).take_lies (by omega)⟩) (by omega) hqa.size
     rw [Nat.zero_add] at hr1 hown1
     rw [List.nil_append] at hown1
     rw [hwa] at hr1
     have Q1 := hids (hqa.trans q1)
     have hS3 := block_kept HSB.out Q1.out
     have s3 := block_cell hS3
     obtain ⟨wb, hwb⟩ : ∃ wb, wb = w3.alloc (.cells #[.int .i64 s.f, .int .i64 s.pc, .int .i64 s.seen, .int .i64 s.target] 97) := ⟨_, rfl⟩
     have hqb : Below w3.heap.size w3 wb := by rw [hwb]; exact (Below.refl _ _).alloc (Nat.le_refl _) _
     have hnb : wb.heap[w3.heap.size]? = some (.cells #[.int .i64 s.f, .int .i64 s.pc, .int .i64 s.seen, .int .i64 s.target] 97 (0, 0)) := by rw [hwb]; exact block_new _ _ _
     have hz3 : w2.heap.size ≤ w3.heap.size := Q1.out.size
     obtain ⟨g2, cap2, w4, hr2, hown2, q2⟩ := run_app4 wb w2.heap.size g1 j cap1 (l.take j) (by rw [hwb]; exact World.ownsRow.alloc hown1 _) (some ⟨w3.heap.size, 0, none⟩) 1 1 [s] rfl (fun _ => ⟨_, rfl, fun i u hu => by
      rw [flat4_one] at hu
      have := World.news_of_block (w := wb) (cs := #[.int .i64 s.f, .int .i64 s.pc, .int .i64 s.seen, .int .i64 s.target]) (t := 97) (fr := (0, 0)) hnb
      exact this i u hu⟩) (by omega) (Nat.le_trans hz3 hqb.size)
     rw [hwb] at hr2
     have Q2 := hids (Q1.out.trans ((hqb.mono hz3).trans q2))
     obtain ⟨g3, cap3, w5, hr3, hown3, q3⟩ := run_app4 w4 w2.heap.size g2 (j + 1) cap2 (l.take j ++ [s]) hown2 (some ⟨g, j * 4, none⟩) (l.length - j) (cap - j) (l.drop j) (by rw [List.length_drop]) (fun hm => ⟨⟨g, j * 4, none⟩, rfl, (HST.out.mono Q2.out).drop_lies (by omega)⟩) (by omega) Q2.out.size
     obtain ⟨N3, hN3⟩ : ∃ N3, N3 = j + 1 + (l.length - j) := ⟨_, rfl⟩
     rw [← hN3] at hr3 hown3
     have HRES : Hid (N3 = (insS s l).length ∧ St w5 g3 cap3 (insS s l).toArray ∧ w.heap.size < g3 ∧ w5.heap[w.heap.size]? = some (.cells #[.int .i64 D.fn, .int .i64 D.entry, .int .i64 D.vals, .int .i64 D.nums, .slice oa D.ops.length oc, .slice (some ⟨be, oe, none⟩) D.exits.length ec] 41 (0, 0)) ∧ Below w.heap.size w w5) := by
      have e1 : insS s l = l.take j ++ [s] ++ l.drop j := by unfold insS; rw [if_neg HNM.out, HPL.out]
      have e2 : N3 = (insS s l).length := by rw [e1, hN3]; simp; omega
      have Q3 := Q2.out.trans q3
      rw [e2, ← e1] at hown3
      obtain ⟨k1, k2⟩ := own_St hown3
      have hlt := lt_block HBX.out
      exact ⟨e2, k1, by omega, block_kept HBX.out Q3, HB2.out.trans (Q3.mono HB2.out.size)⟩
     clear hown1 hown2 hown3 q1 q2 q3 hN3 hqb hnb hwb hoa hqa hwa hz3 hS3
     go_upto_region 12 with (at_builtin; refine wpList_run hr1 rfl _ _ rfl rfl rfl rfl ?_)
     clear hr1
     go_upto_region 13 with (at_builtin; refine wpList_run hr2 rfl _ _ rfl rfl rfl rfl ?_)
     clear hr2 s3
     go_wp2_with (at_builtin; refine wpList_run hr3 rfl _ _ rfl rfl rfl rfl ?_)
     go_roundw
     case rel => exact ⟨k + 1, g3, cap3, by omega, by go_num, by rw [HRES.out.1, HT.out], HRES.out.2.2.1, by rw [HT.out]; exact HRES.out.2.1, HRES.out.2.2.2.1, HRES.out.2.2.2.2⟩
     case measure => simp [intOf]; omega
    ·
     have hjc2 : cap - j = 0 := by omega
     have hjl2 : j ≤ l.length := hj
     obtain ⟨wa, hwa⟩ : ∃ wa, wa = w2.alloc (.cells #[] 97) := ⟨_, rfl⟩
     have hqa : Below w2.heap.size w2 wa := by rw [hwa]; exact (Below.refl _ _).alloc (Nat.le_refl _) _
     have hoa : wa.ownsRow w2.heap.size 97 4 (.slice (some ⟨w2.heap.size, 0, none⟩) 0 0) 0 (flat4 []) := by rw [hwa]; exact own_made rfl
     obtain ⟨g1, cap1, w3, hr1, hown1, q1⟩ := run_app4 wa w2.heap.size w2.heap.size 0 0 [] hoa (some ⟨g, 0, none⟩) j cap (l.take j) (by rw [List.length_take]; omega) (fun _ => ⟨_, rfl, (HST.out.mono hqa).take_lies (by omega)⟩) (by omega) hqa.size
     rw [Nat.zero_add] at hr1 hown1
     rw [List.nil_append] at hown1
     rw [hwa] at hr1
     have Q1 := hids (hqa.trans q1)
     have hS3 := block_kept HSB.out Q1.out
     have s3 := block_cell hS3
     obtain ⟨wb, hwb⟩ : ∃ wb, wb = w3.alloc (.cells #[.int .i64 s.f, .int .i64 s.pc, .int .i64 s.seen, .int .i64 s.target] 97) := ⟨_, rfl⟩
     have hqb : Below w3.heap.size w3 wb := by rw [hwb]; exact (Below.refl _ _).alloc (Nat.le_refl _) _
     have hnb : wb.heap[w3.heap.size]? = some (.cells #[.int .i64 s.f, .int .i64 s.pc, .int .i64 s.seen, .int .i64 s.target] 97 (0, 0)) := by rw [hwb]; exact block_new _ _ _
     have hz3 : w2.heap.size ≤ w3.heap.size := Q1.out.size
     obtain ⟨g2, cap2, w4, hr2, hown2, q2⟩ := run_app4 wb w2.heap.size g1 j cap1 (l.take j) (by rw [hwb]; exact World.ownsRow.alloc hown1 _) (some ⟨w3.heap.size, 0, none⟩) 1 1 [s] rfl (fun _ => ⟨_, rfl, fun i u hu => by
      rw [flat4_one] at hu
      have := World.news_of_block (w := wb) (cs := #[.int .i64 s.f, .int .i64 s.pc, .int .i64 s.seen, .int .i64 s.target]) (t := 97) (fr := (0, 0)) hnb
      exact this i u hu⟩) (by omega) (Nat.le_trans hz3 hqb.size)
     rw [hwb] at hr2
     have Q2 := hids (Q1.out.trans ((hqb.mono hz3).trans q2))
     obtain ⟨g3, cap3, w5, hr3, hown3, q3⟩ := run_app4 w4 w2.heap.size g2 (j + 1) cap2 (l.take j ++ [s]) hown2 (some ⟨g, 0, none⟩) (l.length - j) 0 (l.drop j) (by rw [List.length_drop]) (fun hm => ⟨⟨g, j * 4, none⟩, absurd hm (by have := HJN.out; omega), (HST.out.mono Q2.out).drop_lies (by omega)⟩) (by omega) Q2.out.size
     obtain ⟨N3, hN3⟩ : ∃ N3, N3 = j + 1 + (l.length - j) := ⟨_, rfl⟩
     rw [← hN3] at hr3 hown3
     have HRES : Hid (N3 = (insS s l).length ∧ St w5 g3 cap3 (insS s l).toArray ∧ w.heap.size < g3 ∧ w5.heap[w.heap.size]? = some (.cells #[.int .i64 D.fn, .int .i64 D.entry, .int .i64 D.vals, .int .i64 D.nums, .slice oa D.ops.length oc, .slice (some ⟨be, oe, none⟩) D.exits.length ec] 41 (0, 0)) ∧ Below w.heap.size w w5) := by
      have e1 : insS s l = l.take j ++ [s] ++ l.drop j := by unfold insS; rw [if_neg HNM.out, HPL.out]
      have e2 : N3 = (insS s l).length := by rw [e1, hN3]; simp; omega
      have Q3 := Q2.out.trans q3
      rw [e2, ← e1] at hown3
      obtain ⟨k1, k2⟩ := own_St hown3
      have hlt := lt_block HBX.out
      exact ⟨e2, k1, by omega, block_kept HBX.out Q3, HB2.out.trans (Q3.mono HB2.out.size)⟩
     clear hown1 hown2 hown3 q1 q2 q3 hN3 hqb hnb hwb hoa hqa hwa hz3 hS3
     go_upto_region 12 with (at_builtin; refine wpList_run hr1 rfl _ _ rfl rfl rfl rfl ?_)
     clear hr1
     go_upto_region 13 with (at_builtin; refine wpList_run hr2 rfl _ _ rfl rfl rfl rfl ?_)
     clear hr2 s3
     go_wp2_with (at_builtin; refine wpList_run hr3 rfl _ _ rfl rfl rfl rfl ?_)
     go_roundw
     case rel => exact ⟨k + 1, g3, cap3, by omega, by go_num, by rw [HRES.out.1, HT.out], HRES.out.2.2.1, by rw [HT.out]; exact HRES.out.2.1, HRES.out.2.2.2.1, HRES.out.2.2.2.2⟩
     case measure => simp [intOf]; omega
   have zj : (j : Int) < (l.length : Int) := by omega
   obtain ⟨x, hx⟩ : ∃ x, x = l[j] := ⟨_, rfl⟩
   obtain ⟨r0, r1, r2, r3⟩ := HSTx.out.at_list j hjl
   rw [← hx] at r0 r1 r2 r3
   have HXL : Hid (x = l[j]) := hx
   have HS : Hid (∀ w', Below wo.heap.size wo w' → w'.cell? ⟨sb, 0, none⟩ = some (.int .i64 s.f) ∧ w'.cell? ⟨sb, 1, none⟩ = some (.int .i64 s.pc) ∧ w'.cell? ⟨sb, 2, none⟩ = some (.int .i64 s.seen) ∧ w'.cell? ⟨sb, 3, none⟩ = some (.int .i64 s.target) ∧ w'.cell? ⟨g, j * 4, none⟩ = some (.int .i64 x.f) ∧ w'.cell? ⟨g, j * 4 + 1, none⟩ = some (.int .i64 x.pc) ∧ w'.cell? ⟨g, j * 4 + 2, none⟩ = some (.int .i64 x.seen) ∧ w'.cell? ⟨g, j * 4 + 3, none⟩ = some (.int .i64 x.target)) := fun w' q => ⟨block_cell (block_kept HSBx.out q) 0, block_cell (block_kept HSBx.out q) 1, block_cell (block_kept HSBx.out q) 2, block_cell (block_kept HSBx.out q) 3, cell_later q r0, cell_later q r1, cell_later q r2, cell_later q r3⟩
   clear r0 r1 r2 r3 hx
   by_cases hless : SLt x s
   case pos =>
    have HC : Hid (∀ w', Below wo.heap.size wo w' → Calls Tryz.prog 97 #[.agg #[.int .i64 x.f, .int .i64 x.pc, .int .i64 x.seen, .int .i64 x.target], .agg #[.int .i64 s.f, .int .i64 s.pc, .int .i64 s.seen, .int .i64 s.target]] w' fun e w'' => e = .returned (.bool true) ∧ Below w'.heap.size w' w'') := fun w' _ => (specLess_any x s w').mono fun _ _ q => ⟨by rw [q.1, decide_eq_true hless], q.2⟩
    have HL2 : Hid (∀ i (h : i < l.length), i < j + 1 → SLt l[i] s) := fun i h hi => by
     by_cases e : i = j
     · subst e; rw [← HXL.out]; exact hless
     · exact HLO.out i h (by omega)
    clear hless
    go_upto_region 8 with fail
    refine wp_below (by kernel_rfl) (by kernel_rfl) ?_
    iterate 3
     refine q_want (v := ?_) (by kernel_rfl) ?_ ?_
     rotate_left
     ·
      intro w' hC
      obtain ⟨j0, j1, j2, j3, j4, j5, j6, j7⟩ := HS.out w' hC
      go_simp
      try with_reducible rfl
     try simp only [Act.put, sAr, sZe, sSu]
    refine q_want (v := .bool true) (by kernel_rfl) ?_ ?_
    ·
     intro w' hC
     obtain ⟨j0, j1, j2, j3, j4, j5, j6, j7⟩ := HS.out w' hC
     go_simp
     (try simp); (try omega)
    try simp only [Act.put, sAr, sZe, sSu]
    iterate 6
     refine q_want (v := ?_) (by kernel_rfl) ?_ ?_
     rotate_left
     ·
      intro w' hC
      obtain ⟨j0, j1, j2, j3, j4, j5, j6, j7⟩ := HS.out w' hC
      go_simp
      try with_reducible rfl
     try simp only [Act.put, sAr, sZe, sSu]
    refine q_want (v := .bool true) (by kernel_rfl) ?_ ?_
    ·
     intro w' hC
     go_simp
     refine (HC.out _ hC).mono ?_
     rintro e w'' ⟨rfl, hb2⟩
     exact ⟨rfl, hC.trans (hb2.mono hC.size)⟩
    try simp only [Act.put, sAr, sZe, sSu]
    refine q_want (v := ?_) (by kernel_rfl) ?_ ?_
    rotate_left
    ·
     intro w' hC
     obtain ⟨j0, j1, j2, j3, j4, j5, j6, j7⟩ := HS.out w' hC
     go_simp
     try with_reducible rfl
    try simp only [Act.put, sAr, sZe, sSu]
    refine wpQuiet_nil ?_
    intro w2 q2
    go_wp2
    go_roundw
    case rel => exact ⟨j + 1, by omega, by go_num, HL2, HX.out.trans (q2.mono HX.out.size)⟩
    case measure => simp [intOf]; omega
   have HC : Hid (∀ w', Below wo.heap.size wo w' → Calls Tryz.prog 97 #[.agg #[.int .i64 x.f, .int .i64 x.pc, .int .i64 x.seen, .int .i64 x.target], .agg #[.int .i64 s.f, .int .i64 s.pc, .int .i64 s.seen, .int .i64 s.target]] w' fun e w'' => e = .returned (.bool false) ∧ Below w'.heap.size w' w'') := fun w' _ => (specLess_any x s w').mono fun _ _ q => ⟨by rw [q.1, decide_eq_false hless], q.2⟩
   have HPL : Hid (place s l = j) := place_is s l j hj HLO.out (fun h => by rw [← HXL.out]; exact hless)
   clear hless
   go_upto_region 8 with fail
   refine wp_below (by kernel_rfl) (by kernel_rfl) ?_
   iterate 3
    refine q_want (v := ?_) (by kernel_rfl) ?_ ?_
    rotate_left
    ·
     intro w' hC
     obtain ⟨j0, j1, j2, j3, j4, j5, j6, j7⟩ := HS.out w' hC
     go_simp
     try with_reducible rfl
    try simp only [Act.put, sAr, sZe, sSu]
   refine q_want (v := .bool true) (by kernel_rfl) ?_ ?_
   ·
    intro w' hC
    obtain ⟨j0, j1, j2, j3, j4, j5, j6, j7⟩ := HS.out w' hC
    go_simp
    (try simp); (try omega)
   try simp only [Act.put, sAr, sZe, sSu]
   iterate 6
    refine q_want (v := ?_) (by kernel_rfl) ?_ ?_
    rotate_left
    ·
     intro w' hC
     obtain ⟨j0, j1, j2, j3, j4, j5, j6, j7⟩ := HS.out w' hC
     go_simp
     try with_reducible rfl
    try simp only [Act.put, sAr, sZe, sSu]
   refine q_want (v := .bool false) (by kernel_rfl) ?_ ?_
   ·
    intro w' hC
    go_simp
    refine (HC.out _ hC).mono ?_
    rintro e w'' ⟨rfl, hb2⟩
    exact ⟨rfl, hC.trans (hb2.mono hC.size)⟩
   try simp only [Act.put, sAr, sZe, sSu]
   refine q_want (v := ?_) (by kernel_rfl) ?_ ?_
   rotate_left
   ·
    intro w' hC
    obtain ⟨j0, j1, j2, j3, j4, j5, j6, j7⟩ := HS.out w' hC
    go_simp
    try with_reducible rfl
   try simp only [Act.put, sAr, sZe, sSu]
   refine wpQuiet_nil ?_
   intro w2 q2
   go_upto_region 10 with fail
   have HS2 := hids fun w' (q : Below w2.heap.size w2 w') => HS.out w' (q2.trans (q.mono q2.size))
   have q20 := hids q2
   clear q2 HS
   have e44 := eqIn44 x s
   by_cases hE : x = s
   case pos =>
    rw [pB_yes hE] at e44
    have HIN : Hid (insS s l = l) := by
     show _ = _
     unfold insS
     rw [if_pos ((in_place HAS.out).2 ⟨by rw [HPL.out]; exact hjl, by simp only [HPL.out]; rw [← HXL.out]; exact hE⟩)]
    clear hE
    refine wp_below (by kernel_rfl) (by kernel_rfl) ?_
    iterate 3
     refine q_want (v := ?_) (by kernel_rfl) ?_ ?_
     rotate_left
     ·
      intro w' hC
      obtain ⟨j0, j1, j2, j3, j4, j5, j6, j7⟩ := HS2.out w' hC
      go_simp
      try with_reducible rfl
     try simp only [Act.put, sAr, sZe, sSu]
    refine q_want (v := .bool true) (by kernel_rfl) ?_ ?_
    ·
     intro w' hC
     obtain ⟨j0, j1, j2, j3, j4, j5, j6, j7⟩ := HS2.out w' hC
     go_simp
     (try simp); (try omega)
    try simp only [Act.put, sAr, sZe, sSu]
    iterate 8
     refine q_want (v := ?_) (by kernel_rfl) ?_ ?_
     rotate_left
     ·
      intro w' hC
      obtain ⟨j0, j1, j2, j3, j4, j5, j6, j7⟩ := HS2.out w' hC
      go_simp
      try with_reducible rfl
     try simp only [Act.put, sAr, sZe, sSu]
    refine wpQuiet_nil ?_
    intro w2 q2
    have HST := hids (HSTx.out.mono (q20.out.trans (q2.mono q20.out.size)))
    have HBX := hids (block_kept HBXx.out (q20.out.trans (q2.mono q20.out.size)))
    have HB2 := hids (HBx.out.trans ((q20.out.trans (q2.mono q20.out.size)).mono HBx.out.size))
    go_wp2
    go_roundw
    case rel => exact ⟨k + 1, g, cap, by omega, by go_num, by rw [HT.out, HIN.out], hgw, by rw [HT.out, HIN.out]; exact HST, HBX, HB2⟩
    case measure => simp [intOf]; omega
   rw [pB_no hE] at e44
   have HNM : Hid (¬ s ∈ l) := fun q => by
    obtain ⟨h, e⟩ := (in_place HAS.out).1 q
    simp only [HPL.out] at e
    exact hE (by rw [HXL.out]; exact e)
   clear hE
   refine wp_below (by kernel_rfl) (by kernel_rfl) ?_
   iterate 3
    refine q_want (v := ?_) (by kernel_rfl) ?_ ?_
    rotate_left
    ·
     intro w' hC
     obtain ⟨j0, j1, j2, j3, j4, j5, j6, j7⟩ := HS2.out w' hC
     go_simp
     try with_reducible rfl
    try simp only [Act.put, sAr, sZe, sSu]
   refine q_want (v := .bool true) (by kernel_rfl) ?_ ?_
   ·
    intro w' hC
    obtain ⟨j0, j1, j2, j3, j4, j5, j6, j7⟩ := HS2.out w' hC
    go_simp
    (try simp); (try omega)
   try simp only [Act.put, sAr, sZe, sSu]
   iterate 8
    refine q_want (v := ?_) (by kernel_rfl) ?_ ?_
    rotate_left
    ·
     intro w' hC
     obtain ⟨j0, j1, j2, j3, j4, j5, j6, j7⟩ := HS2.out w' hC
     go_simp
     try with_reducible rfl
    try simp only [Act.put, sAr, sZe, sSu]
   refine wpQuiet_nil ?_
   intro w2 q2
   have HST := hids (HSTx.out.mono (q20.out.trans (q2.mono q20.out.size)))
   have HBX := hids (block_kept HBXx.out (q20.out.trans (q2.mono q20.out.size)))
   have HSB := hids (block_kept HSBx.out (q20.out.trans (q2.mono q20.out.size)))
   have HB2 := hids (HBx.out.trans ((q20.out.trans (q2.mono q20.out.size)).mono HBx.out.size))
   clear q2 HS2 e44
   have hjc : j < cap := by omega
   have hjl2 : j ≤ l.length := by omega
   obtain ⟨wa, hwa⟩ : ∃ wa, wa = w2.alloc (.cells #[] 97) := ⟨_, rfl⟩
   have hqa : Below w2.heap.size w2 wa := by rw [hwa]; exact (Below.refl _ _).alloc (Nat.le_refl _) _
   have hoa : wa.ownsRow w2.heap.size 97 4 (.slice (some ⟨w2.heap.size, 0, none⟩) 0 0) 0 (flat4 []) := by rw [hwa]; exact own_made rfl
   obtain ⟨g1, cap1, w3, hr1, hown1, q1⟩ := run_app4 wa w2.heap.size w2.heap.size 0 0 [] hoa (some ⟨g, 0, none⟩) j cap (l.take j) (by rw [List.length_take]; omega) (fun _ => ⟨_, rfl, (HST.out.mono hqa).take_lies (by omega)⟩) (by omega) hqa.size
   rw [Nat.zero_add] at hr1 hown1
   rw [List.nil_append] at hown1
   rw [hwa] at hr1
   have Q1 := hids (hqa.trans q1)
   have hS3 := block_kept HSB.out Q1.out
   have s3 := block_cell hS3
   obtain ⟨wb, hwb⟩ : ∃ wb, wb = w3.alloc (.cells #[.int .i64 s.f, .int .i64 s.pc, .int .i64 s.seen, .int .i64 s.target] 97) := ⟨_, rfl⟩
   have hqb : Below w3.heap.size w3 wb := by rw [hwb]; exact (Below.refl _ _).alloc (Nat.le_refl _) _
   have hnb : wb.heap[w3.heap.size]? = some (.cells #[.int .i64 s.f, .int .i64 s.pc, .int .i64 s.seen, .int .i64 s.target] 97 (0, 0)) := by rw [hwb]; exact block_new _ _ _
   have hz3 : w2.heap.size ≤ w3.heap.size := Q1.out.size
   obtain ⟨g2, cap2, w4, hr2, hown2, q2⟩ := run_app4 wb w2.heap.size g1 j cap1 (l.take j) (by rw [hwb]; exact World.ownsRow.alloc hown1 _) (some ⟨w3.heap.size, 0, none⟩) 1 1 [s] rfl (fun _ => ⟨_, rfl, fun i u hu => by
    rw [flat4_one] at hu
    have := World.news_of_block (w := wb) (cs := #[.int .i64 s.f, .int .i64 s.pc, .int .i64 s.seen, .int .i64 s.target]) (t := 97) (fr := (0, 0)) hnb
    exact this i u hu⟩) (by omega) (Nat.le_trans hz3 hqb.size)
   rw [hwb] at hr2
   have Q2 := hids (Q1.out.trans ((hqb.mono hz3).trans q2))
   obtain ⟨g3, cap3, w5, hr3, hown3, q3⟩ := run_app4 w4 w2.heap.size g2 (j + 1) cap2 (l.take j ++ [s]) hown2 (some ⟨g, j * 4, none⟩) (l.length - j) (cap - j) (l.drop j) (by rw [List.length_drop]) (fun hm => ⟨⟨g, j * 4, none⟩, rfl, (HST.out.mono Q2.out).drop_lies (by omega)⟩) (by omega) Q2.out.size
   obtain ⟨N3, hN3⟩ : ∃ N3, N3 = j + 1 + (l.length - j) := ⟨_, rfl⟩
   rw [← hN3] at hr3 hown3
   have HRES : Hid (N3 = (insS s l).length ∧ St w5 g3 cap3 (insS s l).toArray ∧ w.heap.size < g3 ∧ w5.heap[w.heap.size]? = some (.cells #[.int .i64 D.fn, .int .i64 D.entry, .int .i64 D.vals, .int .i64 D.nums, .slice oa D.ops.length oc, .slice (some ⟨be, oe, none⟩) D.exits.length ec] 41 (0, 0)) ∧ Below w.heap.size w w5) := by
    have e1 : insS s l = l.take j ++ [s] ++ l.drop j := by unfold insS; rw [if_neg HNM.out, HPL.out]
    have e2 : N3 = (insS s l).length := by rw [e1, hN3]; simp; omega
    have Q3 := Q2.out.trans q3
    rw [e2, ← e1] at hown3
    obtain ⟨k1, k2⟩ := own_St hown3
    have hlt := lt_block HBX.out
    exact ⟨e2, k1, by omega, block_kept HBX.out Q3, HB2.out.trans (Q3.mono HB2.out.size)⟩
   clear hown1 hown2 hown3 q1 q2 q3 hN3 hqb hnb hwb hoa hqa hwa hz3 hS3
   go_upto_region 12 with (at_builtin; refine wpList_run hr1 rfl _ _ rfl rfl rfl rfl ?_)
   clear hr1
   go_upto_region 13 with (at_builtin; refine wpList_run hr2 rfl _ _ rfl rfl rfl rfl ?_)
   clear hr2 s3
   go_wp2_with (at_builtin; refine wpList_run hr3 rfl _ _ rfl rfl rfl rfl ?_)
   go_roundw
   case rel => exact ⟨k + 1, g3, cap3, by omega, by go_num, by rw [HRES.out.1, HT.out], HRES.out.2.2.1, by rw [HT.out]; exact HRES.out.2.1, HRES.out.2.2.2.1, HRES.out.2.2.2.2⟩
   case measure => simp [intOf]; omega
set_option maxHeartbeats 4000000 in
theorem sSpecs_any (SF : SFast) (a1 a2 oa ea : Option Addr) (c1 c2 oc ec : Nat) (ts : List ByteArray) (fs : List Fn) (D : FastD) (w : World) (hs : Small ts fs) (hd : FastSmall D) (hm : StrsAt w 0 a1 ts) (hm2 : FnsAt w 0 a2 fs) (hf : FastAt w 0 oa ea D) :
  Calls Tryz.prog 9 #[.agg #[.slice a1 ts.length c1, .slice a2 fs.length c2], .agg (fastCells oa ea oc ec D)] w fun e w' => ∃ v S, e = .returned v ∧ SpecsA ts fs D S ∧ SSl w' w.heap.size v S ∧ Below w.heap.size w w' := by
 obtain ⟨w0, hw0⟩ : ∃ w0, w0 = (w.alloc (.cells #[.slice a1 ts.length c1, .slice a2 fs.length c2] 36)).alloc (.cells #[.int .i64 D.fn, .int .i64 D.entry, .int .i64 D.vals, .int .i64 D.nums, .slice oa D.ops.length oc, .slice ea D.exits.length ec] 41) := ⟨_, rfl⟩
 have hb0 : Below w.heap.size w w0 := by rw [hw0]; exact ((Below.refl _ _).alloc (Nat.le_refl _) _).alloc (by simp) _
 have hF0 : w0.heap[w.heap.size + 1]? = some (.cells #[.int .i64 D.fn, .int .i64 D.entry, .int .i64 D.vals, .int .i64 D.nums, .slice oa D.ops.length oc, .slice ea D.exits.length ec] 41 (0, 0)) := by rw [hw0]; exact block_new_at _ _ _ _ (by simp)
 have hfo := SF a1 a2 oa ea c1 c2 oc ec ts fs D w0 hs hd (hm.mono hb0) (hm2.mono hb0) (hf.mono hb0)
 unfold fastCells at hfo ⊢
 go_enter Tryz.func9, Tryz.ntmps9
 go_wp2_with fail
 rw [← hw0]
 refine hfo.mono ?_
 clear hfo hw0
 rintro e w1 ⟨rfl, hb1⟩
 have hB1 := hb0.trans (hb1.mono hb0.size)
 have hF1 := block_kept hF0 hb1
 clear hF0 hb0 hb1
 by_cases hP : FastP ts fs D
 case neg =>
  rw [pB_no hP]
  have HN := hids hP
  clear hP
  go_wp2
  go_ret
  exact ⟨_, [], rfl, .inr ⟨HN.out, rfl⟩, .inl ⟨rfl, _, _, rfl⟩, hB1.alloc hB1.size _⟩
 rw [pB_yes hP]
 have HP : Hid (FastP ts fs D) := hP
 clear hP
 have y1 := block_cell hF1
 go_wp2_with fail
 refine (sL10Specs_any oa ea oc ec ts fs D w1 HP.out (hf.mono hB1)).mono ?_
 rintro e w2 ⟨v, S, rfl, h1, h2, h3⟩
 have HR : Hid (SpecsA ts fs D S ∧ SSl w2 w.heap.size v S ∧ Below w.heap.size w w2) := ⟨h1, h2.low hB1.size, hB1.trans (h3.mono hB1.size)⟩
 clear h1 h2 h3 y1 hF1 hB1
 go_wp2
 go_ret
 exact ⟨v, S, rfl, HR.out.1, HR.out.2.1, HR.out.2.2⟩
end Go.Proofs.YtbjmgmmekmfjhaaGreatDoor
