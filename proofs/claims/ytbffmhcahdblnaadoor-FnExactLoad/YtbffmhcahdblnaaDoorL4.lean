/-
  What the program's readers of code and of one function answer.
-/
import Derived.Test.YtbffmhcahdblnaaDoorL3
namespace Go.Proofs.YtbffmhcahdblnaaDoor
open Go.RowKit

theorem Only.blk {R k : Nat} {w w' : World} {o : Obj} (h : Only R w w') (hb : w.heap[k]? = some o) (hk : k ≠ R) : w'.heap[k]? = some o := by
  rw [h.block k (lt_block hb) (by simpa using hk)]; exact hb
theorem Only.setNew {R N : Nat} {a w : World} (h : Only R a w) (hN : a.heap.size ≤ N) (i : Nat) (v : Value) : Only R a (w.setCell ⟨N, i, none⟩ v) :=
  ⟨h.os, h.tape, h.output, by simpa using h.size, fun k hk hr => by rw [Below.heap_setCell _ _ _ _ (by simp; omega)]; exact h.block k hk hr⟩
theorem RdAt.setOther {w : World} {R N n cap q : Nat} {ab : Option Addr} (h : RdAt w R ab n cap q) (hN : R ≠ N) (i : Nat) (v : Value) : RdAt (w.setCell ⟨N, i, none⟩ v) R ab n cap q := by
  unfold RdAt
  rw [Below.heap_setCell _ _ _ _ hN]
  exact h
theorem own_low {w : World} {base base' size n e : Nat} {v : Value} {xs : List Value} (h : w.ownsRow base e size v n xs) (hb : base' ≤ base) : w.ownsRow base' e size v n xs :=
  ⟨h.1, h.2.elim Or.inl (fun ⟨g, cap, cur, hv, hg, r⟩ => Or.inr ⟨g, cap, cur, hv, Nat.le_trans hb hg, r⟩)⟩

/-- The cells of a list of instructions. -/
def codeVals (xs : List (Int × Int)) : List Value := xs.flatMap fun x => [.int .i64 x.1, .int .i64 x.2]
theorem pCode_step {k : Nat} {l l1 l2 : List Int} {o a : Int} (h1 : pNum l = some (o, l1)) (h2 : pNum l1 = some (a, l2)) : pCode (k + 1) l = (pCode k l2).map fun q => ((o, a) :: q.1, q.2) := by
  rw [pCode, h1]
  simp only
  rw [h2]
theorem pCode_none1 {k : Nat} {l : List Int} (h1 : pNum l = none) : pCode (k + 1) l = none := by rw [pCode, h1]
theorem pCode_none2 {k : Nat} {l l1 : List Int} {o : Int} (h1 : pNum l = some (o, l1)) (h2 : pNum l1 = none) : pCode (k + 1) l = none := by
  rw [pCode, h1]
  simp only
  rw [h2]

set_option maxRecDepth 100000 in
set_option maxHeartbeats 1600000 in
theorem takeCode_any (R : Nat) (ab : Option Addr) (bs : List Int) (cap p : Nat) (w wz : World) (I : In wz R ab bs cap) (hR : RdAt w R ab bs.length cap p) (hp : p ≤ bs.length) (hbz : Below wz.heap.size wz w) :
    Calls Tryd.prog 79 #[.func (Fn.func 32) #[.pointer (some ⟨R, 0, none⟩)] #[]] w fun e w' =>
      (∃ (xs : List (Int × Int)) (q : Nat) (a : Option Addr) (c : Nat), q ≤ bs.length ∧ pCodeAll (bs.drop p) = some (xs, bs.drop q) ∧ e = .returned (.tuple #[.slice a xs.length c, .nilIface]) ∧ w'.ownsRow w.heap.size 47 2 (.slice a xs.length c) xs.length (codeVals xs) ∧ RdAt w' R ab bs.length cap q ∧ Only R w w') ∨
      (pCodeAll (bs.drop p) = none ∧ ∃ s, e = .returned (.tuple #[.slice none 0 0, .iface 62 (.agg #[.string s])]) ∧ Only R w w') := by
  obtain ⟨i0, hi, hz0, hz1, hz2⟩ := info_parts info47
  have hRw := hR.lt
  have hzw : wz.heap.size ≤ w.heap.size := hbz.size
  go_enter Tryd.func79, Tryd.ntmps79
  go_wp2_with fail
  refine (takeCount_any R ab bs cap p 120 _ wz hR hp I.small I.byte I.cells hbz I.old hzw).mono ?_
  rintro e w1 (⟨cn, q1, hq1, hpc, hc20, rfl, hR1, ho1⟩ | ⟨hpc, s, rfl, ho1⟩)
  · have HP : Hid (pCodeAll (bs.drop p) = pCode cn (bs.drop q1)) := by show pCodeAll (bs.drop p) = _; unfold pCodeAll; rw [hpc]
    clear hpc
    go_wp2_with fail
    go_loopw [6, 19] (fun o i wr => ∃ (j q : Nat) (dn : List (Int × Int)) (a : Option Addr) (c : Nat), j ≤ cn ∧ dn.length = j ∧ i = .int .i64 j ∧ o = .slice a j c ∧ q ≤ bs.length ∧ Hid (pCode cn (bs.drop q1) = (pCode (cn - j) (bs.drop q)).map fun z => (dn ++ z.1, z.2)) ∧ wr.ownsRow w.heap.size 47 2 (.slice a j c) j (codeVals dn) ∧ RdAt wr R ab bs.length cap q ∧ Only R w wr) (fun _ i _ => cn - (intOf i).toNat)
    case atStart => exact ⟨0, q1, [], none, 0, by omega, rfl, rfl, rfl, hq1, by show _ = _; simp, World.ownsRow_nil _ _ _ _, hR1, ho1⟩
    case round =>
      obtain ⟨j, q, dn, a, c, hj, hdl, rfl, rfl, hq, HT, hown, hRr, hor⟩ := hrel
      clear hR1 ho1
      have hzr := Nat.le_trans hzw hor.size
      have hbr : Below wz.heap.size wz wr := hbz.trans (hor.below I.old hzw)
      by_cases hlt : j < cn
      · have hlt' : (j : Int) < (cn : Int) := by omega
        go_wp2_with fail
        refine (rNumber_any R ab bs cap q _ wz hRr hq I.small I.byte I.cells hbr I.old hzr).mono ?_
        rintro e w2 (⟨n, q2, hq2, hpc, rfl, hR2, ho2⟩ | ⟨hpc, s, rfl, ho2⟩)
        · have hb2 : Below wz.heap.size wz w2 := hbr.trans (ho2.below I.old hzr)
          have hown2 := own_only hown hRw ho2
          have HC : Hid (pNum (bs.drop q) = some (n, bs.drop q2)) := hpc
          clear hpc
          go_wp2_with fail
          refine (rNumber_any R ab bs cap q2 _ wz hR2 hq2 I.small I.byte I.cells hb2 I.old (Nat.le_trans hzr ho2.size)).mono ?_
          rintro e w3 (⟨t, q3, hq3, hpt, rfl, hR3, ho3⟩ | ⟨hpt, s, rfl, ho3⟩)
          · have hown3 := own_only hown2 hRw ho3
            have HS : Hid (pCode cn (bs.drop q1) = (pCode (cn - (j + 1)) (bs.drop q3)).map fun z => ((dn ++ [(n, t)]) ++ z.1, z.2)) := by
              show _ = _
              rw [HT.out, show cn - j = (cn - (j + 1)) + 1 by omega, pCode_step HC.out hpt, Option.map_map]
              congr 1
              funext z
              simp
            have ho4 : Only R w w3 := (hor.trans ho2).trans ho3
            have hz3 : w.heap.size ≤ w3.heap.size := ho4.size
            clear hpt ho2 ho3 hown hown2 hR2 hRr
            go_wp2_with (first | (at_builtin; refine wpList_append_lies _ rfl _ _ 42 rfl w.heap.size 47 i0 (.agg #[.int .i64 0, .int .i64 0]) 2 16 Tryd.underlying42 hi hz0 hz1 hz2 rfl (by decide) _ _ _ rfl (World.ownsRow.alloc hown3 _) ⟨w3.heap.size, 0, none⟩ 1 1 [.int .i64 n, .int .i64 t] rfl rfl (cell_two_new _ _ _ _) (by intro u hu; simp at hu; rcases hu with rfl | rfl <;> rfl) (by decide) (by unfold maxLen; omega) (by omega) (by simp; omega) _ rfl ?_; intro g cp w4 hown4 hgrow4 hat4 hlt4))
            have hR4 : RdAt w4 R ab bs.length cap q3 := RdAt.grown (hR3.alloc _) (World.ownsRow.alloc hown3 _) hRw hgrow4
            have ho5 : Only R w w4 := Only.grown (ho4.alloc _) (World.ownsRow.alloc hown3 _) hgrow4
            have hown5 : w4.ownsRow w.heap.size 47 2 (.slice (some ⟨g, 0, none⟩) (j + 1) cp) (j + 1) (codeVals (dn ++ [(n, t)])) := by simpa [codeVals] using hown4
            go_roundw
            case rel => exact ⟨j + 1, q3, dn ++ [(n, t)], some ⟨g, 0, none⟩, cp, by omega, by simp [hdl], by go_num, rfl, hq3, HS, hown5, hR4, ho5⟩
            case measure => simp [intOf]; omega
          · have HN : Hid (pCodeAll (bs.drop p) = none) := by
              show _ = _
              rw [HP.out, HT.out, show cn - j = (cn - (j + 1)) + 1 by omega, pCode_none2 HC.out hpt]
              rfl
            clear hpt
            go_wp2
            go_ret2
            exact Or.inr ⟨HN.out, _, rfl, (hor.trans ho2).trans ho3⟩
        · have HN : Hid (pCodeAll (bs.drop p) = none) := by
            show _ = _
            rw [HP.out, HT.out, show cn - j = (cn - (j + 1)) + 1 by omega, pCode_none1 hpc]
            rfl
          clear hpc
          go_wp2
          go_ret2
          exact Or.inr ⟨HN.out, _, rfl, hor.trans ho2⟩
      · have hlt' : (cn : Int) ≤ (j : Int) := by omega
        obtain rfl : j = cn := by omega
        have HN : Hid (pCodeAll (bs.drop p) = some (dn, bs.drop q)) := by
          show _ = _
          rw [HP.out, HT.out, Nat.sub_self]
          simp [pCode]
        subst hdl
        go_wp2
        go_ret2
        exact Or.inl ⟨dn, q, a, c, hq, HN.out, rfl, hown, hRr, hor⟩
  · have HP : Hid (pCodeAll (bs.drop p) = none) := by show pCodeAll (bs.drop p) = _; unfold pCodeAll; rw [hpc]
    clear hpc
    go_wp2
    go_ret2
    exact Or.inr ⟨HP.out, _, rfl, ho1⟩

set_option maxRecDepth 100000 in
set_option maxHeartbeats 1600000 in
theorem takeFunc_any (R : Nat) (ab : Option Addr) (bs : List Int) (cap p : Nat) (w wz : World) (I : In wz R ab bs cap) (hR : RdAt w R ab bs.length cap p) (hp : p ≤ bs.length) (hbz : Below wz.heap.size wz w) :
    Calls Tryd.prog 70 #[.func (Fn.func 32) #[.pointer (some ⟨R, 0, none⟩)] #[]] w fun e w' =>
      (∃ (f : Fn) (q : Nat) (a : Option Addr) (c : Nat), q ≤ bs.length ∧ pFunc (bs.drop p) = some (f, bs.drop q) ∧ e = .returned (.tuple #[.agg #[.int .i64 f.params, .int .i64 f.locals, .slice a f.code.length c], .nilIface]) ∧ w'.ownsRow w.heap.size 47 2 (.slice a f.code.length c) f.code.length (codeVals f.code) ∧ RdAt w' R ab bs.length cap q ∧ Only R w w') ∨
      (pFunc (bs.drop p) = none ∧ ∃ s, e = .returned (.tuple #[.agg #[.int .i64 0, .int .i64 0, .slice none 0 0], .iface 62 (.agg #[.string s])]) ∧ Only R w w') := by
  have hRw := hR.lt
  have hzw : wz.heap.size ≤ w.heap.size := hbz.size
  go_enter Tryd.func70, Tryd.ntmps70
  go_wp2_with fail
  have hbA : Below wz.heap.size wz (w.alloc (.cells #[.int .i64 0, .int .i64 0, .slice none 0 0] 44)) := hbz.alloc hzw _
  have hB0 := block_new w #[.int .i64 0, .int .i64 0, .slice none 0 0] 44
  have ho0 : Only R w (w.alloc (.cells #[.int .i64 0, .int .i64 0, .slice none 0 0] 44)) := (Only.refl _ _).alloc _
  refine (rNumber_any R ab bs cap p _ wz (hR.alloc _) hp I.small I.byte I.cells hbA I.old (by simp; omega)).mono ?_
  rintro e w1 (⟨n1, q1, hq1, hpc, rfl, hR1, ho1⟩ | ⟨hpc, s, rfl, ho1⟩)
  · have HC1 : Hid (pNum (bs.drop p) = some (n1, bs.drop q1)) := hpc
    have hB1 := ho1.blk hB0 (by omega)
    have o1 : Only R w w1 := ho0.trans ho1
    have b1 : Below wz.heap.size wz w1 := hbz.trans (o1.below I.old hzw)
    clear hpc ho0 hB0 hbA ho1
    go_wp2_with fail
    refine (rNumber_any R ab bs cap q1 _ wz hR1 hq1 I.small I.byte I.cells b1 I.old (Nat.le_trans hzw o1.size)).mono ?_
    rintro e w2 (⟨n2, q2, hq2, hpc, rfl, hR2, ho2⟩ | ⟨hpc, s, rfl, ho2⟩)
    · have HC2 : Hid (pNum (bs.drop q1) = some (n2, bs.drop q2)) := hpc
      have hB2 := ho2.blk hB1 (by omega)
      have o2 : Only R w w2 := o1.trans ho2
      have b2 : Below wz.heap.size wz w2 := hbz.trans (o2.below I.old hzw)
      clear hpc hB1 ho2 b1 hR1
      go_wp2_with fail
      refine (takeCode_any R ab bs cap q2 _ wz I hR2 hq2 b2).mono ?_
      rintro e w3 (⟨xs, q3, a, c, hq3, hpc, rfl, hown, hR3, ho3⟩ | ⟨hpc, s, rfl, ho3⟩)
      · have HF : Hid (pFunc (bs.drop p) = some (⟨n1, n2, xs⟩, bs.drop q3)) := by
          show _ = _
          unfold pCodeAll at hpc
          rw [pFunc, HC1.out]
          simp only
          rw [HC2.out]
          simp only
          split at hpc
          · cases hpc
          · rename_i k l1 hk
            rw [hk]
            simp only
            rw [hpc]
            rfl
        have hB3 := ho3.blk hB2 (by omega)
        have o3 : Only R w w3 := o2.trans ho3
        have hz2 : w.heap.size < w2.heap.size := lt_block hB2
        have c3 := block_cell hB3
        have f3 := block_free hB3
        clear hpc hB2 ho3 b2 hR2 hB3
        go_wp2
        refine bodyPost_ret (v := .tuple #[.agg #[.int .i64 n1, .int .i64 n2, .slice a xs.length c], .nilIface]) (by simp [results, Tryd.results70, go_sem, c3]) rfl (Or.inl ⟨⟨n1, n2, xs⟩, q3, a, c, hq3, HF.out, rfl, ?_, ?_, ?_⟩)
        · exact own_low (ownsRow_setCell_below (ownsRow_setCell_below (ownsRow_setCell_below hown hz2 _) hz2 _) hz2 _) (by omega)
        · exact ((hR3.setOther (by omega) _ _).setOther (by omega) _ _).setOther (by omega) _ _
        · exact ((o3.setNew (Nat.le_refl _) _ _).setNew (Nat.le_refl _) _ _).setNew (Nat.le_refl _) _ _
      · have HF : Hid (pFunc (bs.drop p) = none) := by
          show _ = _
          unfold pCodeAll at hpc
          rw [pFunc, HC1.out]
          simp only
          rw [HC2.out]
          simp only
          split at hpc
          · rename_i hk
            rw [hk]
          · rename_i k l1 hk
            rw [hk]
            simp only
            rw [hpc]
            rfl
        have hB3 := ho3.blk hB2 (by omega)
        have o3 : Only R w w3 := o2.trans ho3
        have c3 := block_cell hB3
        have f3 := block_free hB3
        clear hpc hB2 ho3 b2 hR2 hB3
        go_wp2
        exact bodyPost_ret (v := .tuple #[.agg #[.int .i64 0, .int .i64 0, .slice none 0 0], .iface 62 (.agg #[.string s])]) (by simp [results, Tryd.results70, go_sem, c3]) rfl (Or.inr ⟨HF.out, s, rfl, ((o3.setNew (Nat.le_refl _) _ _).setNew (Nat.le_refl _) _ _).setNew (Nat.le_refl _) _ _⟩)
    · have HF : Hid (pFunc (bs.drop p) = none) := by
        show _ = _
        rw [pFunc, HC1.out]
        simp only
        rw [hpc]
      have hB2 := ho2.blk hB1 (by omega)
      have o2 : Only R w w2 := o1.trans ho2
      have c3 := block_cell hB2
      have f3 := block_free hB2
      clear hpc hB2 ho2 b1
      go_wp2
      exact bodyPost_ret (v := .tuple #[.agg #[.int .i64 0, .int .i64 0, .slice none 0 0], .iface 62 (.agg #[.string s])]) (by simp [results, Tryd.results70, go_sem, c3]) rfl (Or.inr ⟨HF.out, s, rfl, ((o2.setNew (Nat.le_refl _) _ _).setNew (Nat.le_refl _) _ _).setNew (Nat.le_refl _) _ _⟩)
  · have HF : Hid (pFunc (bs.drop p) = none) := by
      show _ = _
      rw [pFunc, hpc]
    have hB1 := ho1.blk hB0 (by omega)
    have o1 : Only R w w1 := ho0.trans ho1
    have c3 := block_cell hB1
    have f3 := block_free hB1
    clear hpc hB1 hB0 ho1 ho0
    go_wp2
    exact bodyPost_ret (v := .tuple #[.agg #[.int .i64 0, .int .i64 0, .slice none 0 0], .iface 62 (.agg #[.string s])]) (by simp [results, Tryd.results70, go_sem, c3]) rfl (Or.inr ⟨HF.out, s, rfl, ((o1.setNew (Nat.le_refl _) _ _).setNew (Nat.le_refl _) _ _).setNew (Nat.le_refl _) _ _⟩)
end Go.Proofs.YtbffmhcahdblnaaDoor
