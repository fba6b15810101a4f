/-
  What the program's readers of texts, code and functions answer: slices of the call's own with what the bytes tell, or an error.
-/
import Derived.Test.YtbffmhcahdblnaaDoorL2
import Derived.Deep.AppendLies
namespace Go.Proofs.YtbffmhcahdblnaaDoor
open Go.RowKit

/-- The bytes that are read, and where the reader lies. -/
structure In (wz : World) (R : Nat) (ab : Option Addr) (bs : List Int) (cap : Nat) : Prop where
  small : bs.length ≤ 1048576
  byte : Byte bs
  cells : BytesAt wz 0 ab bs
  old : wz.heap.size ≤ R
  fits : bs.length ≤ cap

theorem RdAt.lt {w : World} {R n cap p : Nat} {ab : Option Addr} (h : RdAt w R ab n cap p) : R < w.heap.size := lt_block h
theorem Only.grown {R e size n : Nat} {a w w' : World} {v : Value} {xs : List Value} (h : Only R a w) (hown : w.ownsRow a.heap.size e size v n xs) (hg : w.grownBy w' v.ownBlock) : Only R a w' :=
  ⟨hg.os.trans h.os, hg.tape.trans h.tape, hg.output.trans h.output, Nat.le_trans h.size hg.size, fun k hk hr => by
    rw [hg.block k (Nat.lt_of_lt_of_le hk h.size) (fun e => by have := (hown.lt k e.symm).1; omega)]
    exact h.block k hk hr⟩
theorem RdAt.grown {R e size n m cap p base : Nat} {w w' : World} {ab : Option Addr} {v : Value} {xs : List Value} (h : RdAt w R ab m cap p) (hown : w.ownsRow base e size v n xs) (hR : R < base) (hg : w.grownBy w' v.ownBlock) : RdAt w' R ab m cap p := by
  unfold RdAt
  rw [hg.block R h.lt (fun e => by have := (hown.lt R e.symm).1; omega)]
  exact h
theorem Only.alloc {R : Nat} {a w : World} (h : Only R a w) (o : Obj) : Only R a (w.alloc o) := h.trans (World.grownBy_alloc w o _)
theorem RdAt.alloc {R m cap p : Nat} {w : World} {ab : Option Addr} (h : RdAt w R ab m cap p) (o : Obj) : RdAt (w.alloc o) R ab m cap p := block_old h o
theorem own_only {R e size n base : Nat} {w w' : World} {v : Value} {xs : List Value} (h : w.ownsRow base e size v n xs) (hR : R < base) (ho : Only R w w') : w'.ownsRow base e size v n xs :=
  h.kept ho (Or.inr (fun e => by have := (h.lt R e).1; omega))
theorem info9 : (Tryd.prog.info? 9).map (fun i => (i.zero, i.size, i.bytes)) = some (some (.string ByteArray.empty), 1, 16) := by kernel_rfl
theorem info47 : (Tryd.prog.info? 47).map (fun i => (i.zero, i.size, i.bytes)) = some (some (.agg #[.int .i64 0, .int .i64 0]), 2, 16) := by kernel_rfl

def pTextsAll (l : List Int) : Option (List ByteArray × List Int) :=
  match pCount 20 l with
  | none => none
  | some (k, l1) => pTexts k l1
def pCodeAll (l : List Int) : Option (List (Int × Int) × List Int) :=
  match pCount 120 l with
  | none => none
  | some (k, l1) => pCode k l1

theorem pTexts_step {k : Nat} {l l1 l2 : List Int} {n : Nat} {t : ByteArray} (h1 : pCount 60 l = some (n, l1)) (h2 : pText n l1 = some (t, l2)) : pTexts (k + 1) l = (pTexts k l2).map fun q => (t :: q.1, q.2) := by
  rw [pTexts, h1]
  simp only
  rw [h2]

theorem pTexts_none1 {k : Nat} {l : List Int} (h1 : pCount 60 l = none) : pTexts (k + 1) l = none := by rw [pTexts, h1]
theorem pTexts_none2 {k : Nat} {l l1 : List Int} {n : Nat} (h1 : pCount 60 l = some (n, l1)) (h2 : pText n l1 = none) : pTexts (k + 1) l = none := by
  rw [pTexts, h1]
  simp only
  rw [h2]
theorem pCount_pos {m : Int} {l : List Int} {q : Nat} {z : Nat × List Int} (h : pCount m (l.drop q) = some z) : 0 < l.length := by
  rcases Nat.eq_zero_or_pos l.length with h0 | h0
  · rw [List.eq_nil_of_length_eq_zero h0] at h
    simp [pCount, pNum, rdNum] at h
  · exact h0

set_option maxRecDepth 100000 in
set_option maxHeartbeats 1600000 in
theorem takeTexts_any (R : Nat) (ab : Option Addr) (bs : List Int) (cap p : Nat) (w wz : World) (I : In wz R ab bs cap) (hR : RdAt w R ab bs.length cap p) (hp : p ≤ bs.length) (hbz : Below wz.heap.size wz w) :
    Calls Tryd.prog 51 #[.func (Fn.func 32) #[.pointer (some ⟨R, 0, none⟩)] #[], .func (Fn.func 33) #[.pointer (some ⟨R, 0, none⟩)] #[]] w fun e w' =>
      (∃ (ts : List ByteArray) (q : Nat) (a : Option Addr) (c : Nat), q ≤ bs.length ∧ pTextsAll (bs.drop p) = some (ts, bs.drop q) ∧ e = .returned (.tuple #[.slice a ts.length c, .nilIface]) ∧ w'.ownsRow w.heap.size 9 1 (.slice a ts.length c) ts.length (ts.map .string) ∧ RdAt w' R ab bs.length cap q ∧ Only R w w') ∨
      (pTextsAll (bs.drop p) = none ∧ ∃ s, e = .returned (.tuple #[.slice none 0 0, .iface 62 (.agg #[.string s])]) ∧ Only R w w') := by
  obtain ⟨i0, hi, hz0, hz1, hz2⟩ := info_parts info9
  have hRw := hR.lt
  have hzw : wz.heap.size ≤ w.heap.size := hbz.size
  go_enter Tryd.func51, Tryd.ntmps51
  go_wp2_with fail
  refine (takeCount_any R ab bs cap p 20 _ wz hR hp I.small I.byte I.cells hbz I.old hzw).mono ?_
  rintro e w1 (⟨cn, q1, hq1, hpc, hc20, rfl, hR1, ho1⟩ | ⟨hpc, s, rfl, ho1⟩)
  · have HP : Hid (pTextsAll (bs.drop p) = pTexts cn (bs.drop q1)) := by show pTextsAll (bs.drop p) = _; unfold pTextsAll; rw [hpc]
    clear hpc
    go_wp2_with fail
    go_loopw [8, 21] (fun o i wr => ∃ (j q : Nat) (dn : List ByteArray) (a : Option Addr) (c : Nat), j ≤ cn ∧ dn.length = j ∧ i = .int .i64 j ∧ o = .slice a j c ∧ q ≤ bs.length ∧ Hid (pTexts cn (bs.drop q1) = (pTexts (cn - j) (bs.drop q)).map fun z => (dn ++ z.1, z.2)) ∧ wr.ownsRow w.heap.size 9 1 (.slice a j c) j (dn.map .string) ∧ RdAt wr R ab bs.length cap q ∧ Only R w wr) (fun _ i _ => cn - (intOf i).toNat)
    case atStart => exact ⟨0, q1, [], none, 0, by omega, rfl, rfl, rfl, hq1, by show _ = _; simp, World.ownsRow_nil _ _ _ _, hR1, ho1⟩
    case round =>
      obtain ⟨j, q, dn, a, c, hj, hdl, rfl, rfl, hq, HT, hown, hRr, hor⟩ := hrel
      clear hR1 ho1
      have hbr : Below wz.heap.size wz wr := hbz.trans (hor.below I.old hzw)
      by_cases hlt : j < cn
      · have hlt' : (j : Int) < (cn : Int) := by omega
        go_wp2_with fail
        refine (takeCount_any R ab bs cap q 60 _ wz hRr hq I.small I.byte I.cells hbr I.old (Nat.le_trans hzw hor.size)).mono ?_
        rintro e w2 (⟨n, q2, hq2, hpc, hn60, rfl, hR2, ho2⟩ | ⟨hpc, s, rfl, ho2⟩)
        · have hb2 : Below wz.heap.size wz w2 := hbr.trans (ho2.below I.old (Nat.le_trans hzw hor.size))
          have hown2 := own_only hown hRw ho2
          have HC : Hid (pCount 60 (bs.drop q) = some (n, bs.drop q2)) := hpc
          clear hpc
          go_wp2_with fail
          refine (rText_any R ab bs cap q2 n _ wz hR2 hq2 (pCount_pos HC.out) I.small I.fits (by omega) I.cells hb2).mono ?_
          rintro e w3 (⟨t, q3, hq3, hpt, rfl, hR3, ho3⟩ | ⟨hpt, s, rfl, ho3⟩)
          · have hown3 := own_only hown2 hRw ho3
            have HS : Hid (pTexts cn (bs.drop q1) = (pTexts (cn - (j + 1)) (bs.drop q3)).map fun z => ((dn ++ [t]) ++ z.1, z.2)) := by
              show _ = _
              rw [HT.out, show cn - j = (cn - (j + 1)) + 1 by omega, pTexts_step HC.out hpt, Option.map_map]
              congr 1
              funext z
              simp
            have ho4 : Only R w w3 := (hor.trans ho2).trans ho3
            have hz3 : w.heap.size ≤ w3.heap.size := ho4.size
            clear hpt ho2 ho3 hown hown2 hR2 hRr
            go_wp2_with (first | (at_builtin; refine wpList_append_lies _ rfl _ _ 24 rfl w.heap.size 9 i0 (.string ByteArray.empty) 1 16 Tryd.underlying24 hi hz0 hz1 hz2 rfl (by decide) _ _ _ rfl (World.ownsRow.alloc hown3 _) ⟨w3.heap.size, 0, none⟩ 1 1 [.string t] rfl rfl (cell_one_new _ _ _) (by intro u hu; simp at hu; subst hu; rfl) (by decide) (by unfold maxLen; omega) (by omega) (by simp; omega) _ rfl ?_; intro g cp w4 hown4 hgrow4 hat4 hlt4))
            have hR4 : RdAt w4 R ab bs.length cap q3 := RdAt.grown (hR3.alloc _) (World.ownsRow.alloc hown3 _) hRw hgrow4
            have ho5 : Only R w w4 := Only.grown (ho4.alloc _) (World.ownsRow.alloc hown3 _) hgrow4
            have hown5 : w4.ownsRow w.heap.size 9 1 (.slice (some ⟨g, 0, none⟩) (j + 1) cp) (j + 1) ((dn ++ [t]).map .string) := by simpa using hown4
            go_roundw
            case rel => exact ⟨j + 1, q3, dn ++ [t], some ⟨g, 0, none⟩, cp, by omega, by simp [hdl], by go_num, rfl, hq3, HS, hown5, hR4, ho5⟩
            case measure => simp [intOf]; omega
          · have HN : Hid (pTextsAll (bs.drop p) = none) := by
              show _ = _
              rw [HP.out, HT.out, show cn - j = (cn - (j + 1)) + 1 by omega, pTexts_none2 HC.out hpt]
              rfl
            clear hpt
            go_wp2
            go_ret2
            exact Or.inr ⟨HN.out, _, rfl, (hor.trans ho2).trans ho3⟩
        · have HN : Hid (pTextsAll (bs.drop p) = none) := by
            show _ = _
            rw [HP.out, HT.out, show cn - j = (cn - (j + 1)) + 1 by omega, pTexts_none1 hpc]
            rfl
          clear hpc
          go_wp2
          go_ret2
          exact Or.inr ⟨HN.out, _, rfl, hor.trans ho2⟩
      · have hlt' : (cn : Int) ≤ (j : Int) := by omega
        obtain rfl : j = cn := by omega
        have HN : Hid (pTextsAll (bs.drop p) = some (dn, bs.drop q)) := by
          show _ = _
          rw [HP.out, HT.out, Nat.sub_self]
          simp [pTexts]
        subst hdl
        go_wp2
        go_ret2
        exact Or.inl ⟨dn, q, a, c, hq, HN.out, rfl, hown, hRr, hor⟩
  · have HP : Hid (pTextsAll (bs.drop p) = none) := by show pTextsAll (bs.drop p) = _; unfold pTextsAll; rw [hpc]
    clear hpc
    go_wp2
    go_ret2
    exact Or.inr ⟨HP.out, _, rfl, ho1⟩
end Go.Proofs.YtbffmhcahdblnaaDoor
