/-
  What the program's takeModule and Load answer: the module that the bytes tell, if it is ok and nothing lies behind it.
-/
import Derived.Test.YtbffmhcahdblnaaDoorL5
import Derived.Test.YtbffmhcahdblnaaDoorAs2
import Derived.Test.YtbffmhcahdblnaaDoorW7
namespace Go.Proofs.YtbffmhcahdblnaaDoor
open Go.RowKit

theorem pModule_eq (l : List Int) : pModule l = match pTextsAll l with
    | none => none
    | some (ts, l2) => (pFuncsAll l2).map fun q => ((ts, q.1), q.2) := by
  unfold pModule pTextsAll
  cases h1 : pCount 20 l with
  | none => rfl
  | some z =>
    obtain ⟨k, l1⟩ := z
    simp only
    cases h2 : pTexts k l1 with
    | none => rfl
    | some z =>
      obtain ⟨ts, l2⟩ := z
      simp only
      unfold pFuncsAll
      cases h3 : pCount 12 l2 with
      | none => rfl
      | some z => rfl

/-- A module in memory of the call's own. -/
structure ModOwn (w : World) (base : Nat) (a1 : Option Addr) (c1 : Nat) (a2 : Option Addr) (c2 : Nat) (ts : List ByteArray) (fs : List Fn) (cs : List (Option Addr × Nat)) : Prop where
  texts : w.ownsRow base 9 1 (.slice a1 ts.length c1) ts.length (ts.map .string)
  funcs : w.ownsRow base 44 3 (.slice a2 fs.length c2) fs.length (fnVals fs cs)
  codes : CodesOwn w base fs cs
theorem CodesOwn.set {w : World} {base : Nat} {fs : List Fn} {cs : List (Option Addr × Nat)} (h : CodesOwn w base fs cs) {p : Addr} (hp : p.block < base) (v : Value) : CodesOwn (w.setCell p v) base fs cs :=
  ⟨h.len, fun i hi hi' => ownsRow_setCell_below (h.own i hi hi') hp v, h.order⟩
theorem CodesOwn.low {w : World} {base base' : Nat} {fs : List Fn} {cs : List (Option Addr × Nat)} (h : CodesOwn w base fs cs) (hb : base' ≤ base) : CodesOwn w base' fs cs :=
  ⟨h.len, fun i hi hi' => own_low (h.own i hi hi') hb, h.order⟩
theorem ModOwn.low {w : World} {base base' c1 c2 : Nat} {a1 a2 : Option Addr} {ts : List ByteArray} {fs : List Fn} {cs : List (Option Addr × Nat)} (h : ModOwn w base a1 c1 a2 c2 ts fs cs) (hb : base' ≤ base) : ModOwn w base' a1 c1 a2 c2 ts fs cs :=
  ⟨own_low h.texts hb, own_low h.funcs hb, h.codes.low hb⟩
theorem ModOwn.set {w : World} {base c1 c2 : Nat} {a1 a2 : Option Addr} {ts : List ByteArray} {fs : List Fn} {cs : List (Option Addr × Nat)} (h : ModOwn w base a1 c1 a2 c2 ts fs cs) {p : Addr} (hp : p.block < base) (v : Value) : ModOwn (w.setCell p v) base a1 c1 a2 c2 ts fs cs :=
  ⟨ownsRow_setCell_below h.texts hp v, ownsRow_setCell_below h.funcs hp v, h.codes.set hp v⟩
theorem ModOwn.keeps {w w' : World} {base c1 c2 B : Nat} {l : List Nat} {a1 a2 : Option Addr} {ts : List ByteArray} {fs : List Fn} {cs : List (Option Addr × Nat)} (h : ModOwn w base a1 c1 a2 c2 ts fs cs) (hk : Keeps B l w w') (h9 : 9 ∉ l) (h44 : 44 ∉ l) (h47 : 47 ∉ l) : ModOwn w' base a1 c1 a2 c2 ts fs cs :=
  ⟨own_keeps h.texts hk h9, own_keeps h.funcs hk h44, h.codes.keeps hk h47⟩
theorem ModOwn.below {w w' : World} {base c1 c2 : Nat} {a1 a2 : Option Addr} {ts : List ByteArray} {fs : List Fn} {cs : List (Option Addr × Nat)} (h : ModOwn w base a1 c1 a2 c2 ts fs cs) (hb : Below w.heap.size w w') : ModOwn w' base a1 c1 a2 c2 ts fs cs :=
  h.keeps (B := 0) (l := []) (Keeps.below hb) (by simp) (by simp) (by simp)
theorem ModOwn.only {w w' : World} {base c1 c2 R : Nat} {a1 a2 : Option Addr} {ts : List ByteArray} {fs : List Fn} {cs : List (Option Addr × Nat)} (h : ModOwn w base a1 c1 a2 c2 ts fs cs) (hR : R < base) (ho : Only R w w') : ModOwn w' base a1 c1 a2 c2 ts fs cs :=
  ⟨own_only h.texts hR ho, own_only h.funcs hR ho, h.codes.only hR ho⟩

set_option maxRecDepth 100000 in
set_option maxHeartbeats 1600000 in
theorem takeModule_any (R : Nat) (ab : Option Addr) (bs : List Int) (cap p : Nat) (w wz : World) (I : In wz R ab bs cap) (hR : RdAt w R ab bs.length cap p) (hp : p ≤ bs.length) (hbz : Below wz.heap.size wz w) :
    Calls Tryd.prog 31 #[.func (Fn.func 32) #[.pointer (some ⟨R, 0, none⟩)] #[], .func (Fn.func 33) #[.pointer (some ⟨R, 0, none⟩)] #[]] w fun e w' =>
      (∃ (ts : List ByteArray) (fs : List Fn) (cs : List (Option Addr × Nat)) (q : Nat) (a1 : Option Addr) (c1 : Nat) (a2 : Option Addr) (c2 : Nat), q ≤ bs.length ∧ pModule (bs.drop p) = some ((ts, fs), bs.drop q) ∧ e = .returned (.tuple #[.agg #[.slice a1 ts.length c1, .slice a2 fs.length c2], .nilIface]) ∧ ModOwn w' w.heap.size a1 c1 a2 c2 ts fs cs ∧ RdAt w' R ab bs.length cap q ∧ Only R w w') ∨
      (pModule (bs.drop p) = none ∧ ∃ s, e = .returned (.tuple #[.agg #[.slice none 0 0, .slice none 0 0], .iface 62 (.agg #[.string s])]) ∧ Only R w w') := by
  have hRw := hR.lt
  have hzw : wz.heap.size ≤ w.heap.size := hbz.size
  go_enter Tryd.func31, Tryd.ntmps31
  go_wp2_with fail
  have hbA : Below wz.heap.size wz (w.alloc (.cells #[.slice none 0 0, .slice none 0 0] 27)) := hbz.alloc hzw _
  have hB0 := block_new w #[.slice none 0 0, .slice none 0 0] 27
  have ho0 : Only R w (w.alloc (.cells #[.slice none 0 0, .slice none 0 0] 27)) := (Only.refl _ _).alloc _
  refine (takeTexts_any R ab bs cap p _ wz I (hR.alloc _) hp hbA).mono ?_
  rintro e w1 (⟨ts, q1, a1, c1, hq1, hpc, rfl, hown1, hR1, ho1⟩ | ⟨hpc, s, rfl, ho1⟩)
  · have HC1 : Hid (pTextsAll (bs.drop p) = some (ts, bs.drop q1)) := hpc
    have hB1 := ho1.blk hB0 (by omega)
    have o1 : Only R w w1 := ho0.trans ho1
    have b1 : Below wz.heap.size wz w1 := hbz.trans (o1.below I.old hzw)
    have hz1 : w.heap.size + 1 ≤ w1.heap.size := by have := ho1.size; simpa using this
    simp only [World.size_alloc] at hown1
    clear hpc ho0 hB0 hbA ho1
    go_wp2_with fail
    refine (takeFuncs_any R ab bs cap q1 _ wz I hR1 hq1 b1).mono ?_
    rintro e w2 (⟨fs, cs, q2, a2, c2, hq2, hpc, rfl, hown2, hcs2, hR2, ho2⟩ | ⟨hpc, s, rfl, ho2⟩)
    · have HM : Hid (pModule (bs.drop p) = some ((ts, fs), bs.drop q2)) := by
        show _ = _
        rw [pModule_eq, HC1.out]
        simp only
        rw [hpc]
        rfl
      have hB2 := ho2.blk hB1 (by omega)
      have o2 : Only R w w2 := o1.trans ho2
      have hm : ModOwn w2 (w.heap.size + 1) a1 c1 a2 c2 ts fs cs := ⟨own_only hown1 (by omega) ho2, own_low hown2 hz1, hcs2.low hz1⟩
      have c3 := block_cell hB2
      have f3 := block_free hB2
      clear hpc hB1 ho2 hR1 hB2 hown1 hown2 hcs2
      go_wp2
      refine bodyPost_ret (v := .tuple #[.agg #[.slice a1 ts.length c1, .slice a2 fs.length c2], .nilIface]) (by simp [results, Tryd.results31, go_sem, c3]) rfl (Or.inl ⟨ts, fs, cs, q2, a1, c1, a2, c2, hq2, HM.out, rfl, ?_, ?_, ?_⟩)
      · exact ((hm.set (p := ⟨w.heap.size, 0, none⟩) (by simp) _).set (p := ⟨w.heap.size, 1, none⟩) (by simp) _).low (by omega)
      · exact (hR2.setOther (by omega) _ _).setOther (by omega) _ _
      · exact (o2.setNew (Nat.le_refl _) _ _).setNew (Nat.le_refl _) _ _
    · have HM : Hid (pModule (bs.drop p) = none) := by
        show _ = _
        rw [pModule_eq, HC1.out]
        simp only
        rw [hpc]
        rfl
      have hB2 := ho2.blk hB1 (by omega)
      have o2 : Only R w w2 := o1.trans ho2
      have c3 := block_cell hB2
      have f3 := block_free hB2
      clear hpc hB1 ho2 hR1 hB2
      go_wp2
      exact bodyPost_ret (v := .tuple #[.agg #[.slice none 0 0, .slice none 0 0], .iface 62 (.agg #[.string s])]) (by simp [results, Tryd.results31, go_sem, c3]) rfl (Or.inr ⟨HM.out, s, rfl, (o2.setNew (Nat.le_refl _) _ _).setNew (Nat.le_refl _) _ _⟩)
  · have HM : Hid (pModule (bs.drop p) = none) := by
      show _ = _
      rw [pModule_eq, hpc]
    have hB1 := ho1.blk hB0 (by omega)
    have o1 : Only R w w1 := ho0.trans ho1
    have c3 := block_cell hB1
    have f3 := block_free hB1
    clear hpc hB1 hB0 ho1 ho0
    go_wp2
    exact bodyPost_ret (v := .tuple #[.agg #[.slice none 0 0, .slice none 0 0], .iface 62 (.agg #[.string s])]) (by simp [results, Tryd.results31, go_sem, c3]) rfl (Or.inr ⟨HM.out, s, rfl, (o1.setNew (Nat.le_refl _) _ _).setNew (Nat.le_refl _) _ _⟩)
end Go.Proofs.YtbffmhcahdblnaaDoor
