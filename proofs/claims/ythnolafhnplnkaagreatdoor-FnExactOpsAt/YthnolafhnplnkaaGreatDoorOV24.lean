/-
What flowIn and oneWay return.
Straight of both sides.
LeadersOf and HeadsOf of both sides.
LeadersOf, HeadsOf and EntriesOf of the document, and EntriesOf of the program.
What is asked of code that is ok, on plain data.
What the listed tables hold when a law begins: math/bits' and the program's own shapes.
What the document's FastOk answers.
-/
import Derived.Test.YthnolafhnplnkaaGreatDoorOV23
import Derived.Deep.RegionHeld3
import Derived.Test.YthnolafhnplnkaaGreatDoorOV1
import Derived.Test.YthnolafhnplnkaaGreatDoorOV2
import Derived.Test.YthnolafhnplnkaaGreatDoorOV6
import Derived.Test.YthnolafhnplnkaaGreatDoorOV18
import Derived.Test.YthnolafhnplnkaaGreatDoorOV16
import Derived.Test.YthnolafhnplnkaaGreatDoorRows
import Derived.Lib.LaidTab
import Derived.MakeChecks
import Derived.Stop.LaidErr
set_option maxRecDepth 100000
namespace Go.Proofs.YthnolafhnplnkaaGreatDoor
open Go.RowKit
def StrP (ts : List ByteArray) (fs : List Fn) (f : Int) : Prop :=
 Good ts fs ∧ ∃ (k : Nat) (hk : k < fs.length) (d : List Int), f = k ∧ Done fs fs[k].code d ∧ (∀ j, j < fs[k].code.length → LP fs[k].code d fs[k].code.length j → j = 0) ∧ (∀ j, j < fs[k].code.length → ¬ HP fs[k].code d fs[k].code.length j) ∧ fs[k].code.length ≤ 24
theorem StrP.iff {ts : List ByteArray} {fs : List Fn} {k : Nat} (hG : Good ts fs) (hk : k < fs.length) {d : List Int} (hD : Done fs fs[k].code d) :
  StrP ts fs k ↔ (∀ j, j < fs[k].code.length → LP fs[k].code d fs[k].code.length j → j = 0) ∧ (∀ j, j < fs[k].code.length → ¬ HP fs[k].code d fs[k].code.length j) ∧ fs[k].code.length ≤ 24 := by
 constructor
 ·
  rintro ⟨-, k', hk', d', e, hd', h⟩
  obtain rfl : k = k' := by omega
  obtain rfl := hD.one hd'
  exact h
 ·
  intro h
  exact ⟨hG, k, hk, d, rfl, hD, h⟩
def Ans (P : List (Int × Int) → List Int → Nat → Nat → Prop) (ts : List ByteArray) (fs : List Fn) (f : Int) (l : List Int) : Prop :=
 (Good ts fs ∧ ∃ (k : Nat) (hk : k < fs.length) (d : List Int), f = k ∧ Done fs fs[k].code d ∧ l = lstI (P fs[k].code d fs[k].code.length) fs[k].code.length) ∨ (¬ (Good ts fs ∧ 0 ≤ f ∧ f < fs.length) ∧ l = [])
theorem Ans.one {P : List (Int × Int) → List Int → Nat → Nat → Prop} {ts : List ByteArray} {fs : List Fn} {f : Int} {l l' : List Int} (h : Ans P ts fs f l) (h' : Ans P ts fs f l') : l = l' := by
 rcases h with ⟨hG, k, hk, d, rfl, hD, rfl⟩ | ⟨hn, rfl⟩
 ·
  rcases h' with ⟨-, k', hk', d', e, hD', rfl⟩ | ⟨hn, -⟩
  ·
   obtain rfl : k = k' := by omega
   obtain rfl := hD.one hD'
   rfl
  · exact absurd ⟨hG, by omega, by omega⟩ hn
 ·
  rcases h' with ⟨hG, k', hk', d', rfl, -, -⟩ | ⟨-, rfl⟩
  · exact absurd ⟨hG, by omega, by omega⟩ hn
  · rfl
theorem good_mod {ts : List ByteArray} {fs : List Fn} (hG : Good ts fs) : modB ts fs = true := by
 obtain ⟨f', a', hV⟩ := hG
 rcases hV with ⟨-, h, -⟩ | ⟨hm, -⟩
 · cases h
 · exact hm
theorem Ans.len {P : List (Int × Int) → List Int → Nat → Nat → Prop} {ts : List ByteArray} {fs : List Fn} {f : Int} {l : List Int} (h : Ans P ts fs f l) : l.length ≤ 120 := by
 rcases h with ⟨hG, k, hk, d, rfl, hD, rfl⟩ | ⟨-, rfl⟩
 ·
  have := (fine_of (good_mod hG) hk).most
  have := lstI_len (P fs[k].code d fs[k].code.length) fs[k].code.length
  omega
 · simp
theorem lst_as {P Q : Nat → Prop} {n : Nat} (h : ∀ j, j < n → (P j ↔ Q j)) : lst P n = lst Q n := by
 unfold lst
 apply List.filter_congr
 intro j hj
 have hj' : j < n := by simpa using hj
 simp only [show P j = Q j from propext (h j hj')]
theorem lstI_as {P Q : Nat → Prop} {n m : Nat} (hnm : n ≤ m) (h : ∀ j, j < m → (P j ↔ Q j)) (hq : ∀ j, n ≤ j → ¬ Q j) : lstI P m = lstI Q n := by
 unfold lstI
 rw [lst_as h, lst_to hnm (fun j h1 _ => hq j h1)]
def EP (code : List (Int × Int)) (d : List Int) (k j : Nat) : Prop := j = 0 ∨ HP code d k j
theorem lst_cons {P : Nat → Prop} {n : Nat} (hn : 1 ≤ n) : lst (fun j => j = 0 ∨ P j) n = 0 :: (lst P n).filter (fun j => decide (j ≠ 0)) := by
 induction n with
 | zero => omega
 | succ n ih =>
  by_cases h0 : n = 0
  ·
   subst h0
   rw [lst_yes (.inl rfl)]
   by_cases hp : P 0
   · rw [lst_yes hp]; simp [lst]
   · rw [lst_no hp]; simp [lst]
  ·
   by_cases hp : P n
   ·
    rw [lst_yes (.inr hp), lst_yes hp, ih (by omega), List.filter_append]
    simp [h0]
   · rw [lst_no (fun q => q.elim h0 hp), lst_no hp, ih (by omega)]
theorem lst_head {P : Nat → Prop} {n : Nat} (hn : 1 ≤ n) (h : P 0) : ∃ l, lst P n = 0 :: l := by
 have := lst_cons (P := P) hn
 rw [lst_as (Q := P) (fun j _ => ⟨fun q => q.elim (fun e => by rw [e]; exact h) id, .inr⟩)] at this
 exact ⟨_, this⟩
theorem lst_ent_yes {P : Nat → Prop} {n : Nat} (h : P 0) : lst (fun j => j = 0 ∨ P j) n = lst P n := lst_as (fun j _ => ⟨fun q => q.elim (fun e => by rw [e]; exact h) id, .inr⟩)
theorem lst_ent_no {P : Nat → Prop} {n : Nat} (hn : 1 ≤ n) (h : ¬ P 0) : lst (fun j => j = 0 ∨ P j) n = 0 :: lst P n := by
 rw [lst_cons hn, List.filter_eq_self.2]
 intro j hj
 have := (mem_lst.1 hj).2
 simp only [decide_eq_true_eq]
 rintro rfl
 exact h this
theorem lstI_first {P : Nat → Prop} {n : Nat} (h : ¬ P 0) : ∀ (h0 : 0 < (lstI P n).length), (lstI P n)[0] ≠ 0 := by
 intro h0 e
 have hm : (lstI P n)[0] ∈ lstI P n := List.getElem_mem _
 rw [e] at hm
 unfold lstI at hm
 obtain ⟨j, hj, hj0⟩ := List.mem_map.1 hm
 obtain rfl : j = 0 := by omega
 exact h (mem_lst.1 hj).2
theorem app_none (W : World) (a p : Option Addr) (n cap c : Nat) (h : n ≤ cap) (ty : TypeId) : (Builtin.append_ #[32, 32] ty #[.slice a n cap, .slice p 0 c]).run Tryz.prog W = .ok (.slice a n cap) W := by
 obtain ⟨i0, hi, hz0, hz1, hz2⟩ := info_parts info3
 cases a <;> cases p <;> simp [Builtin.append_, run_underlying Tryz.underlying32, sizeOf, typeInfo, hi, Builtin.lenOf, Builtin.firstCells, loadCells, loadCellsFrom, storeCells, h]
set_option maxHeartbeats 2000000 in
theorem sEntries0_any (a1 a2 : Option Addr) (nt c1 c2 : Nat) (fs : List Fn) (f : Nat) (w : World) (hf : f < fs.length) (hn : fs.length ≤ 1048576) (hm : FnsAt w 0 a2 fs) (F : Fine fs fs[f].code) (HG : ∀ d, Done fs fs[f].code d → GJ fs[f].code d) :
  Calls Tryz.prog 61 #[.agg #[.slice a1 nt c1, .slice a2 fs.length c2], .int .i64 f] w fun e w' => ∃ v d, e = .returned v ∧ Done fs fs[f].code d ∧ DSl w' w.heap.size v (lstI (EP fs[f].code d fs[f].code.length) fs[f].code.length) ∧ Below w.heap.size w w' := by
 obtain ⟨i0, hi, hz0, hz1, hz2⟩ := info_parts info3
 have hbA : Below w.heap.size w (w.alloc (.cells #[.slice a1 nt c1, .slice a2 fs.length c2] 36)) := (Below.refl _ _).alloc (Nat.le_refl _) _
 have hone := F.one
 have hmost := F.most
 go_enter Tryz.func61, Tryz.ntmps61
 go_wp2_with fail
 refine (sHeads_any a1 a2 _ _ _ fs f _ hf hn (hm.mono hbA) F HG).mono ?_
 rintro e w1 ⟨v, d, rfl, hD, hds, hb1⟩
 have hB1 := hbA.trans (hb1.mono hbA.size)
 have HD : Hid (Done fs fs[f].code d) := hD
 have hds1 := hds.low hbA.size
 have hlen := lstI_len (HP fs[f].code d fs[f].code.length) fs[f].code.length
 clear hbA hb1 hD hds
 by_cases h0 : HP fs[f].code d fs[f].code.length 0
 ·
  have HE : Hid (lstI (EP fs[f].code d fs[f].code.length) fs[f].code.length = lstI (HP fs[f].code d fs[f].code.length) fs[f].code.length) := by
   show _ = _
   unfold lstI
   exact congrArg _ (lst_ent_yes h0)
  obtain ⟨t, ht⟩ := lst_head hone h0
  have hl : lstI (HP fs[f].code d fs[f].code.length) fs[f].code.length = 0 :: t.map fun (j : Nat) => (j : Int) := by unfold lstI; rw [ht]; rfl
  have hds2 := hds1
  rw [hl] at hds1
  obtain ⟨av, cv, rfl, hI⟩ := hds1.form
  obtain ⟨b, off, rfl, -, hc⟩ := hI 0 (by simp)
  have hc' : w1.cell? ⟨b, off, none⟩ = some (.int .i64 0) := by simpa using hc
  obtain ⟨n1, hn1⟩ : ∃ n1, n1 = (0 :: t.map fun (j : Nat) => (j : Int)).length := ⟨_, rfl⟩
  have hpos : 0 < n1 := by rw [hn1]; simp
  rw [hl, ← hn1] at hlen
  rw [← hn1] at hds2 ⊢
  clear hn1 hl ht hds1 hI hc
  go_wp2
  go_ret
  exact ⟨_, d, rfl, HD.out, by rw [HE.out]; exact hds2, hB1⟩
 have HE : Hid (lstI (EP fs[f].code d fs[f].code.length) fs[f].code.length = 0 :: lstI (HP fs[f].code d fs[f].code.length) fs[f].code.length) := by
  show _ = _
  unfold lstI
  rw [show lst (EP fs[f].code d fs[f].code.length) fs[f].code.length = 0 :: lst (HP fs[f].code d fs[f].code.length) fs[f].code.length from lst_ent_no hone h0]
  rfl
 have hfirst := lstI_first (n := fs[f].code.length) h0
 obtain ⟨L, hL⟩ : ∃ L, L = lstI (HP fs[f].code d fs[f].code.length) fs[f].code.length := ⟨_, rfl⟩
 rw [← hL] at hlen hds1 hfirst HE
 clear hL h0
 have hown0 : (w1.alloc (.cells #[.int .i64 0] 3)).ownsRow w.heap.size 3 1 (.slice (some ⟨w1.heap.size, 0, none⟩) 1 1) 1 [.int .i64 0] := ⟨rfl, .inr ⟨w1.heap.size, 1, #[.int .i64 0], rfl, hB1.size, block_new _ _ _, by omega, by unfold maxLen; omega, rfl, rfl⟩⟩
 rcases hds1 with ⟨rfl, av, cv, rfl⟩ | ⟨g, cv, rfl, hg, hH⟩
 ·
  have ha := fun ty => app_none (w1.alloc (.cells #[.int .i64 0] 3)) (some ⟨w1.heap.size, 0, none⟩) av 1 1 cv (by omega) ty
  have hB2 : Below w.heap.size w (w1.alloc (.cells #[.int .i64 0] 3)) := hB1.alloc hB1.size _
  have hds2 : DSl (w1.alloc (.cells #[.int .i64 0] 3)) w.heap.size (.slice (some ⟨w1.heap.size, 0, none⟩) 1 1) [0] := own_dsl (d := [0]) hown0 rfl
  clear hfirst
  cases av
  all_goals
   go_wp2
   go_ret
   exact ⟨_, d, rfl, HD.out, by rw [HE.out]; exact hds2, hB2⟩
 by_cases hL0 : L = []
 ·
  subst hL0
  have ha := fun ty => app_none (w1.alloc (.cells #[.int .i64 0] 3)) (some ⟨w1.heap.size, 0, none⟩) (some ⟨g, 0, none⟩) 1 1 cv (by omega) ty
  have hB2 : Below w.heap.size w (w1.alloc (.cells #[.int .i64 0] 3)) := hB1.alloc hB1.size _
  have hds2 : DSl (w1.alloc (.cells #[.int .i64 0] 3)) w.heap.size (.slice (some ⟨w1.heap.size, 0, none⟩) 1 1) [0] := own_dsl (d := [0]) hown0 rfl
  clear hfirst
  simp only [List.length_nil] at hlen ⊢
  go_wp2
  go_ret
  exact ⟨_, d, rfl, HD.out, by rw [HE.out]; exact hds2, hB2⟩
 have hpos : 0 < L.length := List.length_pos_iff.2 hL0
 have c0 := hH.cell hpos
 have hf0 := hfirst hpos
 have hf0' : (L[0] == 0) = false := by simpa using hf0
 have hH2 := hH.mono (w' := w1.alloc (.cells #[.int .i64 0] 3)) ((Below.refl _ _).alloc (Nat.le_refl _) _)
 have HNW : Hid (∀ (j : Nat) (u : Value), (L.map (Value.int .i64))[j]? = some u → (w1.alloc (.cells #[.int .i64 0] 3)).cell? ((⟨g, 0, none⟩ : Addr).add j) = some u) := fun j u hu => by
  rw [Go.WideShapes.add_plain, Nat.zero_add]
  simp only [List.getElem?_map, Option.map_eq_some_iff] at hu
  obtain ⟨z, hz, rfl⟩ := hu
  obtain ⟨hj, rfl⟩ := List.getElem?_eq_some_iff.1 hz
  exact hH2.cell hj
 have hB2 : Below w.heap.size w (w1.alloc (.cells #[.int .i64 0] 3)) := hB1.alloc hB1.size _
 have hz2' := hB2.size
 clear hfirst hf0 hH
 go_wp2_with (first | (at_builtin; refine wpList_append_lies _ rfl _ _ 32 rfl w.heap.size 3 i0 (.int .i64 0) 1 8 Tryz.underlying32 hi hz0 hz1 hz2 rfl (by decide) _ _ _ rfl hown0 ⟨g, 0, none⟩ L.length cv (L.map (Value.int .i64)) rfl (by simp) HNW.out (by intro u hu; obtain ⟨z, -, rfl⟩ := List.mem_map.1 hu; rfl) hpos (by unfold maxLen; omega) (by omega) hz2' _ rfl ?_; intro g1 cap w5 hown1 hgrow1 hat1 hlt1))
 have hk1 := Keeps.grown (ts := [3]) hown0 hgrow1 (by simp)
 have hB3 : Below w.heap.size w w5 := hB2.trans (hk1.toBelow hz2')
 have hds2 : DSl w5 w.heap.size (.slice (some ⟨g1, 0, none⟩) (1 + L.length) cap) (0 :: L) := own_dsl (d := 0 :: L) (by simpa using hown1) (by simp; omega)
 go_wp2
 go_ret
 exact ⟨_, d, rfl, HD.out, by rw [HE.out]; exact hds2, hB3⟩
def zeroV : Vl := ⟨0, 0, ⟨#[]⟩⟩
def zeroS : Si := ⟨0, 0, 0, 0⟩
def Btw (n lo hi : Int) : Prop := lo ≤ n ∧ n ≤ hi
theorem ret_pB {b : Bool} {P : Prop} (h : b = true ↔ P) : Ending.returned (.bool b) = .returned (.bool (pB P)) := by
 by_cases hp : P
 · rw [pB_yes hp, h.2 hp]
 ·
  rw [pB_no hp]
  cases b
  · rfl
  · exact absurd (h.1 rfl) hp
def Reg (n c : Int) : Prop := 0 ≤ n ∧ n < c
def PartP (nf : Nat) (D : FastD) (at' : Int) (p : Nat) (n : Int) : Prop :=
 match p with
 | 0 => n = 0
 | 1 => Reg n D.vals
 | 2 => Reg n D.nums
 | 3 => 0 ≤ n ∧ n ≤ 6
 | 4 => 0 ≤ n ∧ n ≤ 5
 | 5 => Reg n nf
 | 6 => 0 ≤ n ∧ ∃ h : n.toNat < D.ops.length, at' < n ∨ D.ops[n.toNat].op = 25
 | 7 => 1 ≤ n ∧ n ≤ 3
 | 8 => Reg n D.exits.length
 | _ => False
def ConstP (nf : Nat) (p : Nat) (v : Vl) : Prop :=
 match p with
 | 1 => valB v.k v.n v.s nf 0 = true
 | 2 => v.k = 1 ∧ valB v.k v.n v.s nf 0 = true
 | _ => v = zeroV
def shp : List (List Nat) := [[0, 0, 0, 0, 0], [1, 0, 0, 0, 1], [1, 1, 0, 0, 0], [2, 0, 0, 0, 2], [2, 2, 0, 0, 0], [2, 1, 0, 8, 0], [1, 2, 0, 0, 0], [1, 1, 1, 8, 0], [1, 1, 1, 8, 0], [1, 1, 1, 8, 0], [1, 1, 1, 8, 0], [1, 1, 1, 0, 0], [1, 1, 0, 8, 0], [2, 2, 2, 8, 0], [2, 2, 2, 8, 0], [2, 2, 2, 8, 0], [1, 2, 2, 0, 0], [1, 3, 0, 8, 0], [1, 1, 4, 8, 0], [4, 1, 1, 8, 0], [0, 0, 0, 8, 0], [1, 3, 0, 0, 0], [0, 1, 5, 8, 0], [0, 6, 0, 0, 0], [0, 1, 6, 8, 0], [0, 0, 0, 8, 0], [0, 0, 0, 8, 0], [0, 1, 0, 0, 0], [0, 1, 0, 8, 0], [0, 7, 0, 8, 0]]
def sh (op j : Nat) : Nat := (shp.getD op []).getD j 0
set_option maxRecDepth 10000 in
theorem sh_le : ∀ op, op < 30 → ∀ j, j < 5 → sh op j ≤ 8 := by decide
def ShAt (w : World) : Prop := ∀ op j, op < 30 → j < 5 → w.cell? ⟨0, op * 5 + j, none⟩ = some (.int .i64 (sh op j : Nat))
theorem ShAt.mono {w w' : World} (h : ShAt w) (hb : Below w.heap.size w w') : ShAt w' := fun op j h1 h2 => cell_later hb (h op j h1 h2)
def FopP (fs : List Fn) (D : FastD) (at' : Int) (x : Fo) : Prop :=
 (1 ≤ x.op ∧ x.op ≤ 29) ∧ (insD fs x.f x.p).isSome = true ∧ PartP fs.length D at' (sh x.op.toNat 0) x.d ∧ PartP fs.length D at' (sh x.op.toNat 1) x.a ∧ PartP fs.length D at' (sh x.op.toNat 2) x.b ∧
  PartP fs.length D at' (sh x.op.toNat 3) x.x ∧ ConstP fs.length (sh x.op.toNat 4) x.v
def SrcP (nf : Nat) (D : FastD) (nr : Nat) (s : Sr) : Prop :=
 (s.k = 1 ∧ s.n = 0 ∧ valB s.v.k s.v.n s.v.s nf 0 = true) ∨ (s.v = zeroV ∧ ((s.k = 2 ∧ Reg s.n D.vals) ∨ (s.k = 3 ∧ Reg s.n D.nums) ∨ (s.k = 4 ∧ Reg s.n nr)))
def SrcsP (nf : Nat) (D : FastD) (nr : Nat) (l : List Sr) : Prop := ∀ i (h : i < l.length), SrcP nf D nr l[i]
def EFrameP (fs : List Fn) (D : FastD) (nr : Nat) (x : EF) (last : Bool) : Prop := Fits fs x.fn x.pc x.locals.length x.stack.length last ∧ SrcsP fs.length D nr x.locals ∧ SrcsP fs.length D nr x.stack
def ERecP (nf : Nat) (D : FastD) (nr : Nat) (x : ER) : Prop := x.fields.length ≤ 6 ∧ SrcsP nf D nr x.fields
def EGuessP (fs : List Fn) (e : Ex) : Prop := (e.kind = 2 ∧ SpecP fs e.spec) ∨ (e.kind ≠ 2 ∧ e.spec = zeroS)
def ExitP (fs : List Fn) (D : FastD) (e : Ex) : Prop :=
 (1 ≤ e.kind ∧ e.kind ≤ 4) ∧ EGuessP fs e ∧ (1 ≤ e.frames.length ∧ e.frames.length ≤ 4) ∧ (∃ h : 0 < e.frames.length, e.frames[0].fn = D.fn) ∧
  (∀ i (h : i < e.frames.length), EFrameP fs D e.recs.length e.frames[i] (decide ((i : Int) = (e.frames.length : Int) - 1))) ∧ e.recs.length ≤ 60 ∧ ∀ i (h : i < e.recs.length), ERecP fs.length D e.recs.length e.recs[i]
def EntryP (fs : List Fn) (D : FastD) : Prop :=
 0 ≤ D.fn ∧ ∃ h : D.fn.toNat < fs.length, D.entry ∈ lstI (EP fs[D.fn.toNat].code (dep fs fs[D.fn.toNat].code) fs[D.fn.toNat].code.length) fs[D.fn.toNat].code.length ∧
  Btw D.vals (IntKind.i64.wrap (fs[D.fn.toNat].locals + ht fs D.fn D.entry)) 400 ∧ Btw D.nums 0 400
def EndOp (op : Int) : Prop := op = 23 ∨ op = 26 ∨ op = 27
def OpsP (fs : List Fn) (D : FastD) : Prop := (1 ≤ D.ops.length ∧ D.ops.length ≤ 1500) ∧ (∃ h : D.ops.length - 1 < D.ops.length, EndOp D.ops[D.ops.length - 1].op) ∧ ∀ i (h : i < D.ops.length), FopP fs D i D.ops[i]
def ExitsP (fs : List Fn) (D : FastD) : Prop := D.exits.length ≤ 1500 ∧ ∀ i (h : i < D.exits.length), ExitP fs D D.exits[i]
def FastP (ts : List ByteArray) (fs : List Fn) (D : FastD) : Prop := Good ts fs ∧ EntryP fs D ∧ OpsP fs D ∧ ExitsP fs D
theorem gTab : Tryz.prog.globalNamed "math/bits.deBruijn64tab" = some 1 := by kernel_rfl
theorem gShp : Tryz.prog.globalNamed "loop.example/g00094/impl.shapes" = some 0 := by kernel_rfl
def dbZ : List Int := dbT.map fun (k : Nat) => (k : Int)
theorem eTab : (Rows.laid_math_bits_deBruijn64tab : DataW Unit) = Lib.tabData .u8 dbZ := by kernel_rfl
theorem eShp : (Rows.laid_loop_example_g00094_impl_shapes : DataW Unit) = .agg (shp.map fun r => .agg (r.map fun (z : Nat) => .lit (.int .i64 (z : Int)))) := by kernel_rfl
theorem dbZ_at (i : Nat) : dbZ.getD i 0 = ((dbT[i]?.getD 0 : Nat) : Int) := by
 unfold dbZ
 rw [List.getD_eq_getElem?_getD, List.getElem?_map]
 cases dbT[i]? <;> rfl
theorem shp_len : shp.length = 30 := by decide
theorem shp_row : ∀ r ∈ shp, r.length = 5 := by decide
theorem cs261 : Tryz.prog.cellsOf 204 = 1 := by kernel_rfl
theorem cs263 : Tryz.prog.cellsOf 206 = 5 := by kernel_rfl
theorem cs264 : Tryz.prog.cellsOf 207 = 150 := by kernel_rfl
theorem cells_of_rows {H : Type} {enc : TypeId × Value → H} {w : World} {base : Nat} {sp : Nat → Bool} {held : Bool} {fuel : Nat} {cs : List Value} {p : List MemPlace}
  (h : DataW.trod enc Tryz.prog w base sp held fuel 207 cs = some (.agg (shp.map fun r => .agg (r.map fun (z : Nat) => .lit (.int .i64 (z : Int)))), p)) : ∀ op j, op < 30 → j < 5 → cs[op * 5 + j]? = some (.int .i64 (sh op j : Nat)) := by
 cases fuel with
 | zero => simp [DataW.trod] at h
 | succ fuel =>
  simp only [DataW.trod, Tryz.underlying207, cs263, cs264] at h
  split at h
  ·
   obtain ⟨xs, hm, hx⟩ := Option.map_eq_some_iff.1 h
   have hxs : xs.map (·.1) = shp.map fun r => (DataW.agg (r.map fun (z : Nat) => .lit (.int .i64 (z : Int))) : DataW H) := by
    have := congrArg Prod.fst hx
    simpa using this
   intro op j hop hj
   obtain ⟨b, hb, hf⟩ := Lib.mapM_at hm op op (by simp [hop])
   have h2 : (xs.map (·.1))[op]? = some b.1 := by simp [hb]
   rw [hxs, List.getElem?_map] at h2
   obtain ⟨r, hr⟩ : ∃ r, shp[op]? = some r := ⟨_, List.getElem?_eq_getElem (by rw [shp_len]; exact hop)⟩
   rw [hr] at h2
   have hb1 : b.1 = DataW.agg (r.map fun (z : Nat) => .lit (.int .i64 (z : Int))) := by simpa using h2.symm
   have hrl : r.length = 5 := shp_row _ (List.mem_of_getElem? hr)
   obtain ⟨ys, n', _, rfl, _, hyl, hg⟩ := DataW.trod_struct Tryz.underlying206 hf
   have hys : ys.map (·.1) = r.map fun (z : Nat) => (DataW.lit (.int .i64 (z : Int)) : DataW H) := by simpa using hb1
   have hsh : sh op j = r[j]'(by omega) := by
    unfold sh
    rw [List.getD_eq_getElem?_getD, List.getD_eq_getElem?_getD, hr, Option.getD_some, List.getElem?_eq_getElem (by omega), Option.getD_some]
   have key : ∀ y, ys[j]? = some y → y.1 = DataW.lit (.int .i64 ((sh op j : Nat) : Int)) := fun y hy => by
    have h3 : (ys.map (·.1))[j]? = some y.1 := by simp [hy]
    rw [hys, List.getElem?_map, List.getElem?_eq_getElem (by omega)] at h3
    rw [hsh]
    simpa using h3.symm
   have hyl5 : ys.length = 5 := hyl
   have fin : ∀ y, ys[j]? = some y → DataW.trod enc Tryz.prog w base sp held n' 204 ((((cs.drop (op * 5)).take 5).drop j).take 1) = some y → cs[op * 5 + j]? = some (.int .i64 (sh op j : Nat)) := fun y hy ht => by
    obtain ⟨z, hc, rfl, _⟩ := DataW.trod_int Tryz.underlying204 ht
    have h4 := key _ hy
    simp at h4
    have h5 := congrArg (·[0]?) hc
    simp [List.getElem?_drop, hj] at h5
    rw [h5, h4]
   have yj : ys[j]? = some (ys[j]'(by omega)) := List.getElem?_eq_getElem (by omega)
   have hj5 : j = 0 ∨ j = 1 ∨ j = 2 ∨ j = 3 ∨ j = 4 := by omega
   rcases hj5 with rfl | rfl | rfl | rfl | rfl
   · exact fin _ yj (by rw [← yj]; simpa [cs261] using hg 0 _ rfl)
   · exact fin _ yj (by rw [← yj]; simpa [cs261] using hg 1 _ rfl)
   · exact fin _ yj (by rw [← yj]; simpa [cs261] using hg 2 _ rfl)
   · exact fin _ yj (by rw [← yj]; simpa [cs261] using hg 3 _ rfl)
   · exact fin _ yj (by rw [← yj]; simpa [cs261] using hg 4 _ rfl)
  · cases h
theorem of_laid {L : List (String × DataW Unit)} {W : World} (hL : L = [("math/bits.deBruijn64tab", Rows.laid_math_bits_deBruijn64tab), ("loop.example/g00094/impl.shapes", Rows.laid_loop_example_g00094_impl_shapes)]) (h : laidMetH Tryz.prog L W) : ShAt W ∧ DB W := by
 subst hL
 rw [MakeChecks.laidMetH_plain _ _ _ (by kernel_rfl)] at h
 rw [eTab, eShp] at h
 have ht := Lib.tabIs_of_head gTab (t := 257) (e := 5) (by kernel_rfl) Tryz.underlying257 Tryz.underlying5 (by kernel_rfl) (by kernel_rfl) h
 refine ⟨?_, fun i hi => ?_⟩
 ·
  obtain ⟨ps, ⟨g, t, cs, fuel, p, q, hg, ht, hvar, hd, _, _⟩, _⟩ := h.tail
  obtain rfl := Option.some.inj (gShp.symm.trans hg)
  obtain rfl := Option.some.inj ((show (Tryz.prog.globals[0]?).map (·.type) = some 207 by kernel_rfl).symm.trans ht)
  intro op j h1 h2
  have := World.var?_cell hg hvar (op * 5 + j)
  rw [this]
  have := cells_of_rows hd op j h1 h2
  simpa using this
 ·
  have := ht.cell gTab i hi
  rw [this, dbZ_at]
def SFast : Prop := ∀ (a1 a2 oa ea : Option Addr) (c1 c2 oc ec : Nat) (ts : List ByteArray) (fs : List Fn) (D : FastD) (w : World), Small ts fs → FastSmall D → StrsAt w 0 a1 ts → FnsAt w 0 a2 fs → FastAt w 0 oa ea D →
 Calls Tryz.prog 21 #[.agg #[.slice a1 ts.length c1, .slice a2 fs.length c2], .agg (fastCells oa ea oc ec D)] w fun e w' => e = .returned (.bool (pB (FastP ts fs D))) ∧ Below w.heap.size w w'
end Go.Proofs.YthnolafhnplnkaaGreatDoor
