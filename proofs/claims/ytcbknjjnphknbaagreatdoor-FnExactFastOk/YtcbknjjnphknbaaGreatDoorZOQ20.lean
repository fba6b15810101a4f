/-
  What is asked of code that is ok, on plain data.
  What the listed tables hold when a law begins: math/bits' and the program's own shapes.
  What the document's FastOk answers.
  Small functions of the program on code: between, has, isIn, endOp.
-/
import Derived.Test.YtcbknjjnphknbaaGreatDoorZOQ3
import Derived.Test.YtcbknjjnphknbaaGreatDoorZJ8
import Derived.Test.YtcbknjjnphknbaaGreatDoorZOQ16
import Derived.Test.YtcbknjjnphknbaaGreatDoorZOQ15
import Derived.Test.YtcbknjjnphknbaaGreatDoorZOQ19
import Derived.Test.YtcbknjjnphknbaaGreatDoorZOQ1
import Derived.Test.YtcbknjjnphknbaaGreatDoorRows
import Derived.Lib.LaidTab
import Derived.MakeChecks
import Derived.Stop.LaidErr
namespace Go.Proofs.YtcbknjjnphknbaaGreatDoor
open Go.RowKit

def zeroV : Vl := ⟨0, 0, ⟨#[]⟩⟩
def zeroS : Si := ⟨0, 0, 0, 0⟩
def Btw (n lo hi : Int) : Prop := lo ≤ n ∧ n ≤ hi
theorem ret_pB {b : Bool} {P : Prop} (h : b = true ↔ P) : Ending.returned (.bool b) = .returned (.bool (pB P)) := by
  by_cases hp : P
  · rw [pB_yes hp, h.2 hp]
  · rw [pB_no hp]
    cases b
    · rfl
    · exact absurd (h.1 rfl) hp
/-- One of 0 .. c - 1. -/
def Reg (n c : Int) : Prop := 0 ≤ n ∧ n < c
/-- What stands in a field of the op of a number. -/
def PartP (nf : Nat) (D : FastD) (at' : Int) (p : Nat) (n : Int) : Prop :=
  match p with
  | 0 => n = 0
  | 1 => Reg n D.vals
  | 2 => Reg n D.nums
  | 3 => 0 ≤ n ∧ n ≤ 6
  | 4 => 0 ≤ n ∧ n ≤ 5
  | 5 => Reg n nf
  | 6 => 0 ≤ n ∧ ∃ h : n.toNat < D.ops.length, at' < n ∨ D.ops[n.toNat].op = 25
  | 7 => 1 ≤ n ∧ n ≤ 3
  | 8 => Reg n D.exits.length
  | _ => False
/-- What stands in V of an op. -/
def ConstP (nf : Nat) (p : Nat) (v : Vl) : Prop :=
  match p with
  | 1 => valB v.k v.n v.s nf 0 = true
  | 2 => v.k = 1 ∧ valB v.k v.n v.s nf 0 = true
  | _ => v = zeroV
/-- What the fields of each op name. -/
def shp : List (List Nat) := [[0, 0, 0, 0, 0], [1, 0, 0, 0, 1], [1, 1, 0, 0, 0], [2, 0, 0, 0, 2], [2, 2, 0, 0, 0], [2, 1, 0, 8, 0], [1, 2, 0, 0, 0], [1, 1, 1, 8, 0], [1, 1, 1, 8, 0], [1, 1, 1, 8, 0], [1, 1, 1, 8, 0], [1, 1, 1, 0, 0], [1, 1, 0, 8, 0], [2, 2, 2, 8, 0], [2, 2, 2, 8, 0], [2, 2, 2, 8, 0], [1, 2, 2, 0, 0], [1, 3, 0, 8, 0], [1, 1, 4, 8, 0], [4, 1, 1, 8, 0], [0, 0, 0, 8, 0], [1, 3, 0, 0, 0], [0, 1, 5, 8, 0], [0, 6, 0, 0, 0], [0, 1, 6, 8, 0], [0, 0, 0, 8, 0], [0, 0, 0, 8, 0], [0, 1, 0, 0, 0], [0, 1, 0, 8, 0], [0, 7, 0, 8, 0]]
def sh (op j : Nat) : Nat := (shp.getD op []).getD j 0
set_option maxRecDepth 10000 in
theorem sh_le : ∀ op, op < 30 → ∀ j, j < 5 → sh op j ≤ 8 := by decide
/-- The table of shapes lies. -/
def ShAt (w : World) : Prop := ∀ op j, op < 30 → j < 5 → w.cell? ⟨0, op * 5 + j, none⟩ = some (.int .i64 (sh op j : Nat))
theorem ShAt.mono {w w' : World} (h : ShAt w) (hb : Below w.heap.size w w') : ShAt w' := fun op j h1 h2 => cell_later hb (h op j h1 h2)
/-- What is asked of an op. -/
def FopP (fs : List Fn) (D : FastD) (at' : Int) (x : Fo) : Prop :=
  (1 ≤ x.op ∧ x.op ≤ 29) ∧ (insD fs x.f x.p).isSome = true ∧ PartP fs.length D at' (sh x.op.toNat 0) x.d ∧ PartP fs.length D at' (sh x.op.toNat 1) x.a ∧ PartP fs.length D at' (sh x.op.toNat 2) x.b ∧
    PartP fs.length D at' (sh x.op.toNat 3) x.x ∧ ConstP fs.length (sh x.op.toNat 4) x.v
/-- What is asked of a source. -/
def SrcP (nf : Nat) (D : FastD) (nr : Nat) (s : Sr) : Prop :=
  (s.k = 1 ∧ s.n = 0 ∧ valB s.v.k s.v.n s.v.s nf 0 = true) ∨ (s.v = zeroV ∧ ((s.k = 2 ∧ Reg s.n D.vals) ∨ (s.k = 3 ∧ Reg s.n D.nums) ∨ (s.k = 4 ∧ Reg s.n nr)))
def SrcsP (nf : Nat) (D : FastD) (nr : Nat) (l : List Sr) : Prop := ∀ i (h : i < l.length), SrcP nf D nr l[i]
/-- What is asked of a frame of an exit. -/
def EFrameP (fs : List Fn) (D : FastD) (nr : Nat) (x : EF) (last : Bool) : Prop := Fits fs x.fn x.pc x.locals.length x.stack.length last ∧ SrcsP fs.length D nr x.locals ∧ SrcsP fs.length D nr x.stack
/-- What is asked of an unmade record. -/
def ERecP (nf : Nat) (D : FastD) (nr : Nat) (x : ER) : Prop := x.fields.length ≤ 6 ∧ SrcsP nf D nr x.fields
/-- What is asked of the guess of an exit. -/
def EGuessP (fs : List Fn) (e : Ex) : Prop := (e.kind = 2 ∧ SpecP fs e.spec) ∨ (e.kind ≠ 2 ∧ e.spec = zeroS)
/-- What is asked of an exit. -/
def ExitP (fs : List Fn) (D : FastD) (e : Ex) : Prop :=
  (1 ≤ e.kind ∧ e.kind ≤ 4) ∧ EGuessP fs e ∧ (1 ≤ e.frames.length ∧ e.frames.length ≤ 4) ∧ (∃ h : 0 < e.frames.length, e.frames[0].fn = D.fn) ∧
    (∀ i (h : i < e.frames.length), EFrameP fs D e.recs.length e.frames[i] (decide ((i : Int) = (e.frames.length : Int) - 1))) ∧ e.recs.length ≤ 60 ∧ ∀ i (h : i < e.recs.length), ERecP fs.length D e.recs.length e.recs[i]
/-- Where code is entered, and its registers. -/
def EntryP (fs : List Fn) (D : FastD) : Prop :=
  0 ≤ D.fn ∧ ∃ h : D.fn.toNat < fs.length, D.entry ∈ lstI (EP fs[D.fn.toNat].code (dep fs fs[D.fn.toNat].code) fs[D.fn.toNat].code.length) fs[D.fn.toNat].code.length ∧
    Btw D.vals (IntKind.i64.wrap (fs[D.fn.toNat].locals + ht fs D.fn D.entry)) 400 ∧ Btw D.nums 0 400
def EndOp (op : Int) : Prop := op = 23 ∨ op = 26 ∨ op = 27
/-- What is asked of the ops. -/
def OpsP (fs : List Fn) (D : FastD) : Prop := (1 ≤ D.ops.length ∧ D.ops.length ≤ 1500) ∧ (∃ h : D.ops.length - 1 < D.ops.length, EndOp D.ops[D.ops.length - 1].op) ∧ ∀ i (h : i < D.ops.length), FopP fs D i D.ops[i]
def ExitsP (fs : List Fn) (D : FastD) : Prop := D.exits.length ≤ 1500 ∧ ∀ i (h : i < D.exits.length), ExitP fs D D.exits[i]
/-- Code that is ok. -/
def FastP (ts : List ByteArray) (fs : List Fn) (D : FastD) : Prop := Good ts fs ∧ EntryP fs D ∧ OpsP fs D ∧ ExitsP fs D
end Go.Proofs.YtcbknjjnphknbaaGreatDoor

namespace Go.Proofs.YtcbknjjnphknbaaGreatDoor
open Go.RowKit

theorem gTab : Tryz.prog.globalNamed "math/bits.deBruijn64tab" = some 1 := by kernel_rfl
theorem gShp : Tryz.prog.globalNamed "loop.example/g00094/impl.shapes" = some 0 := by kernel_rfl
def dbZ : List Int := dbT.map fun (k : Nat) => (k : Int)
theorem eTab : (Rows.laid_math_bits_deBruijn64tab : DataW Unit) = Lib.tabData .u8 dbZ := by kernel_rfl
theorem eShp : (Rows.laid_loop_example_g00094_impl_shapes : DataW Unit) = .agg (shp.map fun r => .agg (r.map fun (z : Nat) => .lit (.int .i64 (z : Int)))) := by kernel_rfl
theorem dbZ_at (i : Nat) : dbZ.getD i 0 = ((dbT[i]?.getD 0 : Nat) : Int) := by
  unfold dbZ
  rw [List.getD_eq_getElem?_getD, List.getElem?_map]
  cases dbT[i]? <;> rfl
theorem shp_len : shp.length = 30 := by decide
theorem shp_row : ∀ r ∈ shp, r.length = 5 := by decide
theorem cs261 : Tryz.prog.cellsOf 175 = 1 := by kernel_rfl
theorem cs263 : Tryz.prog.cellsOf 177 = 5 := by kernel_rfl
theorem cs264 : Tryz.prog.cellsOf 178 = 150 := by kernel_rfl
set_option maxRecDepth 100000 in
theorem cells_of_rows {H : Type} {enc : TypeId × Value → H} {w : World} {base : Nat} {sp : Nat → Bool} {held : Bool} {fuel : Nat} {cs : List Value} {p : List MemPlace}
    (h : DataW.trod enc Tryz.prog w base sp held fuel 178 cs = some (.agg (shp.map fun r => .agg (r.map fun (z : Nat) => .lit (.int .i64 (z : Int)))), p)) : ∀ op j, op < 30 → j < 5 → cs[op * 5 + j]? = some (.int .i64 (sh op j : Nat)) := by
  cases fuel with
  | zero => simp [DataW.trod] at h
  | succ fuel =>
    simp only [DataW.trod, Tryz.underlying178, cs263, cs264] at h
    split at h
    · obtain ⟨xs, hm, hx⟩ := Option.map_eq_some_iff.1 h
      have hxs : xs.map (·.1) = shp.map fun r => (DataW.agg (r.map fun (z : Nat) => .lit (.int .i64 (z : Int))) : DataW H) := by
        have := congrArg Prod.fst hx
        simpa using this
      intro op j hop hj
      obtain ⟨b, hb, hf⟩ := Lib.mapM_at hm op op (by simp [hop])
      have h2 : (xs.map (·.1))[op]? = some b.1 := by simp [hb]
      rw [hxs, List.getElem?_map] at h2
      obtain ⟨r, hr⟩ : ∃ r, shp[op]? = some r := ⟨_, List.getElem?_eq_getElem (by rw [shp_len]; exact hop)⟩
      rw [hr] at h2
      have hb1 : b.1 = DataW.agg (r.map fun (z : Nat) => .lit (.int .i64 (z : Int))) := by simpa using h2.symm
      have hrl : r.length = 5 := shp_row _ (List.mem_of_getElem? hr)
      obtain ⟨ys, n', _, rfl, _, hyl, hg⟩ := DataW.trod_struct Tryz.underlying177 hf
      have hys : ys.map (·.1) = r.map fun (z : Nat) => (DataW.lit (.int .i64 (z : Int)) : DataW H) := by simpa using hb1
      have hsh : sh op j = r[j]'(by omega) := by
        unfold sh
        rw [List.getD_eq_getElem?_getD, List.getD_eq_getElem?_getD, hr, Option.getD_some, List.getElem?_eq_getElem (by omega), Option.getD_some]
      have key : ∀ y, ys[j]? = some y → y.1 = DataW.lit (.int .i64 ((sh op j : Nat) : Int)) := fun y hy => by
        have h3 : (ys.map (·.1))[j]? = some y.1 := by simp [hy]
        rw [hys, List.getElem?_map, List.getElem?_eq_getElem (by omega)] at h3
        rw [hsh]
        simpa using h3.symm
      have hyl5 : ys.length = 5 := hyl
      have fin : ∀ y, ys[j]? = some y → DataW.trod enc Tryz.prog w base sp held n' 175 ((((cs.drop (op * 5)).take 5).drop j).take 1) = some y → cs[op * 5 + j]? = some (.int .i64 (sh op j : Nat)) := fun y hy ht => by
        obtain ⟨z, hc, rfl, _⟩ := DataW.trod_int Tryz.underlying175 ht
        have h4 := key _ hy
        simp at h4
        have h5 := congrArg (·[0]?) hc
        simp [List.getElem?_drop, hj] at h5
        rw [h5, h4]
      have yj : ys[j]? = some (ys[j]'(by omega)) := List.getElem?_eq_getElem (by omega)
      have hj5 : j = 0 ∨ j = 1 ∨ j = 2 ∨ j = 3 ∨ j = 4 := by omega
      rcases hj5 with rfl | rfl | rfl | rfl | rfl
      · exact fin _ yj (by rw [← yj]; simpa [cs261] using hg 0 _ rfl)
      · exact fin _ yj (by rw [← yj]; simpa [cs261] using hg 1 _ rfl)
      · exact fin _ yj (by rw [← yj]; simpa [cs261] using hg 2 _ rfl)
      · exact fin _ yj (by rw [← yj]; simpa [cs261] using hg 3 _ rfl)
      · exact fin _ yj (by rw [← yj]; simpa [cs261] using hg 4 _ rfl)
    · cases h
theorem of_laid {L : List (String × DataW Unit)} {W : World} (hL : L = [("math/bits.deBruijn64tab", Rows.laid_math_bits_deBruijn64tab), ("loop.example/g00094/impl.shapes", Rows.laid_loop_example_g00094_impl_shapes)]) (h : laidMetH Tryz.prog L W) : ShAt W ∧ DB W := by
  subst hL
  rw [MakeChecks.laidMetH_plain _ _ _ (by kernel_rfl)] at h
  rw [eTab, eShp] at h
  have ht := Lib.tabIs_of_head gTab (t := 239) (e := 5) (by kernel_rfl) Tryz.underlying239 Tryz.underlying5 (by kernel_rfl) (by kernel_rfl) h
  refine ⟨?_, fun i hi => ?_⟩
  · obtain ⟨ps, ⟨g, t, cs, fuel, p, q, hg, ht, hvar, hd, _, _⟩, _⟩ := h.tail
    obtain rfl := Option.some.inj (gShp.symm.trans hg)
    obtain rfl := Option.some.inj ((show (Tryz.prog.globals[0]?).map (·.type) = some 178 by kernel_rfl).symm.trans ht)
    intro op j h1 h2
    have := World.var?_cell hg hvar (op * 5 + j)
    rw [this]
    have := cells_of_rows hd op j h1 h2
    simpa using this
  · have := ht.cell gTab i hi
    rw [this, dbZ_at]
end Go.Proofs.YtcbknjjnphknbaaGreatDoor

namespace Go.Proofs.YtcbknjjnphknbaaGreatDoor
open Go.RowKit

/-- What the document's FastOk answers. -/
def SFast : Prop := ∀ (a1 a2 oa ea : Option Addr) (c1 c2 oc ec : Nat) (ts : List ByteArray) (fs : List Fn) (D : FastD) (w : World), Small ts fs → FastSmall D → StrsAt w 0 a1 ts → FnsAt w 0 a2 fs → FastAt w 0 oa ea D →
  Calls Tryz.prog 6 #[.agg #[.slice a1 ts.length c1, .slice a2 fs.length c2], .agg (fastCells oa ea oc ec D)] w fun e w' => e = .returned (.bool (pB (FastP ts fs D))) ∧ Below w.heap.size w w'
end Go.Proofs.YtcbknjjnphknbaaGreatDoor

namespace Go.Proofs.YtcbknjjnphknbaaGreatDoor
open Go.RowKit

set_option maxHeartbeats 400000 in
theorem iBetween_any (n lo hi : Int) (w : World) :
    Calls Tryz.prog 50 #[.int .i64 n, .int .i64 lo, .int .i64 hi] w fun e w' => e = .returned (.bool (pB (Btw n lo hi))) ∧ w' = w := by
  by_cases h1 : lo ≤ n
  · by_cases h2 : n ≤ hi
    · go_enter Tryz.func50, Tryz.ntmps50
      go_wp2
      go_ret
      exact ⟨ret_bool (pB_yes ⟨h1, h2⟩).symm, rfl⟩
    · go_enter Tryz.func50, Tryz.ntmps50
      go_wp2
      go_ret
      exact ⟨ret_bool (pB_no (fun h => by have a := h.1; have b := h.2; omega)).symm, rfl⟩
  · go_enter Tryz.func50, Tryz.ntmps50
    go_wp2
    go_ret
    exact ⟨ret_bool (pB_no (fun h => by have a := h.1; have b := h.2; omega)).symm, rfl⟩

set_option maxHeartbeats 400000 in
theorem hasFunc_any (a : Option Addr) (n cap : Nat) (i : Int) (w : World) :
    Calls Tryz.prog 45 #[.slice a n cap, .int .i64 i] w fun e w' => e = .returned (.bool (pB (Reg i n))) ∧ w' = w := by
  by_cases h1 : 0 ≤ i
  · by_cases h2 : i < (n : Int)
    · go_enter Tryz.func45, Tryz.ntmps45
      go_wp2
      go_ret
      exact ⟨ret_bool (pB_yes ⟨h1, h2⟩).symm, rfl⟩
    · go_enter Tryz.func45, Tryz.ntmps45
      go_wp2
      go_ret
      exact ⟨ret_bool (pB_no (fun h => by have a := h.1; have b := h.2; omega)).symm, rfl⟩
  · go_enter Tryz.func45, Tryz.ntmps45
    go_wp2
    go_ret
    exact ⟨ret_bool (pB_no (fun h => by have a := h.1; have b := h.2; omega)).symm, rfl⟩

set_option maxHeartbeats 400000 in
theorem hasFOp_any (a : Option Addr) (n cap : Nat) (i : Int) (w : World) :
    Calls Tryz.prog 128 #[.slice a n cap, .int .i64 i] w fun e w' => e = .returned (.bool (pB (Reg i n))) ∧ w' = w := by
  by_cases h1 : 0 ≤ i
  · by_cases h2 : i < (n : Int)
    · go_enter Tryz.func128, Tryz.ntmps128
      go_wp2
      go_ret
      exact ⟨ret_bool (pB_yes ⟨h1, h2⟩).symm, rfl⟩
    · go_enter Tryz.func128, Tryz.ntmps128
      go_wp2
      go_ret
      exact ⟨ret_bool (pB_no (fun h => by have a := h.1; have b := h.2; omega)).symm, rfl⟩
  · go_enter Tryz.func128, Tryz.ntmps128
    go_wp2
    go_ret
    exact ⟨ret_bool (pB_no (fun h => by have a := h.1; have b := h.2; omega)).symm, rfl⟩

set_option maxHeartbeats 400000 in
theorem hasExit_any (a : Option Addr) (n cap : Nat) (i : Int) (w : World) :
    Calls Tryz.prog 129 #[.slice a n cap, .int .i64 i] w fun e w' => e = .returned (.bool (pB (Reg i n))) ∧ w' = w := by
  by_cases h1 : 0 ≤ i
  · by_cases h2 : i < (n : Int)
    · go_enter Tryz.func129, Tryz.ntmps129
      go_wp2
      go_ret
      exact ⟨ret_bool (pB_yes ⟨h1, h2⟩).symm, rfl⟩
    · go_enter Tryz.func129, Tryz.ntmps129
      go_wp2
      go_ret
      exact ⟨ret_bool (pB_no (fun h => by have a := h.1; have b := h.2; omega)).symm, rfl⟩
  · go_enter Tryz.func129, Tryz.ntmps129
    go_wp2
    go_ret
    exact ⟨ret_bool (pB_no (fun h => by have a := h.1; have b := h.2; omega)).symm, rfl⟩

set_option maxHeartbeats 400000 in
theorem hasExRec_any (a : Option Addr) (n cap : Nat) (i : Int) (w : World) :
    Calls Tryz.prog 159 #[.slice a n cap, .int .i64 i] w fun e w' => e = .returned (.bool (pB (Reg i n))) ∧ w' = w := by
  by_cases h1 : 0 ≤ i
  · by_cases h2 : i < (n : Int)
    · go_enter Tryz.func159, Tryz.ntmps159
      go_wp2
      go_ret
      exact ⟨ret_bool (pB_yes ⟨h1, h2⟩).symm, rfl⟩
    · go_enter Tryz.func159, Tryz.ntmps159
      go_wp2
      go_ret
      exact ⟨ret_bool (pB_no (fun h => by have a := h.1; have b := h.2; omega)).symm, rfl⟩
  · go_enter Tryz.func159, Tryz.ntmps159
    go_wp2
    go_ret
    exact ⟨ret_bool (pB_no (fun h => by have a := h.1; have b := h.2; omega)).symm, rfl⟩

set_option maxHeartbeats 400000 in
theorem endOp_any (op : Int) (w : World) :
    Calls Tryz.prog 51 #[.int .i64 op] w fun e w' => e = .returned (.bool (pB (EndOp op))) ∧ w' = w := by
  by_cases h1 : op = 23
  · subst h1
    go_enter Tryz.func51, Tryz.ntmps51
    go_wp2
    go_ret
    exact ⟨ret_bool (pB_yes (.inl rfl)).symm, rfl⟩
  by_cases h2 : op = 26
  · subst h2
    go_enter Tryz.func51, Tryz.ntmps51
    go_wp2
    go_ret
    exact ⟨ret_bool (pB_yes (.inr (.inl rfl))).symm, rfl⟩
  by_cases h3 : op = 27
  · subst h3
    go_enter Tryz.func51, Tryz.ntmps51
    go_wp2
    go_ret
    exact ⟨ret_bool (pB_yes (.inr (.inr rfl))).symm, rfl⟩
  · go_enter Tryz.func51, Tryz.ntmps51
    go_wp2
    go_ret
    exact ⟨ret_bool (pB_no (fun h => h.elim h1 (fun h => h.elim h2 h3))).symm, rfl⟩

set_option maxRecDepth 100000 in
set_option maxHeartbeats 400000 in
theorem countV_any (oa ea : Option Addr) (oc ec : Nat) (D : FastD) (w : World) :
    Calls Tryz.prog 181 #[.agg #[], .agg #[.int .i64 D.fn, .int .i64 D.entry, .int .i64 D.vals, .int .i64 D.nums, .slice oa D.ops.length oc, .slice ea D.exits.length ec]] w fun e w' => e = .returned (.int .i64 D.vals) ∧ Below w.heap.size w w' := by
  go_enter Tryz.func181, Tryz.ntmps181
  go_wp2
  go_ret
  exact ⟨rfl, ((Below.refl _ _).alloc (Nat.le_refl _) _).alloc (by simp) _⟩

set_option maxRecDepth 100000 in
set_option maxHeartbeats 1000000 in
theorem isInV_any (oa ea : Option Addr) (oc ec : Nat) (D : FastD) (n : Int) (w : World) :
    Calls Tryz.prog 126 #[.int .i64 n, .agg #[.int .i64 D.fn, .int .i64 D.entry, .int .i64 D.vals, .int .i64 D.nums, .slice oa D.ops.length oc, .slice ea D.exits.length ec]] w fun e w' => e = .returned (.bool (pB (Reg n D.vals))) ∧ Below w.heap.size w w' := by
  have m1 : ∀ (v : Value) (W : World), (Go.method 391 221 v "loop.example/g00094/impl.countIn").run Tryz.prog W = .ok (181, v) W := fun _ _ => by kernel_rfl
  have hbA : Below w.heap.size w ((w.alloc (.cells #[.int .i64 D.fn, .int .i64 D.entry, .int .i64 D.vals, .int .i64 D.nums, .slice oa D.ops.length oc, .slice ea D.exits.length ec] 40)).alloc (.cells #[] 221)) := ((Below.refl _ _).alloc (Nat.le_refl _) _).alloc (by simp) _
  by_cases h1 : 0 ≤ n
  · by_cases h2 : n < D.vals
    · go_enter Tryz.func126, Tryz.ntmps126
      go_wp2_with (go_at_call 181; refine (countV_any _ _ _ _ _ _).mono ?_; rintro e w1 ⟨rfl, hb⟩)
      go_ret
      exact ⟨ret_bool (pB_yes ⟨h1, h2⟩).symm, hbA.trans (hb.mono hbA.size)⟩
    · go_enter Tryz.func126, Tryz.ntmps126
      go_wp2_with (go_at_call 181; refine (countV_any _ _ _ _ _ _).mono ?_; rintro e w1 ⟨rfl, hb⟩)
      go_ret
      exact ⟨ret_pB (by simp [Reg]; omega), hbA.trans (hb.mono hbA.size)⟩
  · go_enter Tryz.func126, Tryz.ntmps126
    go_wp2
    go_ret
    exact ⟨ret_bool (pB_no (fun h => by have a := h.1; have b := h.2; omega)).symm, hbA⟩

set_option maxRecDepth 100000 in
set_option maxHeartbeats 400000 in
theorem countN_any (oa ea : Option Addr) (oc ec : Nat) (D : FastD) (w : World) :
    Calls Tryz.prog 184 #[.agg #[], .agg #[.int .i64 D.fn, .int .i64 D.entry, .int .i64 D.vals, .int .i64 D.nums, .slice oa D.ops.length oc, .slice ea D.exits.length ec]] w fun e w' => e = .returned (.int .i64 D.nums) ∧ Below w.heap.size w w' := by
  go_enter Tryz.func184, Tryz.ntmps184
  go_wp2
  go_ret
  exact ⟨rfl, ((Below.refl _ _).alloc (Nat.le_refl _) _).alloc (by simp) _⟩

set_option maxRecDepth 100000 in
set_option maxHeartbeats 1000000 in
theorem isInN_any (oa ea : Option Addr) (oc ec : Nat) (D : FastD) (n : Int) (w : World) :
    Calls Tryz.prog 127 #[.int .i64 n, .agg #[.int .i64 D.fn, .int .i64 D.entry, .int .i64 D.vals, .int .i64 D.nums, .slice oa D.ops.length oc, .slice ea D.exits.length ec]] w fun e w' => e = .returned (.bool (pB (Reg n D.nums))) ∧ Below w.heap.size w w' := by
  have m1 : ∀ (v : Value) (W : World), (Go.method 391 223 v "loop.example/g00094/impl.countIn").run Tryz.prog W = .ok (184, v) W := fun _ _ => by kernel_rfl
  have hbA : Below w.heap.size w ((w.alloc (.cells #[.int .i64 D.fn, .int .i64 D.entry, .int .i64 D.vals, .int .i64 D.nums, .slice oa D.ops.length oc, .slice ea D.exits.length ec] 40)).alloc (.cells #[] 223)) := ((Below.refl _ _).alloc (Nat.le_refl _) _).alloc (by simp) _
  by_cases h1 : 0 ≤ n
  · by_cases h2 : n < D.nums
    · go_enter Tryz.func127, Tryz.ntmps127
      go_wp2_with (go_at_call 184; refine (countN_any _ _ _ _ _ _).mono ?_; rintro e w1 ⟨rfl, hb⟩)
      go_ret
      exact ⟨ret_bool (pB_yes ⟨h1, h2⟩).symm, hbA.trans (hb.mono hbA.size)⟩
    · go_enter Tryz.func127, Tryz.ntmps127
      go_wp2_with (go_at_call 184; refine (countN_any _ _ _ _ _ _).mono ?_; rintro e w1 ⟨rfl, hb⟩)
      go_ret
      exact ⟨ret_pB (by simp [Reg]; omega), hbA.trans (hb.mono hbA.size)⟩
  · go_enter Tryz.func127, Tryz.ntmps127
    go_wp2
    go_ret
    exact ⟨ret_bool (pB_no (fun h => by have a := h.1; have b := h.2; omega)).symm, hbA⟩

end Go.Proofs.YtcbknjjnphknbaaGreatDoor
