/-
  Lists of values: impl.allIn and spec.l05Values tell whether all are ok.
  When a frame may stand where it does, on plain data; how a truth is told.
  What VmOk asks, on plain data; lists of texts, roomOk and valuesOk of the program.
-/
import Derived.Test.YtoabnejocbnflaaGreatZNQ7
import Derived.Test.YtoabnejocbnflaaGreatZNQ2
import Derived.Deep.RegionHeld3
import Derived.Test.YtoabnejocbnflaaGreatZNQ6
import Derived.Test.YtoabnejocbnflaaGreatZM3
namespace Go.Proofs.YtoabnejocbnflaaGreat
open Go.RowKit

def okB (nf : Nat) (r : Int) (v : Vl) : Bool := valB v.k v.n v.s nf r
def valsB (vs : List Vl) (nf : Nat) (r : Int) : Bool := vs.all (okB nf r)

set_option maxRecDepth 100000 in
set_option maxHeartbeats 1000000 in
theorem lit_any (k n : Int) (s : ByteArray) (r : Int) (a1 a2 : Option Addr) (nt c1 nf c2 Mb Rb : Nat) (w : World) (hM : w.heap[Mb]? = some (.cells #[.slice a1 nt c1, .slice a2 nf c2] 44 (0, 0))) (hR : w.heap[Rb]? = some (.cells #[.int .i64 r] 3 (0, 0))) (hsz : s.size ≤ 1048576) :
    Calls Tryz.prog 75 #[.agg #[.int .i64 k, .int .i64 n, .string s], .pointer (some ⟨Mb, 0, none⟩), .pointer (some ⟨Rb, 0, none⟩)] w fun e w' => e = .returned (.bool (!valB k n s nf r)) ∧ Below w.heap.size w w' := by
  have hbA : Below w.heap.size w (w.alloc (.cells #[.int .i64 k, .int .i64 n, .string s] 32)) := (Below.refl _ _).alloc (Nat.le_refl _) _
  have x1 := block_cell (block_old hM (.cells #[.int .i64 k, .int .i64 n, .string s] 32))
  have x2 := block_cell (block_old hR (.cells #[.int .i64 k, .int .i64 n, .string s] 32))
  go_enter Tryz.func75, Tryz.ntmps75
  go_wp2_with fail
  refine (iIn_any _ _ _ _ _ _ _ _ _ _ _ hsz).mono ?_
  rintro e w1 ⟨rfl, hb⟩
  clear x1 x2
  go_wp2
  go_ret
  exact ⟨rfl, hbA.trans (hb.mono hbA.size)⟩

/-- What IndexFunc is to answer: a number that is at least 0 just where not all are ok. -/
def IxPost (b : Bool) (e : Ending) : Prop := ∃ i : Int, e = .returned (.int .i64 i) ∧ (0 ≤ i ↔ b = false)

set_option maxRecDepth 100000 in
set_option maxHeartbeats 1000000 in
theorem firstBad_any (a : Option Addr) (vs : List Vl) (cap : Nat) (r : Int) (a1 a2 : Option Addr) (nt c1 nf c2 Mb Rb : Nat) (w : World) (hM : w.heap[Mb]? = some (.cells #[.slice a1 nt c1, .slice a2 nf c2] 44 (0, 0))) (hR : w.heap[Rb]? = some (.cells #[.int .i64 r] 3 (0, 0))) (hs : ValsSmall vs) (hm : ValsAt w 0 a vs) :
    Calls Tryz.prog 97 #[.slice a vs.length cap, .func (.func 75) #[] #[.pointer (some ⟨Mb, 0, none⟩), .pointer (some ⟨Rb, 0, none⟩)]] w fun e w' => IxPost (valsB vs nf r) e ∧ Below w.heap.size w w' := by
  obtain ⟨hn, hc⟩ := hs
  go_enter Tryz.func97, Tryz.ntmps97
  go_wp2
  go_loopw [8] (fun i wr => ∃ (k : Nat), k ≤ vs.length ∧ i = .int .i64 k ∧ Hid ((vs.take k).all (okB nf r) = true) ∧ Below w.heap.size w wr) (fun i _ => vs.length - (intOf i).toNat)
  case atStart => exact ⟨0, by omega, rfl, rfl, Below.refl _ _⟩
  case round =>
    obtain ⟨k, hk, rfl, hall, hb⟩ := hrel
    by_cases hlt : k < vs.length
    · obtain ⟨b, off, rfl, -, d1, d2, d3⟩ := hm k hlt
      have d1' := cell_later hb d1
      have d2' := cell_later hb d2
      have d3' := cell_later hb d3
      clear d1 d2 d3
      have hck := hc vs[k] (List.getElem_mem hlt)
      have hMk := block_kept hM hb
      have hRk := block_kept hR hb
      go_wp2_with fail
      refine (lit_any _ _ _ r a1 a2 nt c1 nf c2 Mb Rb _ hMk hRk hck).mono ?_
      rintro e w1 ⟨rfl, hb1⟩
      have hB := hb.trans (hb1.mono hb.size)
      clear d1' d2' d3' hMk hRk hb1
      by_cases ho : valB vs[k].k vs[k].n vs[k].s nf r = true
      · have HO : Hid (valB vs[k].k vs[k].n vs[k].s nf r = true) := ho
        go_wp2
        go_roundw
        case rel => exact ⟨k + 1, by omega, by go_num, all_take hlt hall.out HO.out, hB⟩
        case measure => simp [intOf]; omega
      · have ho' : valB vs[k].k vs[k].n vs[k].s nf r = false := by simpa using ho
        have HO : Hid (valB vs[k].k vs[k].n vs[k].s nf r = false) := ho'
        clear ho
        go_wp2
        go_ret
        exact ⟨⟨(k : Int), rfl, by rw [show valsB vs nf r = false from all_no hlt HO.out]; simp⟩, hB⟩
    · go_wp2
      go_ret
      exact ⟨⟨-1, rfl, by rw [show valsB vs nf r = true from all_end (by omega) hall.out]; simp⟩, hb⟩

set_option maxRecDepth 100000 in
set_option maxHeartbeats 1000000 in
theorem hasBad_any (a : Option Addr) (vs : List Vl) (cap : Nat) (r : Int) (a1 a2 : Option Addr) (nt c1 nf c2 Mb Rb : Nat) (w : World) (hM : w.heap[Mb]? = some (.cells #[.slice a1 nt c1, .slice a2 nf c2] 44 (0, 0))) (hR : w.heap[Rb]? = some (.cells #[.int .i64 r] 3 (0, 0))) (hs : ValsSmall vs) (hm : ValsAt w 0 a vs) :
    Calls Tryz.prog 74 #[.slice a vs.length cap, .func (.func 75) #[] #[.pointer (some ⟨Mb, 0, none⟩), .pointer (some ⟨Rb, 0, none⟩)]] w fun e w' => e = .returned (.bool (!valsB vs nf r)) ∧ Below w.heap.size w w' := by
  go_enter Tryz.func74, Tryz.ntmps74
  go_wp2_with fail
  refine (firstBad_any a vs cap r a1 a2 nt c1 nf c2 Mb Rb _ hM hR hs hm).mono ?_
  rintro e w1 ⟨⟨i, rfl, hi⟩, hb⟩
  have HI : Hid (0 ≤ i ↔ valsB vs nf r = false) := hi
  clear hi
  go_wp2
  go_ret
  exact ⟨ret_bool (by rw [Bool.eq_iff_iff]; simpa using HI.out), hb⟩

set_option maxRecDepth 100000 in
set_option maxHeartbeats 1000000 in
theorem allIn_any (a : Option Addr) (vs : List Vl) (cap : Nat) (r : Int) (a1 a2 : Option Addr) (nt c1 nf c2 : Nat) (w : World) (hs : ValsSmall vs) (hm : ValsAt w 0 a vs) :
    Calls Tryz.prog 48 #[.agg #[.slice a1 nt c1, .slice a2 nf c2], .slice a vs.length cap, .int .i64 r] w fun e w' => e = .returned (.bool (valsB vs nf r)) ∧ Below w.heap.size w w' := by
  have hmf : ∀ (fn : Go.Fn) (first cap : Array Value) (w : World), (Instr.makeFunc fn first cap).run Tryz.prog w = .ok (.func fn first cap) w := fun _ _ _ _ => rfl
  have hbA : Below w.heap.size w ((w.alloc (.cells #[.slice a1 nt c1, .slice a2 nf c2] 44)).alloc (.cells #[.int .i64 r] 3)) := ((Below.refl _ _).alloc (Nat.le_refl _) _).alloc (by simp) _
  have hM := block_old (block_new w #[.slice a1 nt c1, .slice a2 nf c2] 44) (.cells #[.int .i64 r] 3)
  have hR := block_new (w.alloc (.cells #[.slice a1 nt c1, .slice a2 nf c2] 44)) #[.int .i64 r] 3
  simp only [World.size_alloc] at hR
  go_enter Tryz.func48, Tryz.ntmps48
  go_wp2_with fail
  refine (hasBad_any a vs cap r a1 a2 nt c1 nf c2 _ _ _ hM hR hs (hm.mono hbA)).mono ?_
  rintro e w1 ⟨rfl, hb⟩
  go_wp2
  go_ret
  exact ⟨ret_bool (by simp), hbA.trans (hb.mono hbA.size)⟩

end Go.Proofs.YtoabnejocbnflaaGreat

namespace Go.Proofs.YtoabnejocbnflaaGreat
open Go.RowKit

open Classical in
/-- The heights of a function: those that rounds come to. -/
noncomputable def dep (fs : List Fn) (code : List (Int × Int)) : List Int := if h : ∃ d, Done fs code d then h.choose else []
theorem dep_of {fs : List Fn} {code : List (Int × Int)} {d : List Int} (h : Done fs code d) : dep fs code = d := by
  have hx : ∃ d, Done fs code d := ⟨d, h⟩
  unfold dep
  rw [dif_pos hx]
  exact hx.choose_spec.one h

def fnAt (fs : List Fn) (f : Int) : Fn := fs.getD f.toNat ⟨0, 0, []⟩
theorem fnAt_of {fs : List Fn} {i : Nat} (h : i < fs.length) : fnAt fs (i : Int) = fs[i] := by
  unfold fnAt
  rw [Int.toNat_natCast, List.getD_eq_getElem?_getD, List.getElem?_eq_getElem h]
  rfl
noncomputable def ht (fs : List Fn) (f pc : Int) : Int := (dep fs (fnAt fs f).code).getD pc.toNat (-1)
def opAt (fs : List Fn) (f pc : Int) : Int := ((fnAt fs f).code.getD pc.toNat (0, 0)).1
theorem ht_of {fs : List Fn} {i p : Nat} (h : i < fs.length) {d : List Int} (hD : Done fs fs[i].code d) (hp : p < d.length) : ht fs (i : Int) (p : Int) = d[p] := by
  unfold ht
  rw [fnAt_of h, dep_of hD, Int.toNat_natCast, List.getD_eq_getElem?_getD, List.getElem?_eq_getElem hp]
  rfl
theorem opAt_of {fs : List Fn} {i p : Nat} (h : i < fs.length) (hp : p < fs[i].code.length) : opAt fs (i : Int) (p : Int) = fs[i].code[p].1 := by
  unfold opAt
  rw [fnAt_of h, Int.toNat_natCast, List.getD_eq_getElem?_getD, List.getElem?_eq_getElem hp]
  rfl

/-- A frame of function f at pc with nl locals and a stack of ns values may stand. -/
def Fits (fs : List Fn) (f pc nl ns : Int) (last : Bool) : Prop := 0 ≤ f ∧ f < (fs.length : Int) ∧ nl = (fnAt fs f).locals ∧ 0 ≤ pc ∧ pc < ((fnAt fs f).code.length : Int) ∧ 0 ≤ ht fs f pc ∧
  ((last = true ∧ ns = ht fs f pc) ∨ (last = false ∧ 1 ≤ pc ∧ 0 ≤ ht fs f (pc - 1) ∧ (opAt fs f (pc - 1) = 23 ∨ opAt fs f (pc - 1) = 24) ∧ ns = ht fs f pc - 1))

/-- A truth is told. -/
def Says (P : Prop) (e : Ending) : Prop := ∃ b : Bool, e = .returned (.bool b) ∧ (b = true ↔ P)
theorem Says.no {P : Prop} {e : Ending} (he : e = .returned (.bool false)) (h : ¬ P) : Says P e := ⟨false, he, by simpa using h⟩
theorem Says.yes {P : Prop} {e : Ending} (he : e = .returned (.bool true)) (h : P) : Says P e := ⟨true, he, by simpa using h⟩

section
variable {fs : List Fn} {i p : Nat} {nl ns : Int} {last : Bool} {d : List Int}
theorem fits_fn {f pc : Int} (h : f < 0 ∨ (fs.length : Int) ≤ f) : ¬ Fits fs f pc nl ns last := fun ⟨h1, h2, _⟩ => by omega
theorem fits_locals {pc : Int} (hi : i < fs.length) (h : nl ≠ fs[i].locals) : ¬ Fits fs i pc nl ns last := fun ⟨_, _, h3, _⟩ => by rw [fnAt_of hi] at h3; exact h h3
theorem fits_pc {pc : Int} (hi : i < fs.length) (h : pc < 0 ∨ (fs[i].code.length : Int) ≤ pc) : ¬ Fits fs i pc nl ns last := fun ⟨_, _, _, h4, h5, _⟩ => by rw [fnAt_of hi] at h5; omega
theorem fits_none (hi : i < fs.length) (hD : Done fs fs[i].code d) (hp : p < d.length) (h : d[p] < 0) : ¬ Fits fs i p nl ns last := fun ⟨_, _, _, _, _, h6, _⟩ => by rw [ht_of hi hD hp] at h6; omega
theorem fits_last (hi : i < fs.length) (hD : Done fs fs[i].code d) (hp : p < d.length) (hl : d.length = fs[i].code.length) (hn : nl = fs[i].locals) (h : 0 ≤ d[p]) : Fits fs i p nl ns true ↔ ns = d[p] := by
  unfold Fits
  rw [ht_of hi hD hp, fnAt_of hi]
  constructor
  · rintro ⟨-, -, -, -, -, -, ⟨-, h⟩ | ⟨h, -⟩⟩
    · exact h
    · cases h
  · intro e
    exact ⟨by omega, by omega, hn, by omega, by omega, h, .inl ⟨rfl, e⟩⟩
theorem fits_first : ¬ Fits fs i ((0 : Nat) : Int) nl ns false := by
  rintro ⟨-, -, -, -, -, -, ⟨h, -⟩ | ⟨-, h, -⟩⟩
  · cases h
  · omega
theorem fits_other (hi : i < fs.length) (hD : Done fs fs[i].code d) (hp : p + 1 < d.length) (hl : d.length = fs[i].code.length) (hn : nl = fs[i].locals) (h : 0 ≤ d[p + 1]) :
    Fits fs i ((p + 1 : Nat) : Int) nl ns false ↔ (0 ≤ d[p] ∧ (fs[i].code[p].1 = 23 ∨ fs[i].code[p].1 = 24) ∧ ns = d[p + 1] - 1) := by
  unfold Fits
  rw [ht_of hi hD hp, show ((p + 1 : Nat) : Int) - 1 = (p : Int) by omega, ht_of hi hD (by omega), opAt_of hi (by omega), fnAt_of hi]
  constructor
  · rintro ⟨-, -, -, -, -, -, ⟨h, -⟩ | ⟨-, -, h1, h2, h3⟩⟩
    · cases h
    · exact ⟨h1, h2, h3⟩
  · rintro ⟨h1, h2, h3⟩
    exact ⟨by omega, by omega, hn, by omega, by omega, h, .inr ⟨rfl, by omega, h1, h2, h3⟩⟩
end
end Go.Proofs.YtoabnejocbnflaaGreat
namespace Go.Proofs.YtoabnejocbnflaaGreat
open Go.RowKit

def fewB (r : List Vl) : Bool := decide (r.length ≤ 6)
def Room (d : VmD) : Prop := (d.heap.length : Int) ≤ d.made ∧ d.made ≤ 120 ∧ d.heap.all fewB = true ∧ d.out.length ≤ 200 ∧ 0 ≤ d.steps ∧ d.steps ≤ 50000 ∧ d.out.all textB = true
def frVals (nf : Nat) (r : Int) (f : Fr) : Bool := valsB f.locals nf r && valsB f.stack nf r
def reVals (nf : Nat) (r : Int) (l : List Vl) : Bool := valsB l nf r
def Vals (nf : Nat) (d : VmD) : Prop := d.frames.all (frVals nf d.heap.length) = true ∧ d.heap.all (reVals nf d.heap.length) = true ∧ okB nf d.heap.length d.value = true
def Frames (fs : List Fn) (d : VmD) : Prop := (d.status = 1 ∧ d.frames.length = 0 ∧ d.trap = 0) ∨
  (((d.status = 0 ∧ d.trap = 0) ∨ (d.status = 2 ∧ 1 ≤ d.trap ∧ d.trap ≤ 8)) ∧ 1 ≤ d.frames.length ∧ d.frames.length ≤ 24 ∧ (d.value.k = 0 ∧ d.value.n = 0 ∧ d.value.s = ⟨#[]⟩) ∧
    ∀ i (h : i < d.frames.length), Fits fs d.frames[i].fn d.frames[i].pc d.frames[i].locals.length d.frames[i].stack.length (decide ((i : Int) = (d.frames.length : Int) - 1)))

end Go.Proofs.YtoabnejocbnflaaGreat
