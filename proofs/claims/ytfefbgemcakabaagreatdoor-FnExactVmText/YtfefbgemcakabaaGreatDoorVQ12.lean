/-
  When a frame may stand where it does, on plain data; how a truth is told.
  What VmOk asks, on plain data; lists of texts, roomOk and valuesOk of the program.
  What is so, as a bool.
-/
import Derived.Test.YtfefbgemcakabaaGreatDoorVQ11
import Derived.Test.YtfefbgemcakabaaGreatDoorVQ6
import Derived.Test.YtfefbgemcakabaaGreatDoorM3
namespace Go.Proofs.YtfefbgemcakabaaGreatDoor
open Go.RowKit

open Classical in
/-- The heights of a function: those that rounds come to. -/
noncomputable def dep (fs : List Fn) (code : List (Int × Int)) : List Int := if h : ∃ d, Done fs code d then h.choose else []
theorem dep_of {fs : List Fn} {code : List (Int × Int)} {d : List Int} (h : Done fs code d) : dep fs code = d := by
  have hx : ∃ d, Done fs code d := ⟨d, h⟩
  unfold dep
  rw [dif_pos hx]
  exact hx.choose_spec.one h

def fnAt (fs : List Fn) (f : Int) : Fn := fs.getD f.toNat ⟨0, 0, []⟩
theorem fnAt_of {fs : List Fn} {i : Nat} (h : i < fs.length) : fnAt fs (i : Int) = fs[i] := by
  unfold fnAt
  rw [Int.toNat_natCast, List.getD_eq_getElem?_getD, List.getElem?_eq_getElem h]
  rfl
noncomputable def ht (fs : List Fn) (f pc : Int) : Int := (dep fs (fnAt fs f).code).getD pc.toNat (-1)
def opAt (fs : List Fn) (f pc : Int) : Int := ((fnAt fs f).code.getD pc.toNat (0, 0)).1
theorem ht_of {fs : List Fn} {i p : Nat} (h : i < fs.length) {d : List Int} (hD : Done fs fs[i].code d) (hp : p < d.length) : ht fs (i : Int) (p : Int) = d[p] := by
  unfold ht
  rw [fnAt_of h, dep_of hD, Int.toNat_natCast, List.getD_eq_getElem?_getD, List.getElem?_eq_getElem hp]
  rfl
theorem opAt_of {fs : List Fn} {i p : Nat} (h : i < fs.length) (hp : p < fs[i].code.length) : opAt fs (i : Int) (p : Int) = fs[i].code[p].1 := by
  unfold opAt
  rw [fnAt_of h, Int.toNat_natCast, List.getD_eq_getElem?_getD, List.getElem?_eq_getElem hp]
  rfl

/-- A frame of function f at pc with nl locals and a stack of ns values may stand. -/
def Fits (fs : List Fn) (f pc nl ns : Int) (last : Bool) : Prop := 0 ≤ f ∧ f < (fs.length : Int) ∧ nl = (fnAt fs f).locals ∧ 0 ≤ pc ∧ pc < ((fnAt fs f).code.length : Int) ∧ 0 ≤ ht fs f pc ∧
  ((last = true ∧ ns = ht fs f pc) ∨ (last = false ∧ 1 ≤ pc ∧ 0 ≤ ht fs f (pc - 1) ∧ (opAt fs f (pc - 1) = 23 ∨ opAt fs f (pc - 1) = 24) ∧ ns = ht fs f pc - 1))

/-- A truth is told. -/
def Says (P : Prop) (e : Ending) : Prop := ∃ b : Bool, e = .returned (.bool b) ∧ (b = true ↔ P)
theorem Says.no {P : Prop} {e : Ending} (he : e = .returned (.bool false)) (h : ¬ P) : Says P e := ⟨false, he, by simpa using h⟩
theorem Says.yes {P : Prop} {e : Ending} (he : e = .returned (.bool true)) (h : P) : Says P e := ⟨true, he, by simpa using h⟩

section
variable {fs : List Fn} {i p : Nat} {nl ns : Int} {last : Bool} {d : List Int}
theorem fits_fn {f pc : Int} (h : f < 0 ∨ (fs.length : Int) ≤ f) : ¬ Fits fs f pc nl ns last := fun ⟨h1, h2, _⟩ => by omega
theorem fits_locals {pc : Int} (hi : i < fs.length) (h : nl ≠ fs[i].locals) : ¬ Fits fs i pc nl ns last := fun ⟨_, _, h3, _⟩ => by rw [fnAt_of hi] at h3; exact h h3
theorem fits_pc {pc : Int} (hi : i < fs.length) (h : pc < 0 ∨ (fs[i].code.length : Int) ≤ pc) : ¬ Fits fs i pc nl ns last := fun ⟨_, _, _, h4, h5, _⟩ => by rw [fnAt_of hi] at h5; omega
theorem fits_none (hi : i < fs.length) (hD : Done fs fs[i].code d) (hp : p < d.length) (h : d[p] < 0) : ¬ Fits fs i p nl ns last := fun ⟨_, _, _, _, _, h6, _⟩ => by rw [ht_of hi hD hp] at h6; omega
theorem fits_last (hi : i < fs.length) (hD : Done fs fs[i].code d) (hp : p < d.length) (hl : d.length = fs[i].code.length) (hn : nl = fs[i].locals) (h : 0 ≤ d[p]) : Fits fs i p nl ns true ↔ ns = d[p] := by
  unfold Fits
  rw [ht_of hi hD hp, fnAt_of hi]
  constructor
  · rintro ⟨-, -, -, -, -, -, ⟨-, h⟩ | ⟨h, -⟩⟩
    · exact h
    · cases h
  · intro e
    exact ⟨by omega, by omega, hn, by omega, by omega, h, .inl ⟨rfl, e⟩⟩
theorem fits_first : ¬ Fits fs i ((0 : Nat) : Int) nl ns false := by
  rintro ⟨-, -, -, -, -, -, ⟨h, -⟩ | ⟨-, h, -⟩⟩
  · cases h
  · omega
theorem fits_other (hi : i < fs.length) (hD : Done fs fs[i].code d) (hp : p + 1 < d.length) (hl : d.length = fs[i].code.length) (hn : nl = fs[i].locals) (h : 0 ≤ d[p + 1]) :
    Fits fs i ((p + 1 : Nat) : Int) nl ns false ↔ (0 ≤ d[p] ∧ (fs[i].code[p].1 = 23 ∨ fs[i].code[p].1 = 24) ∧ ns = d[p + 1] - 1) := by
  unfold Fits
  rw [ht_of hi hD hp, show ((p + 1 : Nat) : Int) - 1 = (p : Int) by omega, ht_of hi hD (by omega), opAt_of hi (by omega), fnAt_of hi]
  constructor
  · rintro ⟨-, -, -, -, -, -, ⟨h, -⟩ | ⟨-, -, h1, h2, h3⟩⟩
    · cases h
    · exact ⟨h1, h2, h3⟩
  · rintro ⟨h1, h2, h3⟩
    exact ⟨by omega, by omega, hn, by omega, by omega, h, .inr ⟨rfl, by omega, h1, h2, h3⟩⟩
end
end Go.Proofs.YtfefbgemcakabaaGreatDoor
namespace Go.Proofs.YtfefbgemcakabaaGreatDoor
open Go.RowKit

def fewB (r : List Vl) : Bool := decide (r.length ≤ 6)
def Room (d : VmD) : Prop := (d.heap.length : Int) ≤ d.made ∧ d.made ≤ 120 ∧ d.heap.all fewB = true ∧ d.out.length ≤ 200 ∧ 0 ≤ d.steps ∧ d.steps ≤ 50000 ∧ d.out.all textB = true
def frVals (nf : Nat) (r : Int) (f : Fr) : Bool := valsB f.locals nf r && valsB f.stack nf r
def reVals (nf : Nat) (r : Int) (l : List Vl) : Bool := valsB l nf r
def Vals (nf : Nat) (d : VmD) : Prop := d.frames.all (frVals nf d.heap.length) = true ∧ d.heap.all (reVals nf d.heap.length) = true ∧ okB nf d.heap.length d.value = true
def Frames (fs : List Fn) (d : VmD) : Prop := (d.status = 1 ∧ d.frames.length = 0 ∧ d.trap = 0) ∨
  (((d.status = 0 ∧ d.trap = 0) ∨ (d.status = 2 ∧ 1 ≤ d.trap ∧ d.trap ≤ 8)) ∧ 1 ≤ d.frames.length ∧ d.frames.length ≤ 24 ∧ (d.value.k = 0 ∧ d.value.n = 0 ∧ d.value.s = ⟨#[]⟩) ∧
    ∀ i (h : i < d.frames.length), Fits fs d.frames[i].fn d.frames[i].pc d.frames[i].locals.length d.frames[i].stack.length (decide ((i : Int) = (d.frames.length : Int) - 1)))

set_option maxRecDepth 100000 in
set_option maxHeartbeats 1000000 in
theorem litT_any (s : ByteArray) (w : World) (hs : s.size ≤ 1048576) :
    Calls Tryz.prog 72 #[.string s] w fun e w' => e = .returned (.bool (!textB s)) ∧ w' = w := by
  go_enter Tryz.func72, Tryz.ntmps72
  go_wp2_with fail
  refine (textOk_any s _ hs).mono ?_
  rintro e w1 ⟨rfl, hw⟩
  rw [hw]
  go_wp2
  go_ret
  exact ⟨rfl, rfl⟩

set_option maxRecDepth 100000 in
set_option maxHeartbeats 1000000 in
theorem firstBadT_any (a : Option Addr) (ss : List ByteArray) (cap : Nat) (w : World) (hn : ss.length ≤ 1048576) (hc : ∀ s ∈ ss, s.size ≤ 1048576) (hm : StrsAt w 0 a ss) :
    Calls Tryz.prog 96 #[.slice a ss.length cap, .func (.func 72) #[] #[]] w fun e w' => IxPost (ss.all textB) e ∧ Below w.heap.size w w' := by
  go_enter Tryz.func96, Tryz.ntmps96
  go_wp2
  go_loopw [8] (fun i wr => ∃ (k : Nat), k ≤ ss.length ∧ i = .int .i64 k ∧ Hid ((ss.take k).all textB = true) ∧ Below w.heap.size w wr) (fun i _ => ss.length - (intOf i).toNat)
  case atStart => exact ⟨0, by omega, rfl, rfl, Below.refl _ _⟩
  case round =>
    obtain ⟨k, hk, rfl, hall, hb⟩ := hrel
    by_cases hlt : k < ss.length
    · obtain ⟨b, off, rfl, -, d1⟩ := hm k hlt
      have d1' := cell_later hb d1
      clear d1
      have hck := hc ss[k] (List.getElem_mem hlt)
      by_cases ho : textB ss[k] = true
      · have HO : Hid (textB ss[k] = true) := ho
        go_wp2_with (go_at_call 72; refine (litT_any _ _ hck).mono ?_; rintro e w1 ⟨rfl, hw⟩; rw [hw, ho]; clear hw w1)
        go_roundw
        case rel => exact ⟨k + 1, by omega, by go_num, all_take hlt hall.out HO.out, hb⟩
        case measure => simp [intOf]; omega
      · have ho' : textB ss[k] = false := by simpa using ho
        have HO : Hid (textB ss[k] = false) := ho'
        clear ho
        go_wp2_with (go_at_call 72; refine (litT_any _ _ hck).mono ?_; rintro e w1 ⟨rfl, hw⟩; rw [hw, ho']; clear hw w1)
        go_ret
        exact ⟨⟨(k : Int), rfl, by rw [show ss.all textB = false from all_no hlt HO.out]; simp⟩, hb⟩
    · go_wp2
      go_ret
      exact ⟨⟨-1, rfl, by rw [show ss.all textB = true from all_end (by omega) hall.out]; simp⟩, hb⟩

set_option maxRecDepth 100000 in
set_option maxHeartbeats 1000000 in
theorem hasBadT_any (a : Option Addr) (ss : List ByteArray) (cap : Nat) (w : World) (hn : ss.length ≤ 1048576) (hc : ∀ s ∈ ss, s.size ≤ 1048576) (hm : StrsAt w 0 a ss) :
    Calls Tryz.prog 71 #[.slice a ss.length cap, .func (.func 72) #[] #[]] w fun e w' => e = .returned (.bool (!ss.all textB)) ∧ Below w.heap.size w w' := by
  go_enter Tryz.func71, Tryz.ntmps71
  go_wp2_with fail
  refine (firstBadT_any a ss cap _ hn hc hm).mono ?_
  rintro e w1 ⟨⟨i, rfl, hi⟩, hb⟩
  have HI : Hid (0 ≤ i ↔ ss.all textB = false) := hi
  clear hi
  go_wp2
  go_ret
  exact ⟨ret_bool (by rw [Bool.eq_iff_iff]; simpa using HI.out), hb⟩
end Go.Proofs.YtfefbgemcakabaaGreatDoor

namespace Go.Proofs.YtfefbgemcakabaaGreatDoor
open Go.RowKit

open Classical in
noncomputable def pB (P : Prop) : Bool := decide P
theorem Says.eq {P : Prop} {e : Ending} (h : Says P e) : e = .returned (.bool (pB P)) := by
  obtain ⟨b, rfl, hb⟩ := h
  rw [show b = pB P by rw [Bool.eq_iff_iff, hb]; simp [pB]]
theorem pB_yes {P : Prop} (h : P) : pB P = true := by simpa [pB] using h
theorem pB_no {P : Prop} (h : ¬ P) : pB P = false := by simpa [pB] using h
theorem ret_pB {b : Bool} {P : Prop} (h : b = true ↔ P) : Ending.returned (.bool b) = .returned (.bool (pB P)) := by
  by_cases hp : P
  · rw [pB_yes hp, h.2 hp]
  · rw [pB_no hp]
    cases b
    · rfl
    · exact absurd (h.1 rfl) hp
end Go.Proofs.YtfefbgemcakabaaGreatDoor
