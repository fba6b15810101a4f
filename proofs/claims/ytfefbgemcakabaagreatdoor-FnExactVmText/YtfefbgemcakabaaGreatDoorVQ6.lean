/-
  States of the machine as plain data, and which cells of memory hold them.
  Lists of values: impl.allIn and spec.l05Values tell whether all are ok.
-/
import Derived.Test.YtfefbgemcakabaaGreatDoorVQ1
import Derived.Test.YtfefbgemcakabaaGreatDoorVQ5
import Derived.Deep.RegionHeld3
namespace Go.Proofs.YtfefbgemcakabaaGreatDoor
open Go.RowKit

/-- A value as plain data: kind, number, text. -/
structure Vl where
  k : Int
  n : Int
  s : ByteArray

structure Fr where
  fn : Int
  pc : Int
  locals : List Vl
  stack : List Vl

structure VmD where
  frames : List Fr
  heap : List (List Vl)
  made : Int
  out : List ByteArray
  status : Int
  trap : Int
  value : Vl
  steps : Int

/-- The cells of a list of values. -/
def ValsAt (w : World) (lo : Nat) (a : Option Addr) (vs : List Vl) : Prop :=
  ∀ i (h : i < vs.length), ∃ b off, a = some ⟨b, off, none⟩ ∧ lo ≤ b ∧ w.cell? ⟨b, off + i * 3, none⟩ = some (.int .i64 vs[i].k) ∧ w.cell? ⟨b, off + i * 3 + 1, none⟩ = some (.int .i64 vs[i].n) ∧ w.cell? ⟨b, off + i * 3 + 2, none⟩ = some (.string vs[i].s)

/-- The cells of a list of frames. -/
def FrsAt (w : World) (lo : Nat) (a : Option Addr) (fr : List Fr) : Prop :=
  ∀ i (h : i < fr.length), ∃ b off la lc sa sc, a = some ⟨b, off, none⟩ ∧ lo ≤ b ∧ w.cell? ⟨b, off + i * 4, none⟩ = some (.int .i64 fr[i].fn) ∧ w.cell? ⟨b, off + i * 4 + 1, none⟩ = some (.int .i64 fr[i].pc) ∧
    w.cell? ⟨b, off + i * 4 + 2, none⟩ = some (.slice la fr[i].locals.length lc) ∧ w.cell? ⟨b, off + i * 4 + 3, none⟩ = some (.slice sa fr[i].stack.length sc) ∧ ValsAt w lo la fr[i].locals ∧ ValsAt w lo sa fr[i].stack

/-- The cells of a list of records. -/
def RecsAt (w : World) (lo : Nat) (a : Option Addr) (rs : List (List Vl)) : Prop :=
  ∀ i (h : i < rs.length), ∃ b off fa fc, a = some ⟨b, off, none⟩ ∧ lo ≤ b ∧ w.cell? ⟨b, off + i, none⟩ = some (.slice fa rs[i].length fc) ∧ ValsAt w lo fa rs[i]

theorem ValsAt.mono {w w' : World} {lo : Nat} {a : Option Addr} {vs : List Vl} (h : ValsAt w lo a vs) (hb : Below w.heap.size w w') : ValsAt w' lo a vs := by
  intro i hi
  obtain ⟨b, off, h1, h2, h3, h4, h5⟩ := h i hi
  exact ⟨b, off, h1, h2, cell_later hb h3, cell_later hb h4, cell_later hb h5⟩
theorem FrsAt.mono {w w' : World} {lo : Nat} {a : Option Addr} {fr : List Fr} (h : FrsAt w lo a fr) (hb : Below w.heap.size w w') : FrsAt w' lo a fr := by
  intro i hi
  obtain ⟨b, off, la, lc, sa, sc, h1, h2, h3, h4, h5, h6, h7, h8⟩ := h i hi
  exact ⟨b, off, la, lc, sa, sc, h1, h2, cell_later hb h3, cell_later hb h4, cell_later hb h5, cell_later hb h6, h7.mono hb, h8.mono hb⟩
theorem RecsAt.mono {w w' : World} {lo : Nat} {a : Option Addr} {rs : List (List Vl)} (h : RecsAt w lo a rs) (hb : Below w.heap.size w w') : RecsAt w' lo a rs := by
  intro i hi
  obtain ⟨b, off, fa, fc, h1, h2, h3, h4⟩ := h i hi
  exact ⟨b, off, fa, fc, h1, h2, cell_later hb h3, h4.mono hb⟩
theorem ValsAt.above {w w' : World} {lo : Nat} {a : Option Addr} {vs : List Vl} (h : ValsAt w lo a vs) (hb : Above lo w w') : ValsAt w' lo a vs := by
  intro i hi
  obtain ⟨b, off, h1, h2, h3, h4, h5⟩ := h i hi
  exact ⟨b, off, h1, h2, hb.cell h2 h3, hb.cell h2 h4, hb.cell h2 h5⟩
theorem FrsAt.above {w w' : World} {lo : Nat} {a : Option Addr} {fr : List Fr} (h : FrsAt w lo a fr) (hb : Above lo w w') : FrsAt w' lo a fr := by
  intro i hi
  obtain ⟨b, off, la, lc, sa, sc, h1, h2, h3, h4, h5, h6, h7, h8⟩ := h i hi
  exact ⟨b, off, la, lc, sa, sc, h1, h2, hb.cell h2 h3, hb.cell h2 h4, hb.cell h2 h5, hb.cell h2 h6, h7.above hb, h8.above hb⟩
theorem RecsAt.above {w w' : World} {lo : Nat} {a : Option Addr} {rs : List (List Vl)} (h : RecsAt w lo a rs) (hb : Above lo w w') : RecsAt w' lo a rs := by
  intro i hi
  obtain ⟨b, off, fa, fc, h1, h2, h3, h4⟩ := h i hi
  exact ⟨b, off, fa, fc, h1, h2, hb.cell h2 h3, h4.above hb⟩
theorem ValsAt.low {w : World} {lo lo' : Nat} {a : Option Addr} {vs : List Vl} (h : ValsAt w lo a vs) (hl : lo' ≤ lo) : ValsAt w lo' a vs := fun i hi => by
  obtain ⟨b, off, h1, h2, h3⟩ := h i hi
  exact ⟨b, off, h1, by omega, h3⟩
theorem FrsAt.low {w : World} {lo lo' : Nat} {a : Option Addr} {fr : List Fr} (h : FrsAt w lo a fr) (hl : lo' ≤ lo) : FrsAt w lo' a fr := fun i hi => by
  obtain ⟨b, off, la, lc, sa, sc, h1, h2, h3, h4, h5, h6, h7, h8⟩ := h i hi
  exact ⟨b, off, la, lc, sa, sc, h1, by omega, h3, h4, h5, h6, h7.low hl, h8.low hl⟩
theorem RecsAt.low {w : World} {lo lo' : Nat} {a : Option Addr} {rs : List (List Vl)} (h : RecsAt w lo a rs) (hl : lo' ≤ lo) : RecsAt w lo' a rs := fun i hi => by
  obtain ⟨b, off, fa, fc, h1, h2, h3, h4⟩ := h i hi
  exact ⟨b, off, fa, fc, h1, by omega, h3, h4.low hl⟩

/-- What can be read out of an argument at all. -/
def ValsMax (vs : List Vl) : Prop := vs.length ≤ maxLen ∧ ∀ v ∈ vs, v.s.size ≤ maxLen
def ValsSmall (vs : List Vl) : Prop := vs.length ≤ 1048576 ∧ ∀ v ∈ vs, v.s.size ≤ 1048576
structure VmMax (d : VmD) : Prop where
  frames : d.frames.length ≤ maxLen
  locals : ∀ f ∈ d.frames, ValsMax f.locals
  stack : ∀ f ∈ d.frames, ValsMax f.stack
  heap : d.heap.length ≤ maxLen
  fields : ∀ r ∈ d.heap, ValsMax r
  out : d.out.length ≤ maxLen
  text : ∀ s ∈ d.out, s.size ≤ maxLen
  value : d.value.s.size ≤ maxLen
structure VmSmall (d : VmD) : Prop where
  frames : d.frames.length ≤ 1048576
  locals : ∀ f ∈ d.frames, ValsSmall f.locals
  stack : ∀ f ∈ d.frames, ValsSmall f.stack
  heap : d.heap.length ≤ 1048576
  fields : ∀ r ∈ d.heap, ValsSmall r
  out : d.out.length ≤ 1048576
  text : ∀ s ∈ d.out, s.size ≤ 1048576
  value : d.value.s.size ≤ 1048576

theorem info43 : (Tryz.prog.info? 43).map (fun i => (i.zero, i.size)) = some (some (.agg #[.slice none 0 0, .slice none 0 0, .int .i64 0, .slice none 0 0, .int .i64 0, .int .i64 0, .int .i64 0, .int .i64 0, .string ByteArray.empty, .int .i64 0]), 10) := by kernel_rfl
end Go.Proofs.YtfefbgemcakabaaGreatDoor

namespace Go.Proofs.YtfefbgemcakabaaGreatDoor
open Go.RowKit

def okB (nf : Nat) (r : Int) (v : Vl) : Bool := valB v.k v.n v.s nf r
def valsB (vs : List Vl) (nf : Nat) (r : Int) : Bool := vs.all (okB nf r)

set_option maxRecDepth 100000 in
set_option maxHeartbeats 1000000 in
theorem lit_any (k n : Int) (s : ByteArray) (r : Int) (a1 a2 : Option Addr) (nt c1 nf c2 Mb Rb : Nat) (w : World) (hM : w.heap[Mb]? = some (.cells #[.slice a1 nt c1, .slice a2 nf c2] 37 (0, 0))) (hR : w.heap[Rb]? = some (.cells #[.int .i64 r] 3 (0, 0))) (hsz : s.size ≤ 1048576) :
    Calls Tryz.prog 100 #[.agg #[.int .i64 k, .int .i64 n, .string s], .pointer (some ⟨Mb, 0, none⟩), .pointer (some ⟨Rb, 0, none⟩)] w fun e w' => e = .returned (.bool (!valB k n s nf r)) ∧ Below w.heap.size w w' := by
  have hbA : Below w.heap.size w (w.alloc (.cells #[.int .i64 k, .int .i64 n, .string s] 41)) := (Below.refl _ _).alloc (Nat.le_refl _) _
  have x1 := block_cell (block_old hM (.cells #[.int .i64 k, .int .i64 n, .string s] 41))
  have x2 := block_cell (block_old hR (.cells #[.int .i64 k, .int .i64 n, .string s] 41))
  go_enter Tryz.func100, Tryz.ntmps100
  go_wp2_with fail
  refine (iIn_any _ _ _ _ _ _ _ _ _ _ _ hsz).mono ?_
  rintro e w1 ⟨rfl, hb⟩
  clear x1 x2
  go_wp2
  go_ret
  exact ⟨rfl, hbA.trans (hb.mono hbA.size)⟩

/-- What IndexFunc is to answer: a number that is at least 0 just where not all are ok. -/
def IxPost (b : Bool) (e : Ending) : Prop := ∃ i : Int, e = .returned (.int .i64 i) ∧ (0 ≤ i ↔ b = false)

set_option maxRecDepth 100000 in
set_option maxHeartbeats 1000000 in
theorem firstBad_any (a : Option Addr) (vs : List Vl) (cap : Nat) (r : Int) (a1 a2 : Option Addr) (nt c1 nf c2 Mb Rb : Nat) (w : World) (hM : w.heap[Mb]? = some (.cells #[.slice a1 nt c1, .slice a2 nf c2] 37 (0, 0))) (hR : w.heap[Rb]? = some (.cells #[.int .i64 r] 3 (0, 0))) (hs : ValsSmall vs) (hm : ValsAt w 0 a vs) :
    Calls Tryz.prog 113 #[.slice a vs.length cap, .func (.func 100) #[] #[.pointer (some ⟨Mb, 0, none⟩), .pointer (some ⟨Rb, 0, none⟩)]] w fun e w' => IxPost (valsB vs nf r) e ∧ Below w.heap.size w w' := by
  obtain ⟨hn, hc⟩ := hs
  go_enter Tryz.func113, Tryz.ntmps113
  go_wp2
  go_loopw [8] (fun i wr => ∃ (k : Nat), k ≤ vs.length ∧ i = .int .i64 k ∧ Hid ((vs.take k).all (okB nf r) = true) ∧ Below w.heap.size w wr) (fun i _ => vs.length - (intOf i).toNat)
  case atStart => exact ⟨0, by omega, rfl, rfl, Below.refl _ _⟩
  case round =>
    obtain ⟨k, hk, rfl, hall, hb⟩ := hrel
    by_cases hlt : k < vs.length
    · obtain ⟨b, off, rfl, -, d1, d2, d3⟩ := hm k hlt
      have d1' := cell_later hb d1
      have d2' := cell_later hb d2
      have d3' := cell_later hb d3
      clear d1 d2 d3
      have hck := hc vs[k] (List.getElem_mem hlt)
      have hMk := block_kept hM hb
      have hRk := block_kept hR hb
      go_wp2_with fail
      refine (lit_any _ _ _ r a1 a2 nt c1 nf c2 Mb Rb _ hMk hRk hck).mono ?_
      rintro e w1 ⟨rfl, hb1⟩
      have hB := hb.trans (hb1.mono hb.size)
      clear d1' d2' d3' hMk hRk hb1
      by_cases ho : valB vs[k].k vs[k].n vs[k].s nf r = true
      · have HO : Hid (valB vs[k].k vs[k].n vs[k].s nf r = true) := ho
        go_wp2
        go_roundw
        case rel => exact ⟨k + 1, by omega, by go_num, all_take hlt hall.out HO.out, hB⟩
        case measure => simp [intOf]; omega
      · have ho' : valB vs[k].k vs[k].n vs[k].s nf r = false := by simpa using ho
        have HO : Hid (valB vs[k].k vs[k].n vs[k].s nf r = false) := ho'
        clear ho
        go_wp2
        go_ret
        exact ⟨⟨(k : Int), rfl, by rw [show valsB vs nf r = false from all_no hlt HO.out]; simp⟩, hB⟩
    · go_wp2
      go_ret
      exact ⟨⟨-1, rfl, by rw [show valsB vs nf r = true from all_end (by omega) hall.out]; simp⟩, hb⟩

set_option maxRecDepth 100000 in
set_option maxHeartbeats 1000000 in
theorem hasBad_any (a : Option Addr) (vs : List Vl) (cap : Nat) (r : Int) (a1 a2 : Option Addr) (nt c1 nf c2 Mb Rb : Nat) (w : World) (hM : w.heap[Mb]? = some (.cells #[.slice a1 nt c1, .slice a2 nf c2] 37 (0, 0))) (hR : w.heap[Rb]? = some (.cells #[.int .i64 r] 3 (0, 0))) (hs : ValsSmall vs) (hm : ValsAt w 0 a vs) :
    Calls Tryz.prog 99 #[.slice a vs.length cap, .func (.func 100) #[] #[.pointer (some ⟨Mb, 0, none⟩), .pointer (some ⟨Rb, 0, none⟩)]] w fun e w' => e = .returned (.bool (!valsB vs nf r)) ∧ Below w.heap.size w w' := by
  go_enter Tryz.func99, Tryz.ntmps99
  go_wp2_with fail
  refine (firstBad_any a vs cap r a1 a2 nt c1 nf c2 Mb Rb _ hM hR hs hm).mono ?_
  rintro e w1 ⟨⟨i, rfl, hi⟩, hb⟩
  have HI : Hid (0 ≤ i ↔ valsB vs nf r = false) := hi
  clear hi
  go_wp2
  go_ret
  exact ⟨ret_bool (by rw [Bool.eq_iff_iff]; simpa using HI.out), hb⟩

set_option maxRecDepth 100000 in
set_option maxHeartbeats 1000000 in
theorem allIn_any (a : Option Addr) (vs : List Vl) (cap : Nat) (r : Int) (a1 a2 : Option Addr) (nt c1 nf c2 : Nat) (w : World) (hs : ValsSmall vs) (hm : ValsAt w 0 a vs) :
    Calls Tryz.prog 77 #[.agg #[.slice a1 nt c1, .slice a2 nf c2], .slice a vs.length cap, .int .i64 r] w fun e w' => e = .returned (.bool (valsB vs nf r)) ∧ Below w.heap.size w w' := by
  have hmf : ∀ (fn : Go.Fn) (first cap : Array Value) (w : World), (Instr.makeFunc fn first cap).run Tryz.prog w = .ok (.func fn first cap) w := fun _ _ _ _ => rfl
  have hbA : Below w.heap.size w ((w.alloc (.cells #[.slice a1 nt c1, .slice a2 nf c2] 37)).alloc (.cells #[.int .i64 r] 3)) := ((Below.refl _ _).alloc (Nat.le_refl _) _).alloc (by simp) _
  have hM := block_old (block_new w #[.slice a1 nt c1, .slice a2 nf c2] 37) (.cells #[.int .i64 r] 3)
  have hR := block_new (w.alloc (.cells #[.slice a1 nt c1, .slice a2 nf c2] 37)) #[.int .i64 r] 3
  simp only [World.size_alloc] at hR
  go_enter Tryz.func77, Tryz.ntmps77
  go_wp2_with fail
  refine (hasBad_any a vs cap r a1 a2 nt c1 nf c2 _ _ _ hM hR hs (hm.mono hbA)).mono ?_
  rintro e w1 ⟨rfl, hb⟩
  go_wp2
  go_ret
  exact ⟨ret_bool (by simp), hbA.trans (hb.mono hbA.size)⟩

set_option maxRecDepth 100000 in
set_option maxHeartbeats 2000000 in
theorem sValues_any (a : Option Addr) (vs : List Vl) (cap : Nat) (r : Int) (a1 a2 : Option Addr) (nt c1 nf c2 : Nat) (w : World) (hnf : nf ≤ 1048576) (hs : ValsSmall vs) (hm : ValsAt w 0 a vs) :
    Calls Tryz.prog 63 #[.agg #[.slice a1 nt c1, .slice a2 nf c2], .slice a vs.length cap, .int .i64 r] w fun e w' => e = .returned (.bool (valsB vs nf r)) ∧ Below w.heap.size w w' := by
  obtain ⟨hn, hc⟩ := hs
  have hbA : Below w.heap.size w (w.alloc (.cells #[.slice a1 nt c1, .slice a2 nf c2] 37)) := (Below.refl _ _).alloc (Nat.le_refl _) _
  have hM0 := block_new w #[.slice a1 nt c1, .slice a2 nf c2] 37
  go_enter Tryz.func63, Tryz.ntmps63
  go_wp2
  go_loopw [7] (fun i wr => ∃ (k : Nat), k ≤ vs.length ∧ i = .int .i64 k ∧ Hid ((vs.take k).all (okB nf r) = true) ∧ wr.heap[w.heap.size]? = some (.cells #[.slice a1 nt c1, .slice a2 nf c2] 37 (0, 0)) ∧ Below w.heap.size w wr) (fun i _ => vs.length - (intOf i).toNat)
  case atStart => exact ⟨0, by omega, rfl, rfl, hM0, hbA⟩
  case round =>
    obtain ⟨k, hk, rfl, hall, hM, hb⟩ := hrel
    clear hM0 hbA
    by_cases hlt : k < vs.length
    · obtain ⟨b, off, rfl, -, d1, d2, d3⟩ := hm k hlt
      have hck := hc vs[k] (List.getElem_mem hlt)
      have d1' := cell_later hb d1
      have d2' := cell_later hb d2
      have d3' := cell_later hb d3
      clear d1 d2 d3
      have hS : ∀ w', Below wr.heap.size wr w' → w'.cell? ⟨w.heap.size, 0, none⟩ = some (.slice a1 nt c1) ∧ w'.cell? ⟨w.heap.size, 1, none⟩ = some (.slice a2 nf c2) ∧ w'.cell? ⟨b, off + k * 3, none⟩ = some (.int .i64 vs[k].k) ∧ w'.cell? ⟨b, off + k * 3 + 1, none⟩ = some (.int .i64 vs[k].n) ∧ w'.cell? ⟨b, off + k * 3 + 2, none⟩ = some (.string vs[k].s) := fun w' hb =>
        ⟨by rw [block_cell (block_kept hM hb)]; rfl, by rw [block_cell (block_kept hM hb)]; rfl, cell_later hb d1', cell_later hb d2', cell_later hb d3'⟩
      have HS : Hid (∀ w', Below wr.heap.size wr w' → w'.cell? ⟨w.heap.size, 0, none⟩ = some (.slice a1 nt c1) ∧ w'.cell? ⟨w.heap.size, 1, none⟩ = some (.slice a2 nf c2) ∧ w'.cell? ⟨b, off + k * 3, none⟩ = some (.int .i64 vs[k].k) ∧ w'.cell? ⟨b, off + k * 3 + 1, none⟩ = some (.int .i64 vs[k].n) ∧ w'.cell? ⟨b, off + k * 3 + 2, none⟩ = some (.string vs[k].s)) := hS
      obtain ⟨j0, j1, j2, j3, j4⟩ := hS wr (Below.refl _ _)
      have q : Below wr.heap.size wr wr.drew := (Below.refl _ _).drew
      have HB : Hid (Below w.heap.size w wr) := hb
      have HM : Hid (wr.heap[w.heap.size]? = some (.cells #[.slice a1 nt c1, .slice a2 nf c2] 37 (0, 0))) := hM
      clear hS hb hM d1' d2' d3'
      by_cases ho : valB vs[k].k vs[k].n vs[k].s nf r = true
      · have HO : Hid (valB vs[k].k vs[k].n vs[k].s nf r = true) := ho
        have hob : (!valB vs[k].k vs[k].n vs[k].s nf r) = false := by rw [ho]; rfl
        go_wp2
        go_region_held3 (fun w' => w'.cell? ⟨w.heap.size, 0, none⟩ = some (.slice a1 nt c1) ∧ w'.cell? ⟨w.heap.size, 1, none⟩ = some (.slice a2 nf c2) ∧ w'.cell? ⟨b, off + k * 3, none⟩ = some (.int .i64 vs[k].k) ∧ w'.cell? ⟨b, off + k * 3 + 1, none⟩ = some (.int .i64 vs[k].n) ∧ w'.cell? ⟨b, off + k * 3 + 2, none⟩ = some (.string vs[k].s))
          (first | exact ⟨j0, j1, j2, j3, j4⟩ | exact HS.out _ q)
          (first
            | (go_at_call 62; refine (sOk_any _ _ _ _ _ _ _ _ _ _ _ hnf hck).mono ?_; rintro e w5 ⟨rfl, kd⟩; have q := q.trans (kd.mono q.size)))
        have hM5 := block_kept HM.out q
        have hB5 := HB.out.trans (q.mono HB.out.size)
        clear HM HB HS j0 j1 j2 j3 j4 q kd
        go_wp2
        go_roundw
        case rel => exact ⟨k + 1, by omega, by go_num, all_take hlt hall.out HO.out, hM5, hB5⟩
        case measure => simp [intOf]; omega
      · have ho' : valB vs[k].k vs[k].n vs[k].s nf r = false := by simpa using ho
        have HO : Hid (valB vs[k].k vs[k].n vs[k].s nf r = false) := ho'
        have hob : (!valB vs[k].k vs[k].n vs[k].s nf r) = true := by rw [ho']; rfl
        clear ho
        go_wp2
        go_region_held3 (fun w' => w'.cell? ⟨w.heap.size, 0, none⟩ = some (.slice a1 nt c1) ∧ w'.cell? ⟨w.heap.size, 1, none⟩ = some (.slice a2 nf c2) ∧ w'.cell? ⟨b, off + k * 3, none⟩ = some (.int .i64 vs[k].k) ∧ w'.cell? ⟨b, off + k * 3 + 1, none⟩ = some (.int .i64 vs[k].n) ∧ w'.cell? ⟨b, off + k * 3 + 2, none⟩ = some (.string vs[k].s))
          (first | exact ⟨j0, j1, j2, j3, j4⟩ | exact HS.out _ q)
          (first
            | (go_at_call 62; refine (sOk_any _ _ _ _ _ _ _ _ _ _ _ hnf hck).mono ?_; rintro e w5 ⟨rfl, kd⟩; have q := q.trans (kd.mono q.size)))
        have hM5 := block_kept HM.out q
        have hB5 := HB.out.trans (q.mono HB.out.size)
        clear HM HB HS j0 j1 j2 j3 j4 q kd
        go_wp2
        go_ret
        exact ⟨ret_bool (show valsB vs nf r = false from all_no hlt HO.out).symm, hB5⟩
    · go_wp2
      go_ret
      exact ⟨ret_bool (show valsB vs nf r = true from all_end (by omega) hall.out).symm, hb⟩
end Go.Proofs.YtfefbgemcakabaaGreatDoor
