/-
  Marks of a module: only blocks of its own are written.
  What Canon answers, of both sides, as ten cells; how it is compared, marked and held.
-/
import Derived.Test.YtcfbahaokmhbkaaGreatKC29
import Derived.Test.YtcfbahaokmhbkaaGreatKC28
import Derived.Test.YtcfbahaokmhbkaaGreatE8
import Derived.Test.YtcfbahaokmhbkaaGreatKC22
import Derived.Test.YtcfbahaokmhbkaaGreatKC27
namespace Go.Proofs.YtcfbahaokmhbkaaGreat
open Go.RowKit

/-- A row of functions, its rows of instructions between two places. -/
def FnH (w : World) (lo hi g : Nat) (fs : List Fn) : Prop := ∃ cur : Array Value, w.heap[g]? = some (Obj.cells cur 97 (0, 0)) ∧ cur.size = fs.length * 3 ∧ ∀ j (h : j < fs.length), ∃ gc, cur[j * 3 + 2]? = some (.slice (some ⟨gc, 0, none⟩) fs[j].code.length fs[j].code.length) ∧ lo ≤ gc ∧ gc < hi ∧ CodeBlk w gc fs[j].code.length
theorem FnH.mono {w w' : World} {lo hi g : Nat} {fs : List Fn} (h : FnH w lo hi g fs) (hb : Below w.heap.size w w') : FnH w' lo hi g fs := by
  obtain ⟨c, h1, h2, h3⟩ := h
  refine ⟨c, block_kept h1 hb, h2, fun j hj => ?_⟩
  obtain ⟨gc, q1, q2, q3, q4⟩ := h3 j hj
  exact ⟨gc, q1, q2, q3, q4.mono hb⟩
theorem FnsBlk.h {w : World} {lo g : Nat} {fs : List Fn} (h : FnsBlk w lo g fs) : FnH w lo w.heap.size g fs := by
  obtain ⟨c, h1, h2, h3⟩ := h
  refine ⟨c, h1, h2, fun j hj => ?_⟩
  obtain ⟨gc, q1, q2, q3⟩ := h3 j hj
  obtain ⟨c2, r1, r2⟩ := q3
  exact ⟨gc, q1, q2, lt_block r1, c2, r1, r2⟩

set_option maxHeartbeats 400000 in
theorem markInsS_w (lo hi g n cap : Nat) (k0 : Int) (w : World) (hn : n ≤ 1048576) (h0 : 0 ≤ k0) (h1 : k0 ≤ 10000000000000) (hg : lo ≤ g) (hh : g < hi) (hblk0 : CodeBlk w g n) :
    Calls Tryz.prog 70 #[.slice (some ⟨g, 0, none⟩) n cap, .int .i64 k0] w fun e w' => e = .returned (.int .i64 (k0 + 2 * n)) ∧ Keeps lo [156] w w' ∧ SameShape w w' ∧ Only (Rng lo hi) w w' := by
  go_enter Tryz.func70, Tryz.ntmps70
  go_wp2
  go_loopw [1, 5] (fun q i wr => ∃ (k : Nat), k ≤ n ∧ i = .int .i64 k ∧ q = .int .i64 (k0 + 2 * k) ∧ Keeps lo [156] w wr ∧ SameShape w wr ∧ Only (Rng lo hi) w wr) (fun _ i _ => n - (intOf i).toNat)
  case atStart => exact ⟨0, by omega, rfl, by go_num, Keeps.refl _ _ _, SameShape.refl _, Only.refl _ _⟩
  case round =>
    obtain ⟨k, hk, rfl, rfl, hkr, hsh, hor⟩ := hrel
    by_cases hlt : k < n
    · obtain ⟨cur, hblk, hsz⟩ := hblk0.shape hsh
      have hfz := block_free hblk
      have hcl : wr.cell? ⟨g, k * 2, none⟩ = some cur[k * 2] := by rw [block_cell hblk]; simp
      have hcl2 : wr.cell? ⟨g, k * 2 + 1, none⟩ = some cur[k * 2 + 1] := by rw [block_cell hblk]; simp
      go_wp2
      go_roundw
      case rel => exact ⟨k + 1, by omega, by go_num, by go_num, Keeps.set (Keeps.set hkr hblk (by simp) hg _ _) (block_set hblk _) (by simp) hg _ _, SameShape.set (SameShape.set hsh hblk _ _) (block_set hblk _) _ _, (hor.set ⟨hg, hh⟩ _).set ⟨hg, hh⟩ _⟩
      case measure => simp [intOf]; omega
    · go_wp2
      go_ret
      exact ⟨ret_int (by omega), hkr, hsh, hor⟩

set_option maxHeartbeats 400000 in
theorem markFuncS_w (lo hi g cap : Nat) (fs : List Fn) (k0 : Int) (w : World) (hn : fs.length ≤ 1048576) (hc : ∀ f ∈ fs, f.code.length ≤ 1048576) (h0 : 0 ≤ k0) (h1 : k0 ≤ 10000000) (hg : lo ≤ g) (hh : g < hi) (hblk0 : FnH w lo hi g fs) :
    Calls Tryz.prog 38 #[.slice (some ⟨g, 0, none⟩) fs.length cap, .int .i64 k0] w fun e w' => ∃ r : Int, e = .returned (.int .i64 r) ∧ 0 ≤ r ∧ r ≤ 10000000000000 ∧ Keeps lo [156, 97] w w' ∧ Only (Rng lo hi) w w' := by
  obtain ⟨cur0, hb0, hsz0, hcode0⟩ := hblk0
  go_enter Tryz.func38, Tryz.ntmps38
  go_wp2
  go_loopw [1, 5] (fun q i wr => ∃ (k : Nat) (r : Int) (cur : Array Value), k ≤ fs.length ∧ i = .int .i64 k ∧ q = .int .i64 r ∧ 0 ≤ r ∧ r ≤ k0 + k * 3000000 ∧ wr.heap[g]? = some (.cells cur 97 (0, 0)) ∧ cur.size = fs.length * 3 ∧ (∀ j, j < fs.length → cur[j * 3 + 2]? = cur0[j * 3 + 2]?) ∧ Keeps lo [156, 97] w wr ∧ SameShape w wr ∧ Only (Rng lo hi) w wr) (fun _ i _ => fs.length - (intOf i).toNat)
  case atStart => exact ⟨0, k0, cur0, by omega, rfl, rfl, h0, by omega, hb0, hsz0, fun _ _ => rfl, Keeps.refl _ _ _, SameShape.refl _, Only.refl _ _⟩
  case round =>
    obtain ⟨k, r, cur, hk, rfl, rfl, hr0, hr1, hblk, hsz, hsame, hkr, hsh, hor⟩ := hrel
    by_cases hlt : k < fs.length
    · have hfz := block_free hblk
      have hcl : wr.cell? ⟨g, k * 3, none⟩ = some cur[k * 3] := by rw [block_cell hblk]; simp
      have hcl2 : wr.cell? ⟨g, k * 3 + 1, none⟩ = some cur[k * 3 + 1] := by rw [block_cell hblk]; simp
      obtain ⟨gc, hgc, hgl, hgh, hcb⟩ := hcode0 k hlt
      have hcl3 : wr.cell? ⟨g, k * 3 + 2, none⟩ = some (.slice (some ⟨gc, 0, none⟩) fs[k].code.length fs[k].code.length) := by rw [block_cell hblk, hsame k hlt, hgc]
      have hck := hc fs[k] (List.getElem_mem hlt)
      have hr2 : r ≤ 10000000 + 1048576 * 3000000 := by omega
      go_wp2_with fail
      have hk1 : Keeps lo [156, 97] w ((wr.setCell ⟨g, k * 3, none⟩ (.int .i64 r)).setCell ⟨g, k * 3 + 1, none⟩ (.int .i64 (r + 1))) := Keeps.set (Keeps.set hkr hblk (by simp) hg _ _) (block_set hblk _) (by simp) hg _ _
      have hs1 : SameShape w ((wr.setCell ⟨g, k * 3, none⟩ (.int .i64 r)).setCell ⟨g, k * 3 + 1, none⟩ (.int .i64 (r + 1))) := SameShape.set (SameShape.set hsh hblk _ _) (block_set hblk _) _ _
      have hblk1 := block_set (i := k * 3 + 1) (block_set (i := k * 3) hblk (.int .i64 r)) (.int .i64 (r + 1))
      refine (markInsS_w lo hi gc fs[k].code.length _ (r + 1 + 1) _ hck (by omega) (by omega) hgl hgh (hcb.shape hs1)).mono ?_
      rintro e w2 ⟨rfl, hk2, hs2, ho2⟩
      have ho3 : Only (Rng lo hi) w w2 := ((hor.set ⟨hg, hh⟩ _).set ⟨hg, hh⟩ _).trans ho2
      have hblk2 := hk2.cell hblk1 (by simp)
      have hk3 : Keeps lo [156, 97] w w2 := hk1.trans (hk2.mono (Nat.le_refl _) (by simp))
      have hs3 : SameShape w w2 := hs1.trans hs2
      clear hfz hcl hcl2 hcl3 hblk hkr hsh hk1 hs1 hblk1 hk2 hs2 hor ho2
      go_wp2
      go_roundw
      case rel =>
        refine ⟨k + 1, _, _, by omega, by go_num, rfl, by omega, by omega, hblk2, by simpa using hsz, fun j hj => ?_, hk3, hs3, ho3⟩
        rw [set_else _ (by omega), set_else _ (by omega)]
        exact hsame j hj
      case measure => simp [intOf]; omega
    · go_wp2
      go_ret
      exact ⟨r, rfl, hr0, by omega, hkr, hor⟩

set_option maxHeartbeats 400000 in
theorem markModule_w (lo hi g g2 c1 c2 : Nat) (ts : List ByteArray) (fs : List Fn) (w : World) (hs : Small ts fs) (hg : lo ≤ g) (hg2 : lo ≤ g2) (hh : g < hi) (hh2 : g2 < hi) (ht : TextBlk w g ts.length) (hf : FnH w lo hi g2 fs) :
    Calls Tryz.prog 13 #[.agg #[.slice (some ⟨g, 0, none⟩) ts.length c1, .slice (some ⟨g2, 0, none⟩) fs.length c2], .int .i64 1] w fun e w' => ∃ r : Int, e = .returned (.int .i64 r) ∧ 0 ≤ r ∧ r ≤ 10000000000000 ∧ Keeps lo [9, 156, 97] w w' ∧ Only (Rng lo hi) w w' := by
  have s1 := hs.texts
  go_enter Tryz.func13, Tryz.ntmps13
  go_wp2_with fail
  have hbA : Below w.heap.size w (w.alloc (.cells #[.slice (some ⟨g, 0, none⟩) ts.length c1, .slice (some ⟨g2, 0, none⟩) fs.length c2] 42)) := (Below.refl _ _).alloc (Nat.le_refl _) _
  have hM := block_new w #[.slice (some ⟨g, 0, none⟩) ts.length c1, .slice (some ⟨g2, 0, none⟩) fs.length c2] 42
  refine (markStringS_w lo hi g ts.length _ 1 _ hs.texts (by omega) (by omega) hg hh (ht.mono hbA)).mono ?_
  rintro e w1 ⟨rfl, hk1, hs1, ho1⟩
  have ho2 : Only (Rng lo hi) w w1 := (Only.of hbA).trans ho1
  have hM1 := hk1.cell hM (by simp)
  have x1 := block_cell hM1
  have hf1 : FnH w1 lo hi g2 fs := by
    obtain ⟨c, q1, q2, q3⟩ := hf.mono hbA
    refine ⟨c, hk1.cell q1 (by simp), q2, fun j hj => ?_⟩
    obtain ⟨gc, a, b, b2, d⟩ := q3 j hj
    exact ⟨gc, a, b, b2, d.shape hs1⟩
  have hk2 : Keeps lo [9, 156, 97] w w1 := (Keeps.below hbA).trans (hk1.mono (Nat.le_refl _) (by simp))
  clear hM hbA ho1
  go_wp2_with fail
  refine (markFuncS_w lo hi g2 _ fs (1 + ts.length) _ hs.funcs hs.code (by omega) (by omega) hg2 hh2 hf1).mono ?_
  rintro e w2 ⟨r, rfl, hr, hrm, hk3, ho3⟩
  go_wp2
  go_ret
  exact ⟨r, rfl, hr, hrm, hk2.trans (hk3.mono (Nat.le_refl _) (by simp)), ho2.trans ho3⟩
end Go.Proofs.YtcfbahaokmhbkaaGreat

namespace Go.Proofs.YtcfbahaokmhbkaaGreat
open Go.RowKit

/-- Every block from lo on is as it was. -/
def Kept (lo : Nat) (w w' : World) : Prop := ∀ k o, lo ≤ k → w.heap[k]? = some o → w'.heap[k]? = some o
theorem Kept.of {lo : Nat} {w w' : World} (h : Below w.heap.size w w') : Kept lo w w' := fun _ _ _ ho => by rw [h.block _ (lt_block ho)]; exact ho
theorem Kept.only {lo l hi : Nat} {w w' : World} (h : Only (Rng l hi) w w') (hl : hi ≤ lo) : Kept lo w w' := fun _ _ hk ho => h.kept ho (fun e => by have := e.2; omega)
theorem ValsBlk.kept {w w' : World} {lo g n : Nat} (h : ValsBlk w g n) (hk : Kept lo w w') (hg : lo ≤ g) : ValsBlk w' g n := by
  obtain ⟨c, h1, h2⟩ := h
  exact ⟨c, hk _ _ hg h1, h2⟩
/-- A state in blocks between two places. -/
structure XS (w : World) (lo hi F R g : Nat) (d : VmD) : Prop where
  f : FSh w lo hi F d.frames
  r : RSh w lo hi R d.heap
  o : TextBlk w g d.out.length
  lf : lo ≤ F
  lr : lo ≤ R
  lg : lo ≤ g
  hf : F < hi
  hg : g < hi
theorem VmB.xs {w : World} {lo g g2 g3 : Nat} {d : VmD} (h : VmB w lo (some ⟨g, 0, none⟩) (some ⟨g2, 0, none⟩) (some ⟨g3, 0, none⟩) d) : XS w lo w.heap.size g g2 g3 d := by
  obtain ⟨F, e1, lf, hf, sf⟩ := h.frs.sh
  obtain ⟨R, e2, lr, sr⟩ := h.recs.sh
  obtain ⟨-, O, e3, lo3, so⟩ := h.out
  cases e1
  cases e2
  cases e3
  exact ⟨sf, sr, so, lf, lr, lo3, hf, by obtain ⟨c, hc, -⟩ := so; exact lt_block hc⟩
theorem XS.kept {w w' : World} {lo hi F R g : Nat} {d : VmD} (h : XS w lo hi F R g d) (hk : Kept lo w w') : XS w' lo hi F R g d := by
  obtain ⟨⟨c1, a1, a2, a3⟩, ⟨c2, b1, b2, b3⟩, ⟨c3, d1, d2⟩, lf, lr, lg, hf, hg⟩ := h
  refine ⟨⟨c1, hk _ _ lf a1, a2, fun j hj => ?_⟩, ⟨c2, hk _ _ lr b1, b2, fun j hj => ?_⟩, ⟨c3, hk _ _ lg d1, d2⟩, lf, lr, lg, hf, hg⟩
  · obtain ⟨x, y, q1, q2, q3, q4, q5, q6⟩ := a3 j hj
    exact ⟨x, y, q1, q2, q3, q4, q5.kept hk q3.1, q6.kept hk q4.1⟩
  · obtain ⟨x, q1, q2, q3⟩ := b3 j hj
    exact ⟨x, q1, q2, q3.kept hk q2.1⟩

theorem XS.mono {w w' : World} {lo hi F R g : Nat} {d : VmD} (h : XS w lo hi F R g d) (hb : Below w.heap.size w w') : XS w' lo hi F R g d := h.kept (Kept.of hb)
theorem Kept.up {lo lo' : Nat} {w w' : World} (h : Kept lo w w') (hl : lo ≤ lo') : Kept lo' w w' := fun k o hk ho => h k o (Nat.le_trans hl hk) ho

section
variable {ts : List ByteArray} {fs : List Fn} {x : VmD}
/-- What the document's Canon answers. -/
def SR (ts : List ByteArray) (fs : List Fn) (x : VmD) (w : World) (lo : Nat) (C : Array Value) : Prop :=
  (¬ VmGood ts fs x ∧ C = #[.slice none 0 0, .slice none 0 0, .int .i64 0, .slice none 0 0, .int .i64 0, .int .i64 0, .int .i64 0, .int .i64 0, .string ⟨#[]⟩, .int .i64 0]) ∨
  (VmGood ts fs x ∧ ∃ xa xc ya yc za zc, C = vmCells xa ya za xc yc zc (canonD x) ∧ VmAt w lo xa ya za (canonD x))
/-- What the program's Canon answers. -/
def IR (ts : List ByteArray) (fs : List Fn) (x : VmD) (w : World) (lo : Nat) (C : Array Value) : Prop :=
  (¬ VmGood ts fs x ∧ C = #[.slice none 0 0, .slice none 0 0, .int .i64 0, .slice none 0 0, .int .i64 0, .int .i64 0, .int .i64 0, .int .i64 0, .string ⟨#[]⟩, .int .i64 0]) ∨
  (VmGood ts fs x ∧ ∃ F xa xc O la sa rb, C = vmCells (some ⟨F, 0, none⟩) xa (some ⟨O, 0, none⟩) x.frames.length xc x.out.length (canonD x) ∧ CanIs w lo F xa xc O la sa rb (canonD x))
/-- The same, marked. -/
def MK (ts : List ByteArray) (fs : List Fn) (x : VmD) (w : World) (C : Array Value) (m : Nat) : Prop :=
  (¬ VmGood ts fs x ∧ C = #[.slice none 0 0, .slice none 0 0, .int .i64 0, .slice none 0 0, .int .i64 0, .int .i64 0, .int .i64 0, .int .i64 0, .string ⟨#[]⟩, .int .i64 0] ∧ m = 1) ∨
  (VmGood ts fs x ∧ ∃ F xa xc O la sa rb, C = vmCells (some ⟨F, 0, none⟩) xa (some ⟨O, 0, none⟩) x.frames.length xc x.out.length (canonD x) ∧ VMk w F xa O la sa rb (canonD x) 1 ∧ m = 1 + fsz (canonD x).frames + rsz (canonD x).heap + (canonD x).out.length)
theorem SR.mono {w w' : World} {lo : Nat} {C : Array Value} (h : SR ts fs x w lo C) (hb : Below w.heap.size w w') : SR ts fs x w' lo C := by
  rcases h with h | ⟨h, xa, xc, ya, yc, za, zc, e, hv⟩
  · exact .inl h
  · exact .inr ⟨h, xa, xc, ya, yc, za, zc, e, hv.mono hb⟩
theorem IR.kept {w w' : World} {lo : Nat} {C : Array Value} (h : IR ts fs x w lo C) (hk : Kept lo w w') : IR ts fs x w' lo C := by
  rcases h with h | ⟨h, F, xa, xc, O, la, sa, rb, e, hv⟩
  · exact .inl h
  · exact .inr ⟨h, F, xa, xc, O, la, sa, rb, e, hv.kept fun k c t _ hb ho => hk _ _ hb ho⟩
theorem IR.mono {w w' : World} {lo : Nat} {C : Array Value} (h : IR ts fs x w lo C) (hb : Below w.heap.size w w') : IR ts fs x w' lo C := h.kept (Kept.of hb)
theorem IR.sr {w : World} {lo : Nat} {C : Array Value} (h : IR ts fs x w lo C) : SR ts fs x w lo C := by
  rcases h with h | ⟨h, F, xa, xc, O, la, sa, rb, e, hv⟩
  · exact .inl h
  · exact .inr ⟨h, _, _, _, _, _, _, e, hv.at⟩
theorem MK.mono {w w' : World} {C : Array Value} {m : Nat} (h : MK ts fs x w C m) (hb : Below w.heap.size w w') : MK ts fs x w' C m := by
  rcases h with h | ⟨h, F, xa, xc, O, la, sa, rb, e, hv, hm⟩
  · exact .inl h
  · exact .inr ⟨h, F, xa, xc, O, la, sa, rb, e, hv.mono hb, hm⟩

theorem put10_above {lo V : Nat} {w : World} (hV : V < lo) (a0 a1 a2 a3 a4 a5 a6 a7 a8 a9 : Value) : Above lo w (put10 w V a0 a1 a2 a3 a4 a5 a6 a7 a8 a9) := by
  unfold put10
  iterate 10 (refine Above.setCell ?_ hV _)
  exact Above.refl _ _
theorem SR.put {w : World} {lo V : Nat} {C : Array Value} (h : SR ts fs x w lo C) (hV : V < lo) (a0 a1 a2 a3 a4 a5 a6 a7 a8 a9 : Value) : SR ts fs x (put10 w V a0 a1 a2 a3 a4 a5 a6 a7 a8 a9) lo C := by
  rcases h with h | ⟨h, xa, xc, ya, yc, za, zc, e, hv⟩
  · exact .inl h
  · have ha := put10_above (w := w) hV a0 a1 a2 a3 a4 a5 a6 a7 a8 a9
    exact .inr ⟨h, xa, xc, ya, yc, za, zc, e, hv.frs.above ha, hv.recs.above ha, hv.out.above ha⟩
theorem lift_new {w w' : World} {C : Array Value} {t : TypeId} (kd : Below (w.alloc (.cells C t)).heap.size (w.alloc (.cells C t)) w') : w'.heap[w.heap.size]? = some (.cells C t (0, 0)) ∧ w.heap.size < (w.alloc (.cells C t)).heap.size := ⟨block_kept (block_new _ _ _) kd, by simp⟩
theorem lift_drew {w w' : World} {C : Array Value} {t : TypeId} (kd : Below (w.alloc (.cells C t)).drew.heap.size (w.alloc (.cells C t)).drew w') : w'.heap[w.heap.size]? = some (.cells C t (0, 0)) ∧ w.heap.size < (w.alloc (.cells C t)).drew.heap.size := ⟨block_kept (w := (w.alloc (.cells C t)).drew) (block_new w C t) kd, by simp⟩

theorem sC (a1 a2 : Option Addr) (c1 c2 : Nat) (fa ha oa : Option Addr) (fc hc oc : Nat) (w : World) (hsm : Small ts fs) (hst : StrsAt w 0 a1 ts) (hfn : FnsAt w 0 a2 fs) (hxx : VmSmall x) (hm1 : VmAt w 0 fa ha oa x) :
    Calls Tryz.prog 7 #[.agg #[.slice a1 ts.length c1, .slice a2 fs.length c2], .agg (vmCells fa ha oa fc hc oc x)] w fun e w' => ∃ A0 n0 k0 A1 n1 k1 i2 A3 n3 k3 i4 i5 i6 i7 s8 i9, e = .returned (.agg #[.slice A0 n0 k0, .slice A1 n1 k1, .int .i64 i2, .slice A3 n3 k3, .int .i64 i4, .int .i64 i5, .int .i64 i6, .int .i64 i7, .string s8, .int .i64 i9]) ∧ SR ts fs x w' w.heap.size #[.slice A0 n0 k0, .slice A1 n1 k1, .int .i64 i2, .slice A3 n3 k3, .int .i64 i4, .int .i64 i5, .int .i64 i6, .int .i64 i7, .string s8, .int .i64 i9] ∧ Below w.heap.size w w' := by
  refine (sCanonF_any a1 a2 c1 c2 ts fs x fa ha oa fc hc oc w hsm hst hfn hxx hm1).mono ?_
  rintro e w' (⟨hg, rfl, hb⟩ | ⟨hg, xa, xc, ya, yc, za, zc, rfl, hv, hb⟩)
  · exact ⟨_, _, _, _, _, _, _, _, _, _, _, _, _, _, _, _, rfl, .inl ⟨hg, rfl⟩, hb⟩
  · exact ⟨_, _, _, _, _, _, _, _, _, _, _, _, _, _, _, _, rfl, .inr ⟨hg, xa, xc, ya, yc, za, zc, rfl, hv⟩, hb⟩
theorem iC (a1 a2 : Option Addr) (c1 c2 : Nat) (fa ha oa : Option Addr) (fc hc oc : Nat) (w : World) (hsm : Small ts fs) (hst : StrsAt w 0 a1 ts) (hfn : FnsAt w 0 a2 fs) (hxx : VmSmall x) (hm1 : VmAt w 0 fa ha oa x) :
    Calls Tryz.prog 10 #[.agg #[.slice a1 ts.length c1, .slice a2 fs.length c2], .agg (vmCells fa ha oa fc hc oc x)] w fun e w' => ∃ A0 n0 k0 A1 n1 k1 i2 A3 n3 k3 i4 i5 i6 i7 s8 i9, e = .returned (.agg #[.slice A0 n0 k0, .slice A1 n1 k1, .int .i64 i2, .slice A3 n3 k3, .int .i64 i4, .int .i64 i5, .int .i64 i6, .int .i64 i7, .string s8, .int .i64 i9]) ∧ IR ts fs x w' w.heap.size #[.slice A0 n0 k0, .slice A1 n1 k1, .int .i64 i2, .slice A3 n3 k3, .int .i64 i4, .int .i64 i5, .int .i64 i6, .int .i64 i7, .string s8, .int .i64 i9] ∧ Below w.heap.size w w' := by
  refine (iCanon_any a1 a2 c1 c2 ts fs x fa ha oa fc hc oc w hsm hst hfn hxx hm1).mono ?_
  rintro e w' (⟨hg, rfl, hb⟩ | ⟨hg, F, xa, xc, O, la, sa, rb, rfl, hv, hb⟩)
  · exact ⟨_, _, _, _, _, _, _, _, _, _, _, _, _, _, _, _, rfl, .inl ⟨hg, rfl⟩, hb⟩
  · exact ⟨_, _, _, _, _, _, _, _, _, _, _, _, _, _, _, _, rfl, .inr ⟨hg, F, xa, xc, O, la, sa, rb, rfl, hv⟩, hb⟩

theorem eq_zero (w : World) : Calls Tryz.prog 11 #[.agg #[.slice none 0 0, .slice none 0 0, .int .i64 0, .slice none 0 0, .int .i64 0, .int .i64 0, .int .i64 0, .int .i64 0, .string ⟨#[]⟩, .int .i64 0], .agg #[.slice none 0 0, .slice none 0 0, .int .i64 0, .slice none 0 0, .int .i64 0, .int .i64 0, .int .i64 0, .int .i64 0, .string ⟨#[]⟩, .int .i64 0]] w fun e w' => e = .returned (.bool true) ∧ Below w.heap.size w w' :=
  eqVm_any none none none none none none 0 0 0 0 0 0 ⟨[], [], 0, [], 0, 0, nilV, 0⟩ w ⟨by simp, by simp, by simp, by simp, by simp, by simp, by simp, by decide⟩ ⟨fun _ h => absurd h (Nat.not_lt_zero _), fun _ h => absurd h (Nat.not_lt_zero _), fun _ h => absurd h (Nat.not_lt_zero _)⟩ ⟨fun _ h => absurd h (Nat.not_lt_zero _), fun _ h => absurd h (Nat.not_lt_zero _), fun _ h => absurd h (Nat.not_lt_zero _)⟩

theorem eqC {w : World} {lo lo2 : Nat} {C D : Array Value} (hx : VmSmall x) (h1 : SR ts fs x w lo C) (h2 : SR ts fs x w lo2 D) : Calls Tryz.prog 11 #[.agg C, .agg D] w fun e w' => e = .returned (.bool true) ∧ Below w.heap.size w w' := by
  rcases h1 with ⟨g1, rfl⟩ | ⟨g1, xa, xc, ya, yc, za, zc, rfl, hv⟩
  · rcases h2 with ⟨-, rfl⟩ | ⟨g2, -⟩
    · exact eq_zero w
    · exact absurd g2 g1
  · rcases h2 with ⟨g2, -⟩ | ⟨-, xb, xd, yb, yd, zb, zd, rfl, hu⟩
    · exact absurd g1 g2
    · exact eqVm_any _ _ _ _ _ _ _ _ _ _ _ _ _ w hx.canon (hv.low (Nat.zero_le _)) (hu.low (Nat.zero_le _))

theorem markC {w : World} {lo : Nat} {C : Array Value} (hx : VmSmall x) (h : IR ts fs x w lo C) :
    Calls Tryz.prog 14 #[.agg C, .int .i64 1] w fun e w' => ∃ m : Nat, e = .returned (.int .i64 (m : Int)) ∧ MK ts fs x w' C m ∧ (lo ≤ w.heap.size → Below lo w w') ∧ (∀ (k : Nat) (c : Array Value), w.heap[k]? = some (Obj.cells c 38 (0, 0)) → w'.heap[k]? = some (Obj.cells c 38 (0, 0))) := by
  rcases h with ⟨hg, rfl⟩ | ⟨hg, F, xa, xc, O, la, sa, rb, rfl, hv⟩
  · refine (markVm_zero w).mono ?_
    rintro e w' ⟨rfl, hb⟩
    exact ⟨1, rfl, .inl ⟨hg, rfl, rfl⟩, fun hl => hb.mono hl, fun k c ho => block_kept ho hb⟩
  · refine (markVm_is lo F xa O _ xc _ la sa rb (canonD x) 1 w hx.canon (by omega) (by omega) hv).mono ?_
    rintro e w' ⟨rfl, ho, hm⟩
    refine ⟨_, rfl, .inr ⟨hg, F, xa, xc, O, la, sa, rb, rfl, hm, rfl⟩, fun hl => ?_, fun k c hk => ?_⟩
    · refine ho.below lo (fun k hk => ?_) hl
      rcases hk with rfl | ⟨i, hi, rfl | rfl⟩ | ⟨i, hi, rfl⟩ | rfl
      · exact hv.bf
      · exact hv.fv.lob i hi
      · exact hv.fv.sob i hi
      · exact hv.hv.rob i hi
      · exact hv.bo
    · refine ho.kept hk (fun hO => ?_)
      rcases hO with rfl | ⟨i, hi, rfl | rfl⟩ | ⟨i, hi, rfl⟩ | rfl
      · obtain ⟨c', q, -⟩ := hv.fc
        rw [hk] at q; cases q
      · have q : w.heap[la i]? = some (.cells _ 36 (0, 0)) := hv.fv.loc i hi hi
        rw [hk] at q; cases q
      · have q : w.heap[sa i]? = some (.cells _ 36 (0, 0)) := hv.fv.stk i hi hi
        rw [hk] at q; cases q
      · have q : w.heap[rb i]? = some (.cells _ 36 (0, 0)) := hv.hv.fld i hi hi
        rw [hk] at q; cases q
      · obtain ⟨c', q, -⟩ := hv.oc
        rw [hk] at q; cases q
theorem heldC {w : World} {C : Array Value} {m : Nat} (hx : VmSmall x) (h : MK ts fs x w C m) : Calls Tryz.prog 15 #[.agg C, .int .i64 1] w fun e w' => e = .returned (.int .i64 (m : Int)) ∧ Below w.heap.size w w' := by
  rcases h with ⟨-, rfl, rfl⟩ | ⟨-, F, xa, xc, O, la, sa, rb, rfl, hv, rfl⟩
  · exact heldVm_zero w
  · exact heldVm_is F xa O _ xc _ la sa rb (canonD x) 1 w hx.canon (by omega) (by omega) hv
end
end Go.Proofs.YtcfbahaokmhbkaaGreat
