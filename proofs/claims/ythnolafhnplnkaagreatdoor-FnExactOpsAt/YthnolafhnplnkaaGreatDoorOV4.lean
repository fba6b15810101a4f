/-
siteOk: whether a site may have been watched in runs of a module.
A drawn region whose operations read, and whose callees may make new memory besides, is walked once, in the order of the text.
ascending, of sites and of guesses: each is ahead of the next.
sitesOk: each site of a list may have been watched, and each is ahead of the next.
Guesses and plans: what the laws' sizing, copying and comparing functions return of them (a guess has four numbers, as a site has).
guessAt: the one guess that an instruction allows.
-/
import Derived.Test.YthnolafhnplnkaaGreatDoorOV3
import Derived.Test.YthnolafhnplnkaaGreatDoorOV2
import Derived.Deep.Quiet
import Derived.Deep.CutRange
set_option maxRecDepth 100000
namespace Go.Proofs.YthnolafhnplnkaaGreatDoor
open Go.RowKit
section
open Classical
noncomputable def pB (P : Prop) : Bool := decide P
theorem pB_yes {P : Prop} (h : P) : pB P = true := by simpa [pB] using h
theorem pB_no {P : Prop} (h : ¬ P) : pB P = false := by simpa [pB] using h
end
theorem numberOp_yes {op : Int} (h : 11 ≤ op ∧ op ≤ 14) (w : World) : Calls Tryz.prog 170 #[.int .i64 op] w fun e w' => e = .returned (.bool true) ∧ w' = w := by
 have := numberOp_any op w
 rwa [decide_eq_true h] at this
theorem numberOp_no {op : Int} (h : ¬ (11 ≤ op ∧ op ≤ 14)) (w : World) : Calls Tryz.prog 170 #[.int .i64 op] w fun e w' => e = .returned (.bool false) ∧ w' = w := by
 have := numberOp_any op w
 rwa [decide_eq_false h] at this
theorem block_new_drew (w : World) (C : Array Value) (t : TypeId) : (w.alloc (.cells C t)).drew.heap[w.heap.size]? = some (.cells C t (0, 0)) := block_kept (block_new w C t) (Below.refl _ _).drew
theorem stored4 {w : World} {g : Nat} {a b c d x y z u : Value} {t : TypeId} (h : w.heap[g]? = some (.cells #[a, b, c, d] t (0, 0))) : ((((w.setCell ⟨g, 0, none⟩ x).setCell ⟨g, 1, none⟩ y).setCell ⟨g, 2, none⟩ z).setCell ⟨g, 3, none⟩ u).heap[g]? = some (.cells #[x, y, z, u] t (0, 0)) := by
 simpa using block_set (i := 3) (block_set (i := 2) (block_set (i := 1) (block_set (i := 0) h x) y) z) u
section
variable {P : Program} {ops : Array Oper} {C : World → Prop} {Q : Act → Prop} {a : Act} {o : Oper} {rest : List Oper}
theorem q_want {v : Value} (hw : Region.wanted o (yielded ops a.tmps) = true) (hv : ∀ w, C w → Oper.quietUpon P C w v ((execOp a.eval o).run P w)) (h : wpQuiet P ops C Q rest (a.put o.dst v)) : wpQuiet P ops C Q (o :: rest) a := by
 unfold wpQuiet
 rw [if_pos hw]
 exact ⟨v, hv, h⟩
end
theorem wp_below {P : Program} {id : Nat} {Q : Exit → Act → World → Prop} {a : Act} {w : World} {l : List Oper} (hm : P.follows .mixedOrders = true) (hB : Region.lexB .any l.toArray = true)
  (h : wpQuiet P l.toArray (fun w' => Below w.heap.size w w') (fun a' => ∀ w', Below w.heap.size w w' → Q .normal a' w') l a) : (Code.region id l.toArray true).wp P Q a w :=
 wp_region_quiet (C := fun w' => Below w.heap.size w w') hm hB (Below.refl _ _).drew (by simpa using h)
def AscI (ss : List Si) : Prop := ∀ i (h : i < ss.length), 0 < i → SiteLess ss[i - 1] ss[i]
set_option maxHeartbeats 400000 in
theorem guessed_any (f p s t : Int) (w : World) :
  Calls Tryz.prog 163 #[.agg #[.int .i64 f, .int .i64 p, .int .i64 s, .int .i64 t]] w fun e w' => e = .returned (.agg #[.int .i64 f, .int .i64 p]) ∧ Below w.heap.size w w' := by
 go_enter Tryz.func163, Tryz.ntmps163
 go_wp2
 refine bodyPost_ret (v := .agg #[.int .i64 f, .int .i64 p]) (by simp [results, Tryz.results163, go_sem]) rfl ⟨rfl, ?_⟩
 repeat (first | refine Below.setCell ?_ (by first | omega | (simp; omega) | simp) _ | refine Below.alloc ?_ (by first | omega | (simp; omega) | simp) _ | exact Below.refl _ _)
set_option maxHeartbeats 2000000 in
theorem ascSpecs_any (a : Option Addr) (ss : List Si) (cap : Nat) (w : World) (hn : ss.length ≤ 1048576) (hs : SitesAt w 0 a ss) :
  Calls Tryz.prog 164 #[.slice a ss.length cap, .func (.func 163) #[] #[]] w fun e w' => e = .returned (.bool (pB (AscI ss))) ∧ Below w.heap.size w w' := by
 go_enter Tryz.func164, Tryz.ntmps164
 go_wp2
 go_loopw [5] (fun i wr => ∃ (k : Nat), 1 ≤ k ∧ (k ≤ ss.length ∨ k = 1) ∧ i = .int .i64 k ∧ Hid (∀ j (hj : j < ss.length), j < k → 0 < j → SiteLess ss[j - 1] ss[j]) ∧ Below w.heap.size w wr) (fun i _ => ss.length + 1 - (intOf i).toNat)
 case atStart => exact ⟨1, by omega, by omega, rfl, fun j _ h1 h2 => absurd h1 (by omega), Below.refl _ _⟩
 case round =>
  obtain ⟨k, hk1, hk, rfl, hdone, hb⟩ := hrel
  by_cases hlt : k < ss.length
  case neg =>
   have HD : Hid (AscI ss) := fun j hj h0 => hdone.out j hj (by omega) h0
   clear hdone
   go_wp2
   go_ret
   exact ⟨ret_bool (pB_yes HD.out).symm, hb⟩
  case pos =>
   obtain ⟨j, rfl⟩ : ∃ j, k = j + 1 := ⟨k - 1, by omega⟩
   have hj1 : j < ss.length := by omega
   obtain ⟨b, off, rfl, -, d1, d2, d3, d4⟩ := hs (j + 1) hlt
   obtain ⟨b', off', hbe, -, e1, e2, e3, e4⟩ := hs j hj1
   cases hbe
   have HF : Hid (∀ w', Below wr.heap.size wr w' → w'.cell? ⟨b, off + (j + 1) * 4, none⟩ = some (.int .i64 ss[j + 1].f) ∧ w'.cell? ⟨b, off + (j + 1) * 4 + 1, none⟩ = some (.int .i64 ss[j + 1].pc) ∧ w'.cell? ⟨b, off + (j + 1) * 4 + 2, none⟩ = some (.int .i64 ss[j + 1].seen) ∧ w'.cell? ⟨b, off + (j + 1) * 4 + 3, none⟩ = some (.int .i64 ss[j + 1].target)) := fun w' q =>
    ⟨cell_later q (cell_later hb d1), cell_later q (cell_later hb d2), cell_later q (cell_later hb d3), cell_later q (cell_later hb d4)⟩
   have HE : Hid (∀ w', Below wr.heap.size wr w' → w'.cell? ⟨b, off + j * 4, none⟩ = some (.int .i64 ss[j].f) ∧ w'.cell? ⟨b, off + j * 4 + 1, none⟩ = some (.int .i64 ss[j].pc) ∧ w'.cell? ⟨b, off + j * 4 + 2, none⟩ = some (.int .i64 ss[j].seen) ∧ w'.cell? ⟨b, off + j * 4 + 3, none⟩ = some (.int .i64 ss[j].target)) := fun w' q =>
    ⟨cell_later q (cell_later hb e1), cell_later q (cell_later hb e2), cell_later q (cell_later hb e3), cell_later q (cell_later hb e4)⟩
   clear d1 d2 d3 d4 e1 e2 e3 e4 hs
   have hC0 : 0 ≤ orI (cmpI ss[j].f ss[j + 1].f) (cmpI ss[j].pc ss[j + 1].pc) ↔ ¬ SiteLess ss[j] ss[j + 1] := cmp_less ss[j] ss[j + 1]
   obtain ⟨cr, hcr⟩ : ∃ cr, cr = orI (cmpI ss[j].f ss[j + 1].f) (cmpI ss[j].pc ss[j + 1].pc) := ⟨_, rfl⟩
   rw [← hcr] at hC0
   have HC0 : Hid (0 ≤ cr ↔ ¬ SiteLess ss[j] ss[j + 1]) := hC0
   have HCR : Hid (cr = orI (cmpI ss[j].f ss[j + 1].f) (cmpI ss[j].pc ss[j + 1].pc)) := hcr
   clear hC0 hcr
   go_upto_region 4 with fail
   refine wp_below (by kernel_rfl) (by kernel_rfl) ?_
   iterate 3
    refine q_want (v := ?_) (by kernel_rfl) ?_ ?_
    rotate_left
    ·
     intro w' hC
     obtain ⟨j0, j1, j2, j3⟩ := HE.out w' hC
     go_simp
     try with_reducible rfl
    try simp only [Act.put, sAr, sZe, sSu]
   refine q_want (v := .int .i64 (j : Int)) (by kernel_rfl) ?_ ?_
   ·
    intro w' hC
    go_simp
    (rw [IntKind.wrap_i64]; omega)
   try simp only [Act.put, sAr, sZe, sSu]
   have hj2 : (0 : Int) ≤ (j : Int) := by omega
   have hj3 : (j : Int) < (ss.length : Int) := by omega
   have hj4 : (0 : Int) ≤ (j : Int) + 1 := by omega
   have hj5 : (j : Int) + 1 < (ss.length : Int) := by omega
   have hj6 : ((j : Int) + 1).toNat = j + 1 := by omega
   iterate 2
    refine q_want (v := ?_) (by kernel_rfl) ?_ ?_
    rotate_left
    ·
     intro w' hC
     obtain ⟨j0, j1, j2, j3⟩ := HE.out w' hC
     go_simp
     try with_reducible rfl
    try simp only [Act.put, sAr, sZe, sSu]
   refine q_want (v := .agg #[.int .i64 ss[j].f, .int .i64 ss[j].pc]) (by kernel_rfl) ?_ ?_
   ·
    intro w' hC
    go_simp
    refine (guessed_any _ _ _ _ w').mono ?_
    rintro e w'' ⟨rfl, hb2⟩
    exact ⟨rfl, hC.trans (hb2.mono hC.size)⟩
   try simp only [Act.put, sAr, sZe, sSu]
   iterate 5
    refine q_want (v := ?_) (by kernel_rfl) ?_ ?_
    rotate_left
    ·
     intro w' hC
     obtain ⟨j0, j1, j2, j3⟩ := HF.out w' hC
     go_simp
     try with_reducible rfl
    try simp only [Act.put, sAr, sZe, sSu]
   refine q_want (v := .agg #[.int .i64 ss[j + 1].f, .int .i64 ss[j + 1].pc]) (by kernel_rfl) ?_ ?_
   ·
    intro w' hC
    go_simp
    refine (guessed_any _ _ _ _ w').mono ?_
    rintro e w'' ⟨rfl, hb2⟩
    exact ⟨rfl, hC.trans (hb2.mono hC.size)⟩
   try simp only [Act.put, sAr, sZe, sSu]
   refine q_want (v := .int .i64 cr) (by kernel_rfl) ?_ ?_
   ·
    intro w' hC
    go_simp
    refine (comparePlaces_any _ _ _ _ w').mono ?_
    rintro e w'' ⟨rfl, hb2⟩
    exact ⟨by rw [HCR.out], hC.trans (hb2.mono hC.size)⟩
   try simp only [Act.put, sAr, sZe, sSu]
   by_cases h0 : 0 ≤ cr
   ·
    have HX : Hid (¬ SiteLess ss[j] ss[j + 1]) := HC0.out.1 h0
    iterate 1
     refine q_want (v := ?_) (by kernel_rfl) ?_ ?_
     rotate_left
     ·
      intro w' hC
      go_simp
      try with_reducible rfl
     try simp only [Act.put, sAr, sZe, sSu]
    refine wpQuiet_nil ?_
    intro w2 q2
    go_wp2
    go_ret
    exact ⟨ret_bool (pB_no (fun h => HX.out (by simpa using h (j + 1) hlt (by omega)))).symm, hb.trans (q2.mono hb.size)⟩
   ·
    have HX : Hid (SiteLess ss[j] ss[j + 1]) := Classical.byContradiction (fun h => h0 (HC0.out.2 h))
    iterate 1
     refine q_want (v := ?_) (by kernel_rfl) ?_ ?_
     rotate_left
     ·
      intro w' hC
      go_simp
      try with_reducible rfl
     try simp only [Act.put, sAr, sZe, sSu]
    refine wpQuiet_nil ?_
    intro w2 q2
    go_wp2
    go_roundw
    case rel =>
     refine ⟨j + 1 + 1, by omega, by omega, by go_num, ?_, hb.trans (q2.mono hb.size)⟩
     intro i hi h1 h2
     by_cases e : i = j + 1
     · subst e; exact HX.out
     · exact hdone.out i hi (by omega) h2
    case measure => simp [intOf]; omega
section
variable {a1 a2 : Option Addr} {nt c1 c2 : Nat} {fs : List Fn} {s : Si} {w : World}
end
set_option maxHeartbeats 400000 in
theorem toSpec_any (f p s t : Int) (w : World) :
  Calls Tryz.prog 67 #[.agg #[.int .i64 f, .int .i64 p, .int .i64 s, .int .i64 t]] w fun e w' => e = .returned (.agg #[.int .i64 f, .int .i64 p, .int .i64 s, .int .i64 t]) ∧ Below w.heap.size w w' := by
 go_enter Tryz.func67, Tryz.ntmps67
 go_wp2
 refine bodyPost_ret (v := .agg #[.int .i64 f, .int .i64 p, .int .i64 s, .int .i64 t]) (by simp [results, Tryz.results67, go_sem]) rfl ⟨rfl, ?_⟩
 exact (((Below.refl _ _).alloc (Nat.le_refl _) _).alloc (by simp) _).alloc (by simp; omega) _
set_option maxHeartbeats 400000 in
theorem eqSpec_same (f p s t : Int) (w : World) :
  Calls Tryz.prog 86 #[.agg #[.int .i64 f, .int .i64 p, .int .i64 s, .int .i64 t], .agg #[.int .i64 f, .int .i64 p, .int .i64 s, .int .i64 t]] w fun e w' => e = .returned (.bool true) ∧ Below w.heap.size w w' := by
 go_enter Tryz.func86, Tryz.ntmps86
 go_wp2
 go_ret
 exact ⟨rfl, ((Below.refl _ _).alloc (Nat.le_refl _) _).alloc (by simp) _⟩
theorem SitesAt.above {w w' : World} {lo : Nat} {a : Option Addr} {ss : List Si} (h : SitesAt w lo a ss) (hb : Above lo w w') : SitesAt w' lo a ss := by
 intro i hi
 obtain ⟨b, off, h1, h2, h3, h4, h5, h6⟩ := h i hi
 exact ⟨b, off, h1, h2, by rw [hb.cell h2]; exact h3, by rw [hb.cell h2]; exact h4, by rw [hb.cell h2]; exact h5, by rw [hb.cell h2]; exact h6⟩
def Takes (fs : List Fn) (t : Int) (n : Int) : Prop := 0 ≤ t ∧ ∃ (h : t.toNat < fs.length), fs[t.toNat].params = n
def guessD (fs : List Fn) (f p t : Int) (r : Option Si) : Prop :=
 (11 ≤ ((insD fs f p).getD (0, 0)).1 ∧ ((insD fs f p).getD (0, 0)).1 ≤ 14 ∧ r = some ⟨f, p, 1, 0⟩) ∨
 (((insD fs f p).getD (0, 0)).1 = 23 ∧ Takes fs t ((insD fs f p).getD (0, 0)).2 ∧ r = some ⟨f, p, 2, t⟩) ∨
 (¬ (11 ≤ ((insD fs f p).getD (0, 0)).1 ∧ ((insD fs f p).getD (0, 0)).1 ≤ 14) ∧ ¬ (((insD fs f p).getD (0, 0)).1 = 23 ∧ Takes fs t ((insD fs f p).getD (0, 0)).2) ∧ r = none)
theorem guessD_one {fs : List Fn} {f p t : Int} {r r' : Option Si} (h : guessD fs f p t r) (h' : guessD fs f p t r') : r = r' := by
 unfold guessD at h h'
 rcases h with ⟨x1, x2, x3⟩ | ⟨x1, x2, x3⟩ | ⟨x1, x2, x3⟩ <;> rcases h' with ⟨y1, y2, y3⟩ | ⟨y1, y2, y3⟩ | ⟨y1, y2, y3⟩ <;> first | (rw [x3, y3]; done) | (exfalso; omega) | (exfalso; exact y1 ⟨x1, x2⟩) | (exfalso; exact x1 ⟨y1, y2⟩) | (exfalso; exact y2 ⟨x1, x2⟩) | (exfalso; exact x2 ⟨y1, y2⟩)
def GuessP (fs : List Fn) (f p t : Int) (w : World) (e : Ending) (w' : World) : Prop := ∃ r, guessD fs f p t r ∧ e = .returned (.tuple #[.agg (r.getD ⟨0, 0, 0, 0⟩).cells, .bool r.isSome]) ∧ Below w.heap.size w w'
set_option maxHeartbeats 4000000 in
theorem guessAt_any (a1 a2 : Option Addr) (nt c1 c2 : Nat) (fs : List Fn) (f p t : Int) (w : World) (hc : ∀ f ∈ fs, f.code.length ≤ 1048576) (hm : FnsAt w 0 a2 fs) :
  Calls Tryz.prog 162 #[.agg #[.slice a1 nt c1, .slice a2 fs.length c2], .agg #[.int .i64 f, .int .i64 p], .int .i64 t] w (GuessP fs f p t w) := by
 obtain ⟨w0, hw0⟩ : ∃ w0, w0 = ((w.alloc (.cells #[.slice a1 nt c1, .slice a2 fs.length c2] 36)).alloc (.cells #[.int .i64 f, .int .i64 p] 64)).alloc (.cells #[.int .i64 0, .int .i64 0, .int .i64 0, .int .i64 0] 94) := ⟨_, rfl⟩
 have hB : Below w.heap.size w w0 := by rw [hw0]; exact (((Below.refl _ _).alloc (Nat.le_refl _) _).alloc (by simp) _).alloc (by simp; omega) _
 have hX : w0.heap[w.heap.size]? = some (.cells #[.slice a1 nt c1, .slice a2 fs.length c2] 36 (0, 0)) := by rw [hw0]; exact block_old (block_old (block_new _ _ _) _) _
 have hY : w0.heap[w.heap.size + 1]? = some (.cells #[.int .i64 f, .int .i64 p] 64 (0, 0)) := by rw [hw0]; exact block_old (by simpa using block_new (w.alloc (.cells #[.slice a1 nt c1, .slice a2 fs.length c2] 36)) #[.int .i64 f, .int .i64 p] 64) _
 have hR : w0.heap[w.heap.size + 1 + 1]? = some (.cells #[.int .i64 0, .int .i64 0, .int .i64 0, .int .i64 0] 94 (0, 0)) := by rw [hw0]; simpa using block_new ((w.alloc (.cells #[.slice a1 nt c1, .slice a2 fs.length c2] 36)).alloc (.cells #[.int .i64 f, .int .i64 p] 64)) #[.int .i64 0, .int .i64 0, .int .i64 0, .int .i64 0] 94
 obtain ⟨op, hop⟩ : ∃ op, op = ((insD fs f p).getD (0, 0)).1 := ⟨_, rfl⟩
 obtain ⟨ar, har⟩ : ∃ ar, ar = ((insD fs f p).getD (0, 0)).2 := ⟨_, rfl⟩
 have hI := insAt_any a1 a2 nt c1 c2 fs f p w0 hc (hm.mono hB)
 have HP : Hid (∀ e w', ((11 ≤ op ∧ op ≤ 14 → e = .returned (.tuple #[.agg #[.int .i64 f, .int .i64 p, .int .i64 1, .int .i64 0], .bool true])) ∧ (op = 23 ∧ Takes fs t ar → e = .returned (.tuple #[.agg #[.int .i64 f, .int .i64 p, .int .i64 2, .int .i64 t], .bool true])) ∧ (¬ (11 ≤ op ∧ op ≤ 14) → ¬ (op = 23 ∧ Takes fs t ar) → e = .returned (.tuple #[.agg #[.int .i64 0, .int .i64 0, .int .i64 0, .int .i64 0], .bool false])) ∧ Below w.heap.size w w') → GuessP fs f p t w e w') := by
  show ∀ e w', _ → _
  rintro e w' ⟨h1, h2, h3, h4⟩
  rw [hop] at h1
  rw [hop, har] at h2 h3
  by_cases x : 11 ≤ ((insD fs f p).getD (0, 0)).1 ∧ ((insD fs f p).getD (0, 0)).1 ≤ 14
  · exact ⟨_, .inl ⟨x.1, x.2, rfl⟩, h1 x, h4⟩
  ·
   by_cases y : ((insD fs f p).getD (0, 0)).1 = 23 ∧ Takes fs t ((insD fs f p).getD (0, 0)).2
   · exact ⟨_, .inr (.inl ⟨y.1, y.2, rfl⟩), h2 y, h4⟩
   · exact ⟨_, .inr (.inr ⟨x, y, rfl⟩), h3 x y, h4⟩
 rw [← hop, ← har] at hI
 clear hop har
 go_enter Tryz.func162, Tryz.ntmps162
 go_wp2_with fail
 rw [← hw0]
 clear hw0
 refine hI.mono ?_
 rintro e w1 ⟨rfl, hb1⟩
 clear hI
 have hb2 : Below w1.heap.size w1 (w1.alloc (.cells #[.int .i64 op, .int .i64 ar] 159)) := (Below.refl _ _).alloc (Nat.le_refl _) _
 have hV3 := block_new w1 #[.int .i64 op, .int .i64 ar] 159
 have hb3 := hb1.trans (hb2.mono hb1.size)
 have hX3 := block_kept hX hb3
 have hY3 := block_kept hY hb3
 have hR3 := block_kept hR hb3
 have HB3 : Hid (Below w.heap.size w (w1.alloc (.cells #[.int .i64 op, .int .i64 ar] 159))) := hB.trans (hb3.mono hB.size)
 have hm3 := hm.mono HB3.out
 have HZ1 : Hid (w0.heap.size ≤ w1.heap.size) := hb1.size
 obtain ⟨w3, hw3⟩ : ∃ w3, w3 = w1.alloc (.cells #[.int .i64 op, .int .i64 ar] 159) := ⟨_, rfl⟩
 rw [← hw3] at hV3 hX3 hY3 hR3 HB3 hm3
 have v1 := block_cell hV3
 have x1 := block_cell hX3
 have y1 := block_cell hY3
 have z1 := block_cell hR3
 have z2 := block_free hR3
 clear hb1 hb2 hb3 hX hY hR hB hV3 hX3 hY3 hm
 go_upto_region 2 with fail
 rw [← hw3]
 clear hw3
 by_cases h6 : 11 ≤ op ∧ op ≤ 14
 ·
  have H6 : Hid (11 ≤ op ∧ op ≤ 14) := h6
  have HN5 : Hid (op ≠ 23) := by show op ≠ 23; omega
  clear h6
  go_wp2_with (go_at_call 170; refine (numberOp_yes H6.out _).mono ?_; rintro e w' ⟨rfl, rfl⟩)
  refine bodyPost_ret (v := .tuple #[.agg #[.int .i64 f, .int .i64 p, .int .i64 1, .int .i64 0], .bool true]) (by simp [results, Tryz.results162, go_sem, z1]) rfl (HP.out _ _ ⟨fun _ => rfl, fun h => absurd h.1 HN5.out, fun h => absurd H6.out h, ?_⟩)
  repeat (first | refine Below.setCell ?_ (by first | omega | (simp; omega) | simp) _ | with_reducible exact HB3.out | exact below_draws HB3.out _)
 have H6 : Hid (¬ (11 ≤ op ∧ op ≤ 14)) := h6
 clear h6
 go_wp2_with (go_at_call 170; refine (numberOp_no H6.out _).mono ?_; rintro e w' ⟨rfl, rfl⟩)
 by_cases h5 : op = 23
 case neg =>
  have HNT : Hid (¬ (op = 23 ∧ Takes fs t ar)) := fun h => h5 h.1
  have k5 : (op == 23) = false := by simpa using h5
  go_big_quiet (fail)
  go_wp2
  refine bodyPost_ret (v := .tuple #[.agg #[.int .i64 0, .int .i64 0, .int .i64 0, .int .i64 0], .bool false]) (by simp [results, Tryz.results162, go_sem, z1]) rfl (HP.out _ _ ⟨fun h => absurd h H6.out, fun h => absurd h HNT.out, fun _ _ => rfl, ?_⟩)
  repeat (first | refine Below.setCell ?_ (by first | omega | (simp; omega) | simp) _ | with_reducible exact HB3.out | exact below_draws HB3.out _)
 subst h5
 by_cases h7 : 0 ≤ t
 case neg =>
  have HNT : Hid (¬ ((23 : Int) = 23 ∧ Takes fs t ar)) := fun h => h7 h.2.1
  go_big_quiet (fail)
  go_wp2
  refine bodyPost_ret (v := .tuple #[.agg #[.int .i64 0, .int .i64 0, .int .i64 0, .int .i64 0], .bool false]) (by simp [results, Tryz.results162, go_sem, z1]) rfl (HP.out _ _ ⟨fun h => absurd h H6.out, fun h => absurd h HNT.out, fun _ _ => rfl, ?_⟩)
  repeat (first | refine Below.setCell ?_ (by first | omega | (simp; omega) | simp) _ | with_reducible exact HB3.out | exact below_draws HB3.out _)
 obtain ⟨t, rfl⟩ : ∃ t' : Nat, t = t' := ⟨t.toNat, by omega⟩
 by_cases h8 : t < fs.length
 case neg =>
  have HNT : Hid (¬ ((23 : Int) = 23 ∧ Takes fs t ar)) := fun h => by obtain ⟨-, -, hf, -⟩ := h; simp at hf; omega
  have g1 : (0 : Int) ≤ (t : Int) := by omega
  have g2 : (fs.length : Int) ≤ (t : Int) := by omega
  go_big_quiet (fail)
  go_wp2
  refine bodyPost_ret (v := .tuple #[.agg #[.int .i64 0, .int .i64 0, .int .i64 0, .int .i64 0], .bool false]) (by simp [results, Tryz.results162, go_sem, z1]) rfl (HP.out _ _ ⟨fun h => absurd h H6.out, fun h => absurd h HNT.out, fun _ _ => rfl, ?_⟩)
  repeat (first | refine Below.setCell ?_ (by first | omega | (simp; omega) | simp) _ | with_reducible exact HB3.out | exact below_draws HB3.out _)
 obtain ⟨b, off, ca, cc, rfl, -, d1, d2, d3, -⟩ := hm3 t h8
 clear d2 d3
 obtain ⟨pr, hpr⟩ : ∃ pr, pr = fs[t].params := ⟨_, rfl⟩
 rw [← hpr] at d1
 have HPR : Hid (Takes fs t ar ↔ pr = ar) := by
  show _ ↔ _
  rw [hpr]
  exact ⟨fun h => by obtain ⟨-, hf, he⟩ := h; simpa using he, fun h => ⟨by omega, by simpa using h8, by simpa using h⟩⟩
 clear hpr
 by_cases h9 : pr = ar
 ·
  subst h9
  have HT : Hid (Takes fs t pr) := HPR.out.2 rfl
  have g1 : (0 : Int) ≤ (t : Int) := by omega
  have g2 : ¬ (fs.length : Int) ≤ (t : Int) := by omega
  go_big_quiet (fail)
  go_wp2
  refine bodyPost_ret (v := .tuple #[.agg #[.int .i64 f, .int .i64 p, .int .i64 2, .int .i64 t], .bool true]) (by simp [results, Tryz.results162, go_sem, z1]) rfl (HP.out _ _ ⟨fun h => absurd h H6.out, fun _ => rfl, fun _ h => absurd (by first | exact ⟨rfl, HT.out⟩ | exact ⟨trivial, HT.out⟩) h, ?_⟩)
  repeat (first | refine Below.setCell ?_ (by first | omega | (simp; omega) | simp) _ | with_reducible exact HB3.out | exact below_draws HB3.out _)
 ·
  have HNT : Hid (¬ ((23 : Int) = 23 ∧ Takes fs t ar)) := fun h => h9 (HPR.out.1 h.2)
  have g1 : (0 : Int) ≤ (t : Int) := by omega
  have g2 : ¬ (fs.length : Int) ≤ (t : Int) := by omega
  go_big_quiet (fail)
  go_wp2
  refine bodyPost_ret (v := .tuple #[.agg #[.int .i64 0, .int .i64 0, .int .i64 0, .int .i64 0], .bool false]) (by simp [results, Tryz.results162, go_sem, z1]) rfl (HP.out _ _ ⟨fun h => absurd h H6.out, fun h => absurd h HNT.out, fun _ _ => rfl, ?_⟩)
  repeat (first | refine Below.setCell ?_ (by first | omega | (simp; omega) | simp) _ | with_reducible exact HB3.out | exact below_draws HB3.out _)
end Go.Proofs.YthnolafhnplnkaaGreatDoor
