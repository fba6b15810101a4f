/-
  The document's Cut.
  impl.rewritten, and impl.Cut.
  Steps of folding, one behind the other; a module's instruction written.
  What flowIn and oneWay return.
-/
import Derived.Test.YtjdoljaailokmaaGreatDoorZFQ20
import Derived.Test.YtjdoljaailokmaaGreatDoorZFQ15
import Derived.Test.YtjdoljaailokmaaGreatDoorZFQ11
import Derived.Test.YtjdoljaailokmaaGreatDoorZV6
import Derived.Test.YtjdoljaailokmaaGreatDoorZFQ9
import Derived.Deep.CutRange
import Derived.Test.YtjdoljaailokmaaGreatDoorZFQ12
import Derived.Test.YtjdoljaailokmaaGreatDoorZFQ13
import Derived.Deep.RegionHeld3
namespace Go.Proofs.YtjdoljaailokmaaGreatDoor
open Go.RowKit

/-- What is answered of a module: its functions, each with other instructions, or nothing where it is not good. -/
def RewRes (f : List (Int × Int) → List (Int × Int)) (ts : List ByteArray) (fs : List Fn) (ts' : List ByteArray) (fs' : List Fn) : Prop :=
  (Good ts fs ∧ ts' = ts ∧ fs' = fs.map fun F => ⟨F.params, F.locals, f F.code⟩) ∨ (¬ Good ts fs ∧ ts' = [] ∧ fs' = [])
theorem RewRes.one {f : List (Int × Int) → List (Int × Int)} {ts t1 t2 : List ByteArray} {fs f1 f2 : List Fn} (h : RewRes f ts fs t1 f1) (h' : RewRes f ts fs t2 f2) : t1 = t2 ∧ f1 = f2 := by
  rcases h with ⟨hG, rfl, rfl⟩ | ⟨hG, rfl, rfl⟩
  · rcases h' with ⟨-, rfl, rfl⟩ | ⟨hN, -⟩
    · exact ⟨rfl, rfl⟩
    · exact absurd hG hN
  · rcases h' with ⟨hN, -⟩ | ⟨-, rfl, rfl⟩
    · exact absurd hN hG
    · exact ⟨rfl, rfl⟩
/-- What the document's side answers. -/
def SPost (f : List (Int × Int) → List (Int × Int)) (ts : List ByteArray) (fs : List Fn) (w : World) (e : Ending) (w' : World) : Prop :=
  ∃ (ts' : List ByteArray) (fs' : List Fn) (a1 : Option Addr) (c1 : Nat) (a2 : Option Addr) (c2 : Nat), Hid (RewRes f ts fs ts' fs') ∧ e = .returned (.agg #[.slice a1 ts'.length c1, .slice a2 fs'.length c2]) ∧ StrsAt w' 0 a1 ts' ∧ FnsAt w' 0 a2 fs' ∧ Below w.heap.size w w'

/-- A good module: what its functions are. -/
theorem good_mod {ts : List ByteArray} {fs : List Fn} (h : Good ts fs) : modB ts fs = true := by
  obtain ⟨f', a', hV⟩ := h
  rcases hV with ⟨-, h, -⟩ | ⟨hm, hT⟩
  · cases h
  · exact hm
theorem good_fine {ts : List ByteArray} {fs : List Fn} (h : Good ts fs) {k : Nat} (hk : k < fs.length) : Fine fs fs[k].code := fine_of (good_mod h) hk
theorem good_lab {ts : List ByteArray} {fs : List Fn} (h : Good ts fs) {k : Nat} (hk : k < fs.length) {d : List Int} (hd : Done fs fs[k].code d) : Lab fs fs[k].code d := by
  have F := good_fine h hk
  refine lab_of_done F hd ?_
  obtain ⟨f', a', hV⟩ := h
  rcases hV with ⟨-, h, -⟩ | ⟨hm, hT⟩
  · cases h
  · rcases hT with ⟨-, -, -, hC⟩ | ⟨g, hg, k', d', -, -, -, -, ht, hc, -⟩
    · exact fun j hj => hC k hk d hd j hj
    · exact absurd rfl hc
theorem good_size {ts : List ByteArray} {fs : List Fn} (h : Good ts fs) : ts.length ≤ 20 ∧ fs.length ≤ 12 ∧ ∀ f ∈ fs, 1 ≤ f.code.length ∧ f.code.length ≤ 120 := by
  have hm := good_mod h
  refine ⟨?_, ?_, fun f hf => ?_⟩
  · rcases Nat.lt_or_ge 20 ts.length with a | a
    · rw [modB_no (by omega)] at hm; cases hm
    · exact a
  · rcases Nat.lt_or_ge 12 fs.length with a | a
    · rw [modB_no (by omega)] at hm; cases hm
    · exact a
  · obtain ⟨k, hk, rfl⟩ := List.getElem_of_mem hf
    have F := good_fine h hk
    exact ⟨F.one, F.most⟩
/-- The first k functions have other instructions. -/
def mapTo (f : List (Int × Int) → List (Int × Int)) (fs : List Fn) (k : Nat) : List Fn := (fs.take k).map (fun F => ⟨F.params, F.locals, f F.code⟩) ++ fs.drop k
theorem mapTo_len (f : List (Int × Int) → List (Int × Int)) (fs : List Fn) {k : Nat} (h : k ≤ fs.length) : (mapTo f fs k).length = fs.length := by simp [mapTo]; omega
theorem mapTo_get (f : List (Int × Int) → List (Int × Int)) (fs : List Fn) (k i : Nat) : (mapTo f fs k)[i]? = if i < k then fs[i]?.map (fun F => ⟨F.params, F.locals, f F.code⟩) else fs[i]? := by
  unfold mapTo
  by_cases hi : i < k
  · rw [if_pos hi]
    by_cases hl : i < fs.length
    · rw [List.getElem?_append_left (by simp; omega), List.getElem?_map, List.getElem?_take_of_lt hi]
    · rw [List.getElem?_eq_none (by simp; omega), List.getElem?_eq_none (by omega)]; rfl
  · rw [if_neg hi]
    by_cases hl : k ≤ fs.length
    · rw [List.getElem?_append_right (by simp; omega), List.getElem?_drop]
      congr 1
      simp
      omega
    · rw [List.getElem?_eq_none (by simp; omega), List.getElem?_eq_none (by omega)]
theorem mapTo_at (f : List (Int × Int) → List (Int × Int)) (fs : List Fn) {k : Nat} (h : k < fs.length) (h' : k < (mapTo f fs k).length) : (mapTo f fs k)[k] = fs[k] := by
  have := mapTo_get f fs k k
  rw [if_neg (by omega), List.getElem?_eq_getElem h', List.getElem?_eq_getElem h] at this
  simpa using this
theorem mapTo_more (f : List (Int × Int) → List (Int × Int)) (fs : List Fn) {k : Nat} (h : k < fs.length) : (mapTo f fs k).set k ⟨fs[k].params, fs[k].locals, f fs[k].code⟩ = mapTo f fs (k + 1) := by
  have hl := mapTo_len f fs (k := k) (by omega)
  apply List.ext_getElem?
  intro i
  rw [List.getElem?_set, mapTo_get, mapTo_get]
  by_cases e : k = i
  · subst e
    rw [if_pos rfl, if_pos (by omega), if_pos (by omega), List.getElem?_eq_getElem h]; rfl
  · rw [if_neg e]
    by_cases e2 : i < k
    · rw [if_pos e2, if_pos (by omega)]
    · rw [if_neg e2, if_neg (by omega)]
theorem mapTo_all (f : List (Int × Int) → List (Int × Int)) (fs : List Fn) : mapTo f fs fs.length = fs.map fun F => ⟨F.params, F.locals, f F.code⟩ := by simp [mapTo]
theorem mapTo_zero (f : List (Int × Int) → List (Int × Int)) (fs : List Fn) : mapTo f fs 0 = fs := by simp [mapTo]
theorem infoB4 : (Tryz.prog.info? 4).map (fun i => (i.zero, i.size, i.bytes)) = some (some (.bool false), 1, 1) := by kernel_rfl

end Go.Proofs.YtjdoljaailokmaaGreatDoor

namespace Go.Proofs.YtjdoljaailokmaaGreatDoor
open Go.RowKit

/-- Heights are told of each function. -/
theorem done_is {fs : List Fn} {code : List (Int × Int)} (F : Fine fs code) : ∃ d, Done fs code d := by
  have h : ∀ n k, negs (iterB fs code k) ≤ n → ∃ j, roundB fs code (iterB fs code j) = iterB fs code j := by
    intro n
    induction n with
    | zero =>
      intro k hk
      rcases (part_ok F (iter_hts F k) code.length (Nat.le_refl _)).2 with h | h
      · exact ⟨k, h⟩
      · omega
    | succ n ih =>
      intro k hk
      rcases (part_ok F (iter_hts F k) code.length (Nat.le_refl _)).2 with h | h
      · exact ⟨k, h⟩
      · exact ih (k + 1) (by have e : iterB fs code (k + 1) = partB fs code code.length (iterB fs code k) := rfl
                             rw [e]; omega)
  obtain ⟨j, hj⟩ := h _ 0 (Nat.le_refl _)
  exact ⟨_, ⟨j, rfl⟩, hj⟩

/-- What the program's side answers. -/
def IPost (f : List (Int × Int) → List (Int × Int)) (ts : List ByteArray) (fs : List Fn) (w : World) (e : Ending) (w' : World) : Prop :=
  ∃ (ts' : List ByteArray) (fs' : List Fn) (cs : List (Option Addr × Nat)) (a1 : Option Addr) (c1 : Nat) (a2 : Option Addr) (c2 : Nat), Hid (RewRes f ts fs ts' fs') ∧ e = .returned (.agg #[.slice a1 ts'.length c1, .slice a2 fs'.length c2]) ∧ ModOwn w' w.heap.size a1 c1 a2 c2 ts' fs' cs ∧ Below w.heap.size w w'
theorem ModOwn.nil (w : World) (base : Nat) : ModOwn w base none 0 none 0 [] [] [] := ⟨World.ownsRow_nil _ _ _ _, World.ownsRow_nil _ _ _ _, CodesOwn.nil _ _⟩

set_option maxRecDepth 100000 in
set_option maxHeartbeats 8000000 in
theorem rew_any (w : World) (a1 a2 pa : Option Addr) (c1 c2 pn pc : Nat) (ts : List ByteArray) (fs : List Fn) (f : List (Int × Int) → List (Int × Int)) (hs : Small ts fs) (hst : StrsAt w 0 a1 ts) (hfn : FnsAt w 0 a2 fs)
    (hset : Good ts fs → ∀ W, Below w.heap.size w W → SetC W a1 a2 c1 c2 ts fs (.slice pa pn pc) f) :
    Calls Tryz.prog 20 #[.agg #[.slice a1 ts.length c1, .slice a2 fs.length c2], .slice pa pn pc] w fun e w' => IPost f ts fs w e w' := by
  obtain ⟨wA, hwA⟩ : ∃ wA, wA = ((w.alloc (.cells #[.slice a1 ts.length c1, .slice a2 fs.length c2] 29)).alloc (.cells #[.slice pa pn pc] 51)).alloc (.cells #[.slice none 0 0, .slice none 0 0] 29) := ⟨_, rfl⟩
  have hbA : Below w.heap.size w wA := by rw [hwA]; exact (((Below.refl _ _).alloc (Nat.le_refl _) _).alloc (by simp) _).alloc (by simp; omega) _
  have hM : wA.heap[w.heap.size]? = some (.cells #[.slice a1 ts.length c1, .slice a2 fs.length c2] 29 (0, 0)) := by rw [hwA]; exact block_old (block_old (block_new _ _ _) _) _
  have hP : wA.heap[w.heap.size + 1]? = some (.cells #[.slice pa pn pc] 51 (0, 0)) := by rw [hwA]; exact block_old (by simpa using block_new (w.alloc (.cells #[.slice a1 ts.length c1, .slice a2 fs.length c2] 29)) #[.slice pa pn pc] 51) _
  have hR : wA.heap[w.heap.size + 2]? = some (.cells #[.slice none 0 0, .slice none 0 0] 29 (0, 0)) := by rw [hwA]; simpa using block_new ((w.alloc (.cells #[.slice a1 ts.length c1, .slice a2 fs.length c2] 29)).alloc (.cells #[.slice pa pn pc] 51)) #[.slice none 0 0, .slice none 0 0] 29
  have hszA : w.heap.size + 3 ≤ wA.heap.size := by rw [hwA]; simp
  have HSZ := hid hszA
  have m0 := block_cell hM
  go_enter Tryz.func20, Tryz.ntmps20
  go_upto_region 1 with fail
  rw [← hwA]
  clear hwA hszA
  go_wp2_with fail
  refine (iVerify_any a1 a2 c1 c2 ts fs wA hs (hst.mono hbA) (hfn.mono hbA)).mono ?_
  rintro e w1 ⟨c, fz, az, rfl, hV, hb1⟩
  have HG : Hid (c = 0 ↔ Good ts fs) := hV.good
  have hM1 := block_kept hM hb1
  have hP1 := block_kept hP hb1
  have hR1 := block_kept hR hb1
  have hbw1 := hbA.trans (hb1.mono hbA.size)
  have HSZ1 : Hid (w.heap.size + 3 ≤ w1.heap.size) := Nat.le_trans HSZ.out hb1.size
  clear hV hM hP hR hb1 hbA m0 HSZ
  have hfl : (Instr.field 60 (.agg #[.int .i64 c, .int .i64 fz, .int .i64 az]) 0).run Tryz.prog w1 = .ok (.int .i64 c) w1 := by kernel_rfl
  by_cases hc : c = 0
  case neg =>
    have hG : ¬ Good ts fs := fun h => hc (HG.out.2 h)
    have hc' : (c == 0) = false := beq_eq_false_iff_ne.2 hc
    have r1 := block_cell hR1
    have r2 := block_free hR1
    have hr2 := block_cell (block_set (i := 1) (block_set (i := 0) hR1 (.slice none 0 0)) (.slice none 0 0))
    have HF : Hid (Below w.heap.size w ((w1.setCell ⟨w.heap.size + 2, 0, none⟩ (.slice none 0 0)).setCell ⟨w.heap.size + 2, 1, none⟩ (.slice none 0 0)) ∧ RewRes f ts fs [] []) := ⟨(hbw1.setCell (p := ⟨w.heap.size + 2, 0, none⟩) (by simp) _).setCell (p := ⟨w.heap.size + 2, 1, none⟩) (by simp) _, .inr ⟨hG, rfl, rfl⟩⟩
    clear hst hfn hM1 hP1 hbw1 hG
    go_wp2
    refine bodyPost_ret (v := .agg #[.slice none 0 0, .slice none 0 0]) (by simp [results, Tryz.results20, go_sem, r1]) rfl ?_
    exact ⟨[], [], [], none, 0, none, 0, HF.out.2, rfl, ModOwn.nil _ _, HF.out.1⟩
  subst hc
  have hG := HG.out.1 rfl
  have hGs := good_size hG
  have HGG := hid hG
  have m1 := block_cell hM1
  have HSET := hid (hset hG)
  have HST := hid (hst.mono hbw1)
  have HFN := hid (hfn.mono hbw1)
  clear HG hG hset hst hfn
  go_wp2_with fail
  refine (eachS_is a1 ts c1 w1 (by omega) (fun s h => hs.text s h) HST.out).mono ?_
  rintro e w2 ⟨cur, rfl, hcur, hou, hb2⟩
  have hot := hid (hou.own hcur (Nat.le_refl _) (by omega))
  have hM2 := block_kept hM1 hb2
  have hP2 := block_kept hP1 hb2
  have hR2 := block_kept hR1 hb2
  have hbw2 := hbw1.trans (hb2.mono hbw1.size)
  have HB12 := hid hb2
  clear hM1 hP1 hR1 hcur hou hb2 m1
  have m2 := block_cell hM2
  have hmf : ∀ (fn : Go.Fn) (first cap : Array Value) (w : World), (Instr.makeFunc fn first cap).run Tryz.prog w = .ok (.func fn first cap) w := fun _ _ _ _ => rfl
  go_wp2_with fail
  refine (eachF_any w2 w2 a1 a2 c1 c2 w.heap.size (w.heap.size + 1) c2 ts fs (.slice pa pn pc) f (HSET.out w2 hbw2) (Below.refl _ _) a2 hGs.2.1 hGs.2.2 (HFN.out.mono HB12.out) hM2 hP2).mono ?_
  rintro e w3 ⟨g, cs, rfl, hfr, hco, hb3⟩
  have hR3 := block_kept hR2 hb3
  have hbw3 := hbw2.trans (hb3.mono hbw2.size)
  have hml : (fs.map fun F => (⟨F.params, F.locals, f F.code⟩ : Fn)).length = fs.length := by simp
  have HMO : Hid (ModOwn w3 (w.heap.size + 3) (some ⟨w1.heap.size, 0, none⟩) ts.length (some ⟨g, 0, none⟩) fs.length ts (fs.map fun F => ⟨F.params, F.locals, f F.code⟩) cs) := by
    have h12 : w1.heap.size ≤ w2.heap.size := HB12.out.size
    refine ⟨own_low (own_keeps (B := 0) (ts := []) hot.out (Keeps.below hb3) (by simp)) (HSZ1.out), ?_, hco.low (Nat.le_trans HSZ1.out h12)⟩
    rw [hml]
    exact own_low hfr (Nat.le_trans HSZ1.out h12)
  have r1 := block_cell hR3
  have r2 := block_free hR3
  have hr1 := block_set (i := 0) hR3 (.slice (some ⟨w1.heap.size, 0, none⟩) ts.length ts.length)
  have hr2 := block_set (i := 1) hr1 (.slice (some ⟨g, 0, none⟩) fs.length fs.length)
  have rr := block_cell hr2
  have HF : Hid (ModOwn ((w3.setCell ⟨w.heap.size + 2, 0, none⟩ (.slice (some ⟨w1.heap.size, 0, none⟩) ts.length ts.length)).setCell ⟨w.heap.size + 2, 1, none⟩ (.slice (some ⟨g, 0, none⟩) fs.length fs.length)) w.heap.size (some ⟨w1.heap.size, 0, none⟩) ts.length (some ⟨g, 0, none⟩) fs.length ts (fs.map fun F => ⟨F.params, F.locals, f F.code⟩) cs ∧ Below w.heap.size w ((w3.setCell ⟨w.heap.size + 2, 0, none⟩ (.slice (some ⟨w1.heap.size, 0, none⟩) ts.length ts.length)).setCell ⟨w.heap.size + 2, 1, none⟩ (.slice (some ⟨g, 0, none⟩) fs.length fs.length))) :=
    ⟨((HMO.out.set (p := ⟨w.heap.size + 2, 0, none⟩) (by simp) _).set (p := ⟨w.heap.size + 2, 1, none⟩) (by simp) _).low (by omega), (hbw3.setCell (p := ⟨w.heap.size + 2, 0, none⟩) (by simp) _).setCell (p := ⟨w.heap.size + 2, 1, none⟩) (by simp) _⟩
  clear hr1 hr2 hfr hco hb3 hM2 hP2 hR2 hbw2 hbw3 m2 hbw1 hot
  go_wp2
  refine bodyPost_ret (v := .agg #[.slice (some ⟨w1.heap.size, 0, none⟩) ts.length ts.length, .slice (some ⟨g, 0, none⟩) fs.length fs.length]) (by simp [results, Tryz.results20, go_sem, rr]) rfl ?_
  exact ⟨ts, _, cs, _, _, _, _, hid (.inl ⟨HGG.out, rfl, rfl⟩), by rw [hml], by rw [hml] at *; exact HF.out.1, HF.out.2⟩
end Go.Proofs.YtjdoljaailokmaaGreatDoor

namespace Go.Proofs.YtjdoljaailokmaaGreatDoor
open Go.RowKit

/-- Behind t steps. -/
structure InS (fs : List Fn) (c0 : List (Int × Int)) (t : Nat) (c : List (Int × Int)) (d : List Int) : Prop where
  is : c = foldN fs c0 t
  ok : FOk fs c d
  len : c.length + 2 * t = c0.length
theorem InS.next {fs : List Fn} {c0 c : List (Int × Int)} {d : List Int} {t i : Nat} {v : Int} (h : InS fs c0 t c d) (hf : First c d i v) : InS fs c0 (t + 1) (foldTo i v c) (keptD (goneF i) d c.length) := by
  have hF := (hf.1.lab h.ok.fine h.ok.lab).2
  obtain ⟨e1, e2⟩ := h.ok.next hf (done_is hF)
  refine ⟨?_, e2, ?_⟩
  · show _ = foldNext fs (foldN fs c0 t)
    rw [← h.is, e1]
  · have := foldTo_short hf.1
    have := h.len
    omega
theorem InS.last {fs : List Fn} {c0 c : List (Int × Int)} {d : List Int} {t : Nat} (h : InS fs c0 t c d) (hn : ∀ i v, ¬ FAt c d i v) : c = foldOf fs c0 := by
  have e : foldNext fs c = c := foldNext_no h.ok.done hn
  rw [foldOf_end (k := t) (by have := h.len; omega) (by rw [← h.is]; exact e)]
  exact h.is
theorem InS.init {ts : List ByteArray} {fs : List Fn} (hG : Good ts fs) {k : Nat} (hk : k < fs.length) : ∃ d, InS fs fs[k].code 0 fs[k].code d := by
  have F := good_fine hG hk
  obtain ⟨d, hd⟩ := done_is F
  exact ⟨d, rfl, ⟨F, good_lab hG hk hd, hd⟩, by omega⟩
/-- Where a function of a module lies. -/
theorem ModAp.at {w : World} {base c1 c2 : Nat} {a1 a2 : Option Addr} {ts : List ByteArray} {fs : List Fn} {cs : List (Option Addr × Nat)} (h : ModAp w base a1 c1 a2 c2 ts fs cs) {k : Nat} (hk : k < fs.length) (h1 : 1 ≤ fs[k].code.length) :
    ∃ g2 gc cc, a2 = some ⟨g2, 0, none⟩ ∧ base ≤ g2 ∧ w.cell? ⟨g2, k * 3 + 2, none⟩ = some (.slice (some ⟨gc, 0, none⟩) fs[k].code.length cc) ∧ (∃ cur, w.heap[g2]? = some (.cells cur 40 (0, 0))) ∧ base ≤ gc ∧ w.ownsRow base 44 2 (.slice (some ⟨gc, 0, none⟩) fs[k].code.length cc) fs[k].code.length (codeVals fs[k].code) ∧
      (∀ (i : Nat) (hi : i < fs[k].code.length) (v : Int), ∃ cs', ModAp (w.setCell ⟨gc, i * 2 + 1, none⟩ (.int .i64 v)) base a1 c1 a2 c2 ts (fs.set k ⟨fs[k].params, fs[k].locals, fs[k].code.set i (fs[k].code[i].1, v)⟩) cs') := by
  have hk' : k < cs.length := by rw [← h.codes.len]; exact hk
  have hv := fnVals_at fs cs h.codes.len k hk hk'
  obtain ⟨g, hg, hb, h3⟩ := own_cell h.funcs (k * 3 + 2) (by omega)
  have hrow := h.codes.own k hk hk'
  obtain ⟨gc, hgc, hgb⟩ := own_ptr hrow h1
  refine ⟨g, gc, cs[k].2, hg, hb, ?_, own_blk h.funcs hg, hgb, ?_, fun i hi v => ?_⟩
  · rw [h3, hv.2.2, hgc]
  · rw [← hgc]; exact hrow
  · obtain ⟨g', hg', -, -, -, -, hput, honly⟩ := own_ins hrow hi
    rw [hgc] at hg'
    cases hg'
    obtain ⟨cur, hcur⟩ := own_blk hrow hgc
    have hkp : Keeps base [44] w (w.setCell ⟨gc, i * 2 + 1, none⟩ (.int .i64 v)) := (honly _).keeps hcur (by simp) hgb
    refine ⟨cs.set k (cs[k].1, cs[k].2), own_keeps h.texts hkp (by simp), ?_, ?_⟩
    · have := own_keeps h.funcs hkp (by simp)
      have e := fnVals_row fs cs k hk hk' (fs[k].code.set i (fs[k].code[i].1, v)) cs[k].1 cs[k].2
      rw [← e]
      have e2 : (fnVals fs cs).set (k * 3 + 2) (.slice cs[k].1 (fs[k].code.set i (fs[k].code[i].1, v)).length cs[k].2) = fnVals fs cs := by
        rw [List.length_set]
        apply List.ext_getElem?
        intro j
        by_cases ej : j = k * 3 + 2
        · subst ej
          have hl : k * 3 + 2 < (fnVals fs cs).length := by have := h.funcs.1; omega
          rw [List.getElem?_set_self hl, hv.2.2]
        · rw [List.getElem?_set_ne (fun x => ej x.symm)]
      rw [e2]
      simpa using this
    · refine h.codes.write (r := some gc) k hk hk' fs[k].params fs[k].locals (fs[k].code.set i (fs[k].code[i].1, v)) cs[k].1 cs[k].2 ?_ ?_ (fun g e => ?_) (fun g e => .inl e)
      · have := hput v
        simpa using this
      · have ho := honly (.int .i64 v)
        exact ⟨ho.os, ho.tape, ho.output, ho.size, fun q hq hne => ho.block q hq (fun e => hne (by rw [e]))⟩
      · cases e; exact hgc
/-- Marks at the second and the third. -/
theorem marks_gone {w : World} {g n i : Nat} {P : Nat → Prop} (h : MkP w g n P) (hp : ∀ j, P j ↔ (j = i + 1 ∨ j = i + 2)) : BoolsAt w (some ⟨g, 0, none⟩) n (goneF i) := fun j hj => by
  refine ⟨g, 0, rfl, ?_⟩
  rw [Nat.zero_add, h.cell hj]
  by_cases e : j = i + 1 ∨ j = i + 2
  · rw [pB_yes ((hp j).2 e), goneF_yes e]
  · rw [pB_no (fun q => e ((hp j).1 q)), goneF_no (fun q => e (.inl q)) (fun q => e (.inr q))]
end Go.Proofs.YtjdoljaailokmaaGreatDoor

namespace Go.Proofs.YtjdoljaailokmaaGreatDoor
open Go.RowKit

/-- What flowIn is to answer. -/
def FPost (ts : List ByteArray) (fs : List Fn) (f : Int) (e : Ending) : Prop :=
  (∃ (k : Nat) (hk : k < fs.length) (d : List Int), f = k ∧ Good ts fs ∧ Done fs fs[k].code d ∧ e = .returned (.tuple #[fv (flowB (jl fs[k].code d fs[k].code.length)), .bool true])) ∨
  (¬ (Good ts fs ∧ 0 ≤ f ∧ f < fs.length) ∧ e = .returned (.tuple #[fv ((0, 0), (0, 0)), .bool false]))

theorem four_set {W : World} {R : Nat} {x y z u : Value} (h : W.heap[R]? = some (.cells #[.int .u64 0, .int .u64 0, .int .u64 0, .int .u64 0] 78 (0, 0))) : ((((W.setCell ⟨R, 0, none⟩ x).setCell ⟨R, 1, none⟩ y).setCell ⟨R, 2, none⟩ z).setCell ⟨R, 3, none⟩ u).heap[R]? = some (.cells #[x, y, z, u] 78 (0, 0)) := by
  have := block_set (i := 3) (block_set (i := 2) (block_set (i := 1) (block_set (i := 0) h x) y) z) u
  simpa using this

theorem flowOf_at (g cap cc : Nat) (ca : Option Addr) (code : List (Int × Int)) (d : List Int) (w : World) (HJ : JOk code) (hd : d.length = code.length) (hcode : CodeAt w 0 ca code) (hH : Ht w g cap d) (h1c : 0 < code.length) :
    Calls Tryz.prog 43 #[.slice ca code.length cc, .slice (some ⟨g, 0, none⟩) code.length code.length] w fun e w' => ∃ x y z u : Nat, Hid (flowB (jl code d code.length) = ((x, y), (z, u))) ∧ e = .returned (.agg #[.int .u64 (x : Int), .int .u64 (y : Int), .int .u64 (z : Int), .int .u64 (u : Int)]) ∧ Below w.heap.size w w' :=
  (flowOf_any g cap cc ca code d w HJ hd hcode hH h1c).mono fun _ _ ⟨h1, h2⟩ => ⟨_, _, _, _, rfl, h1, h2⟩

end Go.Proofs.YtjdoljaailokmaaGreatDoor
