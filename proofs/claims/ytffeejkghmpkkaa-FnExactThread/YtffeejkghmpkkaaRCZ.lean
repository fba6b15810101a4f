/-
  impl.rewritten, and impl.Cut.
-/
import Derived.Test.YtffeejkghmpkkaaRCY
import Derived.Test.YtffeejkghmpkkaaRCS
namespace Go.Proofs.Ytffeejkghmpkkaa
open Go.RowKit

/-- Heights are told of each function. -/
theorem done_is {fs : List Fn} {code : List (Int × Int)} (F : Fine fs code) : ∃ d, Done fs code d := by
  have h : ∀ n k, negs (iterB fs code k) ≤ n → ∃ j, roundB fs code (iterB fs code j) = iterB fs code j := by
    intro n
    induction n with
    | zero =>
      intro k hk
      rcases (part_ok F (iter_hts F k) code.length (Nat.le_refl _)).2 with h | h
      · exact ⟨k, h⟩
      · omega
    | succ n ih =>
      intro k hk
      rcases (part_ok F (iter_hts F k) code.length (Nat.le_refl _)).2 with h | h
      · exact ⟨k, h⟩
      · exact ih (k + 1) (by have e : iterB fs code (k + 1) = partB fs code code.length (iterB fs code k) := rfl
                             rw [e]; omega)
  obtain ⟨j, hj⟩ := h _ 0 (Nat.le_refl _)
  exact ⟨_, ⟨j, rfl⟩, hj⟩

/-- What the program's side answers. -/
def IPost (f : List (Int × Int) → List (Int × Int)) (ts : List ByteArray) (fs : List Fn) (w : World) (e : Ending) (w' : World) : Prop :=
  ∃ (ts' : List ByteArray) (fs' : List Fn) (cs : List (Option Addr × Nat)) (a1 : Option Addr) (c1 : Nat) (a2 : Option Addr) (c2 : Nat), Hid (RewRes f ts fs ts' fs') ∧ e = .returned (.agg #[.slice a1 ts'.length c1, .slice a2 fs'.length c2]) ∧ ModOwn w' w.heap.size a1 c1 a2 c2 ts' fs' cs ∧ Below w.heap.size w w'
theorem ModOwn.nil (w : World) (base : Nat) : ModOwn w base none 0 none 0 [] [] [] := ⟨World.ownsRow_nil _ _ _ _, World.ownsRow_nil _ _ _ _, CodesOwn.nil _ _⟩

set_option maxRecDepth 100000 in
set_option maxHeartbeats 8000000 in
theorem rew_any (w : World) (a1 a2 pa : Option Addr) (c1 c2 pn pc : Nat) (ts : List ByteArray) (fs : List Fn) (f : List (Int × Int) → List (Int × Int)) (hs : Small ts fs) (hst : StrsAt w 0 a1 ts) (hfn : FnsAt w 0 a2 fs)
    (hset : Good ts fs → ∀ W, Below w.heap.size w W → SetC W a1 a2 c1 c2 ts fs (.slice pa pn pc) f) :
    Calls Try.prog 22 #[.agg #[.slice a1 ts.length c1, .slice a2 fs.length c2], .slice pa pn pc] w fun e w' => IPost f ts fs w e w' := by
  obtain ⟨wA, hwA⟩ : ∃ wA, wA = ((w.alloc (.cells #[.slice a1 ts.length c1, .slice a2 fs.length c2] 29)).alloc (.cells #[.slice pa pn pc] 49)).alloc (.cells #[.slice none 0 0, .slice none 0 0] 29) := ⟨_, rfl⟩
  have hbA : Below w.heap.size w wA := by rw [hwA]; exact (((Below.refl _ _).alloc (Nat.le_refl _) _).alloc (by simp) _).alloc (by simp; omega) _
  have hM : wA.heap[w.heap.size]? = some (.cells #[.slice a1 ts.length c1, .slice a2 fs.length c2] 29 (0, 0)) := by rw [hwA]; exact block_old (block_old (block_new _ _ _) _) _
  have hP : wA.heap[w.heap.size + 1]? = some (.cells #[.slice pa pn pc] 49 (0, 0)) := by rw [hwA]; exact block_old (by simpa using block_new (w.alloc (.cells #[.slice a1 ts.length c1, .slice a2 fs.length c2] 29)) #[.slice pa pn pc] 49) _
  have hR : wA.heap[w.heap.size + 2]? = some (.cells #[.slice none 0 0, .slice none 0 0] 29 (0, 0)) := by rw [hwA]; simpa using block_new ((w.alloc (.cells #[.slice a1 ts.length c1, .slice a2 fs.length c2] 29)).alloc (.cells #[.slice pa pn pc] 49)) #[.slice none 0 0, .slice none 0 0] 29
  have hszA : w.heap.size + 3 ≤ wA.heap.size := by rw [hwA]; simp
  have HSZ := hid hszA
  have m0 := block_cell hM
  go_enter Try.func22, Try.ntmps22
  go_upto_region 1 with fail
  rw [← hwA]
  clear hwA hszA
  go_wp2_with fail
  refine (iVerify_any a1 a2 c1 c2 ts fs wA hs (hst.mono hbA) (hfn.mono hbA)).mono ?_
  rintro e w1 ⟨c, fz, az, rfl, hV, hb1⟩
  have HG : Hid (c = 0 ↔ Good ts fs) := hV.good
  have hM1 := block_kept hM hb1
  have hP1 := block_kept hP hb1
  have hR1 := block_kept hR hb1
  have hbw1 := hbA.trans (hb1.mono hbA.size)
  have HSZ1 : Hid (w.heap.size + 3 ≤ w1.heap.size) := Nat.le_trans HSZ.out hb1.size
  clear hV hM hP hR hb1 hbA m0 HSZ
  have hfl : (Instr.field 61 (.agg #[.int .i64 c, .int .i64 fz, .int .i64 az]) 0).run Try.prog w1 = .ok (.int .i64 c) w1 := by kernel_rfl
  by_cases hc : c = 0
  case neg =>
    have hG : ¬ Good ts fs := fun h => hc (HG.out.2 h)
    have hc' : (c == 0) = false := beq_eq_false_iff_ne.2 hc
    have r1 := block_cell hR1
    have r2 := block_free hR1
    have hr2 := block_cell (block_set (i := 1) (block_set (i := 0) hR1 (.slice none 0 0)) (.slice none 0 0))
    have HF : Hid (Below w.heap.size w ((w1.setCell ⟨w.heap.size + 2, 0, none⟩ (.slice none 0 0)).setCell ⟨w.heap.size + 2, 1, none⟩ (.slice none 0 0)) ∧ RewRes f ts fs [] []) := ⟨(hbw1.setCell (p := ⟨w.heap.size + 2, 0, none⟩) (by simp) _).setCell (p := ⟨w.heap.size + 2, 1, none⟩) (by simp) _, .inr ⟨hG, rfl, rfl⟩⟩
    clear hst hfn hM1 hP1 hbw1 hG
    go_wp2
    refine bodyPost_ret (v := .agg #[.slice none 0 0, .slice none 0 0]) (by simp [results, Try.results22, go_sem, r1]) rfl ?_
    exact ⟨[], [], [], none, 0, none, 0, HF.out.2, rfl, ModOwn.nil _ _, HF.out.1⟩
  subst hc
  have hG := HG.out.1 rfl
  have hGs := good_size hG
  have HGG := hid hG
  have m1 := block_cell hM1
  have HSET := hid (hset hG)
  have HST := hid (hst.mono hbw1)
  have HFN := hid (hfn.mono hbw1)
  clear HG hG hset hst hfn
  go_wp2_with fail
  refine (eachS_is a1 ts c1 w1 (by omega) (fun s h => hs.text s h) HST.out).mono ?_
  rintro e w2 ⟨cur, rfl, hcur, hou, hb2⟩
  have hot := hid (hou.own hcur (Nat.le_refl _) (by omega))
  have hM2 := block_kept hM1 hb2
  have hP2 := block_kept hP1 hb2
  have hR2 := block_kept hR1 hb2
  have hbw2 := hbw1.trans (hb2.mono hbw1.size)
  have HB12 := hid hb2
  clear hM1 hP1 hR1 hcur hou hb2 m1
  have m2 := block_cell hM2
  have hmf : ∀ (fn : Go.Fn) (first cap : Array Value) (w : World), (Instr.makeFunc fn first cap).run Try.prog w = .ok (.func fn first cap) w := fun _ _ _ _ => rfl
  go_wp2_with fail
  refine (eachF_any w2 w2 a1 a2 c1 c2 w.heap.size (w.heap.size + 1) c2 ts fs (.slice pa pn pc) f (HSET.out w2 hbw2) (Below.refl _ _) a2 hGs.2.1 hGs.2.2 (HFN.out.mono HB12.out) hM2 hP2).mono ?_
  rintro e w3 ⟨g, cs, rfl, hfr, hco, hb3⟩
  have hR3 := block_kept hR2 hb3
  have hbw3 := hbw2.trans (hb3.mono hbw2.size)
  have hml : (fs.map fun F => (⟨F.params, F.locals, f F.code⟩ : Fn)).length = fs.length := by simp
  have HMO : Hid (ModOwn w3 (w.heap.size + 3) (some ⟨w1.heap.size, 0, none⟩) ts.length (some ⟨g, 0, none⟩) fs.length ts (fs.map fun F => ⟨F.params, F.locals, f F.code⟩) cs) := by
    have h12 : w1.heap.size ≤ w2.heap.size := HB12.out.size
    refine ⟨own_low (own_keeps (B := 0) (ts := []) hot.out (Keeps.below hb3) (by simp)) (HSZ1.out), ?_, hco.low (Nat.le_trans HSZ1.out h12)⟩
    rw [hml]
    exact own_low hfr (Nat.le_trans HSZ1.out h12)
  have r1 := block_cell hR3
  have r2 := block_free hR3
  have hr1 := block_set (i := 0) hR3 (.slice (some ⟨w1.heap.size, 0, none⟩) ts.length ts.length)
  have hr2 := block_set (i := 1) hr1 (.slice (some ⟨g, 0, none⟩) fs.length fs.length)
  have rr := block_cell hr2
  have HF : Hid (ModOwn ((w3.setCell ⟨w.heap.size + 2, 0, none⟩ (.slice (some ⟨w1.heap.size, 0, none⟩) ts.length ts.length)).setCell ⟨w.heap.size + 2, 1, none⟩ (.slice (some ⟨g, 0, none⟩) fs.length fs.length)) w.heap.size (some ⟨w1.heap.size, 0, none⟩) ts.length (some ⟨g, 0, none⟩) fs.length ts (fs.map fun F => ⟨F.params, F.locals, f F.code⟩) cs ∧ Below w.heap.size w ((w3.setCell ⟨w.heap.size + 2, 0, none⟩ (.slice (some ⟨w1.heap.size, 0, none⟩) ts.length ts.length)).setCell ⟨w.heap.size + 2, 1, none⟩ (.slice (some ⟨g, 0, none⟩) fs.length fs.length))) :=
    ⟨((HMO.out.set (p := ⟨w.heap.size + 2, 0, none⟩) (by simp) _).set (p := ⟨w.heap.size + 2, 1, none⟩) (by simp) _).low (by omega), (hbw3.setCell (p := ⟨w.heap.size + 2, 0, none⟩) (by simp) _).setCell (p := ⟨w.heap.size + 2, 1, none⟩) (by simp) _⟩
  clear hr1 hr2 hfr hco hb3 hM2 hP2 hR2 hbw2 hbw3 m2 hbw1 hot
  go_wp2
  refine bodyPost_ret (v := .agg #[.slice (some ⟨w1.heap.size, 0, none⟩) ts.length ts.length, .slice (some ⟨g, 0, none⟩) fs.length fs.length]) (by simp [results, Try.results22, go_sem, rr]) rfl ?_
  exact ⟨ts, _, cs, _, _, _, _, hid (.inl ⟨HGG.out, rfl, rfl⟩), by rw [hml], by rw [hml] at *; exact HF.out.1, HF.out.2⟩
end Go.Proofs.Ytffeejkghmpkkaa
