/-
  Marked functions and modules are found again.
  The size of a module.
  What the laws need besides: an answer that others' marks leave alone; how long an answer is.
  impl.Fold.
-/
import Derived.Test.YtjdoljaailokmaaGreatDoorZK2
import Derived.Test.YtjdoljaailokmaaGreatDoorZW2
import Derived.Test.YtjdoljaailokmaaGreatDoorZFQ23
import Derived.Test.YtjdoljaailokmaaGreatDoorZFQ21
import Derived.Test.YtjdoljaailokmaaGreatDoorZFQ22
namespace Go.Proofs.YtjdoljaailokmaaGreatDoor
open Go.RowKit

set_option maxHeartbeats 1600000 in
theorem heldFns_is (a : Option Addr) (c : Nat) (fs : List Fn) (k0 : Nat) (w : World) (hn : fs.length ≤ 1048576) (hc : ∀ f ∈ fs, f.code.length ≤ 1048576) (h1 : k0 ≤ 10000000) (hs : FnsAt w 0 a (mFns k0 fs)) :
    Calls Tryz.prog 27 #[.slice a fs.length c, .int .i64 k0] w fun e w' => e = .returned (.int .i64 (endF k0 fs : Nat)) ∧ Below w.heap.size w w' := by
  go_enter Tryz.func27, Tryz.ntmps27
  go_wp2
  go_loopw [1, 5] (fun q i wr => ∃ (k r : Nat), k ≤ fs.length ∧ i = .int .i64 k ∧ q = .int .i64 (r : Nat) ∧ Hid (r = endF k0 (fs.take k)) ∧ r ≤ k0 + k * 3000000 ∧ Below w.heap.size w wr) (fun _ i _ => fs.length - (intOf i).toNat)
  case atStart => exact ⟨0, k0, by omega, rfl, rfl, by show _ = _; simp [endF], by omega, Below.refl _ _⟩
  case round =>
    obtain ⟨k, r, hk, rfl, rfl, HR, hr, hb⟩ := hrel
    by_cases hlt : k < fs.length
    · obtain ⟨b, off, ca, cc, rfl, -, e1, e2, e3, e4⟩ := hs k (by rw [mFns_len]; exact hlt)
      have hm : (mFns k0 fs)[k]'(by rw [mFns_len]; exact hlt) = ⟨(r : Int), (r : Int) + 1, mCode (r + 2) fs[k].code.length⟩ := by
        have := mFns_at (k0 := k0) hlt
        rw [List.getElem?_eq_getElem (by rw [mFns_len]; exact hlt), ← HR.out] at this
        simpa using this
      rw [hm] at e1 e2 e3 e4
      simp only [mCode_len] at e3
      have f1 := cell_later hb e1
      have f2 := cell_later hb e2
      have f3 := cell_later hb e3
      have f4 := e4.mono hb
      have hck := hc fs[k] (List.getElem_mem hlt)
      have HR2 : Hid (r + 2 + 2 * fs[k].code.length = endF k0 (fs.take (k + 1))) := by
        show _ = _
        rw [endF_succ hlt, ← HR.out]
      clear e1 e2 e3 e4 hm HR
      go_wp2_with fail
      rw [show ((r : Int) + 1 + 1) = ((r + 2 : Nat) : Int) by omega]
      refine (heldIns_is ca cc fs[k].code.length (r + 2) wr hck (by omega) f4).mono ?_
      rintro e w2 ⟨rfl, hb2⟩
      have hb3 := hb.trans (hb2.mono hb.size)
      have hbd : r + 2 + 2 * fs[k].code.length ≤ k0 + (k + 1) * 3000000 := by omega
      clear f1 f2 f3 f4 hb2
      go_wp2
      go_roundw
      case rel => exact ⟨k + 1, r + 2 + 2 * fs[k].code.length, by omega, by go_num, rfl, HR2, hbd, hb3⟩
      case measure => simp [intOf]; omega
    · have hke : k = fs.length := by omega
      have hre : Hid (r = endF k0 fs) := by
        show _ = _
        rw [HR.out, hke, endF_all]
      clear HR
      subst hke
      go_wp2
      go_ret
      exact ⟨by rw [← hre.out]; rfl, hb⟩

set_option maxHeartbeats 800000 in
theorem markModule_is (base : Nat) (a1 a2 : Option Addr) (c1 c2 : Nat) (ts : List ByteArray) (fs : List Fn) (cs : List (Option Addr × Nat)) (w : World) (hs : Small ts fs) (hm : ModOwn w base a1 c1 a2 c2 ts fs cs) :
    Calls Tryz.prog 9 #[.agg #[.slice a1 ts.length c1, .slice a2 fs.length c2], .int .i64 1] w fun e w' => e = .returned (.int .i64 (endF (1 + ts.length) fs : Nat)) ∧ ModOwn w' base a1 c1 a2 c2 (mTexts 1 ts.length) (mFns (1 + ts.length) fs) cs ∧ Keeps base [9, 44, 40] w w' := by
  have s1 := hs.texts
  have hbA : Below w.heap.size w (w.alloc (.cells #[.slice a1 ts.length c1, .slice a2 fs.length c2] 29)) := (Below.refl _ _).alloc (Nat.le_refl _) _
  have hM := block_new w #[.slice a1 ts.length c1, .slice a2 fs.length c2] 29
  have hmA := hm.below hbA
  go_enter Tryz.func9, Tryz.ntmps9
  go_wp2_with fail
  refine (markStrs_is base a1 c1 ts 1 _ hs.texts (by omega) (by omega) hmA.texts).mono ?_
  rintro e w1 ⟨rfl, ho1, hk1⟩
  have hM1 := hk1.cell hM (by simp)
  have x1 := block_cell hM1
  have hf1 := own_keeps hmA.funcs hk1 (by simp)
  have hc1 := hmA.codes.keeps hk1 (by simp)
  have hk2 : Keeps base [9, 44, 40] w w1 := (Keeps.below hbA).trans (hk1.mono (Nat.le_refl _) (by simp))
  clear hM hbA hmA hk1 hM1
  go_wp2_with fail
  refine (markFns_is base a2 c2 fs cs (1 + ts.length) w1 hs.funcs hs.code (by omega) hf1 hc1).mono ?_
  rintro e w2 ⟨rfl, ho2, hc2, hk3⟩
  have ho1' := own_keeps ho1 hk3 (by simp)
  have hk4 : Keeps base [9, 44, 40] w w2 := hk2.trans (hk3.mono (Nat.le_refl _) (by simp))
  have hl1 : (mTexts 1 ts.length).length = ts.length := by simp [mTexts]
  have hfin : ModOwn w2 base a1 c1 a2 c2 (mTexts 1 ts.length) (mFns (1 + ts.length) fs) cs := ⟨by rw [hl1]; exact ho1', by rw [mFns_len]; exact ho2, hc2⟩
  clear ho1 ho2 hc2 ho1' hf1 hc1 hk3 hk2 hl1
  go_wp2
  go_ret
  exact ⟨rfl, hfin, hk4⟩
set_option maxHeartbeats 800000 in
theorem heldModule_is (base : Nat) (a1 a2 : Option Addr) (c1 c2 : Nat) (ts : List ByteArray) (fs : List Fn) (cs : List (Option Addr × Nat)) (w : World) (hs : Small ts fs) (hm : ModOwn w base a1 c1 a2 c2 (mTexts 1 ts.length) (mFns (1 + ts.length) fs) cs) :
    Calls Tryz.prog 10 #[.agg #[.slice a1 ts.length c1, .slice a2 fs.length c2], .int .i64 1] w fun e w' => e = .returned (.int .i64 (endF (1 + ts.length) fs : Nat)) ∧ Below w.heap.size w w' := by
  have s1 := hs.texts
  have hbA : Below w.heap.size w (w.alloc (.cells #[.slice a1 ts.length c1, .slice a2 fs.length c2] 29)) := (Below.refl _ _).alloc (Nat.le_refl _) _
  have hM := block_new w #[.slice a1 ts.length c1, .slice a2 fs.length c2] 29
  have hmA := (hm.below hbA).low (Nat.zero_le _)
  go_enter Tryz.func10, Tryz.ntmps10
  go_wp2_with fail
  refine (heldStrs_is a1 c1 ts.length 1 _ hs.texts (by omega) (by omega) hmA.strs).mono ?_
  rintro e w1 ⟨rfl, hb1⟩
  have x1 := block_cell (block_kept hM hb1)
  have hm1 := hmA.below hb1
  have hbw : Below w.heap.size w w1 := hbA.trans (hb1.mono hbA.size)
  clear hM hbA hmA hb1
  go_wp2_with fail
  refine (heldFns_is a2 c2 fs (1 + ts.length) w1 hs.funcs hs.code (by omega) hm1.fns).mono ?_
  rintro e w2 ⟨rfl, hb2⟩
  have hbz := hbw.trans (hb2.mono hbw.size)
  clear hb2 hm1 x1
  go_wp2
  go_ret
  exact ⟨rfl, hbz⟩

end Go.Proofs.YtjdoljaailokmaaGreatDoor

namespace Go.Proofs.YtjdoljaailokmaaGreatDoor
open Go.RowKit

set_option maxHeartbeats 400000 in
theorem szModule_le (a a2 : Option Addr) (ts : List ByteArray) (fs : List Fn) (cap cap2 : Nat) (w : World) (hn : ts.length ≤ maxLen) (hc : ∀ s ∈ ts, s.size ≤ maxLen) (hm : StrsAt w 0 a ts)
    (hn2 : fs.length ≤ maxLen) (hc2 : ∀ f ∈ fs, f.code.length ≤ maxLen) (hm2 : FnsAt w 0 a2 fs) :
    Calls Tryz.prog 4 #[.agg #[.slice a ts.length cap, .slice a2 fs.length cap2], .int .i64 1048576] w fun e w' => ∃ r : Int, e = .returned (.int .i64 r) ∧ r ≤ 1048576 ∧ (0 ≤ r → Small ts fs) ∧ Below w.heap.size w w' := by
  go_enter Tryz.func4, Tryz.ntmps4
  go_wp2_with fail
  refine (szStringS_any a ts cap 1048576 _ (by omega) (by omega) hn hc (hm.mono ((Below.refl _ _).alloc (Nat.le_refl _) _))).mono ?_
  rintro e w1 ⟨r, rfl, hr, hs, hb⟩
  have hb1 : Below w.heap.size w w1 := ((Below.refl _ _).alloc (Nat.le_refl _) _).trans (hb.mono (by simp))
  obtain ⟨hx, hf⟩ : w1.cell? ⟨w.heap.size, 0, none⟩ = some (.slice a ts.length cap) ∧ w1.cell? ⟨w.heap.size, 1, none⟩ = some (.slice a2 fs.length cap2) := by
    constructor
    · exact cell_later hb (cell_new _ _ _ 0)
    · exact cell_later hb (cell_new _ _ _ 1)
  by_cases h0 : r < 0
  · go_wp2_with fail
    go_ret
    exact ⟨_, rfl, by omega, by omega, hb1⟩
  · go_wp2_with fail
    refine (szFuncS_any a2 fs cap2 r _ (by omega) (by omega) hn2 hc2 (hm2.mono hb1)).mono ?_
    rintro e w2 ⟨r2, rfl, hr2, hs2, hb2⟩
    have hb3 : Below w.heap.size w w2 := hb1.trans (hb2.mono hb1.size)
    by_cases h2 : r2 < 0
    · go_wp2_with fail
      go_ret
      exact ⟨_, rfl, by omega, by omega, hb3⟩
    · go_wp2_with fail
      go_ret
      exact ⟨_, rfl, by omega, fun _ => ⟨(hs (by omega)).1, (hs (by omega)).2, (hs2 (by omega)).1, (hs2 (by omega)).2⟩, hb3⟩



end Go.Proofs.YtjdoljaailokmaaGreatDoor

namespace Go.Proofs.YtjdoljaailokmaaGreatDoor
open Go.RowKit

theorem own_onlyR {S : Nat → Prop} {w w' : World} {base e size n c : Nat} {a : Option Addr} {xs : List Value} (h : w.ownsRow base e size (.slice a n c) n xs) (ho : OnlyR S w w') (hS : ∀ g, base ≤ g → ¬ S g) : w'.ownsRow base e size (.slice a n c) n xs := by
  refine ⟨h.1, ?_⟩
  rcases h.2 with hn | ⟨g, cap, cur, hv, hb, hh, q⟩
  · exact .inl hn
  · exact .inr ⟨g, cap, cur, hv, hb, ho.kept hh (hS g hb), q⟩
theorem ModOwn.onlyR {S : Nat → Prop} {w w' : World} {base c1 c2 : Nat} {a1 a2 : Option Addr} {ts : List ByteArray} {fs : List Fn} {cs : List (Option Addr × Nat)} (h : ModOwn w base a1 c1 a2 c2 ts fs cs) (ho : OnlyR S w w') (hS : ∀ g, base ≤ g → ¬ S g) : ModOwn w' base a1 c1 a2 c2 ts fs cs :=
  ⟨own_onlyR h.texts ho hS, own_onlyR h.funcs ho hS, ⟨h.codes.len, fun i hi hi' => own_onlyR (h.codes.own i hi hi') ho hS, h.codes.order⟩⟩
theorem rew_small {f : List (Int × Int) → List (Int × Int)} (hf : ∀ code, (f code).length ≤ code.length) {ts tz : List ByteArray} {fs fz : List Fn} (hs : Small ts fs) (h : RewRes f ts fs tz fz) : Small tz fz := by
  rcases h with ⟨-, rfl, rfl⟩ | ⟨-, rfl, rfl⟩
  · refine ⟨hs.texts, hs.text, by simpa using hs.funcs, fun F hF => ?_⟩
    obtain ⟨G, hG, rfl⟩ := List.mem_map.1 hF
    exact Nat.le_trans (hf _) (hs.code G hG)
  · exact ⟨by simp, by simp, by simp, by simp⟩
end Go.Proofs.YtjdoljaailokmaaGreatDoor

namespace Go.Proofs.YtjdoljaailokmaaGreatDoor
open Go.RowKit

set_option maxRecDepth 100000 in
set_option maxHeartbeats 4000000 in
theorem iFold_any (a1 a2 : Option Addr) (c1 c2 : Nat) (ts : List ByteArray) (fs : List Fn) (w : World) (hs : Small ts fs) (hst : StrsAt w 0 a1 ts) (hfn : FnsAt w 0 a2 fs) (E0 E1 E2 : Addr) (hE : Errs w E0 E1 E2) :
    Calls Tryz.prog 7 #[.agg #[.slice a1 ts.length c1, .slice a2 fs.length c2]] w fun e w' => IPost (foldOf fs) ts fs w e w' := by
  obtain ⟨wA, hwA⟩ : ∃ wA, wA = (w.alloc (.cells #[.slice a1 ts.length c1, .slice a2 fs.length c2] 29)).alloc (.cells #[.slice none 0 0, .slice none 0 0] 29) := ⟨_, rfl⟩
  have hbA : Below w.heap.size w wA := by rw [hwA]; exact ((Below.refl _ _).alloc (Nat.le_refl _) _).alloc (by simp) _
  have hM : wA.heap[w.heap.size]? = some (.cells #[.slice a1 ts.length c1, .slice a2 fs.length c2] 29 (0, 0)) := by rw [hwA]; exact block_old (block_new _ _ _) _
  have hR : wA.heap[w.heap.size + 1]? = some (.cells #[.slice none 0 0, .slice none 0 0] 29 (0, 0)) := by rw [hwA]; simpa using block_new (w.alloc (.cells #[.slice a1 ts.length c1, .slice a2 fs.length c2] 29)) #[.slice none 0 0, .slice none 0 0] 29
  have hszA : w.heap.size + 2 ≤ wA.heap.size := by rw [hwA]; simp
  have HSZ := hid hszA
  obtain ⟨wB, hwB⟩ : ∃ wB, wB = wA.alloc (.cells #[.func (.func 21) #[] #[]] 95) := ⟨_, rfl⟩
  have hbAB : Below wA.heap.size wA wB := by rw [hwB]; exact (Below.refl _ _).alloc (Nat.le_refl _) _
  have hbB := hbA.trans (hbAB.mono hbA.size)
  have hPc : wB.cell? ⟨wA.heap.size, 0, none⟩ = some (.func (.func 21) #[] #[]) := by rw [hwB]; exact cell_new wA _ _ 0
  have HC : Hid (Calls Tryz.prog 20 #[.agg #[.slice a1 ts.length c1, .slice a2 fs.length c2], .slice (some ⟨wA.heap.size, 0, none⟩) 1 1] wB fun e w' => IPost (foldOf fs) ts fs wB e w') :=
    rew_any wB a1 a2 _ c1 c2 1 1 ts fs (foldOf fs) hs (hst.mono hbB) (hfn.mono hbB) (fun hG W hW => setc_fold hG ((hfn.mono hbB).mono hW) (cell_later hW hPc) ((hE.later hbB).later hW))
  have hRB := block_kept hR hbAB
  have HB := hid (And.intro hbB (Nat.le_trans HSZ.out hbAB.size))
  have m0 := block_cell hM
  clear hst hfn hE hPc hbAB hbB hbA hs
  go_enter Tryz.func7, Tryz.ntmps7
  go_upto_region 1 with fail
  rw [← hwA]
  clear hwA hszA
  go_wp2_with fail
  rw [← hwB]
  refine HC.out.mono ?_
  rintro e w3 ⟨ts', fs', cs, b1, d1, b2, d2, HR, rfl, hmo, hb3⟩
  have hR3 := block_kept hRB hb3
  have r1 := block_cell hR3
  have r2 := block_free hR3
  have hr1 := block_set (i := 0) hR3 (.slice b1 ts'.length d1)
  have hr2 := block_set (i := 1) hr1 (.slice b2 fs'.length d2)
  have rr := block_cell hr2
  have HF : Hid (ModOwn ((w3.setCell ⟨w.heap.size + 1, 0, none⟩ (.slice b1 ts'.length d1)).setCell ⟨w.heap.size + 1, 1, none⟩ (.slice b2 fs'.length d2)) w.heap.size b1 d1 b2 d2 ts' fs' cs ∧ Below w.heap.size w ((w3.setCell ⟨w.heap.size + 1, 0, none⟩ (.slice b1 ts'.length d1)).setCell ⟨w.heap.size + 1, 1, none⟩ (.slice b2 fs'.length d2))) := by
    have hz := HB.out.2
    have hb := HB.out.1.trans (hb3.mono HB.out.1.size)
    exact ⟨((hmo.set (p := ⟨w.heap.size + 1, 0, none⟩) (by simp; omega) _).set (p := ⟨w.heap.size + 1, 1, none⟩) (by simp; omega) _).low (by omega), (hb.setCell (p := ⟨w.heap.size + 1, 0, none⟩) (by simp) _).setCell (p := ⟨w.heap.size + 1, 1, none⟩) (by simp) _⟩
  clear hr1 hr2 hmo hb3 hRB hwB HC
  go_wp2
  refine bodyPost_ret (v := .agg #[.slice b1 ts'.length d1, .slice b2 fs'.length d2]) (by simp [results, Tryz.results7, go_sem, rr]) rfl ?_
  exact ⟨ts', fs', cs, b1, d1, b2, d2, HR, rfl, HF.out.1, HF.out.2⟩
theorem fold_small {ts tz : List ByteArray} {fs fz : List Fn} (hs : Small ts fs) (h : RewRes (foldOf fs) ts fs tz fz) : Small tz fz :=
  rew_small (fun code => foldOf_len fs code) hs h
end Go.Proofs.YtjdoljaailokmaaGreatDoor
