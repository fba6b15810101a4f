/-
  Functions and modules that are marked, cell by cell.
-/
import Derived.Test.YtjdoljaailokmaaGreatDoorZK1
namespace Go.Proofs.YtjdoljaailokmaaGreatDoor
open Go.RowKit

/-- The number behind the marks of these functions. -/
def endF (k : Nat) (fs : List Fn) : Nat := fs.foldl (fun k f => k + 2 + 2 * f.code.length) k
def mFns (k0 : Nat) (fs : List Fn) : List Fn := (List.range fs.length).map fun i => ⟨(endF k0 (fs.take i) : Nat), ((endF k0 (fs.take i) + 1 : Nat) : Int), mCode (endF k0 (fs.take i) + 2) ((fs[i]?.map fun f => f.code.length).getD 0)⟩
theorem mFns_len (k0 : Nat) (fs : List Fn) : (mFns k0 fs).length = fs.length := by simp [mFns]
theorem mCode_len (k n : Nat) : (mCode k n).length = n := by simp [mCode]
theorem endF_succ {k0 i : Nat} {fs : List Fn} (h : i < fs.length) : endF k0 (fs.take (i + 1)) = endF k0 (fs.take i) + 2 + 2 * fs[i].code.length := by
  unfold endF
  rw [List.take_succ_eq_append_getElem h, List.foldl_append]
  rfl
theorem endF_all (k0 : Nat) (fs : List Fn) : endF k0 (fs.take fs.length) = endF k0 fs := by rw [List.take_of_length_le (Nat.le_refl _)]
theorem endF_le {k0 : Nat} {fs : List Fn} (hc : ∀ f ∈ fs, f.code.length ≤ 1048576) : ∀ i, i ≤ fs.length → endF k0 (fs.take i) ≤ k0 + i * 3000000 := by
  intro i
  induction i with
  | zero => intro _; simp [endF]
  | succ i ih =>
    intro hi
    have h1 := ih (by omega)
    rw [endF_succ (by omega)]
    have := hc fs[i] (List.getElem_mem (by omega))
    omega
theorem mFns_at {k0 i : Nat} {fs : List Fn} (h : i < fs.length) : (mFns k0 fs)[i]? = some ⟨(endF k0 (fs.take i) : Nat), ((endF k0 (fs.take i) + 1 : Nat) : Int), mCode (endF k0 (fs.take i) + 2) fs[i].code.length⟩ := by
  simp [mFns, h]

theorem fnVals_set (gs : List Fn) (cs : List (Option Addr × Nat)) (hl : gs.length = cs.length) (i : Nat) (p l : Int) (h : i < gs.length) : ((fnVals gs cs).set (i * 3) (.int .i64 p)).set (i * 3 + 1) (.int .i64 l) = fnVals (gs.set i ⟨p, l, gs[i].code⟩) cs := by
  induction gs generalizing i cs with
  | nil => simp at h
  | cons f gs ih =>
    cases cs with
    | nil => simp at hl
    | cons c cs =>
      have e : ∀ y ys, fnVals (y :: ys) (c :: cs) = .int .i64 y.params :: .int .i64 y.locals :: .slice c.1 y.code.length c.2 :: fnVals ys cs := fun y ys => by simp [fnVals]
      cases i with
      | zero => simp [e]
      | succ i =>
        rw [e, show (i + 1) * 3 = i * 3 + 1 + 1 + 1 by omega]
        simp only [List.set_cons_succ, List.getElem_cons_succ]
        rw [ih cs (by simpa using hl) i (by simpa using h), e]
theorem fnVals_code (gs : List Fn) (cs : List (Option Addr × Nat)) (i : Nat) (h : i < gs.length) (ys : List (Int × Int)) (hy : ys.length = gs[i].code.length) : fnVals (gs.set i ⟨gs[i].params, gs[i].locals, ys⟩) cs = fnVals gs cs := by
  induction gs generalizing i cs with
  | nil => simp at h
  | cons f gs ih =>
    cases cs with
    | nil => simp [fnVals]
    | cons c cs =>
      have e : ∀ y ys, fnVals (y :: ys) (c :: cs) = .int .i64 y.params :: .int .i64 y.locals :: .slice c.1 y.code.length c.2 :: fnVals ys cs := fun y ys => by simp [fnVals]
      cases i with
      | zero =>
        simp only [List.getElem_cons_zero] at hy
        simp [e, hy]
      | succ i =>
        simp only [List.getElem_cons_succ] at hy
        simp only [List.set_cons_succ, List.getElem_cons_succ]
        rw [e, e, ih cs i (by simpa using h) hy]

theorem CodesOwn.nums {w : World} {base : Nat} {gs : List Fn} {cs : List (Option Addr × Nat)} (h : CodesOwn w base gs cs) (i : Nat) (hi : i < gs.length) (p l : Int) : CodesOwn w base (gs.set i ⟨p, l, gs[i].code⟩) cs := by
  refine ⟨by simpa using h.len, fun j hj hj' => ?_, h.order⟩
  have hj0 : j < gs.length := by simpa using hj
  have e : (gs.set i ⟨p, l, gs[i].code⟩)[j].code = gs[j].code := by
    rw [List.getElem_set]
    split
    · rename_i e; subst e; rfl
    · rfl
  rw [e]
  exact h.own j hj0 hj'
/-- The code of one function is others. -/
theorem CodesOwn.put {w w' : World} {base : Nat} {gs : List Fn} {cs : List (Option Addr × Nat)} (h : CodesOwn w base gs cs) (i : Nat) (hi : i < gs.length) (hi' : i < cs.length) (ys : List (Int × Int)) (hy : ys.length = gs[i].code.length)
    (hrow : w'.ownsRow base 44 2 (.slice cs[i].1 gs[i].code.length cs[i].2) gs[i].code.length (codeVals ys)) (hg : w.grownBy w' (Value.slice cs[i].1 gs[i].code.length cs[i].2).ownBlock) :
    CodesOwn w' base (gs.set i ⟨gs[i].params, gs[i].locals, ys⟩) cs := by
  refine ⟨by simpa using h.len, fun j hj hj' => ?_, h.order⟩
  have hj0 : j < gs.length := by simpa using hj
  by_cases e : j = i
  · subst e
    have e1 : (gs.set j ⟨gs[j].params, gs[j].locals, ys⟩)[j].code = ys := by simp
    rw [e1, hy]
    exact hrow
  · have e1 : (gs.set i ⟨gs[i].params, gs[i].locals, ys⟩)[j].code = gs[j].code := by rw [List.getElem_set_ne (fun x => e x.symm)]
    rw [e1]
    have hold := h.own j hj0 hj'
    refine ⟨hold.1, ?_⟩
    rcases hold.2 with hn | ⟨g, cap, cur, hv, hb, hh, r⟩
    · exact .inl hn
    · refine .inr ⟨g, cap, cur, hv, hb, ?_, r⟩
      rw [hg.block g (lt_block hh) (fun hx => ?_)]
      · exact hh
      · have hjg : cs[j].1 = some ⟨g, 0, none⟩ := by
          simp only [Value.slice.injEq] at hv
          exact hv.1
        cases hc : cs[i].1 with
        | none => rw [hc] at hx; simp [Value.ownBlock] at hx
        | some A =>
          rw [hc] at hx
          simp only [Value.ownBlock, Option.some.injEq] at hx
          rcases (h.own i hi hi').2 with ⟨hv2, _⟩ | ⟨g2, _, _, hv2, _⟩
          · rw [hc] at hv2; cases hv2
          · have hig : cs[i].1 = some ⟨g2, 0, none⟩ := by
              simp only [Value.slice.injEq] at hv2
              exact hv2.1
            have e2 : g = g2 := by
              rw [hc] at hig
              cases hig
              exact hx
            rcases Nat.lt_or_gt_of_ne e with e | e
            · have := h.order j i e hi' g g2 hjg hig
              omega
            · have := h.order i j e hj' g2 g hig hjg
              omega

set_option maxHeartbeats 1600000 in
theorem markFns_is (base : Nat) (a : Option Addr) (c : Nat) (fs : List Fn) (cs : List (Option Addr × Nat)) (k0 : Nat) (w : World) (hn : fs.length ≤ 1048576) (hc : ∀ f ∈ fs, f.code.length ≤ 1048576) (h1 : k0 ≤ 10000000) (hown : w.ownsRow base 40 3 (.slice a fs.length c) fs.length (fnVals fs cs)) (hcs : CodesOwn w base fs cs) :
    Calls Tryz.prog 25 #[.slice a fs.length c, .int .i64 k0] w fun e w' => e = .returned (.int .i64 (endF k0 fs : Nat)) ∧ w'.ownsRow base 40 3 (.slice a fs.length c) fs.length (fnVals (mFns k0 fs) cs) ∧ CodesOwn w' base (mFns k0 fs) cs ∧ Keeps base [44, 40] w w' := by
  go_enter Tryz.func25, Tryz.ntmps25
  go_wp2
  go_loopw [1, 5] (fun q i wr => ∃ (k r : Nat) (gs : List Fn), k ≤ fs.length ∧ i = .int .i64 k ∧ q = .int .i64 (r : Nat) ∧ Hid (r = endF k0 (fs.take k)) ∧ r ≤ k0 + k * 3000000 ∧ gs.length = fs.length ∧ Hid (∀ j (h : j < fs.length) (h' : j < gs.length), gs[j].code.length = fs[j].code.length) ∧ Hid (∀ j, j < k → gs[j]? = (mFns k0 fs)[j]?) ∧ wr.ownsRow base 40 3 (.slice a fs.length c) fs.length (fnVals gs cs) ∧ CodesOwn wr base gs cs ∧ Keeps base [44, 40] w wr) (fun _ i _ => fs.length - (intOf i).toNat)
  case atStart => exact ⟨0, k0, fs, by omega, rfl, rfl, by show _ = _; simp [endF], by omega, rfl, fun _ _ _ => rfl, fun j h => by omega, hown, hcs, Keeps.refl _ _ _⟩
  case round =>
    obtain ⟨k, r, gs, hk, rfl, rfl, HR, hr, hgl, HL, HG, hownr, hcr, hkr⟩ := hrel
    by_cases hlt : k < fs.length
    · obtain ⟨g, rfl, hbg, hf1, hc1, ⟨u, hu⟩, hput, honly⟩ := own_put hownr (k * 3) (by omega)
      have own1 := hput (.int .i64 (r : Int))
      obtain ⟨g', hgg, -, -, -, -, hput2, honly2⟩ := own_put own1 (k * 3 + 1) (by omega)
      cases hgg
      have own2 := hput2 (.int .i64 ((r : Int) + 1))
      have hkg : k < gs.length := by omega
      have hkc : k < cs.length := by rw [← hcr.len]; exact hkg
      rw [fnVals_set gs cs hcr.len k _ _ hkg] at own2
      obtain ⟨cur, hcur⟩ := own_blk hownr rfl
      have ho : Only g wr ((wr.setCell ⟨g, k * 3, none⟩ (.int .i64 (r : Int))).setCell ⟨g, k * 3 + 1, none⟩ (.int .i64 ((r : Int) + 1))) := (honly _).trans (honly2 _)
      have hk2 : Keeps base [40] wr _ := ho.keeps hcur (by simp) hbg
      have hcr2 := (hcr.keeps hk2 (by simp)).nums k hkg (r : Int) ((r : Int) + 1)
      have hf2' : wr.frozen? ⟨g, k * 3 + 1, none⟩ = false := block_free hcur _
      obtain ⟨u3, hc2'⟩ : ∃ u3, wr.cell? ⟨g, k * 3 + 1, none⟩ = some u3 := by
        obtain ⟨_, hgg, -, -, h, ⟨u3, hu3⟩, -⟩ := own_put hownr (k * 3 + 1) (by omega)
        cases hgg
        exact ⟨u3, h.trans hu3⟩
      have hc3 : wr.cell? ⟨g, k * 3 + 2, none⟩ = some (.slice cs[k].1 gs[k].code.length cs[k].2) := by
        obtain ⟨_, hgg, -, -, h, -⟩ := own_put hownr (k * 3 + 2) (by omega)
        cases hgg
        rw [h, (fnVals_at gs cs hcr.len k hkg hkc).2.2]
      rw [hu] at hc1
      have hlen : Hid (gs[k].code.length = fs[k].code.length) := HL.out k hlt hkg
      have hck : gs[k].code.length ≤ 1048576 := by rw [hlen.out]; exact hc fs[k] (List.getElem_mem hlt)
      have hkk : Keeps base [44, 40] w ((wr.setCell ⟨g, k * 3, none⟩ (.int .i64 (r : Int))).setCell ⟨g, k * 3 + 1, none⟩ (.int .i64 ((r : Int) + 1))) := hkr.trans (hk2.mono (Nat.le_refl _) (by simp))
      clear hput hput2 honly honly2 own1 ho hk2 hkr
      go_wp2_with fail
      generalize ((wr.setCell ⟨g, k * 3, none⟩ (.int .i64 (r : Int))).setCell ⟨g, k * 3 + 1, none⟩ (.int .i64 ((r : Int) + 1))) = wc at own2 hcr2 hkk ⊢
      clear hc1 hf1 hf2' hc2' hc3 hownr hcur hcr
      rw [show ((r : Int) + 1 + 1) = ((r + 2 : Nat) : Int) by omega]
      have hrow : wc.ownsRow base 44 2 (.slice cs[k].1 gs[k].code.length cs[k].2) gs[k].code.length (codeVals gs[k].code) := by
        have := hcr2.own k (by simpa using hkg) hkc
        simpa using this
      refine (markIns_is base cs[k].1 cs[k].2 gs[k].code (r + 2) wc hck (by omega) hrow).mono ?_
      rintro e w2 ⟨rfl, hrow2, hg2⟩
      have hk3 : Keeps base [44] wc w2 := Keeps.grown hrow hg2 (by simp)
      have own3 := own_keeps own2 hk3 (by simp)
      have hcr3 := hcr2.put (w' := w2) k (by simpa using hkg) hkc (mCode (r + 2) gs[k].code.length) (by simp [mCode]) (by simpa using hrow2) (by simpa using hg2)
      have e3 : ((gs.set k ⟨(r : Int), (r : Int) + 1, gs[k].code⟩).set k ⟨((gs.set k ⟨(r : Int), (r : Int) + 1, gs[k].code⟩)[k]'(by simpa using hkg)).params, ((gs.set k ⟨(r : Int), (r : Int) + 1, gs[k].code⟩)[k]'(by simpa using hkg)).locals, mCode (r + 2) gs[k].code.length⟩) = gs.set k ⟨(r : Int), (r : Int) + 1, mCode (r + 2) gs[k].code.length⟩ := by
        simp
      have own4 : w2.ownsRow base 40 3 (.slice (some ⟨g, 0, none⟩) fs.length c) fs.length (fnVals (gs.set k ⟨(r : Int), (r : Int) + 1, mCode (r + 2) gs[k].code.length⟩) cs) := by
        rw [← e3, fnVals_code _ _ k (by simpa using hkg) _ (by simp [mCode])]
        exact own3
      rw [e3] at hcr3
      have hk4 : Keeps base [44, 40] w w2 := hkk.trans (hk3.mono (Nat.le_refl _) (by simp))
      have HR2 : Hid (r + 2 + 2 * gs[k].code.length = endF k0 (fs.take (k + 1))) := by
        show _ = _
        rw [endF_succ hlt, ← HR.out, hlen.out]
      have HG2 : Hid (∀ j, j < k + 1 → (gs.set k ⟨(r : Int), (r : Int) + 1, mCode (r + 2) gs[k].code.length⟩)[j]? = (mFns k0 fs)[j]?) := fun j hj => by
        by_cases e : j = k
        · subst e
          rw [mFns_at hlt, ← HR.out, ← hlen.out]
          simp [hkg]
        · rw [List.getElem?_set_ne (by omega)]; exact HG.out j (by omega)
      have HL2 : Hid (∀ j (h : j < fs.length) (h' : j < (gs.set k ⟨(r : Int), (r : Int) + 1, mCode (r + 2) gs[k].code.length⟩).length), (gs.set k ⟨(r : Int), (r : Int) + 1, mCode (r + 2) gs[k].code.length⟩)[j].code.length = fs[j].code.length) := fun j h h' => by
        rw [List.getElem_set]
        split
        · rename_i e; subst e; rw [mCode_len]; exact hlen.out
        · exact HL.out j h (by omega)
      have hbd : r + 2 + 2 * gs[k].code.length ≤ k0 + (k + 1) * 3000000 := by omega
      clear own2 own3 hcr2 hrow hrow2 hg2 hk3 hkk e3 HG HL HR hlen
      go_wp2
      go_roundw
      case rel => exact ⟨k + 1, r + 2 + 2 * gs[k].code.length, _, by omega, by go_num, rfl, HR2, hbd, by simpa using hgl, HL2, HG2, own4, hcr3, hk4⟩
      case measure => simp [intOf]; omega
    · have hke : k = fs.length := by omega
      have hy : gs = mFns k0 fs := by
        apply List.ext_getElem?
        intro j
        by_cases hj : j < fs.length
        · exact HG.out j (by omega)
        · rw [List.getElem?_eq_none (by omega), List.getElem?_eq_none (by rw [mFns_len]; omega)]
      have hre : Hid (r = endF k0 fs) := by
        show _ = _
        rw [HR.out, hke, endF_all]
      rw [hy] at hownr hcr
      clear HG HL HR hy
      subst hke
      go_wp2
      go_ret
      exact ⟨by rw [← hre.out]; rfl, hownr, hcr, hkr⟩
end Go.Proofs.YtjdoljaailokmaaGreatDoor
