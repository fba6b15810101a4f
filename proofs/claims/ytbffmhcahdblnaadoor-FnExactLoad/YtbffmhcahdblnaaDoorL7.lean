/-
  What the program's Load answers: the module whose bytes these are, if one that is ok has them.
-/
import Derived.Test.YtbffmhcahdblnaaDoorL6
import Derived.Test.YtbffmhcahdblnaaDoorLPlain3
namespace Go.Proofs.YtbffmhcahdblnaaDoor
open Go.RowKit

theorem own_cell {w : World} {base e size n c : Nat} {a : Option Addr} {xs : List Value} (h : w.ownsRow base e size (.slice a n c) n xs) (j : Nat) (hj : j < n * size) : ∃ g, a = some ⟨g, 0, none⟩ ∧ base ≤ g ∧ w.cell? ⟨g, j, none⟩ = xs[j]? := by
  rcases h.2 with ⟨-, hn⟩ | ⟨g, cap, cur, hv, hb, hh, -, -, hs, htake⟩
  · subst hn; simp at hj
  · cases hv
    refine ⟨g, rfl, hb, ?_⟩
    rw [block_cell hh, ← htake, List.getElem?_take_of_lt hj, Array.getElem?_toList]
theorem texts_at {w : World} {base c : Nat} {a : Option Addr} {ts : List ByteArray} (h : w.ownsRow base 9 1 (.slice a ts.length c) ts.length (ts.map .string)) : StrsAt w base a ts := by
  intro i hi
  obtain ⟨g, hg, hb, hc⟩ := own_cell h i (by omega)
  exact ⟨g, 0, hg, hb, by rw [Nat.zero_add, hc]; simp [hi]⟩
theorem codeVals_at (xs : List (Int × Int)) : ∀ i (h : i < xs.length), (codeVals xs)[i * 2]? = some (.int .i64 xs[i].1) ∧ (codeVals xs)[i * 2 + 1]? = some (.int .i64 xs[i].2) := by
  induction xs with
  | nil => intro i h; simp at h
  | cons x xs ih =>
    intro i h
    have e : codeVals (x :: xs) = .int .i64 x.1 :: .int .i64 x.2 :: codeVals xs := by simp [codeVals]
    rw [e]
    cases i with
    | zero => exact ⟨rfl, rfl⟩
    | succ i =>
      have := ih i (by simpa using h)
      rw [show (i + 1) * 2 = i * 2 + 1 + 1 by omega]
      simpa using this
theorem code_at {w : World} {base c : Nat} {a : Option Addr} {xs : List (Int × Int)} (h : w.ownsRow base 47 2 (.slice a xs.length c) xs.length (codeVals xs)) : CodeAt w base a xs := by
  intro i hi
  obtain ⟨g, hg, hb, h1⟩ := own_cell h (i * 2) (by omega)
  obtain ⟨g', hg', -, h2⟩ := own_cell h (i * 2 + 1) (by omega)
  rw [hg] at hg'
  cases hg'
  have hv := codeVals_at xs i hi
  exact ⟨g, 0, hg, hb, by rw [Nat.zero_add, h1, hv.1], by rw [show 0 + i * 2 + 1 = i * 2 + 1 by omega, h2, hv.2]⟩
theorem fnVals_at : ∀ (fs : List Fn) (cs : List (Option Addr × Nat)), fs.length = cs.length → ∀ i (h : i < fs.length) (h' : i < cs.length), (fnVals fs cs)[i * 3]? = some (.int .i64 fs[i].params) ∧ (fnVals fs cs)[i * 3 + 1]? = some (.int .i64 fs[i].locals) ∧ (fnVals fs cs)[i * 3 + 2]? = some (.slice cs[i].1 fs[i].code.length cs[i].2) := by
  intro fs
  induction fs with
  | nil => intro cs _ i h; simp at h
  | cons f fs ih =>
    intro cs hl i h h'
    cases cs with
    | nil => simp at hl
    | cons c cs =>
      have e : fnVals (f :: fs) (c :: cs) = .int .i64 f.params :: .int .i64 f.locals :: .slice c.1 f.code.length c.2 :: fnVals fs cs := by simp [fnVals]
      rw [e]
      cases i with
      | zero => exact ⟨rfl, rfl, rfl⟩
      | succ i =>
        have := ih cs (by simpa using hl) i (by simpa using h) (by simpa using h')
        rw [show (i + 1) * 3 = i * 3 + 1 + 1 + 1 by omega]
        simpa using this
theorem ModOwn.fns {w : World} {base c1 c2 : Nat} {a1 a2 : Option Addr} {ts : List ByteArray} {fs : List Fn} {cs : List (Option Addr × Nat)} (h : ModOwn w base a1 c1 a2 c2 ts fs cs) : FnsAt w base a2 fs := by
  intro i hi
  have hi' : i < cs.length := by rw [← h.codes.len]; exact hi
  have hv := fnVals_at fs cs h.codes.len i hi hi'
  obtain ⟨g, hg, hb, h1⟩ := own_cell h.funcs (i * 3) (by omega)
  obtain ⟨g', hg', -, h2⟩ := own_cell h.funcs (i * 3 + 1) (by omega)
  obtain ⟨g'', hg'', -, h3⟩ := own_cell h.funcs (i * 3 + 2) (by omega)
  rw [hg] at hg' hg''
  cases hg'
  cases hg''
  exact ⟨g, 0, cs[i].1, cs[i].2, hg, hb, by rw [Nat.zero_add, h1, hv.1], by rw [show 0 + i * 3 + 1 = i * 3 + 1 by omega, h2, hv.2.1], by rw [show 0 + i * 3 + 2 = i * 3 + 2 by omega, h3, hv.2.2], code_at (h.codes.own i hi hi')⟩
theorem ModOwn.strs {w : World} {base c1 c2 : Nat} {a1 a2 : Option Addr} {ts : List ByteArray} {fs : List Fn} {cs : List (Option Addr × Nat)} (h : ModOwn w base a1 c1 a2 c2 ts fs cs) : StrsAt w base a1 ts := texts_at h.texts

theorem not_mod_of_none {bs : List Int} (h : pModule bs = none) : ¬ ∃ ts fs, modB ts fs = true ∧ bs = modBytes ts fs := by
  rintro ⟨ts, fs, h1, h2⟩
  have := pModule_up [] (okMod h1)
  rw [List.append_nil, ← h2, h] at this
  cases this
theorem not_mod_of_more {bs r : List Int} {z : List ByteArray × List Fn} (h : pModule bs = some (z, r)) (hr : r ≠ []) : ¬ ∃ ts fs, modB ts fs = true ∧ bs = modBytes ts fs := by
  rintro ⟨ts, fs, h1, h2⟩
  have := pModule_up [] (okMod h1)
  rw [List.append_nil, ← h2, h] at this
  simp only [Option.some.injEq, Prod.mk.injEq] at this
  exact hr this.2
theorem not_mod_of_bad {bs : List Int} {ts : List ByteArray} {fs : List Fn} (h : pModule bs = some ((ts, fs), [])) (hb : modB ts fs = false) : ¬ ∃ ts fs, modB ts fs = true ∧ bs = modBytes ts fs := by
  rintro ⟨ts', fs', h1, h2⟩
  have := pModule_up [] (okMod h1)
  rw [List.append_nil, ← h2, h] at this
  simp only [Option.some.injEq, Prod.mk.injEq] at this
  obtain ⟨⟨rfl, rfl⟩, -⟩ := this
  rw [h1] at hb
  cases hb

theorem as_hit_only (s : ByteArray) (g : Nat) (old : Value) (w : World) (hg : w.cell? ⟨0, 0, none⟩ = some (.iface 115 (.agg #[.pointer (some ⟨1, 55, none⟩)]))) (ht0 : w.cell? ⟨g, 0, none⟩ = some old) (hf0 : w.frozen? ⟨g, 0, none⟩ = false) :
    Calls Tryd.prog 35 #[.iface 62 (.agg #[.string s]), .iface 64 (.pointer (some ⟨g, 0, none⟩))] w fun ev w' => ev = .returned (.bool true) ∧ Only g w w' := by
  refine (as_hit s ⟨g, 0, none⟩ old w hg ht0 hf0).mono ?_
  rintro e w' ⟨rfl, rfl⟩
  exact ⟨rfl, (((((Only.refl g w).alloc _).alloc _).alloc _).alloc _).set _ _⟩

set_option maxRecDepth 100000 in
set_option maxHeartbeats 1600000 in
theorem iLoad_any (ab : Option Addr) (bs : List Int) (cap : Nat) (w : World) (hn : bs.length ≤ 1048576) (hby : Byte bs) (hb : BytesAt w 0 ab bs) (hcap : bs.length ≤ cap) (hg : w.cell? ⟨0, 0, none⟩ = some (.iface 115 (.agg #[.pointer (some ⟨1, 55, none⟩)]))) :
    Calls Tryd.prog 11 #[.slice ab bs.length cap] w fun e w' =>
      (∃ (ts : List ByteArray) (fs : List Fn) (cs : List (Option Addr × Nat)) (a1 : Option Addr) (c1 : Nat) (a2 : Option Addr) (c2 : Nat), modB ts fs = true ∧ bs = modBytes ts fs ∧ e = .returned (.tuple #[.agg #[.slice a1 ts.length c1, .slice a2 fs.length c2], .bool true]) ∧ ModOwn w' w.heap.size a1 c1 a2 c2 ts fs cs ∧ Below w.heap.size w w') ∨
      ((¬ ∃ ts fs, modB ts fs = true ∧ bs = modBytes ts fs) ∧ e = .returned (.tuple #[.agg #[.slice none 0 0, .slice none 0 0], .bool false]) ∧ Below w.heap.size w w') := by
  go_enter Tryd.func11, Tryd.ntmps11
  go_wp2_with fail
  have hbA : Below w.heap.size w ((w.alloc (.cells #[.slice none 0 0, .slice none 0 0] 27)).alloc (.cells #[.slice ab bs.length cap, .int .i64 0] 53)) := ((Below.refl _ _).alloc (Nat.le_refl _) _).alloc (by simp) _
  have hN0 := block_old (block_new w #[.slice none 0 0, .slice none 0 0] 27) (.cells #[.slice ab bs.length cap, .int .i64 0] 53)
  have hR0 : RdAt ((w.alloc (.cells #[.slice none 0 0, .slice none 0 0] 27)).alloc (.cells #[.slice ab bs.length cap, .int .i64 0] 53)) (w.heap.size + 1) ab bs.length cap 0 := by
    have := block_new (w.alloc (.cells #[.slice none 0 0, .slice none 0 0] 27)) #[.slice ab bs.length cap, .int .i64 0] 53
    simpa [RdAt] using this
  have I : In w (w.heap.size + 1) ab bs cap := ⟨hn, hby, hb, by omega, hcap⟩
  refine (takeModule_any (w.heap.size + 1) ab bs cap 0 _ w I hR0 (by omega) hbA).mono ?_
  rintro e w1 (⟨ts, fs, cs, q, a1, c1, a2, c2, hq, hpm, rfl, hm, hR1, ho1⟩ | ⟨hpm, s, rfl, ho1⟩)
  · have HM : Hid (pModule bs = some ((ts, fs), bs.drop q)) := by
      show _ = _
      simpa using hpm
    have hN1 := ho1.blk hN0 (by omega)
    have hb1 : Below w.heap.size w w1 := hbA.trans (ho1.below (by omega) (by simp; omega))
    have hz1 : w.heap.size + 2 ≤ w1.heap.size := by have := ho1.size; simpa using this
    have hm1 : ModOwn w1 (w.heap.size + 2) a1 c1 a2 c2 ts fs cs := by simpa using hm
    clear hpm hN0 hbA hR0 hm
    go_wp2_with fail
    refine (rEnd_any (w.heap.size + 1) ab bs.length cap q _ (hR1.alloc _)).mono ?_
    rintro e w2 ⟨hE, ho2⟩
    have hN2 := ho2.blk (block_old hN1 (.cells #[.slice a1 ts.length c1, .slice a2 fs.length c2] 27)) (by omega)
    have hM2 := ho2.blk (block_new w1 #[.slice a1 ts.length c1, .slice a2 fs.length c2] 27) (by omega)
    have hb2 : Below w.heap.size w w2 := (hb1.alloc (by omega) _).trans (ho2.below (by omega) (by simp; omega))
    have hz2 : w1.heap.size + 1 ≤ w2.heap.size := by have := ho2.size; simpa using this
    have hm2 : ModOwn w2 (w.heap.size + 2) a1 c1 a2 c2 ts fs cs := (hm1.below ((Below.refl _ _).alloc (Nat.le_refl _) _)).only (by omega) ho2
    have hg2 := cell_later hb2 hg
    clear hN1 hb1 hm1 ho2 ho1 hR1
    rcases hE with ⟨hqe, rfl⟩ | ⟨hqe, s, rfl⟩
    · have HD : Hid (pModule bs = some ((ts, fs), [])) := by
        show _ = _
        rw [HM.out, List.drop_eq_nil_of_le hqe]
      have hsm : Small ts fs := pModule_small hby HD.out
      go_wp2_with fail
      refine (as_nil _ _).mono ?_
      rintro e w3 ⟨rfl, rfl⟩
      have hN3 := block_old hN2 (.cells #[.string ⟨#[]⟩] 62)
      have hM3 := block_old hM2 (.cells #[.string ⟨#[]⟩] 62)
      have hb3 : Below w.heap.size w (w2.alloc (.cells #[.string ⟨#[]⟩] 62)) := hb2.alloc (by omega) _
      have hm3 : ModOwn (w2.alloc (.cells #[.string ⟨#[]⟩] 62)) (w.heap.size + 2) a1 c1 a2 c2 ts fs cs := hm2.below ((Below.refl _ _).alloc (Nat.le_refl _) _)
      have hz3 : w2.heap.size + 1 = (w2.alloc (.cells #[.string ⟨#[]⟩] 62)).heap.size := by simp
      generalize (w2.alloc (.cells #[.string ⟨#[]⟩] 62)) = w3 at hN3 hM3 hb3 hm3 hz3 ⊢
      have cM3 := block_cell hM3
      clear hN2 hM2 hb2 hm2 hg2
      go_wp2_with fail
      refine (iModuleOk_any a1 a2 ts fs c1 c2 w3 hsm (hm3.low (Nat.zero_le _)).strs (hm3.low (Nat.zero_le _)).fns).mono ?_
      rintro e w4 ⟨rfl, hb4⟩
      have hN4 := block_kept hN3 hb4
      have hM4 := block_kept hM3 hb4
      have hbz : Below w.heap.size w w4 := hb3.trans (hb4.mono hb3.size)
      have hm4 := hm3.below hb4
      have c4 := block_cell hN4
      have f4 := block_free hN4
      have d4 := block_cell hM4
      clear hN3 hM3 hb3 hm3 hb4 cM3 hz3
      cases hok : modB ts fs
      · have hno := not_mod_of_bad HD.out hok
        go_wp2
        refine bodyPost_ret (v := .tuple #[.agg #[.slice none 0 0, .slice none 0 0], .bool false]) (by simp [results, Tryd.results11, go_sem, c4]) rfl (Or.inr ⟨hno, rfl, ?_⟩)
        exact (hbz.setCell (Nat.le_refl _) _).setCell (Nat.le_refl _) _
      · have hbs : Hid (bs = modBytes ts fs) := by
          show _ = _
          have := pModule_down hby HD.out
          simpa using this
        go_wp2
        refine bodyPost_ret (v := .tuple #[.agg #[.slice a1 ts.length c1, .slice a2 fs.length c2], .bool true]) (by simp [results, Tryd.results11, go_sem, c4]) rfl (Or.inl ⟨ts, fs, cs, a1, c1, a2, c2, hok, hbs.out, rfl, ?_, ?_⟩)
        · exact ((hm4.set (p := ⟨w.heap.size, 0, none⟩) (by simp) _).set (p := ⟨w.heap.size, 1, none⟩) (by simp) _).low (by omega)
        · exact (hbz.setCell (Nat.le_refl _) _).setCell (Nat.le_refl _) _
    · have hno := not_mod_of_more HM.out (by
        intro h
        have := congrArg List.length h
        simp at this
        omega)
      go_wp2_with fail
      refine (as_hit_only s w2.heap.size (.string ⟨#[]⟩) _ (by rw [← hg2]; exact cell_later ((Below.refl _ _).alloc (Nat.le_refl _) _) hg2 |>.trans hg2.symm) (by simp) (block_free (block_new w2 #[.string ⟨#[]⟩] 62) 0)).mono ?_
      rintro e w3 ⟨rfl, ho3⟩
      have hN3 := ho3.blk (block_old hN2 (.cells #[.string ⟨#[]⟩] 62)) (by omega)
      have hb3 : Below w.heap.size w w3 := (hb2.alloc (by omega) _).trans (ho3.below (by omega) (by simp; omega))
      have c3 := block_cell hN3
      have f3 := block_free hN3
      clear hN2 hM2 hb2 hm2 hg2 ho3
      go_wp2
      refine bodyPost_ret (v := .tuple #[.agg #[.slice none 0 0, .slice none 0 0], .bool false]) (by simp [results, Tryd.results11, go_sem, c3]) rfl (Or.inr ⟨hno, rfl, ?_⟩)
      exact (hb3.setCell (Nat.le_refl _) _).setCell (Nat.le_refl _) _
  · have HM : Hid (pModule bs = none) := by
      show _ = _
      simpa using hpm
    have hN1 := ho1.blk hN0 (by omega)
    have hb1 : Below w.heap.size w w1 := hbA.trans (ho1.below (by omega) (by simp; omega))
    have hg1 := cell_later hb1 hg
    have hz1 : w.heap.size + 2 ≤ w1.heap.size := by have := ho1.size; simpa using this
    have hno := not_mod_of_none HM.out
    clear hpm hN0 hbA hR0
    go_wp2_with fail
    have hg2 := cell_later ((((Below.refl w1.heap.size w1).alloc (Nat.le_refl _) (.cells #[.slice none 0 0, .slice none 0 0] 27))).alloc (by simp) (.cells #[.string ⟨#[]⟩] 62)) hg1
    have hT := block_new (w1.alloc (.cells #[.slice none 0 0, .slice none 0 0] 27)) #[.string ⟨#[]⟩] 62
    simp only [World.size_alloc] at hT
    refine (as_hit_only s (w1.heap.size + 1) (.string ⟨#[]⟩) _ hg2 (by rw [block_cell hT 0]; rfl) (block_free hT 0)).mono ?_
    rintro e w3 ⟨rfl, ho3⟩
    have hN3 := ho3.blk (block_old (block_old hN1 (.cells #[.slice none 0 0, .slice none 0 0] 27)) (.cells #[.string ⟨#[]⟩] 62)) (by omega)
    have hb3 : Below w.heap.size w w3 := ((hb1.alloc (by omega) _).alloc (by simp; omega) _).trans (ho3.below (by omega) (by simp; omega))
    have c3 := block_cell hN3
    have f3 := block_free hN3
    clear hN1 hb1 hg1 hg2 ho3 hT
    go_wp2
    refine bodyPost_ret (v := .tuple #[.agg #[.slice none 0 0, .slice none 0 0], .bool false]) (by simp [results, Tryd.results11, go_sem, c3]) rfl (Or.inr ⟨hno, rfl, ?_⟩)
    exact (hb3.setCell (Nat.le_refl _) _).setCell (Nat.le_refl _) _
end Go.Proofs.YtbffmhcahdblnaaDoor
