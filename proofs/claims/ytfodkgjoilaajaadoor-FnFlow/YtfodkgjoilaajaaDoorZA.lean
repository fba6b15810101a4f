/-
  What impl.DepthsOf and spec.DepthsOf return at every module within the stated sizes and every number; the laws' functions over slices of numbers.
  What impl.DepthsOf returns at every module within the stated sizes and every number.
  What impl.troubleAt returns: the trouble at an instruction, heights being known.
  What Verify is to answer, and the heights of all functions in memory.
  What impl.heightsOfAll and impl.Verify return, for every module within the stated sizes.
  What spec.Verify returns, for every module within the stated sizes.
  What was drawn, as lists of texts and functions; what a good module's heights are; two troubles compared.
  The module is good: the document's word.
-/
import Derived.Test.YtfodkgjoilaajaaDoorV9
import Derived.Test.YtfodkgjoilaajaaDoorW7
import Derived.Deep.RegionHeld3
import Derived.Test.YtfodkgjoilaajaaDoorD17
import Derived.Laws.StructEq
import Derived.Test.YtfodkgjoilaajaaDoorW2
namespace Go.Proofs.YtfodkgjoilaajaaDoor
open Go.RowKit

theorem fine_of {ts : List ByteArray} {fs : List Fn} (h : modB ts fs = true) {k : Nat} (hk : k < fs.length) : Fine fs fs[k].code := by
  unfold modB at h
  simp only [Bool.and_eq_true, decide_eq_true_eq, List.all_eq_true] at h
  have hall := h.2
  have hf : ∀ f ∈ fs, fnB ts.length fs.length f = true := hall
  have hfn : ∀ f ∈ fs, (0 ≤ f.params ∧ f.params ≤ 6) ∧ 1 ≤ f.code.length ∧ f.code.length ≤ 120 ∧ ∀ x ∈ f.code, insB ts.length fs.length f.locals f.code.length x.1 x.2 = true := by
    intro f hm
    have := hf f hm
    unfold fnB at this
    simp only [Bool.and_eq_true, decide_eq_true_eq, List.all_eq_true] at this
    exact ⟨⟨by omega, by omega⟩, by omega, by omega, this.2⟩
  have hkk := hfn fs[k] (List.getElem_mem hk)
  refine ⟨fun f hm => (hfn f hm).1, hkk.2.1, hkk.2.2.1, fun i hi hj => ?_⟩
  have hx := hkk.2.2.2 fs[k].code[i] (List.getElem_mem hi)
  unfold insB at hx
  rcases hj with e | e | e
  all_goals
    rw [e] at hx
    simp at hx
    omega

/-- What DepthsOf is to answer. -/
def IsDep (ts : List ByteArray) (fs : List Fn) (f : Int) (d : List Int) : Prop :=
  (modB ts fs = true ∧ ∃ (k : Nat) (hk : k < fs.length), f = k ∧ Done fs fs[k].code d) ∨ (¬ (modB ts fs = true ∧ 0 ≤ f ∧ f < fs.length) ∧ d = [])

theorem IsDep.one {ts : List ByteArray} {fs : List Fn} {f : Int} {d e : List Int} (h1 : IsDep ts fs f d) (h2 : IsDep ts fs f e) : d = e := by
  rcases h1 with ⟨hm, k, hk, rfl, hd⟩ | ⟨hn, rfl⟩
  · rcases h2 with ⟨-, k', hk', e', hd'⟩ | ⟨hn, -⟩
    · obtain rfl : k = k' := by omega
      exact hd.one hd'
    · exact absurd ⟨hm, by omega, by omega⟩ hn
  · rcases h2 with ⟨hm, k, hk, rfl, -⟩ | ⟨-, rfl⟩
    · exact absurd ⟨hm, by omega, by omega⟩ hn
    · rfl
theorem IsDep.len {ts : List ByteArray} {fs : List Fn} {f : Int} {d : List Int} (h : IsDep ts fs f d) : d.length ≤ 120 := by
  rcases h with ⟨hm, k, hk, rfl, hd⟩ | ⟨-, rfl⟩
  · have F := fine_of hm hk
    have := F.most
    have := (hd.hts F).len
    omega
  · simp

/-- A slice of numbers in memory from 'base' on. -/
def DSl (w : World) (base : Nat) (v : Value) (d : List Int) : Prop := (d = [] ∧ ∃ a cap, v = .slice a 0 cap) ∨ (∃ g cap, v = .slice (some ⟨g, 0, none⟩) d.length cap ∧ base ≤ g ∧ Ht w g cap d)

theorem DSl.form {w : World} {base : Nat} {v : Value} {d : List Int} (h : DSl w base v d) : ∃ a cap, v = .slice a d.length cap ∧ IntsAt w base a d := by
  rcases h with ⟨rfl, a, cap, rfl⟩ | ⟨g, cap, rfl, hg, hH⟩
  · exact ⟨a, cap, rfl, fun i hi => absurd hi (by simp)⟩
  · exact ⟨_, cap, rfl, hH.ints hg⟩
theorem DSl.mono {w w' : World} {base : Nat} {v : Value} {d : List Int} (h : DSl w base v d) (hb : Below w.heap.size w w') : DSl w' base v d := by
  rcases h with h | ⟨g, cap, rfl, hg, hH⟩
  · exact .inl h
  · exact .inr ⟨g, cap, rfl, hg, hH.mono hb⟩
theorem Ht.keeps {w w' : World} {g cap B : Nat} {ts : List Nat} {d : List Int} (h : Ht w g cap d) (hk : Keeps B ts w w') (ht : 3 ∉ ts) : Ht w' g cap d := by
  obtain ⟨c, h1, h2⟩ := h
  exact ⟨c, hk.cell h1 ht, h2⟩
theorem DSl.keeps {w w' : World} {base B : Nat} {ts : List Nat} {v : Value} {d : List Int} (h : DSl w base v d) (hk : Keeps B ts w w') (ht : 3 ∉ ts) : DSl w' base v d := by
  rcases h with h | ⟨g, cap, rfl, hg, hH⟩
  · exact .inl h
  · exact .inr ⟨g, cap, rfl, hg, hH.keeps hk ht⟩
theorem DSl.low {w : World} {base base' : Nat} {v : Value} {d : List Int} (h : DSl w base v d) (hl : base' ≤ base) : DSl w base' v d := by
  rcases h with h | ⟨g, cap, rfl, hg, hH⟩
  · exact .inl h
  · exact .inr ⟨g, cap, rfl, by omega, hH⟩

end Go.Proofs.YtfodkgjoilaajaaDoor

namespace Go.Proofs.YtfodkgjoilaajaaDoor
open Go.RowKit

set_option maxRecDepth 100000 in
set_option maxHeartbeats 1000000 in
theorem iDepthsOf_any (a1 a2 : Option Addr) (c1 c2 : Nat) (ts : List ByteArray) (fs : List Fn) (f : Int) (w : World) (hs : Small ts fs) (hm : StrsAt w 0 a1 ts) (hm2 : FnsAt w 0 a2 fs) :
    Calls Tryd.prog 15 #[.agg #[.slice a1 ts.length c1, .slice a2 fs.length c2], .int .i64 f] w fun e w' => ∃ v d, e = .returned v ∧ IsDep ts fs f d ∧ DSl w' w.heap.size v d ∧ Below w.heap.size w w' := by
  have hn := hs.funcs
  have hbA : Below w.heap.size w (w.alloc (.cells #[.slice a1 ts.length c1, .slice a2 fs.length c2] 27)) := (Below.refl _ _).alloc (Nat.le_refl _) _
  have hM0 := block_new w #[.slice a1 ts.length c1, .slice a2 fs.length c2] 27
  by_cases hf : 0 ≤ f ∧ f < fs.length
  · obtain ⟨k, rfl⟩ : ∃ k : Nat, f = k := ⟨f.toNat, by omega⟩
    have hk : k < fs.length := by omega
    go_enter Tryd.func15, Tryd.ntmps15
    go_wp2_with fail
    refine (iModuleOk_any _ _ ts fs _ _ _ hs (hm.mono hbA) (hm2.mono hbA)).mono ?_
    rintro e w1 ⟨rfl, hb⟩
    have hM1 := block_kept hM0 hb
    have hb1 : Below w.heap.size w w1 := hbA.trans (hb.mono (by simp))
    have y1 := block_cell hM1
    clear hbA hM0 hb
    by_cases hok : modB ts fs = true
    · have F := fine_of hok hk
      have HO : Hid (modB ts fs = true) := hok
      obtain ⟨b, off, ca, cc, rfl, -, d1, d2, d3, d4⟩ := hm2 k hk
      have d3' := cell_later hb1 d3
      clear d1 d2 d3 hf
      go_wp2
      go_region_held3 (fun w' => w'.cell? ⟨w.heap.size, 0, none⟩ = some (.slice a1 ts.length c1) ∧ w'.cell? ⟨w.heap.size, 1, none⟩ = some (.slice (some ⟨b, off, none⟩) fs.length c2) ∧ w'.cell? ⟨b, off + k * 3 + 2, none⟩ = some (.slice ca fs[k].code.length cc))
        (first | exact ⟨(y1 0).trans rfl, (y1 1).trans rfl, d3'⟩ | exact ⟨by rw [block_cell (block_kept hM1 k6)]; rfl, by rw [block_cell (block_kept hM1 k6)]; rfl, cell_later k6 d3'⟩)
        (first | (go_at_call 29; refine (iHeights_any _ _ _ _ _ _ _ fs fs[k].code _ (by exact hm2.mono hb1.drew) (by exact d4.mono hb1.drew) F).mono ?_; rintro e w4 ⟨g, d, rfl, hg, hD, hH, k6d⟩; have k6 := below_undraw k6d))
      have hl : d.length = fs[k].code.length := (hD.hts F).len
      have hg' : w1.heap.size ≤ g := hg
      go_wp2
      go_ret
      refine ⟨.slice (some ⟨g, 0, none⟩) fs[k].code.length fs[k].code.length, d, rfl, .inl ⟨HO.out, k, hk, rfl, hD⟩, .inr ⟨g, _, by rw [hl], by have := hb1.size; omega, hH⟩, hb1.trans (k6.mono hb1.size)⟩
    · have hok' : modB ts fs = false := by simpa using hok
      have HN : Hid (¬ (modB ts fs = true ∧ 0 ≤ (k : Int) ∧ (k : Int) < fs.length)) := fun h => hok h.1
      clear hok
      go_wp2
      go_ret
      exact ⟨_, [], rfl, .inr ⟨HN.out, rfl⟩, .inl ⟨rfl, _, _, rfl⟩, hb1⟩
  · have HN : Hid (¬ (modB ts fs = true ∧ 0 ≤ f ∧ f < fs.length)) := fun h => hf h.2
    rcases (show f < 0 ∨ (0 ≤ f ∧ (fs.length : Int) ≤ f) by omega) with h1 | ⟨h1, h2⟩
    all_goals
      clear hf
      go_enter Tryd.func15, Tryd.ntmps15
      go_wp2
      go_ret
      exact ⟨_, [], rfl, .inr ⟨HN.out, rfl⟩, .inl ⟨rfl, _, _, rfl⟩, hbA⟩
end Go.Proofs.YtfodkgjoilaajaaDoor

namespace Go.Proofs.YtfodkgjoilaajaaDoor
open Go.RowKit

section
variable {fs : List Fn} {code : List (Int × Int)} {d : List Int} {pc : Nat} {z t l : Int}

theorem trouble_none (hk : pc < code.length) (hz : d.getD pc (-1) = z) (h : z < 0) : troubleB fs code d pc = 0 := by
  unfold troubleB
  simp only [getD_code hk, hz]
  rw [if_pos h]
theorem trouble_stack (hk : pc < code.length) (hz : d.getD pc (-1) = z) (ht : (usesB fs code[pc].1 code[pc].2).1 = t) (hl : (usesB fs code[pc].1 code[pc].2).2 = l) (h : ¬ z < 0) (hc : z < t ∨ 16 < z - t + l) : troubleB fs code d pc = 2 := by
  unfold troubleB
  simp only [getD_code hk, hz, ht, hl]
  rw [if_neg h, if_pos hc]
theorem trouble_end (hk : pc < code.length) (hz : d.getD pc (-1) = z) (ht : (usesB fs code[pc].1 code[pc].2).1 = t) (hl : (usesB fs code[pc].1 code[pc].2).2 = l) (h : ¬ z < 0) (hc : ¬ (z < t ∨ 16 < z - t + l))
    (hn : (nextB code[pc].1 code[pc].2 pc).any (fun nx => decide ((code.length : Int) ≤ nx)) = true) : troubleB fs code d pc = 3 := by
  unfold troubleB
  simp only [getD_code hk, hz, ht, hl]
  rw [if_neg h, if_neg hc, if_pos hn]
theorem trouble_join (hk : pc < code.length) (hz : d.getD pc (-1) = z) (ht : (usesB fs code[pc].1 code[pc].2).1 = t) (hl : (usesB fs code[pc].1 code[pc].2).2 = l) (h : ¬ z < 0) (hc : ¬ (z < t ∨ 16 < z - t + l))
    (hn : (nextB code[pc].1 code[pc].2 pc).any (fun nx => decide ((code.length : Int) ≤ nx)) = false) (hj : (nextB code[pc].1 code[pc].2 pc).any (fun nx => decide (d.getD nx.toNat (-1) ≠ z - t + l)) = true) : troubleB fs code d pc = 4 := by
  unfold troubleB
  simp only [getD_code hk, hz, ht, hl]
  rw [if_neg h, if_neg hc, if_neg (by rw [hn]; simp), if_pos hj]
theorem trouble_fine (hk : pc < code.length) (hz : d.getD pc (-1) = z) (ht : (usesB fs code[pc].1 code[pc].2).1 = t) (hl : (usesB fs code[pc].1 code[pc].2).2 = l) (h : ¬ z < 0) (hc : ¬ (z < t ∨ 16 < z - t + l))
    (hn : (nextB code[pc].1 code[pc].2 pc).any (fun nx => decide ((code.length : Int) ≤ nx)) = false) (hj : (nextB code[pc].1 code[pc].2 pc).any (fun nx => decide (d.getD nx.toNat (-1) ≠ z - t + l)) = false) : troubleB fs code d pc = 0 := by
  unfold troubleB
  simp only [getD_code hk, hz, ht, hl]
  rw [if_neg h, if_neg hc, if_neg (by rw [hn]; simp), if_neg (by rw [hj]; simp)]
end

theorem any_take_no {α : Type} {p : α → Bool} {l : List α} {k : Nat} (hk : k < l.length) (h : (l.take k).any p = false) (hx : p l[k] = false) : (l.take (k + 1)).any p = false := by
  rw [List.take_succ_eq_append_getElem hk, List.any_append, h]
  simp [hx]
theorem any_yes {α : Type} {p : α → Bool} {l : List α} {k : Nat} (hk : k < l.length) (hx : p l[k] = true) : l.any p = true := by
  rw [List.any_eq_true]
  exact ⟨l[k], List.getElem_mem hk, hx⟩
theorem any_end {α : Type} {p : α → Bool} {l : List α} {k : Nat} (hk : l.length ≤ k) (h : (l.take k).any p = false) : l.any p = false := by
  rwa [List.take_of_length_le hk] at h

/-- The last one is behind the code just where one of them is it. -/
theorem any_ends {n : Int} {l : List Int} (h : ∀ x ∈ l, x ≤ n) : l.any (fun x => decide (x = n)) = l.any (fun x => decide (n ≤ x)) := by
  rw [Bool.eq_iff_iff, List.any_eq_true, List.any_eq_true]
  constructor
  · rintro ⟨x, hx, he⟩
    exact ⟨x, hx, by simp at he ⊢; omega⟩
  · rintro ⟨x, hx, he⟩
    have := h x hx
    exact ⟨x, hx, by simp at he ⊢; omega⟩

set_option maxRecDepth 100000 in
set_option maxHeartbeats 2000000 in
theorem trouble_any (a1 a2 ca : Option Addr) (nt c1 c2 cc : Nat) (fs : List Fn) (code : List (Int × Int)) (d : List Int) (g cap pc : Nat) (w : World) (hm : FnsAt w 0 a2 fs) (d4 : CodeAt w 0 ca code) (F : Fine fs code) (P : Hts code.length d) (hH : Ht w g cap d) (hlt : pc < code.length) :
    Calls Tryd.prog 47 #[.agg #[.slice a1 nt c1, .slice a2 fs.length c2], .slice ca code.length cc, .slice (some ⟨g, 0, none⟩) code.length cap, .int .i64 pc] w fun e w' => e = .returned (.int .i64 (troubleB fs code d pc)) ∧ Below w.heap.size w w' := by
  have hmost := F.most
  have hbA : Below w.heap.size w (w.alloc (.cells #[.slice a1 nt c1, .slice a2 fs.length c2] 27)) := (Below.refl _ _).alloc (Nat.le_refl _) _
  have hM0 := block_new w #[.slice a1 nt c1, .slice a2 fs.length c2] 27
  have hlen : pc < d.length := by rw [P.len]; exact hlt
  have HZ : Hid (d.getD pc (-1) = d[pc]) := P.get hlt
  have z0 := P.low pc hlen
  have z1 := P.high pc hlen
  have hcl := cell_later hbA (hH.cell hlen)
  have hH0 := hH.mono hbA
  obtain ⟨cb, co, rfl, -, e1, e2⟩ := d4 pc hlt
  have e1' := cell_later hbA e1
  have e2' := cell_later hbA e2
  have y1 := block_cell hM0
  obtain ⟨u0, u1, u2, u3⟩ := usesB_ok F.params code[pc].1 code[pc].2
  clear e1 e2
  by_cases hneg : d[pc] < 0
  · have hb : (d[pc] == -1) = true := by rw [beq_iff_eq]; omega
    have HT : Hid (troubleB fs code d pc = 0) := trouble_none hlt HZ.out hneg
    clear hneg
    go_enter Tryd.func47, Tryd.ntmps47
    go_wp2
    go_ret
    exact ⟨ret_int HT.out.symm, hbA⟩
  have hb : (d[pc] == -1) = false := by rw [beq_eq_false_iff_ne]; omega
  have HNN : Hid (¬ d[pc] < 0) := hneg
  obtain ⟨wx, hwx⟩ : ∃ wx, wx = w.alloc (.cells #[.slice a1 nt c1, .slice a2 fs.length c2] 27) := ⟨_, rfl⟩
  have HWX : Hid (wx = w.alloc (.cells #[.slice a1 nt c1, .slice a2 fs.length c2] 27)) := hwx
  by_cases hfit : d[pc] < (usesB fs code[pc].1 code[pc].2).1 ∨ 16 < d[pc] - (usesB fs code[pc].1 code[pc].2).1 + (usesB fs code[pc].1 code[pc].2).2
  · have HT : Hid (troubleB fs code d pc = 2) := trouble_stack hlt HZ.out rfl rfl hneg hfit
    have HF : Hid (d[pc] < (usesB fs code[pc].1 code[pc].2).1 ∨ 16 < d[pc] - (usesB fs code[pc].1 code[pc].2).1 + (usesB fs code[pc].1 code[pc].2).2) := hfit
    clear hfit hneg hwx
    go_enter Tryd.func47, Tryd.ntmps47
    go_wp2
    rw [← HWX.out] at hbA hM0 hcl hH0 e1' e2' y1 ⊢
    go_region_held3 (fun w' => w'.cell? ⟨w.heap.size, 0, none⟩ = some (.slice a1 nt c1) ∧ w'.cell? ⟨w.heap.size, 1, none⟩ = some (.slice a2 fs.length c2) ∧ w'.cell? ⟨cb, co + pc * 2, none⟩ = some (.int .i64 code[pc].1) ∧ w'.cell? ⟨cb, co + pc * 2 + 1, none⟩ = some (.int .i64 code[pc].2) ∧ w'.cell? ⟨g, pc, none⟩ = some (.int .i64 d[pc]))
      (first | exact ⟨(y1 0).trans rfl, (y1 1).trans rfl, e1', e2', hcl⟩ | exact ⟨by rw [block_cell (block_kept hM0 k6)]; rfl, by rw [block_cell (block_kept hM0 k6)]; rfl, cell_later k6 e1', cell_later k6 e2', cell_later k6 hcl⟩)
      (first | (go_at_call 42; refine (iLeft_any _ _ _ _ _ fs code[pc].1 code[pc].2 d[pc] _ (by exact hm.mono hbA.drew) F.params (by exact z0) (by exact z1)).mono ?_; rintro e w4 ⟨hL, k6d⟩; have k6 := below_undraw k6d; obtain ⟨qq, rfl⟩ := hL.no HF.out))
    go_wp2
    go_ret
    exact ⟨ret_int HT.out.symm, hbA.trans (k6.mono hbA.size)⟩
  obtain ⟨left, hleft⟩ : ∃ left, left = d[pc] - (usesB fs code[pc].1 code[pc].2).1 + (usesB fs code[pc].1 code[pc].2).2 := ⟨_, rfl⟩
  have HL : Hid (left = d[pc] - (usesB fs code[pc].1 code[pc].2).1 + (usesB fs code[pc].1 code[pc].2).2) := hleft
  have HF : Hid (¬ (d[pc] < (usesB fs code[pc].1 code[pc].2).1 ∨ 16 < d[pc] - (usesB fs code[pc].1 code[pc].2).1 + (usesB fs code[pc].1 code[pc].2).2)) := hfit
  have hnx := next_in F hlt
  clear hfit hneg hwx hleft
  go_enter Tryd.func47, Tryd.ntmps47
  go_wp2
  rw [← HWX.out] at hbA hM0 hcl hH0 e1' e2' y1 ⊢
  go_region_held3 (fun w' => w'.cell? ⟨w.heap.size, 0, none⟩ = some (.slice a1 nt c1) ∧ w'.cell? ⟨w.heap.size, 1, none⟩ = some (.slice a2 fs.length c2) ∧ w'.cell? ⟨cb, co + pc * 2, none⟩ = some (.int .i64 code[pc].1) ∧ w'.cell? ⟨cb, co + pc * 2 + 1, none⟩ = some (.int .i64 code[pc].2) ∧ w'.cell? ⟨g, pc, none⟩ = some (.int .i64 d[pc]))
    (first | exact ⟨(y1 0).trans rfl, (y1 1).trans rfl, e1', e2', hcl⟩ | exact ⟨by rw [block_cell (block_kept hM0 k6)]; rfl, by rw [block_cell (block_kept hM0 k6)]; rfl, cell_later k6 e1', cell_later k6 e2', cell_later k6 hcl⟩)
    (first | (go_at_call 42; refine (iLeft_any _ _ _ _ _ fs code[pc].1 code[pc].2 d[pc] _ (by exact hm.mono hbA.drew) F.params (by exact z0) (by exact z1)).mono ?_; rintro e w4 ⟨hL, k6d⟩; have k6 := below_undraw k6d; obtain rfl := hL.yes HF.out; rw [← HL.out]))
  have hH4 := hH0.mono k6
  have hb4 : Below w.heap.size w w4 := hbA.trans (k6.mono hbA.size)
  have e14 := cell_later k6 e1'
  have e24 := cell_later k6 e2'
  clear hbA hM0 hcl hH0 e1' e2' y1 k6 k6d HWX
  go_wp2_with fail
  refine (iNext_any code[pc].1 code[pc].2 pc _ (by omega)).mono ?_
  rintro e w5 ⟨ad, ncap, rfl, hI, k7⟩
  have hH5 := hH4.mono k7
  have hb5 : Below w.heap.size w w5 := hb4.trans (k7.mono hb4.size)
  obtain ⟨nx, hnxe⟩ : ∃ nx, nx = nextB code[pc].1 code[pc].2 pc := ⟨_, rfl⟩
  have HX : Hid (nx = nextB code[pc].1 code[pc].2 pc) := hnxe
  rw [← hnxe] at hI hnx ⊢
  have hnl : nx.length ≤ 2 := by rw [hnxe]; exact next_len _ _ _
  have HE : Hid (nx.any (fun x => decide (x = (code.length : Int))) = nx.any (fun x => decide ((code.length : Int) ≤ x))) := any_ends fun x hx => (hnx x hx).2
  clear hH4 hb4 k7 e14 e24 hnxe
  go_wp2_with fail
  refine (contains_any ad nx ncap (code.length : Int) _ (by omega) (hI.low (Nat.zero_le _))).mono ?_
  rintro e w6 ⟨rfl, hw6⟩
  rw [hw6]
  clear hw6 w6
  by_cases hend : nx.any (fun x => decide (x = (code.length : Int))) = true
  · have HT : Hid (troubleB fs code d pc = 3) := by
      refine trouble_end hlt HZ.out rfl rfl (by have := HNN.out; omega) (by have := HF.out; omega) ?_
      rw [← HX.out, ← HE.out]; exact hend
    go_wp2
    go_ret
    exact ⟨ret_int HT.out.symm, hb5⟩
  have hend' : nx.any (fun x => decide (x = (code.length : Int))) = false := by rw [Bool.eq_false_iff]; exact hend
  have HN : Hid (nx.any (fun x => decide ((code.length : Int) ≤ x)) = false) := by show _ = _; rw [← HE.out]; exact hend'
  clear hend
  go_wp2
  clear hend'
  go_loop [46] (fun i => ∃ (q : Nat), q ≤ nx.length ∧ i = .int .i64 q ∧ Hid ((nx.take q).any (fun x => decide (d.getD x.toNat (-1) ≠ left)) = false)) (fun i => nx.length - (intOf i).toNat)
  case atStart => exact ⟨0, by omega, rfl, by show _ = _; simp⟩
  case round =>
    obtain ⟨q, hq, rfl, hno⟩ := hrel
    by_cases hlq : q < nx.length
    · obtain ⟨v0, v1⟩ := hnx nx[q] (List.getElem_mem hlq)
      obtain ⟨nb, no, rfl, hnb, m1⟩ := hI q hlq
      obtain ⟨nk, hnk⟩ : ∃ nk : Nat, nx[q] = (nk : Int) := ⟨nx[q].toNat, by omega⟩
      have hin : nk < code.length := by
        rcases Nat.lt_or_ge nk code.length with h | h
        · exact h
        · have := any_yes (p := fun x => decide ((code.length : Int) ≤ x)) hlq (by simp; omega)
          rw [HN.out] at this
          cases this
      rw [hnk] at m1
      have hkl : nk < d.length := by rw [P.len]; exact hin
      have m2 := hH5.cell hkl
      have hget : d.getD nx[q].toNat (-1) = d[nk] := by rw [hnk, Int.toNat_natCast]; exact P.get hin
      by_cases he : d[nk] = left
      · have HQ : Hid ((nx.take (q + 1)).any (fun x => decide (d.getD x.toNat (-1) ≠ left)) = false) := any_take_no hlq hno.out (by simp only [hget, he]; simp)
        have b1 : (d[nk] != left) = false := by simp [he]
        clear hno hget hnk he
        go_wp2
        go_round
        case rel => exact ⟨q + 1, by omega, by go_num, HQ⟩
        case measure => simp [intOf]; omega
      · have HT : Hid (troubleB fs code d pc = 4) := by
          refine trouble_join hlt HZ.out rfl rfl (by have := HNN.out; omega) (by have := HF.out; omega) (by rw [← HX.out]; exact HN.out) ?_
          rw [← HX.out, ← HL.out]
          exact any_yes (p := fun x => decide (d.getD x.toNat (-1) ≠ left)) hlq (by simp only [hget]; simpa using he)
        have b1 : (d[nk] != left) = true := by simpa using he
        clear hno hget hnk he
        go_wp2
        go_ret
        exact ⟨ret_int HT.out.symm, hb5⟩
    · have HT : Hid (troubleB fs code d pc = 0) := by
        refine trouble_fine hlt HZ.out rfl rfl (by have := HNN.out; omega) (by have := HF.out; omega) (by rw [← HX.out]; exact HN.out) ?_
        rw [← HX.out, ← HL.out]
        exact any_end (by omega) hno.out
      clear hno
      go_wp2
      go_ret
      exact ⟨ret_int HT.out.symm, hb5⟩
end Go.Proofs.YtfodkgjoilaajaaDoor

namespace Go.Proofs.YtfodkgjoilaajaaDoor
open Go.RowKit

/-- What Verify is to answer. -/
def VPost (ts : List ByteArray) (fs : List Fn) (c f a : Int) : Prop := (modB ts fs = false ∧ c = 1 ∧ f = 0 ∧ a = 0) ∨ (modB ts fs = true ∧ Told fs c f a)
theorem VPost.one {ts : List ByteArray} {fs : List Fn} {c f a c' f' a' : Int} (h : VPost ts fs c f a) (h' : VPost ts fs c' f' a') : c = c' ∧ f = f' ∧ a = a' := by
  rcases h with ⟨h, rfl, rfl, rfl⟩ | ⟨h, ht⟩
  · rcases h' with ⟨-, rfl, rfl, rfl⟩ | ⟨h', -⟩
    · exact ⟨rfl, rfl, rfl⟩
    · rw [h] at h'; cases h'
  · rcases h' with ⟨h', -⟩ | ⟨-, ht'⟩
    · rw [h] at h'; cases h'
    · exact ht.one ht'

theorem clear_of {fs : List Fn} {code : List (Int × Int)} {d : List Int} {k : Nat} (hD : Done fs code d) (h : ∀ j, j < k → troubleB fs code d j = 0) : Clear fs code k := fun e he j hj => by
  obtain rfl := hD.one he
  exact h j hj

theorem three_set {W : World} {R : Nat} {x y z : Int} (h : W.heap[R]? = some (.cells #[.int .i64 0, .int .i64 0, .int .i64 0] 61 (0, 0))) : (((W.setCell ⟨R, 0, none⟩ (.int .i64 x)).setCell ⟨R, 1, none⟩ (.int .i64 y)).setCell ⟨R, 2, none⟩ (.int .i64 z)).heap[R]? = some (.cells #[.int .i64 x, .int .i64 y, .int .i64 z] 61 (0, 0)) := by
  have := block_set (i := 2) (block_set (i := 1) (block_set (i := 0) h (.int .i64 x)) (.int .i64 y)) (.int .i64 z)
  simpa using this


/-- A row of the heights of the first k functions. -/
def Hs (w : World) (base G k : Nat) (fs : List Fn) : Prop := base ≤ G ∧ ∃ cur : Array Value, w.heap[G]? = some (Obj.cells cur 30 (0, 0)) ∧ cur.size = fs.length ∧
  ∀ j (hj : j < fs.length), j < k → ∃ g d, cur[j]? = some (.slice (some ⟨g, 0, none⟩) fs[j].code.length fs[j].code.length) ∧ base ≤ g ∧ Done fs fs[j].code d ∧ Ht w g fs[j].code.length d
theorem Hs.mono {w w' : World} {base G k : Nat} {fs : List Fn} (h : Hs w base G k fs) (hb : Below w.heap.size w w') : Hs w' base G k fs := by
  obtain ⟨h0, cur, h1, h2, h3⟩ := h
  refine ⟨h0, cur, block_kept h1 hb, h2, fun j hj hk => ?_⟩
  obtain ⟨g, d, k1, k2, k3, k4⟩ := h3 j hj hk
  exact ⟨g, d, k1, k2, k3, k4.mono hb⟩
theorem Ht.other {w : World} {g cap G i : Nat} {d : List Int} {cur : Array Value} (h : Ht w g cap d) (hG : w.heap[G]? = some (Obj.cells cur 30 (0, 0))) (v : Value) : Ht (w.setCell ⟨G, i, none⟩ v) g cap d := by
  obtain ⟨c, h1, h2⟩ := h
  have hne : g ≠ G := by
    intro e
    subst e
    rw [h1] at hG
    simp at hG
  exact ⟨c, by rw [Below.heap_setCell _ _ _ _ hne]; exact h1, h2⟩
theorem Hs.put {w : World} {base G k g : Nat} {fs : List Fn} {d : List Int} (h : Hs w base G k fs) (hk : k < fs.length) (hg : base ≤ g) (hD : Done fs fs[k].code d) (hH : Ht w g fs[k].code.length d) :
    Hs (w.setCell ⟨G, k, none⟩ (.slice (some ⟨g, 0, none⟩) fs[k].code.length fs[k].code.length)) base G (k + 1) fs := by
  obtain ⟨h0, cur, h1, h2, h3⟩ := h
  refine ⟨h0, _, block_set h1 _, by simpa using h2, fun j hj hjk => ?_⟩
  by_cases e : j = k
  · subst e
    exact ⟨g, d, set_self _ (by omega), hg, hD, hH.other h1 _⟩
  · obtain ⟨g', d', k1, k2, k3, k4⟩ := h3 j hj (by omega)
    exact ⟨g', d', by rw [set_else _ e]; exact k1, k2, k3, k4.other h1 _⟩
theorem Hs.at {w : World} {base G k : Nat} {fs : List Fn} (h : Hs w base G k fs) {j : Nat} (hj : j < fs.length) (hk : j < k) : ∃ g d, w.cell? ⟨G, j, none⟩ = some (.slice (some ⟨g, 0, none⟩) fs[j].code.length fs[j].code.length) ∧ Done fs fs[j].code d ∧ Ht w g fs[j].code.length d := by
  obtain ⟨-, cur, h1, h2, h3⟩ := h
  obtain ⟨g, d, k1, -, k3, k4⟩ := h3 j hj hk
  exact ⟨g, d, by rw [block_cell h1]; exact k1, k3, k4⟩
theorem Hs.cell {w : World} {base G k : Nat} {fs : List Fn} (h : Hs w base G k fs) {j : Nat} (hj : j < fs.length) : ∃ v, w.cell? ⟨G, j, none⟩ = some v := by
  obtain ⟨-, cur, h1, h2, -⟩ := h
  exact ⟨cur[j], by rw [block_cell h1]; simp⟩
theorem Hs.free {w : World} {base G k : Nat} {fs : List Fn} (h : Hs w base G k fs) (j : Nat) : w.frozen? ⟨G, j, none⟩ = false := by
  obtain ⟨-, cur, h1, -, -⟩ := h
  exact block_free h1 j
theorem Hs.three {w : World} {base G k R : Nat} {fs : List Fn} {c : Array Value} {x y z : Value} (h : Hs w base G k fs) (hR : w.heap[R]? = some (Obj.cells c 61 (0, 0))) : Hs (((w.setCell ⟨R, 0, none⟩ x).setCell ⟨R, 1, none⟩ y).setCell ⟨R, 2, none⟩ z) base G k fs := by
  have one : ∀ g, (∀ c', w.heap[g]? ≠ some (Obj.cells c' 61 (0, 0))) → (((w.setCell ⟨R, 0, none⟩ x).setCell ⟨R, 1, none⟩ y).setCell ⟨R, 2, none⟩ z).heap[g]? = w.heap[g]? := fun g hg => by
    have hne : g ≠ R := by
      intro e
      subst e
      exact hg _ hR
    rw [Below.heap_setCell _ _ _ _ hne, Below.heap_setCell _ _ _ _ hne, Below.heap_setCell _ _ _ _ hne]
  obtain ⟨h0, cur, h1, h2, h3⟩ := h
  refine ⟨h0, cur, by rw [one G (by intro c' h; rw [h1] at h; simp at h)]; exact h1, h2, fun j hj hk => ?_⟩
  obtain ⟨g, d, k1, k2, k3, cc, k4, k5⟩ := h3 j hj hk
  exact ⟨g, d, k1, k2, k3, cc, by rw [one g (by intro c' h; rw [k4] at h; simp at h)]; exact k4, k5⟩
end Go.Proofs.YtfodkgjoilaajaaDoor

namespace Go.Proofs.YtfodkgjoilaajaaDoor
open Go.RowKit

theorem info30 : (Tryd.prog.info? 30).map (fun i => (i.zero, i.size, i.bytes)) = some (some (.slice none 0 0), 1, 24) := by kernel_rfl

/-- What heightsOfAll is to answer. -/
def APost (ts : List ByteArray) (fs : List Fn) (base : Nat) (w' : World) (e : Ending) : Prop := ∃ v c f a, e = .returned (.tuple #[v, .agg #[.int .i64 c, .int .i64 f, .int .i64 a]]) ∧ VPost ts fs c f a ∧ (c = 0 → ∃ G, v = .slice (some ⟨G, 0, none⟩) fs.length fs.length ∧ Hs w' base G fs.length fs)

set_option maxRecDepth 100000 in
set_option maxHeartbeats 4000000 in
theorem iAll_any (a1 a2 : Option Addr) (c1 c2 : Nat) (ts : List ByteArray) (fs : List Fn) (w : World) (hs : Small ts fs) (hm : StrsAt w 0 a1 ts) (hm2 : FnsAt w 0 a2 fs) :
    Calls Tryd.prog 32 #[.agg #[.slice a1 ts.length c1, .slice a2 fs.length c2]] w fun e w' => APost ts fs w.heap.size w' e ∧ Below w.heap.size w w' := by
  obtain ⟨i0, hi, hz0, hz1, hz2⟩ := info_parts info30
  have hn := hs.funcs
  have hbA : Below w.heap.size w ((w.alloc (.cells #[.slice a1 ts.length c1, .slice a2 fs.length c2] 27)).alloc (.cells #[.int .i64 0, .int .i64 0, .int .i64 0] 61)) := ((Below.refl _ _).alloc (Nat.le_refl _) _).alloc (by simp) _
  have hM0 := block_old (block_new w #[.slice a1 ts.length c1, .slice a2 fs.length c2] 27) (.cells #[.int .i64 0, .int .i64 0, .int .i64 0] 61)
  have hR0 := block_new (w.alloc (.cells #[.slice a1 ts.length c1, .slice a2 fs.length c2] 27)) #[.int .i64 0, .int .i64 0, .int .i64 0] 61
  rw [World.size_alloc] at hR0
  go_enter Tryd.func32, Tryd.ntmps32
  go_wp2_with fail
  refine (iModuleOk_any _ _ ts fs _ _ _ hs (hm.mono hbA) (hm2.mono hbA)).mono ?_
  rintro e w1 ⟨rfl, hb⟩
  have hM1 := block_kept hM0 hb
  have hR1 := block_kept hR0 hb
  have hb1 : Below w.heap.size w w1 := hbA.trans (hb.mono (by simp; omega))
  have y1 := block_cell hM1
  have r1 := block_cell hR1
  have r2 := block_free hR1
  clear hbA hM0 hR0 hb
  by_cases hok : modB ts fs = true
  · have HO : Hid (modB ts fs = true) := hok
    have FF : ∀ k (hk : k < fs.length), Fine fs fs[k].code := fun k hk => fine_of hok hk
    go_wp2_with (first | (at_make; refine wpList_make_full _ rfl _ _ 59 rfl w1.heap.size 30 i0 (.slice none 0 0) 1 Tryd.underlying59 hi hz0 hz1 _ _ _ _ fs.length rfl rfl rfl rfl (by rw [hz2]; omega) (by unfold maxLen; omega) (Nat.le_refl _) ?_; intro w2 hown hgrow; have hbm : Below w1.heap.size w1 w2 := (Below.refl _ _).grown hgrow (Nat.le_refl _) (by intro k hk; cases hk); have hM2 := block_kept hM1 hbm; have y2 := block_cell hM2))
    have hR2 := block_kept hR1 hbm
    have hb2 := hb1.trans (hbm.mono hb1.size)
    obtain ⟨cur0, hblk, hsz⟩ := made_block hown
    have hH0 : Hs w2 w.heap.size w1.heap.size 0 fs := ⟨hb1.size, cur0, hblk, by omega, fun _ _ h => absurd h (Nat.not_lt_zero _)⟩
    clear hok r1 r2 y1 y2 hown hgrow hi hz0 hz1 hz2 hblk hsz hM1 hR1 hbm
    have HZ1 : Hid (w.heap.size ≤ w1.heap.size) := hb1.size
    go_loopw [20] (fun i wr => ∃ (k : Nat), k ≤ fs.length ∧ i = .int .i64 k ∧ Hid (∀ q (hq : q < fs.length), q < k → Clear fs fs[q].code fs[q].code.length) ∧ Hs wr w.heap.size w1.heap.size k fs ∧ wr.heap[w.heap.size]? = some (.cells #[.slice a1 ts.length c1, .slice a2 fs.length c2] 27 (0, 0)) ∧ wr.heap[w.heap.size + 1]? = some (.cells #[.int .i64 0, .int .i64 0, .int .i64 0] 61 (0, 0)) ∧ Below w.heap.size w wr) (fun i _ => fs.length - (intOf i).toNat)
    case atStart => exact ⟨0, by omega, rfl, fun _ _ h => absurd h (Nat.not_lt_zero _), hH0, hM2, hR2, hb2⟩
    case round =>
      obtain ⟨k, hk, rfl, hcl, hHs, hM, hR, hb⟩ := hrel
      obtain ⟨wo, rfl⟩ : ∃ wo, wo = wr := ⟨_, rfl⟩
      clear hM2 hR2 hb2 hH0 hb1
      by_cases hlt : k < fs.length
      · have F := FF k hlt
        have hmost := F.most
        obtain ⟨b, off, ca, cc, rfl, -, d1, d2, d3, d4⟩ := hm2 k hlt
        have d1' := cell_later hb d1
        have d2' := cell_later hb d2
        have d3' := cell_later hb d3
        clear d1 d2 d3
        obtain ⟨wx, hwx⟩ : ∃ wx, wx = wo.alloc (.cells #[.int .i64 fs[k].params, .int .i64 fs[k].locals, .slice ca fs[k].code.length cc] 36) := ⟨_, rfl⟩
        have hkx : Below wo.heap.size wo wx := by rw [hwx]; exact (Below.refl _ _).alloc (Nat.le_refl _) _
        have hXx : wx.heap[wo.heap.size]? = some (.cells #[.int .i64 fs[k].params, .int .i64 fs[k].locals, .slice ca fs[k].code.length cc] 36 (0, 0)) := by rw [hwx]; exact block_new _ _ _
        have hMx := block_kept hM hkx
        have hRx := block_kept hR hkx
        have hHx := hHs.mono hkx
        have hbx : Below w.heap.size w wx := hb.trans (hkx.mono hb.size)
        have HWX : Hid (wx = wo.alloc (.cells #[.int .i64 fs[k].params, .int .i64 fs[k].locals, .slice ca fs[k].code.length cc] 36)) := hwx
        have y0 := block_cell (block_old hM (.cells #[.int .i64 fs[k].params, .int .i64 fs[k].locals, .slice ca fs[k].code.length cc] 36))
        have z0 := block_cell (block_new wo #[.int .i64 fs[k].params, .int .i64 fs[k].locals, .slice ca fs[k].code.length cc] 36)
        clear hwx hkx
        go_wp2_with fail
        rw [← HWX.out]
        refine (iHeights_any _ _ _ _ _ _ _ fs fs[k].code _ (hm2.mono hbx) (d4.mono hbx) F).mono ?_
        rintro e w2 ⟨g, d, rfl, hg, hD, hH, k2⟩
        have P := hD.hts F
        have hM2 := block_kept hMx k2
        have hR2 := block_kept hRx k2
        have hX2 := block_kept hXx k2
        have hHs2 := hHx.mono k2
        have hb2 : Below w.heap.size w w2 := hbx.trans (k2.mono hbx.size)
        have hgw : w.heap.size ≤ g := Nat.le_trans hbx.size hg
        have hGk := hHs2.put hlt hgw hD hH
        obtain ⟨vg, hvg⟩ := hHs2.cell hlt
        have hfz := hHs2.free k
        have hne1 : w.heap.size ≠ w1.heap.size := by
          obtain ⟨-, cur, h1, -⟩ := hHs2
          intro e; rw [← e, hM2] at h1; simp at h1
        have hne2 : w.heap.size + 1 ≠ w1.heap.size := by
          obtain ⟨-, cur, h1, -⟩ := hHs2
          intro e; rw [← e, hR2] at h1; simp at h1
        have hne3 : wo.heap.size ≠ w1.heap.size := by
          obtain ⟨-, cur, h1, -⟩ := hHs2
          intro e; rw [← e, hX2] at h1; simp at h1
        obtain ⟨wy, hwy⟩ : ∃ wy, wy = w2.setCell ⟨w1.heap.size, k, none⟩ (.slice (some ⟨g, 0, none⟩) fs[k].code.length fs[k].code.length) := ⟨_, rfl⟩
        have hM3 : wy.heap[w.heap.size]? = some (.cells #[.slice a1 ts.length c1, .slice (some ⟨b, off, none⟩) fs.length c2] 27 (0, 0)) := by rw [hwy, Below.heap_setCell _ _ _ _ hne1]; exact hM2
        have hR3 : wy.heap[w.heap.size + 1]? = some (.cells #[.int .i64 0, .int .i64 0, .int .i64 0] 61 (0, 0)) := by rw [hwy, Below.heap_setCell _ _ _ _ hne2]; exact hR2
        have hX3 : wy.heap[wo.heap.size]? = some (.cells #[.int .i64 fs[k].params, .int .i64 fs[k].locals, .slice ca fs[k].code.length cc] 36 (0, 0)) := by rw [hwy, Below.heap_setCell _ _ _ _ hne3]; exact hX2
        have hH3 : Ht wy g fs[k].code.length d := by
          obtain ⟨-, cur, h1, -⟩ := hHs2
          rw [hwy]; exact hH.other h1 _
        have hc3 : wy.cell? ⟨w1.heap.size, k, none⟩ = some (.slice (some ⟨g, 0, none⟩) fs[k].code.length fs[k].code.length) := by
          obtain ⟨-, cur, h1, h2, -⟩ := hHs2
          rw [hwy, block_cell (block_set h1 _)]; exact set_self _ (by omega)
        have hb3 : Below w.heap.size w wy := by rw [hwy]; exact hb2.setCell HZ1.out _
        rw [← hwy] at hGk
        have v2 := block_cell hX2
        have v3 := block_cell hX3
        clear hMx hRx hXx hbx k2 d1' d2' d3' hM hR hb y0 z0 hHs hHx hM2 hR2 hH hb2 hHs2 hne1 hne2
        have HN3 : Hid (wo.heap.size ≠ w1.heap.size) := hne3
        clear hX2
        go_wp2_with fail
        try rw [← hwy]
        clear v2 v3 hvg hfz hwy hne3
        go_loopw [35] (fun i ws => ∃ (j : Nat), j ≤ fs[k].code.length ∧ i = .int .i64 j ∧ Hid (∀ q, q < j → troubleB fs fs[k].code d q = 0) ∧ Ht ws g fs[k].code.length d ∧ Hs ws w.heap.size w1.heap.size (k + 1) fs ∧ ws.cell? ⟨w1.heap.size, k, none⟩ = some (.slice (some ⟨g, 0, none⟩) fs[k].code.length fs[k].code.length) ∧ ws.heap[w.heap.size]? = some (.cells #[.slice a1 ts.length c1, .slice (some ⟨b, off, none⟩) fs.length c2] 27 (0, 0)) ∧ ws.heap[w.heap.size + 1]? = some (.cells #[.int .i64 0, .int .i64 0, .int .i64 0] 61 (0, 0)) ∧ ws.heap[wo.heap.size]? = some (.cells #[.int .i64 fs[k].params, .int .i64 fs[k].locals, .slice ca fs[k].code.length cc] 36 (0, 0)) ∧ Below w.heap.size w ws) (fun i _ => fs[k].code.length - (intOf i).toNat)
        case atStart => exact ⟨0, by omega, rfl, fun _ h => absurd h (Nat.not_lt_zero _), hH3, hGk, hc3, hM3, hR3, hX3, hb3⟩
        case round =>
          obtain ⟨j, hj, rfl, hno, hH4, hG4, hc4, hM4, hR4, hX4, hb4⟩ := hrel
          obtain ⟨ws, rfl⟩ : ∃ ws, ws = wr := ⟨_, rfl⟩
          clear hH3 hGk hc3 hM3 hR3 hX3 hb3
          by_cases hlj : j < fs[k].code.length
          · have hS : ∀ w', Below ws.heap.size ws w' → w'.cell? ⟨w.heap.size, 0, none⟩ = some (.slice a1 ts.length c1) ∧ w'.cell? ⟨w.heap.size, 1, none⟩ = some (.slice (some ⟨b, off, none⟩) fs.length c2) ∧ w'.cell? ⟨wo.heap.size, 2, none⟩ = some (.slice ca fs[k].code.length cc) ∧ w'.cell? ⟨w1.heap.size, k, none⟩ = some (.slice (some ⟨g, 0, none⟩) fs[k].code.length fs[k].code.length) := fun w' hb =>
              ⟨by rw [block_cell (block_kept hM4 hb)]; rfl, by rw [block_cell (block_kept hM4 hb)]; rfl, by rw [block_cell (block_kept hX4 hb)]; rfl, cell_later hb hc4⟩
            have HS : Hid (∀ w', Below ws.heap.size ws w' → w'.cell? ⟨w.heap.size, 0, none⟩ = some (.slice a1 ts.length c1) ∧ w'.cell? ⟨w.heap.size, 1, none⟩ = some (.slice (some ⟨b, off, none⟩) fs.length c2) ∧ w'.cell? ⟨wo.heap.size, 2, none⟩ = some (.slice ca fs[k].code.length cc) ∧ w'.cell? ⟨w1.heap.size, k, none⟩ = some (.slice (some ⟨g, 0, none⟩) fs[k].code.length fs[k].code.length)) := hS
            obtain ⟨j0, j1, j2, j3⟩ := hS ws (Below.refl _ _)
            have q : Below ws.heap.size ws ws.drew := (Below.refl _ _).drew
            have HB : Hid (Below w.heap.size w ws) := hb4
            have HM : Hid (ws.heap[w.heap.size]? = some (.cells #[.slice a1 ts.length c1, .slice (some ⟨b, off, none⟩) fs.length c2] 27 (0, 0))) := hM4
            have HR : Hid (ws.heap[w.heap.size + 1]? = some (.cells #[.int .i64 0, .int .i64 0, .int .i64 0] 61 (0, 0))) := hR4
            have HX : Hid (ws.heap[wo.heap.size]? = some (.cells #[.int .i64 fs[k].params, .int .i64 fs[k].locals, .slice ca fs[k].code.length cc] 36 (0, 0))) := hX4
            clear hS hb4 hM4 hR4 hX4 hc4
            go_wp2
            go_region_held3 (fun w' => w'.cell? ⟨w.heap.size, 0, none⟩ = some (.slice a1 ts.length c1) ∧ w'.cell? ⟨w.heap.size, 1, none⟩ = some (.slice (some ⟨b, off, none⟩) fs.length c2) ∧ w'.cell? ⟨wo.heap.size, 2, none⟩ = some (.slice ca fs[k].code.length cc) ∧ w'.cell? ⟨w1.heap.size, k, none⟩ = some (.slice (some ⟨g, 0, none⟩) fs[k].code.length fs[k].code.length))
              (first | exact ⟨j0, j1, j2, j3⟩ | exact HS.out _ q)
              (first
                | (go_at_call 47; refine (trouble_any _ _ _ _ _ _ _ fs fs[k].code d g _ j _ (by exact hm2.mono (HB.out.trans (q.mono HB.out.size))) (by exact d4.mono (HB.out.trans (q.mono HB.out.size))) F P (by exact hH4.mono q) hlj).mono ?_; rintro e w5 ⟨rfl, kd⟩; have q := q.trans (kd.mono q.size)))
            have hM5 := block_kept HM.out q
            have hR5 := block_kept HR.out q
            have hX5 := block_kept HX.out q
            have hH5 := hH4.mono q
            have hG5 := hG4.mono q
            have hb5 : Below w.heap.size w w5 := HB.out.trans (q.mono HB.out.size)
            have hc5 := (HS.out _ q).2.2.2
            clear HM HR HX HB HS j0 j1 j2 j3 hH4 hG4 kd q
            by_cases hz : troubleB fs fs[k].code d j = 0
            · have HZ : Hid (troubleB fs fs[k].code d j = 0) := hz
              go_wp2
              go_roundw
              case rel => exact ⟨j + 1, by omega, by go_num, fun q hq => (by
                by_cases e : q = j
                · subst e; exact HZ.out
                · exact hno.out q (by omega)), hH5, hG5, hc5, hM5, hR5, hX5, hb5⟩
              case measure => simp [intOf]; omega
            · have HZ : Hid (¬ troubleB fs fs[k].code d j = 0) := hz
              have bz : (troubleB fs fs[k].code d j != 0) = true := by simpa using hz
              have r4 := block_cell hR5
              have q4 := block_free hR5
              clear hz
              go_wp2
              have rr := block_cell (three_set (x := (troubleB fs fs[k].code d j)) (y := (k : Int)) (z := (j : Int)) hR5)
              refine bodyPost_ret (v := .tuple #[.slice none 0 0, .agg #[.int .i64 (troubleB fs fs[k].code d j), .int .i64 (k : Int), .int .i64 (j : Int)]]) (by simp [results, Tryd.results32, go_sem, rr]) rfl ⟨⟨_, (troubleB fs fs[k].code d j), (k : Int), (j : Int), rfl, .inr ⟨HO.out, .inr ⟨k, hlt, j, d, rfl, rfl, hlj, hD, rfl, HZ.out, clear_of hD hno.out, hcl.out⟩⟩, fun h => absurd h HZ.out⟩, ?_⟩
              exact ((hb5.setCell (by simp) _).setCell (by simp) _).setCell (by simp) _
          · have hjn : j = fs[k].code.length := by omega
            subst hjn
            go_wp2
            go_roundw
            case rel => exact ⟨k + 1, by omega, by go_num, fun q hq hqk => (by
                by_cases e : q = k
                · subst e; exact clear_of hD hno.out
                · exact hcl.out q hq (by omega)), hG4, hM4, hR4, hb4⟩
            case measure => simp [intOf]; omega
      · have hkn : k = fs.length := by omega
        subst hkn
        have r4 := block_cell hR
        have q4 := block_free hR
        go_wp2
        have rr := block_cell (three_set (x := 0) (y := 0) (z := 0) hR)
        have hbz : Below (w.heap.size + 2) wo (((wo.setCell ⟨w.heap.size + 1, 0, none⟩ (.int .i64 0)).setCell ⟨w.heap.size + 1, 1, none⟩ (.int .i64 0)).setCell ⟨w.heap.size + 1, 2, none⟩ (.int .i64 0)) → True := fun _ => trivial
        clear hbz
        refine bodyPost_ret (v := .tuple #[.slice (some ⟨w1.heap.size, 0, none⟩) fs.length fs.length, .agg #[.int .i64 0, .int .i64 0, .int .i64 0]]) (by simp [results, Tryd.results32, go_sem, rr]) rfl ⟨⟨_, 0, 0, 0, rfl, .inr ⟨HO.out, .inl ⟨rfl, rfl, rfl, fun q hq => hcl.out q hq (by omega)⟩⟩, fun _ => ⟨_, rfl, ?_⟩⟩, ?_⟩
        · exact hHs.three hR
        · exact ((hb.setCell (by simp) _).setCell (by simp) _).setCell (by simp) _
  · have hok' : modB ts fs = false := by simpa using hok
    have HO : Hid (modB ts fs = false) := hok'
    clear hok
    go_wp2
    have rr := block_cell (three_set (x := 1) (y := 0) (z := 0) hR1)
    refine bodyPost_ret (v := .tuple #[.slice none 0 0, .agg #[.int .i64 1, .int .i64 0, .int .i64 0]]) (by simp [results, Tryd.results32, go_sem, rr]) rfl ⟨⟨_, 1, 0, 0, rfl, .inl ⟨HO.out, rfl, rfl, rfl⟩, fun h => absurd h (by decide)⟩, ?_⟩
    exact ((hb1.setCell (by simp) _).setCell (by simp) _).setCell (by simp) _

end Go.Proofs.YtfodkgjoilaajaaDoor

namespace Go.Proofs.YtfodkgjoilaajaaDoor
open Go.RowKit

set_option maxRecDepth 100000 in
set_option maxHeartbeats 4000000 in
theorem sVerify_any (a1 a2 : Option Addr) (c1 c2 : Nat) (ts : List ByteArray) (fs : List Fn) (w : World) (hs : Small ts fs) (hm : StrsAt w 0 a1 ts) (hm2 : FnsAt w 0 a2 fs) :
    Calls Tryd.prog 51 #[.agg #[.slice a1 ts.length c1, .slice a2 fs.length c2]] w fun e w' => ∃ c f a, e = .returned (.agg #[.int .i64 c, .int .i64 f, .int .i64 a]) ∧ VPost ts fs c f a ∧ Below w.heap.size w w' := by
  have hn := hs.funcs
  have hbA : Below w.heap.size w ((w.alloc (.cells #[.slice a1 ts.length c1, .slice a2 fs.length c2] 27)).alloc (.cells #[.int .i64 0, .int .i64 0, .int .i64 0] 61)) := ((Below.refl _ _).alloc (Nat.le_refl _) _).alloc (by simp) _
  have hM0 := block_old (block_new w #[.slice a1 ts.length c1, .slice a2 fs.length c2] 27) (.cells #[.int .i64 0, .int .i64 0, .int .i64 0] 61)
  have hR0 := block_new (w.alloc (.cells #[.slice a1 ts.length c1, .slice a2 fs.length c2] 27)) #[.int .i64 0, .int .i64 0, .int .i64 0] 61
  rw [World.size_alloc] at hR0
  go_enter Tryd.func51, Tryd.ntmps51
  go_wp2_with fail
  refine (sModuleOk_any _ _ ts fs _ _ _ hs (hm.mono hbA) (hm2.mono hbA)).mono ?_
  rintro e w1 ⟨rfl, hb⟩
  have hM1 := block_kept hM0 hb
  have hR1 := block_kept hR0 hb
  have hb1 : Below w.heap.size w w1 := hbA.trans (hb.mono (by simp; omega))
  have r1 := block_cell hR1
  have r2 := block_free hR1
  clear hbA hM0 hR0 hb
  by_cases hok : modB ts fs = true
  · have HO : Hid (modB ts fs = true) := hok
    have FF : ∀ k (hk : k < fs.length), Fine fs fs[k].code := fun k hk => fine_of hok hk
    go_wp2
    clear hok r1 r2
    go_loopw [3] (fun i wr => ∃ (k : Nat), k ≤ fs.length ∧ i = .int .i64 k ∧ Hid (∀ q (hq : q < fs.length), q < k → Clear fs fs[q].code fs[q].code.length) ∧ wr.heap[w.heap.size]? = some (.cells #[.slice a1 ts.length c1, .slice a2 fs.length c2] 27 (0, 0)) ∧ wr.heap[w.heap.size + 1]? = some (.cells #[.int .i64 0, .int .i64 0, .int .i64 0] 61 (0, 0)) ∧ Below w.heap.size w wr) (fun i _ => fs.length - (intOf i).toNat)
    case atStart => exact ⟨0, by omega, rfl, fun _ _ h => absurd h (Nat.not_lt_zero _), hM1, hR1, hb1⟩
    case round =>
      obtain ⟨k, hk, rfl, hcl, hM, hR, hb⟩ := hrel
      obtain ⟨wo, rfl⟩ : ∃ wo, wo = wr := ⟨_, rfl⟩
      clear hM1 hR1 hb1
      have y0 := block_cell hM
      by_cases hlt : k < fs.length
      · have F := FF k hlt
        have hmost := F.most
        obtain ⟨b, off, ca, cc, rfl, -, d1, d2, d3, d4⟩ := hm2 k hlt
        have d3' := cell_later hb d3
        clear d1 d2 d3
        go_wp2_with fail
        refine (sDepths_any _ _ _ _ _ fs k _ hlt hn (hm2.mono hb) F).mono ?_
        rintro e w2 ⟨g, cap, d, rfl, hg, hD, hH, k2⟩
        have P := hD.hts F
        have hM2 := block_kept hM k2
        have hR2 := block_kept hR k2
        have hb2 : Below w.heap.size w w2 := hb.trans (k2.mono hb.size)
        clear k2 d3' hM hR hb y0
        go_wp2
        go_loopw [6] (fun i ws => ∃ (j : Nat), j ≤ fs[k].code.length ∧ i = .int .i64 j ∧ Hid (∀ q, q < j → troubleB fs fs[k].code d q = 0) ∧ Ht ws g cap d ∧ ws.heap[w.heap.size]? = some (.cells #[.slice a1 ts.length c1, .slice (some ⟨b, off, none⟩) fs.length c2] 27 (0, 0)) ∧ ws.heap[w.heap.size + 1]? = some (.cells #[.int .i64 0, .int .i64 0, .int .i64 0] 61 (0, 0)) ∧ Below w.heap.size w ws) (fun i _ => fs[k].code.length - (intOf i).toNat)
        case atStart => exact ⟨0, by omega, rfl, fun _ h => absurd h (Nat.not_lt_zero _), hH, hM2, hR2, hb2⟩
        case round =>
          obtain ⟨j, hj, rfl, hno, hH3, hM3, hR3, hb3⟩ := hrel
          obtain ⟨ws, rfl⟩ : ∃ ws, ws = wr := ⟨_, rfl⟩
          clear hH hM2 hR2 hb2
          by_cases hlj : j < fs[k].code.length
          · have hlen : j < d.length := by rw [P.len]; exact hlj
            have HZ : Hid (d.getD j (-1) = d[j]) := P.get hlj
            have z0 := P.low j hlen
            have z1 := P.high j hlen
            have hcell := hH3.cell hlen
            by_cases hneg : d[j] < 0
            · have HT : Hid (troubleB fs fs[k].code d j = 0) := trouble_none hlj HZ.out hneg
              go_wp2
              go_roundw
              case rel => exact ⟨j + 1, by omega, by go_num, fun q hq => (by
                by_cases e : q = j
                · subst e; exact HT.out
                · exact hno.out q (by omega)), hH3, hM3, hR3, hb3⟩
              case measure => simp [intOf]; omega
            have HNN : Hid (0 ≤ d[j]) := (show 0 ≤ d[j] by omega)
            obtain ⟨cb, co, rfl, -, e1, e2⟩ := d4 j hlj
            have e1' := cell_later hb3 e1
            have e2' := cell_later hb3 e2
            have y1 := block_cell hM3
            obtain ⟨u0, u1, u2, u3⟩ := usesB_ok F.params fs[k].code[j].1 fs[k].code[j].2
            clear e1 e2
            go_wp2
            go_region_held3 (fun w' => w'.cell? ⟨w.heap.size, 0, none⟩ = some (.slice a1 ts.length c1) ∧ w'.cell? ⟨w.heap.size, 1, none⟩ = some (.slice (some ⟨b, off, none⟩) fs.length c2) ∧ w'.cell? ⟨cb, co + j * 2, none⟩ = some (.int .i64 fs[k].code[j].1) ∧ w'.cell? ⟨cb, co + j * 2 + 1, none⟩ = some (.int .i64 fs[k].code[j].2))
              (first | exact ⟨(y1 0).trans rfl, (y1 1).trans rfl, e1', e2'⟩ | exact ⟨by rw [block_cell (block_kept hM3 k6)]; rfl, by rw [block_cell (block_kept hM3 k6)]; rfl, cell_later k6 e1', cell_later k6 e2'⟩)
              (first | (go_at_call 52; refine (sUses_any _ _ _ _ _ fs fs[k].code[j].1 fs[k].code[j].2 _ hn (by exact hm2.mono hb3.drew)).mono ?_; rintro e w4 ⟨rfl, k6d⟩; have k6 := below_undraw k6d))
            have hM4 := block_kept hM3 k6
            have hR4 := block_kept hR3 k6
            have hH4 := hH3.mono k6
            have hb4 : Below w.heap.size w w4 := hb3.trans (k6.mono hb3.size)
            have hcell4 := hH4.cell hlen
            have e14 := cell_later k6 e1'
            have e24 := cell_later k6 e2'
            clear hM3 hR3 hH3 hb3 hcell y1 e1' e2' k6 k6d
            by_cases hfit : d[j] < (usesB fs fs[k].code[j].1 fs[k].code[j].2).1 ∨ 16 < d[j] - (usesB fs fs[k].code[j].1 fs[k].code[j].2).1 + (usesB fs fs[k].code[j].1 fs[k].code[j].2).2
            · have HT : Hid (troubleB fs fs[k].code d j = 2) := trouble_stack hlj HZ.out rfl rfl (by have := HNN.out; omega) hfit
              have r4 := block_cell hR4
              have q4 := block_free hR4
              rcases (show d[j] < (usesB fs fs[k].code[j].1 fs[k].code[j].2).1 ∨ ((usesB fs fs[k].code[j].1 fs[k].code[j].2).1 ≤ d[j] ∧ 16 < d[j] - (usesB fs fs[k].code[j].1 fs[k].code[j].2).1 + (usesB fs fs[k].code[j].1 fs[k].code[j].2).2) by omega) with hx | ⟨hx, hy⟩
              all_goals
                clear hfit
                go_wp2
                have rr := block_cell (three_set (x := 2) (y := (k : Int)) (z := (j : Int)) hR4)
                refine bodyPost_ret (v := .agg #[.int .i64 2, .int .i64 (k : Int), .int .i64 (j : Int)]) (by simp [results, Tryd.results51, go_sem, rr]) rfl ⟨2, (k : Int), (j : Int), rfl, .inr ⟨HO.out, .inr ⟨k, hlt, j, d, rfl, rfl, hlj, hD, HT.out, by decide, clear_of hD hno.out, hcl.out⟩⟩, ?_⟩
                exact ((hb4.setCell (by simp) _).setCell (by simp) _).setCell (by simp) _
            obtain ⟨left, hleft⟩ : ∃ left, left = d[j] - (usesB fs fs[k].code[j].1 fs[k].code[j].2).1 + (usesB fs fs[k].code[j].1 fs[k].code[j].2).2 := ⟨_, rfl⟩
            have HL : Hid (left = d[j] - (usesB fs fs[k].code[j].1 fs[k].code[j].2).1 + (usesB fs fs[k].code[j].1 fs[k].code[j].2).2) := hleft
            have hx : (usesB fs fs[k].code[j].1 fs[k].code[j].2).1 ≤ d[j] := by omega
            have hy : d[j] - (usesB fs fs[k].code[j].1 fs[k].code[j].2).1 + (usesB fs fs[k].code[j].1 fs[k].code[j].2).2 ≤ 16 := by omega
            have HF : Hid ((usesB fs fs[k].code[j].1 fs[k].code[j].2).1 ≤ d[j] ∧ d[j] - (usesB fs fs[k].code[j].1 fs[k].code[j].2).1 + (usesB fs fs[k].code[j].1 fs[k].code[j].2).2 ≤ 16) := ⟨hx, hy⟩
            have hnx := next_in F hlj
            clear hfit hleft
            go_wp2_with fail
            rw [← HL.out]
            refine (sNext_any fs[k].code[j].1 fs[k].code[j].2 j _ (by omega)).mono ?_
            rintro e w5 ⟨ad, ncap, rfl, hI, k7⟩
            have hM5 := block_kept hM4 k7
            have hR5 := block_kept hR4 k7
            have hH5 := hH4.mono k7
            have hb5 : Below w.heap.size w w5 := hb4.trans (k7.mono hb4.size)
            have r5 := block_cell hR5
            have q5 := block_free hR5
            obtain ⟨nx, hnxe⟩ : ∃ nx, nx = nextB fs[k].code[j].1 fs[k].code[j].2 j := ⟨_, rfl⟩
            have HX : Hid (nx = nextB fs[k].code[j].1 fs[k].code[j].2 j) := hnxe
            rw [← hnxe] at hI hnx ⊢
            have hnl : nx.length ≤ 2 := by rw [hnxe]; exact next_len _ _ _
            clear hM4 hR4 hH4 hb4 k7 hcell4 e14 e24 hnxe
            go_wp2
            go_loop [11] (fun i => ∃ (q : Nat), q ≤ nx.length ∧ i = .int .i64 q ∧ Hid ((nx.take q).any (fun x => decide ((fs[k].code.length : Int) ≤ x)) = false)) (fun i => nx.length - (intOf i).toNat)
            case atStart => exact ⟨0, by omega, rfl, by show _ = _; simp⟩
            case round =>
              obtain ⟨q, hq, rfl, hqn⟩ := hrel
              by_cases hlq : q < nx.length
              · obtain ⟨v0, v1⟩ := hnx nx[q] (List.getElem_mem hlq)
                obtain ⟨nb, no, rfl, hnb, m1⟩ := hI q hlq
                by_cases hend : (fs[k].code.length : Int) ≤ nx[q]
                · have HT : Hid (troubleB fs fs[k].code d j = 3) := by
                    refine trouble_end hlj HZ.out rfl rfl (by have := HNN.out; omega) (by have := HF.out; omega) ?_
                    rw [← HX.out]
                    exact any_yes (p := fun x => decide ((fs[k].code.length : Int) ≤ x)) hlq (by simpa using hend)
                  clear hqn
                  go_wp2
                  have rr := block_cell (three_set (x := 3) (y := (k : Int)) (z := (j : Int)) hR5)
                  refine bodyPost_ret (v := .agg #[.int .i64 3, .int .i64 (k : Int), .int .i64 (j : Int)]) (by simp [results, Tryd.results51, go_sem, rr]) rfl ⟨3, (k : Int), (j : Int), rfl, .inr ⟨HO.out, .inr ⟨k, hlt, j, d, rfl, rfl, hlj, hD, HT.out, by decide, clear_of hD hno.out, hcl.out⟩⟩, ?_⟩
                  exact ((hb5.setCell (by simp) _).setCell (by simp) _).setCell (by simp) _
                · have HQ : Hid ((nx.take (q + 1)).any (fun x => decide ((fs[k].code.length : Int) ≤ x)) = false) := any_take_no hlq hqn.out (by simpa using hend)
                  clear hqn
                  go_wp2
                  go_round
                  case rel => exact ⟨q + 1, by omega, by go_num, HQ⟩
                  case measure => simp [intOf]; omega
              · have HN : Hid (nx.any (fun x => decide ((fs[k].code.length : Int) ≤ x)) = false) := any_end (by omega) hqn.out
                clear hqn
                go_wp2
                go_loop [12] (fun i => ∃ (q : Nat), q ≤ nx.length ∧ i = .int .i64 q ∧ Hid ((nx.take q).any (fun x => decide (d.getD x.toNat (-1) ≠ left)) = false)) (fun i => nx.length - (intOf i).toNat)
                case atStart => exact ⟨0, by omega, rfl, by show _ = _; simp⟩
                case round =>
                  obtain ⟨p, hp, rfl, hpn⟩ := hrel
                  by_cases hlp : p < nx.length
                  · obtain ⟨v0, v1⟩ := hnx nx[p] (List.getElem_mem hlp)
                    obtain ⟨nb, no, rfl, hnb, m1⟩ := hI p hlp
                    obtain ⟨nk, hnk⟩ : ∃ nk : Nat, nx[p] = (nk : Int) := ⟨nx[p].toNat, by omega⟩
                    have hin : nk < fs[k].code.length := by
                      rcases Nat.lt_or_ge nk fs[k].code.length with h | h
                      · exact h
                      · have := any_yes (p := fun x => decide ((fs[k].code.length : Int) ≤ x)) hlp (by simp; omega)
                        rw [HN.out] at this
                        cases this
                    rw [hnk] at m1
                    have hkl : nk < d.length := by rw [P.len]; exact hin
                    have m2 := hH5.cell hkl
                    have hget : d.getD nx[p].toNat (-1) = d[nk] := by rw [hnk, Int.toNat_natCast]; exact P.get hin
                    by_cases he : d[nk] = left
                    · have HQ : Hid ((nx.take (p + 1)).any (fun x => decide (d.getD x.toNat (-1) ≠ left)) = false) := any_take_no hlp hpn.out (by simp only [hget, he]; simp)
                      have b1 : (d[nk] != left) = false := by simp [he]
                      clear hpn hget hnk he
                      go_wp2
                      go_round
                      case rel => exact ⟨p + 1, by omega, by go_num, HQ⟩
                      case measure => simp [intOf]; omega
                    · have HT : Hid (troubleB fs fs[k].code d j = 4) := by
                        refine trouble_join hlj HZ.out rfl rfl (by have := HNN.out; omega) (by have := HF.out; omega) (by rw [← HX.out]; exact HN.out) ?_
                        rw [← HX.out, ← HL.out]
                        exact any_yes (p := fun x => decide (d.getD x.toNat (-1) ≠ left)) hlp (by simp only [hget]; simpa using he)
                      have b1 : (d[nk] != left) = true := by simpa using he
                      clear hpn hget hnk he
                      go_wp2
                      have rr := block_cell (three_set (x := 4) (y := (k : Int)) (z := (j : Int)) hR5)
                      refine bodyPost_ret (v := .agg #[.int .i64 4, .int .i64 (k : Int), .int .i64 (j : Int)]) (by simp [results, Tryd.results51, go_sem, rr]) rfl ⟨4, (k : Int), (j : Int), rfl, .inr ⟨HO.out, .inr ⟨k, hlt, j, d, rfl, rfl, hlj, hD, HT.out, by decide, clear_of hD hno.out, hcl.out⟩⟩, ?_⟩
                      exact ((hb5.setCell (by simp) _).setCell (by simp) _).setCell (by simp) _
                  · have HT : Hid (troubleB fs fs[k].code d j = 0) := by
                      refine trouble_fine hlj HZ.out rfl rfl (by have := HNN.out; omega) (by have := HF.out; omega) (by rw [← HX.out]; exact HN.out) ?_
                      rw [← HX.out, ← HL.out]
                      exact any_end (by omega) hpn.out
                    clear hpn
                    go_wp2
                    go_roundw
                    case rel => exact ⟨j + 1, by omega, by go_num, fun q hq => (by
                      by_cases e : q = j
                      · subst e; exact HT.out
                      · exact hno.out q (by omega)), hH5, hM5, hR5, hb5⟩
                    case measure => simp [intOf]; omega
          · have hjn : j = fs[k].code.length := by omega
            subst hjn
            go_wp2
            go_roundw
            case rel => exact ⟨k + 1, by omega, by go_num, fun q hq hqk => (by
                by_cases e : q = k
                · subst e; exact clear_of hD hno.out
                · exact hcl.out q hq (by omega)), hM3, hR3, hb3⟩
            case measure => simp [intOf]; omega
      · have r4 := block_cell hR
        have q4 := block_free hR
        go_wp2
        have rr := block_cell (three_set (x := 0) (y := 0) (z := 0) hR)
        refine bodyPost_ret (v := .agg #[.int .i64 0, .int .i64 0, .int .i64 0]) (by simp [results, Tryd.results51, go_sem, rr]) rfl ⟨0, 0, 0, rfl, .inr ⟨HO.out, .inl ⟨rfl, rfl, rfl, fun q hq => hcl.out q hq (by omega)⟩⟩, ?_⟩
        exact ((hb.setCell (by simp) _).setCell (by simp) _).setCell (by simp) _
  · have hok' : modB ts fs = false := by simpa using hok
    have HO : Hid (modB ts fs = false) := hok'
    clear hok
    go_wp2
    have rr := block_cell (three_set (x := 1) (y := 0) (z := 0) hR1)
    refine bodyPost_ret (v := .agg #[.int .i64 1, .int .i64 0, .int .i64 0]) (by simp [results, Tryd.results51, go_sem, rr]) rfl ⟨1, 0, 0, rfl, .inl ⟨HO.out, rfl, rfl, rfl⟩, ?_⟩
    exact ((hb1.setCell (by simp) _).setCell (by simp) _).setCell (by simp) _
end Go.Proofs.YtfodkgjoilaajaaDoor

namespace Go.Proofs.YtfodkgjoilaajaaDoor
open Go.RowKit

theorem strs_of {w : World} {B n tc : Nat} {ta : Option Addr} (h : RowT w B (.slice ta n tc) n) : ∃ ts : List ByteArray, ts.length = n ∧ StrsAt w 0 ta ts ∧ ∀ s ∈ ts, s.size ≤ 1000 := by
  obtain ⟨vs, ho, hv⟩ := h
  have hl : vs.length = n := by have := ho.1; omega
  obtain ⟨ts, hts, hsz⟩ : ∃ ts : List ByteArray, vs = ts.map Value.string ∧ ∀ s ∈ ts, s.size ≤ 1000 := by
    clear ho hl
    induction vs with
    | nil => exact ⟨[], rfl, by simp⟩
    | cons v vs ih =>
      obtain ⟨ts, h1, h2⟩ := ih (fun u hu => hv u (List.mem_cons_of_mem _ hu))
      obtain ⟨s, rfl, hs⟩ := hv v (List.mem_cons_self ..)
      exact ⟨s :: ts, by rw [h1]; rfl, fun x hx => by
        rcases List.mem_cons.1 hx with rfl | hx
        · exact hs
        · exact h2 x hx⟩
  subst hts
  have hlen : ts.length = n := by simpa using hl
  refine ⟨ts, hlen, fun i hi => ?_, hsz⟩
  obtain ⟨g, rfl, -, -, -, hc⟩ := own_cells ho (by omega)
  exact ⟨g, 0, rfl, Nat.zero_le _, by rw [Nat.zero_add]; exact hc i _ (by simp [hi])⟩

theorem code_of {w : World} {B n cc : Nat} {ca : Option Addr} (h : RowI w B (.slice ca n cc) n) : ∃ xs : List (Int × Int), xs.length = n ∧ CodeAt w 0 ca xs := by
  obtain ⟨vs, ho, hv⟩ := h
  have hl : vs.length = n * 2 := ho.1
  have hz : ∀ i (hi : i < vs.length), ∃ z : Int, vs[i] = .int .i64 z := fun i hi => hv _ (List.getElem_mem hi)
  have num : ∀ i, ∃ z : Int, i < vs.length → vs[i]? = some (.int .i64 z) := fun i => by
    by_cases hi : i < vs.length
    · obtain ⟨z, e⟩ := hz i hi
      exact ⟨z, fun _ => by rw [List.getElem?_eq_getElem hi, e]⟩
    · exact ⟨0, fun h => absurd h hi⟩
  obtain ⟨z, hzz⟩ : ∃ z : Nat → Int, ∀ i, i < vs.length → vs[i]? = some (.int .i64 (z i)) := ⟨fun i => Classical.choose (num i), fun i hi => Classical.choose_spec (num i) hi⟩
  refine ⟨(List.range n).map fun i => (z (i * 2), z (i * 2 + 1)), by simp, fun i hi => ?_⟩
  have hi' : i < n := by simpa using hi
  obtain ⟨g, rfl, -, -, -, hc⟩ := own_cells ho (by omega)
  refine ⟨g, 0, rfl, Nat.zero_le _, ?_, ?_⟩
  · rw [Nat.zero_add]
    simpa using hc (i * 2) _ (hzz _ (by omega))
  · rw [Nat.zero_add]
    simpa using hc (i * 2 + 1) _ (hzz _ (by omega))

theorem fns_of {w : World} {B fc : Nat} {fa : Option Addr} {hs : List HF} (h : RowG w B (.slice fa hs.length fc) hs) : ∃ fs : List Fn, fs.length = hs.length ∧ FnsAt w 0 fa fs ∧ ∀ f ∈ fs, f.code.length ≤ 60000 := by
  have cd : ∀ i, ∃ xs : List (Int × Int), ∀ (hi : i < hs.length), xs.length = hs[i].n ∧ CodeAt w 0 hs[i].ca xs := fun i => by
    by_cases hi : i < hs.length
    · obtain ⟨xs, h1, h2⟩ := code_of (h.code hs[i] (List.getElem_mem hi)).1
      exact ⟨xs, fun _ => ⟨h1, h2⟩⟩
    · exact ⟨[], fun h => absurd h hi⟩
  obtain ⟨c, hc⟩ : ∃ c : Nat → List (Int × Int), ∀ i (hi : i < hs.length), (c i).length = hs[i].n ∧ CodeAt w 0 hs[i].ca (c i) := ⟨fun i => Classical.choose (cd i), fun i hi => Classical.choose_spec (cd i) hi⟩
  refine ⟨(List.range hs.length).map fun i => ⟨(hs.getD i ⟨0, 0, none, 0, 0⟩).p, (hs.getD i ⟨0, 0, none, 0, 0⟩).l, c i⟩, by simp, fun i hi => ?_, fun f hf => ?_⟩
  · have hi' : i < hs.length := by simpa using hi
    obtain ⟨g, rfl, -, -, -, hcl⟩ := own_cells h.own (by omega)
    obtain ⟨e1, e2, e3⟩ := flatF_at hs i hi'
    have k1 := hcl _ _ e1
    have k2 := hcl _ _ e2
    have k3 := hcl _ _ e3
    have hci := hc i hi'
    refine ⟨g, 0, hs[i].ca, hs[i].cc, rfl, Nat.zero_le _, ?_, ?_, ?_, ?_⟩
    · rw [Nat.zero_add]; simpa [List.getElem?_eq_getElem hi'] using k1
    · rw [Nat.zero_add]; simpa [List.getElem?_eq_getElem hi'] using k2
    · rw [Nat.zero_add]; simpa [hci.1] using k3
    · simpa using hci.2
  · obtain ⟨i, hi, rfl⟩ := List.mem_map.1 hf
    have hi' : i < hs.length := by simpa using hi
    have := (h.code hs[i] (List.getElem_mem hi')).2
    show (c i).length ≤ 60000
    rw [(hc i hi').1]
    exact this

theorem lay_keep {left nx : Int} {h : List Int} {i : Nat} (hi : 0 ≤ h.getD i (-1)) : (layB left h nx).getD i (-1) = h.getD i (-1) := by
  unfold layB
  split
  · rename_i hc
    by_cases e : nx.toNat = i
    · rw [e] at hc; omega
    · rw [List.getD_eq_getElem?_getD, List.getElem?_set_ne e, ← List.getD_eq_getElem?_getD]
  · rfl
theorem fold_keep {left : Int} (l : List Int) {i : Nat} : ∀ h : List Int, 0 ≤ h.getD i (-1) → (l.foldl (layB left) h).getD i (-1) = h.getD i (-1) := by
  induction l with
  | nil => exact fun _ _ => rfl
  | cons x l ih =>
    intro h hi
    have e := lay_keep (left := left) (nx := x) hi
    rw [List.foldl_cons, ih _ (by rw [e]; exact hi), e]
theorem part_keep {fs : List Fn} {code : List (Int × Int)} {i : Nat} {h : List Int} (hi : 0 ≤ h.getD i (-1)) : ∀ k, (partB fs code k h).getD i (-1) = h.getD i (-1) := by
  intro k
  induction k with
  | zero => rfl
  | succ k ih =>
    have e := ih
    show (stepB fs (code.getD k (0, 0)) k (partB fs code k h)).getD i (-1) = _
    unfold stepB
    split
    · exact e
    · rw [fold_keep _ _ (by rw [e]; exact hi), e]
theorem done_zero {fs : List Fn} {code : List (Int × Int)} (F : Fine fs code) {d : List Int} (h : Done fs code d) : d.getD 0 (-1) = 0 := by
  obtain ⟨⟨k, rfl⟩, -⟩ := h
  induction k with
  | zero =>
    show ((List.replicate code.length (-1)).set 0 0).getD 0 (-1) = 0
    have := F.one
    rw [List.getD_eq_getElem?_getD, List.getElem?_set_self (by simp; omega)]
    rfl
  | succ k ih =>
    show (partB fs code code.length (iterB fs code k)).getD 0 (-1) = 0
    rw [part_keep (by rw [ih]; omega) _]
    exact ih

/-- What no trouble at an instruction says. -/
theorem no_trouble {fs : List Fn} {code : List (Int × Int)} {d : List Int} {k : Nat} (hk : k < code.length) (h : troubleB fs code d k = 0) (hd : ¬ d.getD k (-1) < 0) :
    ¬ d.getD k (-1) < (usesB fs code[k].1 code[k].2).1 ∧ ¬ 16 < d.getD k (-1) - (usesB fs code[k].1 code[k].2).1 + (usesB fs code[k].1 code[k].2).2 ∧
    ∀ nx ∈ nextB code[k].1 code[k].2 k, nx < code.length ∧ d.getD nx.toNat (-1) = d.getD k (-1) - (usesB fs code[k].1 code[k].2).1 + (usesB fs code[k].1 code[k].2).2 := by
  unfold troubleB at h
  rw [getD_code hk] at h
  simp only at h
  rw [if_neg hd] at h
  split at h
  · cases h
  rename_i h1
  split at h
  · cases h
  rename_i h2
  split at h
  · cases h
  rename_i h3
  refine ⟨fun q => h1 (.inl q), fun q => h1 (.inr q), fun nx hnx => ⟨?_, ?_⟩⟩
  · have h2' : ¬ (code.length : Int) ≤ nx := fun q => h2 (List.any_eq_true.2 ⟨nx, hnx, by simpa using q⟩)
    omega
  · exact Classical.byContradiction fun q => h3 (List.any_eq_true.2 ⟨nx, hnx, by simpa using q⟩)

theorem guard30 : Tryd.prog.eqGuardType Tryd.prog.depth 61 = false := by kernel_rfl
set_option maxRecDepth 100000 in
theorem eqIn30 (c f a : Int) (W : World) : (Op.equalIn 10000 61 (.agg #[.int .i64 c, .int .i64 f, .int .i64 a]) (.agg #[.int .i64 c, .int .i64 f, .int .i64 a])).run Tryd.prog W = .ok true W := by
  have h : ∀ d : Nat, (Op.equalIn (d + 1 + 1) 61 (.agg #[.int .i64 c, .int .i64 f, .int .i64 a]) (.agg #[.int .i64 c, .int .i64 f, .int .i64 a])).run Tryd.prog W = .ok true W := fun d => by
    have ht : Tryd.prog.underlying 61 = some (.struct (Tryd.prog.fieldsOf 61)) := by kernel_rfl
    have hp : Tryd.prog.stoodInHeld 61 = false := by kernel_rfl
    have hf : (Tryd.prog.fieldsOf 61).toList.map (fun f => (f.name, f.type, f.offset)) = [("Code", 3, 0), ("Func", 3, 1), ("At", 3, 2)] := by kernel_rfl
    rw [run_equalIn_struct W (d + 1) 61 _ _ ht hp]
    have p0 : ∀ (a b c : Int) (W : World), (part 3 #[.int .i64 a, .int .i64 b, .int .i64 c] 0).run Tryd.prog W = .ok (.int .i64 a) W := fun _ _ _ _ => by kernel_rfl
    have p1 : ∀ (a b c : Int) (W : World), (part 3 #[.int .i64 a, .int .i64 b, .int .i64 c] 1).run Tryd.prog W = .ok (.int .i64 b) W := fun _ _ _ _ => by kernel_rfl
    have p2 : ∀ (a b c : Int) (W : World), (part 3 #[.int .i64 a, .int .i64 b, .int .i64 c] 2).run Tryd.prog W = .ok (.int .i64 c) W := fun _ _ _ _ => by kernel_rfl
    have e1 : ∀ (x : Int), (Op.equalIn (d + 1) 3 (.int .i64 x) (.int .i64 x)).run Tryd.prog W = .ok true W := fun x => by
      have := run_equalIn_int (P := Tryd.prog) W d 3 .i64 .i64 x x Tryd.underlying3
      simpa using this
    rcases hL : (Tryd.prog.fieldsOf 61).toList with _ | ⟨f1, _ | ⟨f2, _ | ⟨f3, _ | _⟩⟩⟩
    · rw [hL] at hf; simp at hf
    · rw [hL] at hf; simp at hf
    · rw [hL] at hf; simp at hf
    · rw [hL] at hf
      simp only [List.map_cons, List.map_nil, List.cons.injEq, Prod.mk.injEq, and_true] at hf
      obtain ⟨⟨n1, t1, o1⟩, ⟨n2, t2, o2⟩, n3, t3, o3⟩ := hf
      simp [Op.eqFields, n1, t1, o1, n2, t2, o2, n3, t3, o3, p0, p1, p2, e1]
    · rw [hL] at hf; simp at hf
  exact h 9998
end Go.Proofs.YtfodkgjoilaajaaDoor

namespace Go.Proofs.YtfodkgjoilaajaaDoor
open Go.RowKit

open Classical in
noncomputable def pB (P : Prop) : Bool := decide P
theorem pB_yes {P : Prop} (h : P) : pB P = true := by simpa [pB] using h
theorem pB_no {P : Prop} (h : ¬ P) : pB P = false := by simpa [pB] using h

/-- The module is good. -/
def Good (ts : List ByteArray) (fs : List Fn) : Prop := ∃ f a, VPost ts fs 0 f a
theorem VPost.good {ts : List ByteArray} {fs : List Fn} {c f a : Int} (h : VPost ts fs c f a) : c = 0 ↔ Good ts fs :=
  ⟨fun e => by subst e; exact ⟨f, a, h⟩, fun ⟨f', a', h'⟩ => (h.one h').1⟩

set_option maxRecDepth 100000 in
set_option maxHeartbeats 1000000 in
theorem sGood_any (a1 a2 : Option Addr) (c1 c2 : Nat) (ts : List ByteArray) (fs : List Fn) (w : World) (hs : Small ts fs) (hst : StrsAt w 0 a1 ts) (hfn : FnsAt w 0 a2 fs) :
    Calls Tryd.prog 35 #[.agg #[.slice a1 ts.length c1, .slice a2 fs.length c2]] w fun e w' => e = .returned (.bool (pB (Good ts fs))) ∧ Below w.heap.size w w' := by
  have hbA : Below w.heap.size w (w.alloc (.cells #[.slice a1 ts.length c1, .slice a2 fs.length c2] 27)) := (Below.refl _ _).alloc (Nat.le_refl _) _
  go_enter Tryd.func35, Tryd.ntmps35
  go_wp2_with fail
  refine (sVerify_any _ _ _ _ ts fs _ hs (hst.mono hbA) (hfn.mono hbA)).mono ?_
  rintro e w1 ⟨c, f, a, rfl, hV, hb⟩
  have HG : Hid (c = 0 ↔ Good ts fs) := hV.good
  clear hV
  have hfld : (Instr.field 61 (.agg #[.int .i64 c, .int .i64 f, .int .i64 a]) 0).run Tryd.prog w1 = .ok (.int .i64 c) w1 := by kernel_rfl
  go_wp2
  go_ret
  refine ⟨ret_bool ?_, hbA.trans (hb.mono hbA.size)⟩
  by_cases h : Good ts fs
  · rw [pB_yes h, HG.out.2 h]; rfl
  · rw [pB_no h]; simpa using fun e => h (HG.out.1 e)

end Go.Proofs.YtfodkgjoilaajaaDoor
