/-
  What impl.DepthsOf and spec.DepthsOf return at every module within the stated sizes and every number; the laws' functions over slices of numbers.
  What impl.DepthsOf returns at every module within the stated sizes and every number.
-/
import Derived.Test.YthhchlceogbbhaaDoorV9
import Derived.Test.YthhchlceogbbhaaDoorG10
import Derived.Deep.RegionHeld3
namespace Go.Proofs.YthhchlceogbbhaaDoor
open Go.RowKit

theorem fine_of {ts : List ByteArray} {fs : List Fn} (h : modB ts fs = true) {k : Nat} (hk : k < fs.length) : Fine fs fs[k].code := by
  unfold modB at h
  simp only [Bool.and_eq_true, decide_eq_true_eq, List.all_eq_true] at h
  have hall := h.2
  have hf : ∀ f ∈ fs, fnB ts.length fs.length f = true := hall
  have hfn : ∀ f ∈ fs, (0 ≤ f.params ∧ f.params ≤ 6) ∧ 1 ≤ f.code.length ∧ f.code.length ≤ 120 ∧ ∀ x ∈ f.code, insB ts.length fs.length f.locals f.code.length x.1 x.2 = true := by
    intro f hm
    have := hf f hm
    unfold fnB at this
    simp only [Bool.and_eq_true, decide_eq_true_eq, List.all_eq_true] at this
    exact ⟨⟨by omega, by omega⟩, by omega, by omega, this.2⟩
  have hkk := hfn fs[k] (List.getElem_mem hk)
  refine ⟨fun f hm => (hfn f hm).1, hkk.2.1, hkk.2.2.1, fun i hi hj => ?_⟩
  have hx := hkk.2.2.2 fs[k].code[i] (List.getElem_mem hi)
  unfold insB at hx
  rcases hj with e | e | e
  all_goals
    rw [e] at hx
    simp at hx
    omega

/-- What DepthsOf is to answer. -/
def IsDep (ts : List ByteArray) (fs : List Fn) (f : Int) (d : List Int) : Prop :=
  (modB ts fs = true ∧ ∃ (k : Nat) (hk : k < fs.length), f = k ∧ Done fs fs[k].code d) ∨ (¬ (modB ts fs = true ∧ 0 ≤ f ∧ f < fs.length) ∧ d = [])

theorem IsDep.one {ts : List ByteArray} {fs : List Fn} {f : Int} {d e : List Int} (h1 : IsDep ts fs f d) (h2 : IsDep ts fs f e) : d = e := by
  rcases h1 with ⟨hm, k, hk, rfl, hd⟩ | ⟨hn, rfl⟩
  · rcases h2 with ⟨-, k', hk', e', hd'⟩ | ⟨hn, -⟩
    · obtain rfl : k = k' := by omega
      exact hd.one hd'
    · exact absurd ⟨hm, by omega, by omega⟩ hn
  · rcases h2 with ⟨hm, k, hk, rfl, -⟩ | ⟨-, rfl⟩
    · exact absurd ⟨hm, by omega, by omega⟩ hn
    · rfl
theorem IsDep.len {ts : List ByteArray} {fs : List Fn} {f : Int} {d : List Int} (h : IsDep ts fs f d) : d.length ≤ 120 := by
  rcases h with ⟨hm, k, hk, rfl, hd⟩ | ⟨-, rfl⟩
  · have F := fine_of hm hk
    have := F.most
    have := (hd.hts F).len
    omega
  · simp

/-- A slice of numbers in memory from 'base' on. -/
def DSl (w : World) (base : Nat) (v : Value) (d : List Int) : Prop := (d = [] ∧ ∃ a cap, v = .slice a 0 cap) ∨ (∃ g cap, v = .slice (some ⟨g, 0, none⟩) d.length cap ∧ base ≤ g ∧ Ht w g cap d)

theorem DSl.form {w : World} {base : Nat} {v : Value} {d : List Int} (h : DSl w base v d) : ∃ a cap, v = .slice a d.length cap ∧ IntsAt w base a d := by
  rcases h with ⟨rfl, a, cap, rfl⟩ | ⟨g, cap, rfl, hg, hH⟩
  · exact ⟨a, cap, rfl, fun i hi => absurd hi (by simp)⟩
  · exact ⟨_, cap, rfl, hH.ints hg⟩
theorem DSl.mono {w w' : World} {base : Nat} {v : Value} {d : List Int} (h : DSl w base v d) (hb : Below w.heap.size w w') : DSl w' base v d := by
  rcases h with h | ⟨g, cap, rfl, hg, hH⟩
  · exact .inl h
  · exact .inr ⟨g, cap, rfl, hg, hH.mono hb⟩
theorem Ht.keeps {w w' : World} {g cap B : Nat} {ts : List Nat} {d : List Int} (h : Ht w g cap d) (hk : Keeps B ts w w') (ht : 3 ∉ ts) : Ht w' g cap d := by
  obtain ⟨c, h1, h2⟩ := h
  exact ⟨c, hk.cell h1 ht, h2⟩
theorem DSl.keeps {w w' : World} {base B : Nat} {ts : List Nat} {v : Value} {d : List Int} (h : DSl w base v d) (hk : Keeps B ts w w') (ht : 3 ∉ ts) : DSl w' base v d := by
  rcases h with h | ⟨g, cap, rfl, hg, hH⟩
  · exact .inl h
  · exact .inr ⟨g, cap, rfl, hg, hH.keeps hk ht⟩
theorem DSl.low {w : World} {base base' : Nat} {v : Value} {d : List Int} (h : DSl w base v d) (hl : base' ≤ base) : DSl w base' v d := by
  rcases h with h | ⟨g, cap, rfl, hg, hH⟩
  · exact .inl h
  · exact .inr ⟨g, cap, rfl, by omega, hH⟩

end Go.Proofs.YthhchlceogbbhaaDoor

namespace Go.Proofs.YthhchlceogbbhaaDoor
open Go.RowKit

set_option maxRecDepth 100000 in
set_option maxHeartbeats 1000000 in
theorem iDepthsOf_any (a1 a2 : Option Addr) (c1 c2 : Nat) (ts : List ByteArray) (fs : List Fn) (f : Int) (w : World) (hs : Small ts fs) (hm : StrsAt w 0 a1 ts) (hm2 : FnsAt w 0 a2 fs) :
    Calls Tryd.prog 15 #[.agg #[.slice a1 ts.length c1, .slice a2 fs.length c2], .int .i64 f] w fun e w' => ∃ v d, e = .returned v ∧ IsDep ts fs f d ∧ DSl w' w.heap.size v d ∧ Below w.heap.size w w' := by
  have hn := hs.funcs
  have hbA : Below w.heap.size w (w.alloc (.cells #[.slice a1 ts.length c1, .slice a2 fs.length c2] 27)) := (Below.refl _ _).alloc (Nat.le_refl _) _
  have hM0 := block_new w #[.slice a1 ts.length c1, .slice a2 fs.length c2] 27
  by_cases hf : 0 ≤ f ∧ f < fs.length
  · obtain ⟨k, rfl⟩ : ∃ k : Nat, f = k := ⟨f.toNat, by omega⟩
    have hk : k < fs.length := by omega
    go_enter Tryd.func15, Tryd.ntmps15
    go_wp2_with fail
    refine (iModuleOk_any _ _ ts fs _ _ _ hs (hm.mono hbA) (hm2.mono hbA)).mono ?_
    rintro e w1 ⟨rfl, hb⟩
    have hM1 := block_kept hM0 hb
    have hb1 : Below w.heap.size w w1 := hbA.trans (hb.mono (by simp))
    have y1 := block_cell hM1
    clear hbA hM0 hb
    by_cases hok : modB ts fs = true
    · have F := fine_of hok hk
      have HO : Hid (modB ts fs = true) := hok
      obtain ⟨b, off, ca, cc, rfl, -, d1, d2, d3, d4⟩ := hm2 k hk
      have d3' := cell_later hb1 d3
      clear d1 d2 d3 hf
      go_wp2
      go_region_held3 (fun w' => w'.cell? ⟨w.heap.size, 0, none⟩ = some (.slice a1 ts.length c1) ∧ w'.cell? ⟨w.heap.size, 1, none⟩ = some (.slice (some ⟨b, off, none⟩) fs.length c2) ∧ w'.cell? ⟨b, off + k * 3 + 2, none⟩ = some (.slice ca fs[k].code.length cc))
        (first | exact ⟨(y1 0).trans rfl, (y1 1).trans rfl, d3'⟩ | exact ⟨by rw [block_cell (block_kept hM1 k6)]; rfl, by rw [block_cell (block_kept hM1 k6)]; rfl, cell_later k6 d3'⟩)
        (first | (go_at_call 29; refine (iHeights_any _ _ _ _ _ _ _ fs fs[k].code _ (by exact hm2.mono hb1.drew) (by exact d4.mono hb1.drew) F).mono ?_; rintro e w4 ⟨g, d, rfl, hg, hD, hH, k6d⟩; have k6 := below_undraw k6d))
      have hl : d.length = fs[k].code.length := (hD.hts F).len
      have hg' : w1.heap.size ≤ g := hg
      go_wp2
      go_ret
      refine ⟨.slice (some ⟨g, 0, none⟩) fs[k].code.length fs[k].code.length, d, rfl, .inl ⟨HO.out, k, hk, rfl, hD⟩, .inr ⟨g, _, by rw [hl], by have := hb1.size; omega, hH⟩, hb1.trans (k6.mono hb1.size)⟩
    · have hok' : modB ts fs = false := by simpa using hok
      have HN : Hid (¬ (modB ts fs = true ∧ 0 ≤ (k : Int) ∧ (k : Int) < fs.length)) := fun h => hok h.1
      clear hok
      go_wp2
      go_ret
      exact ⟨_, [], rfl, .inr ⟨HN.out, rfl⟩, .inl ⟨rfl, _, _, rfl⟩, hb1⟩
  · have HN : Hid (¬ (modB ts fs = true ∧ 0 ≤ f ∧ f < fs.length)) := fun h => hf h.2
    rcases (show f < 0 ∨ (0 ≤ f ∧ (fs.length : Int) ≤ f) by omega) with h1 | ⟨h1, h2⟩
    all_goals
      clear hf
      go_enter Tryd.func15, Tryd.ntmps15
      go_wp2
      go_ret
      exact ⟨_, [], rfl, .inr ⟨HN.out, rfl⟩, .inl ⟨rfl, _, _, rfl⟩, hbA⟩
end Go.Proofs.YthhchlceogbbhaaDoor
