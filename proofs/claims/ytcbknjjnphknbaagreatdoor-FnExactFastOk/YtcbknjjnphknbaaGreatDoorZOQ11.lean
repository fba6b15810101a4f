/-
  What impl.funcOk returns at a function of the module.
  What impl.ModuleOk returns, for every module within the stated sizes.
  What impl.DepthsOf and spec.DepthsOf return at every module within the stated sizes and every number; the laws' functions over slices of numbers.
  What Verify is to answer, and the heights of all functions in memory.
  Values: a value as the program's own kind of thing, what is named by its kind, and whether that is as the document's table says.
  Values: two facts on memory and on the empty text.
-/
import Derived.Test.YtcbknjjnphknbaaGreatDoorZOQ8
import Derived.Test.YtcbknjjnphknbaaGreatDoorZOQ7
import Derived.Test.YtcbknjjnphknbaaGreatDoorZOQ10
import Derived.Laws.StructEq
namespace Go.Proofs.YtcbknjjnphknbaaGreatDoor
open Go.RowKit

set_option maxHeartbeats 800000 in
theorem funcOk_any (a1 a2 : Option Addr) (nt c1 c2 : Nat) (fs : List Fn) (f : Nat) (w : World) (hf : f < fs.length) (hm : FnsAt w 0 a2 fs) (hck : fs[f].code.length ≤ 1048576) :
    Calls Tryz.prog 85 #[.agg #[.slice a1 nt c1, .slice a2 fs.length c2], .int .i64 f] w fun e w' => e = .returned (.bool (fnB nt fs.length fs[f])) ∧ Below w.heap.size w w' := by
  obtain ⟨b, off, ca, cc, rfl, -, d1, d2, d3, d4⟩ := hm f hf
  have n1 := World.block_lt_of_cell? _ _ d1
  simp only at n1
  by_cases hh : 0 ≤ fs[f].params ∧ fs[f].params ≤ 6 ∧ fs[f].params ≤ fs[f].locals ∧ fs[f].locals ≤ 12 ∧ 1 ≤ fs[f].code.length ∧ fs[f].code.length ≤ 120
  · have HF : Hid (fnB nt fs.length fs[f] = fs[f].code.all fun x => insB nt fs.length fs[f].locals fs[f].code.length x.1 x.2) := fnB_all hh
    obtain ⟨g1, g2, g3, g4, g5, g6⟩ := hh
    go_enter Tryz.func85, Tryz.ntmps85
    go_wp2
    have hM0 := block_old (block_new w #[.slice a1 nt c1, .slice (some ⟨b, off, none⟩) fs.length c2] 35) (.cells #[.int .i64 fs[f].params, .int .i64 fs[f].locals, .slice ca fs[f].code.length cc] 91)
    have hbA : Below w.heap.size w ((w.alloc (.cells #[.slice a1 nt c1, .slice (some ⟨b, off, none⟩) fs.length c2] 35)).alloc (.cells #[.int .i64 fs[f].params, .int .i64 fs[f].locals, .slice ca fs[f].code.length cc] 91)) := ((Below.refl _ _).alloc (Nat.le_refl _) _).alloc (by simp) _
    clear d1 d2 d3
    go_loopw [46] (fun i wr => ∃ (k : Nat), k ≤ fs[f].code.length ∧ i = .int .i64 k ∧ (fs[f].code.take k).all (fun x => insB nt fs.length fs[f].locals fs[f].code.length x.1 x.2) = true ∧ wr.heap[w.heap.size]? = some (.cells #[.slice a1 nt c1, .slice (some ⟨b, off, none⟩) fs.length c2] 35 (0, 0)) ∧ Below w.heap.size w wr) (fun i _ => fs[f].code.length - (intOf i).toNat)
    case atStart => exact ⟨0, by omega, rfl, by simp, hM0, hbA⟩
    case round =>
      obtain ⟨k, hk, rfl, hall, hM, hb⟩ := hrel
      clear hM0 hbA
      by_cases hlt : k < fs[f].code.length
      · obtain ⟨cb, co, rfl, -, e1, e2⟩ := d4 k hlt
        have e1' := cell_later hb e1
        have e2' := cell_later hb e2
        have x1 := block_cell hM
        have hsz := lt_block hM
        clear e1 e2
        go_wp2_with fail
        have hbx : Below w.heap.size w (wr.alloc (.cells #[.int .i64 fs[f].code[k].1, .int .i64 fs[f].code[k].2] 135)) := hb.alloc (by omega) _
        refine (iInsOk_any a1 _ nt c1 c2 fs f _ _ _ hf (hm.mono hbx)).mono ?_
        rintro e w2 ⟨rfl, hb2⟩
        have hM2 := block_kept (block_old hM (.cells #[.int .i64 fs[f].code[k].1, .int .i64 fs[f].code[k].2] 135)) hb2
        have hb3 : Below w.heap.size w w2 := hbx.trans (hb2.mono (by simp; omega))
        clear x1 e1' e2' hbx hb2
        by_cases hi : insB nt fs.length fs[f].locals fs[f].code.length fs[f].code[k].1 fs[f].code[k].2 = true
        · go_wp2
          go_roundw
          case rel => exact ⟨k + 1, by omega, by go_num, all_take hlt hall hi, hM2, hb3⟩
          case measure => simp [intOf]; omega
        · have hi' : insB nt fs.length fs[f].locals fs[f].code.length fs[f].code[k].1 fs[f].code[k].2 = false := by simpa using hi
          have hno : fnB nt fs.length fs[f] = false := by rw [HF.out]; exact all_no (p := fun x => insB nt fs.length fs[f].locals fs[f].code.length x.1 x.2) hlt hi'
          have HN : Hid (fnB nt fs.length fs[f] = false) := hno
          clear hno hi
          go_wp2
          go_ret
          exact ⟨ret_bool HN.out.symm, hb3⟩
      · go_wp2
        go_ret
        exact ⟨ret_bool (by rw [HF.out]; exact (all_end (by omega) hall).symm), hb⟩
  · have HF : Hid (fnB nt fs.length fs[f] = false) := fnB_no hh
    rcases (show fs[f].params < 0 ∨ (0 ≤ fs[f].params ∧ 6 < fs[f].params) ∨ (0 ≤ fs[f].params ∧ fs[f].params ≤ 6 ∧ fs[f].locals < fs[f].params) ∨ (0 ≤ fs[f].params ∧ fs[f].params ≤ 6 ∧ fs[f].params ≤ fs[f].locals ∧ 12 < fs[f].locals) ∨
      (0 ≤ fs[f].params ∧ fs[f].params ≤ 6 ∧ fs[f].params ≤ fs[f].locals ∧ fs[f].locals ≤ 12 ∧ (fs[f].code.length : Int) < 1) ∨ (0 ≤ fs[f].params ∧ fs[f].params ≤ 6 ∧ fs[f].params ≤ fs[f].locals ∧ fs[f].locals ≤ 12 ∧ 1 ≤ (fs[f].code.length : Int) ∧ 120 < (fs[f].code.length : Int)) by omega) with h | ⟨h, h2⟩ | ⟨h, h2, h3⟩ | ⟨h, h2, h3, h4⟩ | ⟨h, h2, h3, h4, h5⟩ | ⟨h, h2, h3, h4, h5, h6⟩
    all_goals
      clear hh
      go_enter Tryz.func85, Tryz.ntmps85
      go_wp2
      go_ret
      exact ⟨ret_bool HF.out.symm, ((Below.refl _ _).alloc (Nat.le_refl _) _).alloc (by simp) _⟩
end Go.Proofs.YtcbknjjnphknbaaGreatDoor

namespace Go.Proofs.YtcbknjjnphknbaaGreatDoor
open Go.RowKit

set_option maxHeartbeats 1000000 in
theorem iModuleOk_any (a1 a2 : Option Addr) (ts : List ByteArray) (fs : List Fn) (c1 c2 : Nat) (w : World) (hs : Small ts fs) (hm : StrsAt w 0 a1 ts) (hf : FnsAt w 0 a2 fs) :
    Calls Tryz.prog 42 #[.agg #[.slice a1 ts.length c1, .slice a2 fs.length c2]] w fun e w' => e = .returned (.bool (modB ts fs)) ∧ Below w.heap.size w w' := by
  have s1 := hs.texts
  have s2 := hs.funcs
  by_cases hh : 1 ≤ fs.length ∧ fs.length ≤ 12 ∧ ts.length ≤ 20
  · have HF : Hid (modB ts fs = (ts.all textB && fs.all fun f => fnB ts.length fs.length f)) := modB_all hh
    obtain ⟨g1, g2, g3⟩ := hh
    have hbA : Below w.heap.size w (w.alloc (.cells #[.slice a1 ts.length c1, .slice a2 fs.length c2] 35)) := (Below.refl _ _).alloc (Nat.le_refl _) _
    have hM0 := block_new w #[.slice a1 ts.length c1, .slice a2 fs.length c2] 35
    go_enter Tryz.func42, Tryz.ntmps42
    go_wp2
    go_loop [25] (fun i => ∃ (k : Nat), k ≤ ts.length ∧ i = .int .i64 k ∧ (ts.take k).all textB = true) (fun i => ts.length - (intOf i).toNat)
    case atStart => exact ⟨0, by omega, rfl, by simp⟩
    case round =>
      obtain ⟨k, hk, rfl, hall⟩ := hrel
      by_cases hlt : k < ts.length
      · obtain ⟨b, off, rfl, -, e1⟩ := hm k hlt
        have e1' := cell_later hbA e1
        have hts := hs.text ts[k] (List.getElem_mem hlt)
        clear e1 hM0
        by_cases hi : textB ts[k] = true
        · go_wp2_with (go_at_call 84; refine (textOk_any _ _ hts).mono ?_; rintro e w' ⟨rfl, rfl⟩)
          go_round
          case rel => exact ⟨k + 1, by omega, by go_num, all_take hlt hall hi⟩
          case measure => simp [intOf]; omega
        · have hi' : textB ts[k] = false := by simpa using hi
          have HN : Hid (modB ts fs = false) := by rw [HF.out, all_no hlt hi']; rfl
          clear hi
          go_wp2_with (go_at_call 84; refine (textOk_any _ _ hts).mono ?_; rintro e w' ⟨rfl, rfl⟩)
          go_ret
          exact ⟨ret_bool HN.out.symm, hbA⟩
      · have hall2 : ts.all textB = true := all_end (by omega) hall
        have HF2 : Hid (modB ts fs = fs.all fun f => fnB ts.length fs.length f) := by rw [HF.out, hall2]; rfl
        clear hall hall2
        go_wp2
        go_loopw [36] (fun i wr => ∃ (k : Nat), k ≤ fs.length ∧ i = .int .i64 k ∧ (fs.take k).all (fun f => fnB ts.length fs.length f) = true ∧ wr.heap[w.heap.size]? = some (.cells #[.slice a1 ts.length c1, .slice a2 fs.length c2] 35 (0, 0)) ∧ Below w.heap.size w wr) (fun i _ => fs.length - (intOf i).toNat)
        case atStart => exact ⟨0, by omega, rfl, by simp, hM0, hbA⟩
        case round =>
          obtain ⟨q, hq, rfl, hallf, hM, hb⟩ := hrel
          clear hM0
          by_cases hlq : q < fs.length
          · have x1 := block_cell hM
            have hcq := hs.code fs[q] (List.getElem_mem hlq)
            go_wp2_with fail
            refine (funcOk_any a1 a2 ts.length c1 c2 fs q _ hlq (hf.mono hb) hcq).mono ?_
            rintro e w2 ⟨rfl, hb2⟩
            have hM2 := block_kept hM hb2
            have hb3 : Below w.heap.size w w2 := hb.trans (hb2.mono hb.size)
            clear x1 hb2
            by_cases hi : fnB ts.length fs.length fs[q] = true
            · go_wp2
              go_roundw
              case rel => exact ⟨q + 1, by omega, by go_num, all_take (p := fun f => fnB ts.length fs.length f) hlq hallf hi, hM2, hb3⟩
              case measure => simp [intOf]; omega
            · have hi' : fnB ts.length fs.length fs[q] = false := by simpa using hi
              have HN : Hid (modB ts fs = false) := by rw [HF2.out]; exact all_no (p := fun f => fnB ts.length fs.length f) hlq hi'
              clear hi
              go_wp2
              go_ret
              exact ⟨ret_bool HN.out.symm, hb3⟩
          · go_wp2
            go_ret
            exact ⟨ret_bool (by rw [HF2.out]; exact (all_end (by omega) hallf).symm), hb⟩
  · have HF : Hid (modB ts fs = false) := modB_no hh
    rcases (show 20 < (ts.length : Int) ∨ ((ts.length : Int) ≤ 20 ∧ (fs.length : Int) < 1) ∨ ((ts.length : Int) ≤ 20 ∧ 1 ≤ (fs.length : Int) ∧ 12 < (fs.length : Int)) by omega) with h | ⟨h, h2⟩ | ⟨h, h2, h3⟩
    all_goals
      clear hh
      go_enter Tryz.func42, Tryz.ntmps42
      go_wp2
      go_ret
      exact ⟨ret_bool HF.out.symm, (Below.refl _ _).alloc (Nat.le_refl _) _⟩
end Go.Proofs.YtcbknjjnphknbaaGreatDoor

namespace Go.Proofs.YtcbknjjnphknbaaGreatDoor
open Go.RowKit

theorem fine_of {ts : List ByteArray} {fs : List Fn} (h : modB ts fs = true) {k : Nat} (hk : k < fs.length) : Fine fs fs[k].code := by
  unfold modB at h
  simp only [Bool.and_eq_true, decide_eq_true_eq, List.all_eq_true] at h
  have hall := h.2
  have hf : ∀ f ∈ fs, fnB ts.length fs.length f = true := hall
  have hfn : ∀ f ∈ fs, (0 ≤ f.params ∧ f.params ≤ 6) ∧ 1 ≤ f.code.length ∧ f.code.length ≤ 120 ∧ ∀ x ∈ f.code, insB ts.length fs.length f.locals f.code.length x.1 x.2 = true := by
    intro f hm
    have := hf f hm
    unfold fnB at this
    simp only [Bool.and_eq_true, decide_eq_true_eq, List.all_eq_true] at this
    exact ⟨⟨by omega, by omega⟩, by omega, by omega, this.2⟩
  have hkk := hfn fs[k] (List.getElem_mem hk)
  refine ⟨fun f hm => (hfn f hm).1, hkk.2.1, hkk.2.2.1, fun i hi hj => ?_⟩
  have hx := hkk.2.2.2 fs[k].code[i] (List.getElem_mem hi)
  unfold insB at hx
  rcases hj with e | e | e
  all_goals
    rw [e] at hx
    simp at hx
    omega

/-- What DepthsOf is to answer. -/
def IsDep (ts : List ByteArray) (fs : List Fn) (f : Int) (d : List Int) : Prop :=
  (modB ts fs = true ∧ ∃ (k : Nat) (hk : k < fs.length), f = k ∧ Done fs fs[k].code d) ∨ (¬ (modB ts fs = true ∧ 0 ≤ f ∧ f < fs.length) ∧ d = [])

theorem IsDep.one {ts : List ByteArray} {fs : List Fn} {f : Int} {d e : List Int} (h1 : IsDep ts fs f d) (h2 : IsDep ts fs f e) : d = e := by
  rcases h1 with ⟨hm, k, hk, rfl, hd⟩ | ⟨hn, rfl⟩
  · rcases h2 with ⟨-, k', hk', e', hd'⟩ | ⟨hn, -⟩
    · obtain rfl : k = k' := by omega
      exact hd.one hd'
    · exact absurd ⟨hm, by omega, by omega⟩ hn
  · rcases h2 with ⟨hm, k, hk, rfl, -⟩ | ⟨-, rfl⟩
    · exact absurd ⟨hm, by omega, by omega⟩ hn
    · rfl
theorem IsDep.len {ts : List ByteArray} {fs : List Fn} {f : Int} {d : List Int} (h : IsDep ts fs f d) : d.length ≤ 120 := by
  rcases h with ⟨hm, k, hk, rfl, hd⟩ | ⟨-, rfl⟩
  · have F := fine_of hm hk
    have := F.most
    have := (hd.hts F).len
    omega
  · simp

/-- A slice of numbers in memory from 'base' on. -/
def DSl (w : World) (base : Nat) (v : Value) (d : List Int) : Prop := (d = [] ∧ ∃ a cap, v = .slice a 0 cap) ∨ (∃ g cap, v = .slice (some ⟨g, 0, none⟩) d.length cap ∧ base ≤ g ∧ Ht w g cap d)

theorem DSl.form {w : World} {base : Nat} {v : Value} {d : List Int} (h : DSl w base v d) : ∃ a cap, v = .slice a d.length cap ∧ IntsAt w base a d := by
  rcases h with ⟨rfl, a, cap, rfl⟩ | ⟨g, cap, rfl, hg, hH⟩
  · exact ⟨a, cap, rfl, fun i hi => absurd hi (by simp)⟩
  · exact ⟨_, cap, rfl, hH.ints hg⟩
theorem DSl.mono {w w' : World} {base : Nat} {v : Value} {d : List Int} (h : DSl w base v d) (hb : Below w.heap.size w w') : DSl w' base v d := by
  rcases h with h | ⟨g, cap, rfl, hg, hH⟩
  · exact .inl h
  · exact .inr ⟨g, cap, rfl, hg, hH.mono hb⟩
theorem Ht.keeps {w w' : World} {g cap B : Nat} {ts : List Nat} {d : List Int} (h : Ht w g cap d) (hk : Keeps B ts w w') (ht : 3 ∉ ts) : Ht w' g cap d := by
  obtain ⟨c, h1, h2⟩ := h
  exact ⟨c, hk.cell h1 ht, h2⟩
theorem DSl.keeps {w w' : World} {base B : Nat} {ts : List Nat} {v : Value} {d : List Int} (h : DSl w base v d) (hk : Keeps B ts w w') (ht : 3 ∉ ts) : DSl w' base v d := by
  rcases h with h | ⟨g, cap, rfl, hg, hH⟩
  · exact .inl h
  · exact .inr ⟨g, cap, rfl, hg, hH.keeps hk ht⟩
theorem DSl.low {w : World} {base base' : Nat} {v : Value} {d : List Int} (h : DSl w base v d) (hl : base' ≤ base) : DSl w base' v d := by
  rcases h with h | ⟨g, cap, rfl, hg, hH⟩
  · exact .inl h
  · exact .inr ⟨g, cap, rfl, by omega, hH⟩

end Go.Proofs.YtcbknjjnphknbaaGreatDoor

namespace Go.Proofs.YtcbknjjnphknbaaGreatDoor
open Go.RowKit

/-- What Verify is to answer. -/
def VPost (ts : List ByteArray) (fs : List Fn) (c f a : Int) : Prop := (modB ts fs = false ∧ c = 1 ∧ f = 0 ∧ a = 0) ∨ (modB ts fs = true ∧ Told fs c f a)
theorem VPost.one {ts : List ByteArray} {fs : List Fn} {c f a c' f' a' : Int} (h : VPost ts fs c f a) (h' : VPost ts fs c' f' a') : c = c' ∧ f = f' ∧ a = a' := by
  rcases h with ⟨h, rfl, rfl, rfl⟩ | ⟨h, ht⟩
  · rcases h' with ⟨-, rfl, rfl, rfl⟩ | ⟨h', -⟩
    · exact ⟨rfl, rfl, rfl⟩
    · rw [h] at h'; cases h'
  · rcases h' with ⟨h', -⟩ | ⟨-, ht'⟩
    · rw [h] at h'; cases h'
    · exact ht.one ht'

theorem clear_of {fs : List Fn} {code : List (Int × Int)} {d : List Int} {k : Nat} (hD : Done fs code d) (h : ∀ j, j < k → troubleB fs code d j = 0) : Clear fs code k := fun e he j hj => by
  obtain rfl := hD.one he
  exact h j hj

theorem three_set {W : World} {R : Nat} {x y z : Int} (h : W.heap[R]? = some (.cells #[.int .i64 0, .int .i64 0, .int .i64 0] 56 (0, 0))) : (((W.setCell ⟨R, 0, none⟩ (.int .i64 x)).setCell ⟨R, 1, none⟩ (.int .i64 y)).setCell ⟨R, 2, none⟩ (.int .i64 z)).heap[R]? = some (.cells #[.int .i64 x, .int .i64 y, .int .i64 z] 56 (0, 0)) := by
  have := block_set (i := 2) (block_set (i := 1) (block_set (i := 0) h (.int .i64 x)) (.int .i64 y)) (.int .i64 z)
  simpa using this


/-- A row of the heights of the first k functions. -/
def Hs (w : World) (base G k : Nat) (fs : List Fn) : Prop := base ≤ G ∧ ∃ cur : Array Value, w.heap[G]? = some (Obj.cells cur 87 (0, 0)) ∧ cur.size = fs.length ∧
  ∀ j (hj : j < fs.length), j < k → ∃ g d, cur[j]? = some (.slice (some ⟨g, 0, none⟩) fs[j].code.length fs[j].code.length) ∧ base ≤ g ∧ Done fs fs[j].code d ∧ Ht w g fs[j].code.length d
theorem Hs.mono {w w' : World} {base G k : Nat} {fs : List Fn} (h : Hs w base G k fs) (hb : Below w.heap.size w w') : Hs w' base G k fs := by
  obtain ⟨h0, cur, h1, h2, h3⟩ := h
  refine ⟨h0, cur, block_kept h1 hb, h2, fun j hj hk => ?_⟩
  obtain ⟨g, d, k1, k2, k3, k4⟩ := h3 j hj hk
  exact ⟨g, d, k1, k2, k3, k4.mono hb⟩
theorem Ht.other {w : World} {g cap G i : Nat} {d : List Int} {cur : Array Value} (h : Ht w g cap d) (hG : w.heap[G]? = some (Obj.cells cur 87 (0, 0))) (v : Value) : Ht (w.setCell ⟨G, i, none⟩ v) g cap d := by
  obtain ⟨c, h1, h2⟩ := h
  have hne : g ≠ G := by
    intro e
    subst e
    rw [h1] at hG
    simp at hG
  exact ⟨c, by rw [Below.heap_setCell _ _ _ _ hne]; exact h1, h2⟩
theorem Hs.put {w : World} {base G k g : Nat} {fs : List Fn} {d : List Int} (h : Hs w base G k fs) (hk : k < fs.length) (hg : base ≤ g) (hD : Done fs fs[k].code d) (hH : Ht w g fs[k].code.length d) :
    Hs (w.setCell ⟨G, k, none⟩ (.slice (some ⟨g, 0, none⟩) fs[k].code.length fs[k].code.length)) base G (k + 1) fs := by
  obtain ⟨h0, cur, h1, h2, h3⟩ := h
  refine ⟨h0, _, block_set h1 _, by simpa using h2, fun j hj hjk => ?_⟩
  by_cases e : j = k
  · subst e
    exact ⟨g, d, set_self _ (by omega), hg, hD, hH.other h1 _⟩
  · obtain ⟨g', d', k1, k2, k3, k4⟩ := h3 j hj (by omega)
    exact ⟨g', d', by rw [set_else _ e]; exact k1, k2, k3, k4.other h1 _⟩
theorem Hs.at {w : World} {base G k : Nat} {fs : List Fn} (h : Hs w base G k fs) {j : Nat} (hj : j < fs.length) (hk : j < k) : ∃ g d, w.cell? ⟨G, j, none⟩ = some (.slice (some ⟨g, 0, none⟩) fs[j].code.length fs[j].code.length) ∧ Done fs fs[j].code d ∧ Ht w g fs[j].code.length d := by
  obtain ⟨-, cur, h1, h2, h3⟩ := h
  obtain ⟨g, d, k1, -, k3, k4⟩ := h3 j hj hk
  exact ⟨g, d, by rw [block_cell h1]; exact k1, k3, k4⟩
theorem Hs.cell {w : World} {base G k : Nat} {fs : List Fn} (h : Hs w base G k fs) {j : Nat} (hj : j < fs.length) : ∃ v, w.cell? ⟨G, j, none⟩ = some v := by
  obtain ⟨-, cur, h1, h2, -⟩ := h
  exact ⟨cur[j], by rw [block_cell h1]; simp⟩
theorem Hs.free {w : World} {base G k : Nat} {fs : List Fn} (h : Hs w base G k fs) (j : Nat) : w.frozen? ⟨G, j, none⟩ = false := by
  obtain ⟨-, cur, h1, -, -⟩ := h
  exact block_free h1 j
theorem Hs.three {w : World} {base G k R : Nat} {fs : List Fn} {c : Array Value} {x y z : Value} (h : Hs w base G k fs) (hR : w.heap[R]? = some (Obj.cells c 56 (0, 0))) : Hs (((w.setCell ⟨R, 0, none⟩ x).setCell ⟨R, 1, none⟩ y).setCell ⟨R, 2, none⟩ z) base G k fs := by
  have one : ∀ g, (∀ c', w.heap[g]? ≠ some (Obj.cells c' 56 (0, 0))) → (((w.setCell ⟨R, 0, none⟩ x).setCell ⟨R, 1, none⟩ y).setCell ⟨R, 2, none⟩ z).heap[g]? = w.heap[g]? := fun g hg => by
    have hne : g ≠ R := by
      intro e
      subst e
      exact hg _ hR
    rw [Below.heap_setCell _ _ _ _ hne, Below.heap_setCell _ _ _ _ hne, Below.heap_setCell _ _ _ _ hne]
  obtain ⟨h0, cur, h1, h2, h3⟩ := h
  refine ⟨h0, cur, by rw [one G (by intro c' h; rw [h1] at h; simp at h)]; exact h1, h2, fun j hj hk => ?_⟩
  obtain ⟨g, d, k1, k2, k3, cc, k4, k5⟩ := h3 j hj hk
  exact ⟨g, d, k1, k2, k3, cc, by rw [one g (by intro c' h; rw [k4] at h; simp at h)]; exact k4, k5⟩
end Go.Proofs.YtcbknjjnphknbaaGreatDoor

namespace Go.Proofs.YtcbknjjnphknbaaGreatDoor
open Go.RowKit

/-- A number of the machine. -/
def num (n : Int) : Bool := decide (-1000000000 ≤ n) && decide (n ≤ 1000000000)

set_option maxHeartbeats 400000 in
theorem sNum_any (n : Int) (w : World) : Calls Tryz.prog 112 #[.int .i64 n] w fun e w' => e = .returned (.bool (num n)) ∧ w' = w := by
  go_enter Tryz.func112, Tryz.ntmps112
  go_wp2_with fail
  refine (between_any _ _ _ _).mono ?_
  rintro e w1 ⟨rfl, rfl⟩
  go_wp2
  go_ret
  exact ⟨rfl, rfl⟩

set_option maxHeartbeats 400000 in
theorem toValue_any (k n : Int) (s : ByteArray) (w : World) :
    Calls Tryz.prog 80 #[.agg #[.int .i64 k, .int .i64 n, .string s]] w fun e w' => e = .returned (.agg #[.int .i64 k, .int .i64 n, .string s]) ∧ Below w.heap.size w w' := by
  go_enter Tryz.func80, Tryz.ntmps80
  go_wp2
  refine bodyPost_ret (v := .agg #[.int .i64 k, .int .i64 n, .string s]) (by simp [results, Tryz.results80, go_sem]) rfl ⟨rfl, ?_⟩
  repeat (first | exact Below.refl _ _ | refine Below.alloc ?_ (by first | exact Nat.le_refl _ | (simp <;> omega)) _ | refine Below.setCell ?_ (by first | exact Nat.le_refl _ | (simp <;> omega)) _)

set_option maxHeartbeats 400000 in
theorem szVal_any (k n l : Int) (s : ByteArray) (w : World) (h0 : 0 ≤ l) (h1 : l ≤ 1048576) (hs : s.size ≤ maxLen) :
    Calls Tryz.prog 60 #[.agg #[.int .i64 k, .int .i64 n, .string s], .int .i64 l] w fun e w' => e = .returned (.int .i64 (if l < (s.size : Int) then -1 else l - (s.size : Int))) ∧ Below w.heap.size w w' := by
  unfold maxLen at hs
  by_cases h : l < (s.size : Int)
  · rw [if_pos h]
    go_enter Tryz.func60, Tryz.ntmps60
    go_wp2
    go_ret
    exact ⟨rfl, (Below.refl _ _).alloc (Nat.le_refl _) _⟩
  · rw [if_neg h]
    go_enter Tryz.func60, Tryz.ntmps60
    go_wp2
    go_ret
    exact ⟨rfl, (Below.refl _ _).alloc (Nat.le_refl _) _⟩

/-- A value as a thing: an interface value, by its kind. -/
def thing (k n : Int) (s : ByteArray) : Value :=
  if k = 0 then .iface 257 (.agg #[]) else if k = 1 then .iface 258 (.int .i64 n) else if k = 2 then .iface 259 (.int .i64 n) else if k = 3 then .iface 260 (.string s)
  else if k = 4 then .iface 261 (.int .i64 n) else if k = 5 then .iface 262 (.int .i64 n) else .iface 263 (.int .i64 k)

set_option maxHeartbeats 1000000 in
theorem thingOf_any (k n : Int) (s : ByteArray) (w : World) :
    Calls Tryz.prog 142 #[.agg #[.int .i64 k, .int .i64 n, .string s]] w fun e w' => e = .returned (thing k n s) ∧ Below w.heap.size w w' := by
  by_cases h0 : k = 0
  · subst h0
    go_enter Tryz.func142, Tryz.ntmps142
    go_wp2
    go_ret
    exact ⟨rfl, (Below.refl _ _).alloc (Nat.le_refl _) _⟩
  by_cases h1 : k = 1
  · subst h1
    go_enter Tryz.func142, Tryz.ntmps142
    go_wp2
    go_ret
    exact ⟨rfl, (Below.refl _ _).alloc (Nat.le_refl _) _⟩
  by_cases h2 : k = 2
  · subst h2
    go_enter Tryz.func142, Tryz.ntmps142
    go_wp2
    go_ret
    exact ⟨rfl, (Below.refl _ _).alloc (Nat.le_refl _) _⟩
  by_cases h3 : k = 3
  · subst h3
    go_enter Tryz.func142, Tryz.ntmps142
    go_wp2
    go_ret
    exact ⟨rfl, (Below.refl _ _).alloc (Nat.le_refl _) _⟩
  by_cases h4 : k = 4
  · subst h4
    go_enter Tryz.func142, Tryz.ntmps142
    go_wp2
    go_ret
    exact ⟨rfl, (Below.refl _ _).alloc (Nat.le_refl _) _⟩
  by_cases h5 : k = 5
  · subst h5
    go_enter Tryz.func142, Tryz.ntmps142
    go_wp2
    go_ret
    exact ⟨rfl, (Below.refl _ _).alloc (Nat.le_refl _) _⟩
  have e : thing k n s = .iface 263 (.int .i64 k) := by simp [thing, h0, h1, h2, h3, h4, h5]
  rw [e]
  clear e
  have b0 : (k == 0) = false := by simpa using h0
  have b1 : (k == 1) = false := by simpa using h1
  have b2 : (k == 2) = false := by simpa using h2
  have b3 : (k == 3) = false := by simpa using h3
  have b4 : (k == 4) = false := by simpa using h4
  have b5 : (k == 5) = false := by simpa using h5
  clear h0 h1 h2 h3 h4 h5
  go_enter Tryz.func142, Tryz.ntmps142
  go_wp2
  go_ret
  exact ⟨rfl, (Below.refl _ _).alloc (Nat.le_refl _) _⟩

set_option maxRecDepth 100000 in
set_option maxHeartbeats 1000000 in
theorem value_nil  (w : World) : Calls Tryz.prog 189 #[.agg #[]] w fun e w' => e = .returned (.agg #[.int .i64 0, .int .i64 0, .string ⟨#[]⟩]) ∧ Below w.heap.size w w' := by
  go_enter Tryz.func189, Tryz.ntmps189
  go_wp2
  refine bodyPost_ret (v := .agg #[.int .i64 0, .int .i64 0, .string ⟨#[]⟩]) (by simp [results, Tryz.results189, go_sem]) rfl ⟨rfl, ?_⟩
  repeat (first | exact Below.refl _ _ | refine Below.alloc ?_ (by first | exact Nat.le_refl _ | (simp <;> omega)) _ | refine Below.setCell ?_ (by first | exact Nat.le_refl _ | (simp <;> omega)) _)

set_option maxRecDepth 100000 in
set_option maxHeartbeats 1000000 in
theorem value_int (n : Int) (w : World) : Calls Tryz.prog 192 #[.int .i64 n] w fun e w' => e = .returned (.agg #[.int .i64 1, .int .i64 n, .string ⟨#[]⟩]) ∧ Below w.heap.size w w' := by
  go_enter Tryz.func192, Tryz.ntmps192
  go_wp2
  refine bodyPost_ret (v := .agg #[.int .i64 1, .int .i64 n, .string ⟨#[]⟩]) (by simp [results, Tryz.results192, go_sem]) rfl ⟨rfl, ?_⟩
  repeat (first | exact Below.refl _ _ | refine Below.alloc ?_ (by first | exact Nat.le_refl _ | (simp <;> omega)) _ | refine Below.setCell ?_ (by first | exact Nat.le_refl _ | (simp <;> omega)) _)

set_option maxRecDepth 100000 in
set_option maxHeartbeats 1000000 in
theorem value_bool (n : Int) (w : World) : Calls Tryz.prog 195 #[.int .i64 n] w fun e w' => e = .returned (.agg #[.int .i64 2, .int .i64 n, .string ⟨#[]⟩]) ∧ Below w.heap.size w w' := by
  go_enter Tryz.func195, Tryz.ntmps195
  go_wp2
  refine bodyPost_ret (v := .agg #[.int .i64 2, .int .i64 n, .string ⟨#[]⟩]) (by simp [results, Tryz.results195, go_sem]) rfl ⟨rfl, ?_⟩
  repeat (first | exact Below.refl _ _ | refine Below.alloc ?_ (by first | exact Nat.le_refl _ | (simp <;> omega)) _ | refine Below.setCell ?_ (by first | exact Nat.le_refl _ | (simp <;> omega)) _)

set_option maxRecDepth 100000 in
set_option maxHeartbeats 1000000 in
theorem value_text (s : ByteArray) (w : World) : Calls Tryz.prog 198 #[.string s] w fun e w' => e = .returned (.agg #[.int .i64 3, .int .i64 0, .string s]) ∧ Below w.heap.size w w' := by
  go_enter Tryz.func198, Tryz.ntmps198
  go_wp2
  refine bodyPost_ret (v := .agg #[.int .i64 3, .int .i64 0, .string s]) (by simp [results, Tryz.results198, go_sem]) rfl ⟨rfl, ?_⟩
  repeat (first | exact Below.refl _ _ | refine Below.alloc ?_ (by first | exact Nat.le_refl _ | (simp <;> omega)) _ | refine Below.setCell ?_ (by first | exact Nat.le_refl _ | (simp <;> omega)) _)

set_option maxRecDepth 100000 in
set_option maxHeartbeats 1000000 in
theorem value_rec (n : Int) (w : World) : Calls Tryz.prog 201 #[.int .i64 n] w fun e w' => e = .returned (.agg #[.int .i64 4, .int .i64 n, .string ⟨#[]⟩]) ∧ Below w.heap.size w w' := by
  go_enter Tryz.func201, Tryz.ntmps201
  go_wp2
  refine bodyPost_ret (v := .agg #[.int .i64 4, .int .i64 n, .string ⟨#[]⟩]) (by simp [results, Tryz.results201, go_sem]) rfl ⟨rfl, ?_⟩
  repeat (first | exact Below.refl _ _ | refine Below.alloc ?_ (by first | exact Nat.le_refl _ | (simp <;> omega)) _ | refine Below.setCell ?_ (by first | exact Nat.le_refl _ | (simp <;> omega)) _)

set_option maxRecDepth 100000 in
set_option maxHeartbeats 1000000 in
theorem value_fun (n : Int) (w : World) : Calls Tryz.prog 204 #[.int .i64 n] w fun e w' => e = .returned (.agg #[.int .i64 5, .int .i64 n, .string ⟨#[]⟩]) ∧ Below w.heap.size w w' := by
  go_enter Tryz.func204, Tryz.ntmps204
  go_wp2
  refine bodyPost_ret (v := .agg #[.int .i64 5, .int .i64 n, .string ⟨#[]⟩]) (by simp [results, Tryz.results204, go_sem]) rfl ⟨rfl, ?_⟩
  repeat (first | exact Below.refl _ _ | refine Below.alloc ?_ (by first | exact Nat.le_refl _ | (simp <;> omega)) _ | refine Below.setCell ?_ (by first | exact Nat.le_refl _ | (simp <;> omega)) _)

set_option maxRecDepth 100000 in
set_option maxHeartbeats 1000000 in
theorem value_no (k : Int) (w : World) : Calls Tryz.prog 207 #[.int .i64 k] w fun e w' => e = .returned (.agg #[.int .i64 k, .int .i64 0, .string ⟨#[]⟩]) ∧ Below w.heap.size w w' := by
  go_enter Tryz.func207, Tryz.ntmps207
  go_wp2
  refine bodyPost_ret (v := .agg #[.int .i64 k, .int .i64 0, .string ⟨#[]⟩]) (by simp [results, Tryz.results207, go_sem]) rfl ⟨rfl, ?_⟩
  repeat (first | exact Below.refl _ _ | refine Below.alloc ?_ (by first | exact Nat.le_refl _ | (simp <;> omega)) _ | refine Below.setCell ?_ (by first | exact Nat.le_refl _ | (simp <;> omega)) _)

set_option maxRecDepth 100000 in
set_option maxHeartbeats 1000000 in
theorem okIn_nil  (a1 a2 : Option Addr) (nt c1 nf c2 : Nat) (r : Int) (w : World) : Calls Tryz.prog 187 #[.agg #[], .agg #[.slice a1 nt c1, .slice a2 nf c2], .int .i64 r] w fun e w' => e = .returned (.bool (true)) ∧ Below w.heap.size w w' := by
  go_enter Tryz.func187, Tryz.ntmps187
  go_wp2
  go_ret
  exact ⟨rfl, ((Below.refl _ _).alloc (Nat.le_refl _) _).alloc (by simp) _⟩

set_option maxRecDepth 100000 in
set_option maxHeartbeats 1000000 in
theorem okIn_int (n : Int) (a1 a2 : Option Addr) (nt c1 nf c2 : Nat) (r : Int) (w : World) : Calls Tryz.prog 190 #[.int .i64 n, .agg #[.slice a1 nt c1, .slice a2 nf c2], .int .i64 r] w fun e w' => e = .returned (.bool (num n)) ∧ Below w.heap.size w w' := by
  have hB : Below w.heap.size w (w.alloc (.cells #[.slice a1 nt c1, .slice a2 nf c2] 35)) := (Below.refl _ _).alloc (Nat.le_refl _) _
  by_cases h1 : -1000000000 ≤ n
  · by_cases h2 : n ≤ 1000000000
    all_goals
      go_enter Tryz.func190, Tryz.ntmps190
      go_wp2
      go_ret
      exact ⟨ret_bool (by rw [Bool.eq_iff_iff]; simp [num]; omega), hB⟩
  · go_enter Tryz.func190, Tryz.ntmps190
    go_wp2
    go_ret
    exact ⟨ret_bool (by rw [Bool.eq_iff_iff]; simp [num]; omega), hB⟩

set_option maxRecDepth 100000 in
set_option maxHeartbeats 1000000 in
theorem okIn_bool (n : Int) (a1 a2 : Option Addr) (nt c1 nf c2 : Nat) (r : Int) (w : World) : Calls Tryz.prog 193 #[.int .i64 n, .agg #[.slice a1 nt c1, .slice a2 nf c2], .int .i64 r] w fun e w' => e = .returned (.bool (decide (n = 0) || decide (n = 1))) ∧ Below w.heap.size w w' := by
  have hB : Below w.heap.size w (w.alloc (.cells #[.slice a1 nt c1, .slice a2 nf c2] 35)) := (Below.refl _ _).alloc (Nat.le_refl _) _
  by_cases h1 : n = 0
  · subst h1
    go_enter Tryz.func193, Tryz.ntmps193
    go_wp2
    go_ret
    exact ⟨rfl, hB⟩
  · have b1 : (n == 0) = false := by simpa using h1
    by_cases h2 : n = 1
    · subst h2
      go_enter Tryz.func193, Tryz.ntmps193
      go_wp2
      go_ret
      exact ⟨rfl, hB⟩
    · have b2 : (n == 1) = false := by simpa using h2
      rw [show (decide (n = 0) || decide (n = 1)) = false by simp [h1, h2]]
      clear h1 h2
      go_enter Tryz.func193, Tryz.ntmps193
      go_wp2
      go_ret
      exact ⟨rfl, hB⟩

set_option maxRecDepth 100000 in
set_option maxHeartbeats 1000000 in
theorem okIn_text (s : ByteArray) (hs : s.size ≤ 1048576) (a1 a2 : Option Addr) (nt c1 nf c2 : Nat) (r : Int) (w : World) : Calls Tryz.prog 196 #[.string s, .agg #[.slice a1 nt c1, .slice a2 nf c2], .int .i64 r] w fun e w' => e = .returned (.bool (textB s)) ∧ Below w.heap.size w w' := by
  have hB : Below w.heap.size w (w.alloc (.cells #[.slice a1 nt c1, .slice a2 nf c2] 35)) := (Below.refl _ _).alloc (Nat.le_refl _) _
  go_enter Tryz.func196, Tryz.ntmps196
  go_wp2_with fail
  refine (textOk_any _ _ hs).mono ?_
  rintro e w1 ⟨rfl, rfl⟩
  go_wp2
  go_ret
  exact ⟨rfl, hB⟩

set_option maxRecDepth 100000 in
set_option maxHeartbeats 1000000 in
theorem okIn_rec (n : Int) (a1 a2 : Option Addr) (nt c1 nf c2 : Nat) (r : Int) (w : World) : Calls Tryz.prog 199 #[.int .i64 n, .agg #[.slice a1 nt c1, .slice a2 nf c2], .int .i64 r] w fun e w' => e = .returned (.bool (decide (0 ≤ n) && decide (n < r))) ∧ Below w.heap.size w w' := by
  have hB : Below w.heap.size w (w.alloc (.cells #[.slice a1 nt c1, .slice a2 nf c2] 35)) := (Below.refl _ _).alloc (Nat.le_refl _) _
  by_cases h1 : 0 ≤ n
  · by_cases h2 : n < r
    all_goals
      go_enter Tryz.func199, Tryz.ntmps199
      go_wp2
      go_ret
      exact ⟨ret_bool (by rw [Bool.eq_iff_iff]; simp; omega), hB⟩
  · go_enter Tryz.func199, Tryz.ntmps199
    go_wp2
    go_ret
    exact ⟨ret_bool (by rw [Bool.eq_iff_iff]; simp; omega), hB⟩

set_option maxRecDepth 100000 in
set_option maxHeartbeats 1000000 in
theorem okIn_fun (n : Int) (a1 a2 : Option Addr) (nt c1 nf c2 : Nat) (r : Int) (w : World) : Calls Tryz.prog 202 #[.int .i64 n, .agg #[.slice a1 nt c1, .slice a2 nf c2], .int .i64 r] w fun e w' => e = .returned (.bool (decide (0 ≤ n) && decide (n < (nf : Int)))) ∧ Below w.heap.size w w' := by
  have hB : Below w.heap.size w (w.alloc (.cells #[.slice a1 nt c1, .slice a2 nf c2] 35)) := (Below.refl _ _).alloc (Nat.le_refl _) _
  by_cases h1 : 0 ≤ n
  · by_cases h2 : n < (nf : Int)
    all_goals
      go_enter Tryz.func202, Tryz.ntmps202
      go_wp2
      go_ret
      exact ⟨ret_bool (by rw [Bool.eq_iff_iff]; simp; omega), hB⟩
  · go_enter Tryz.func202, Tryz.ntmps202
    go_wp2
    go_ret
    exact ⟨ret_bool (by rw [Bool.eq_iff_iff]; simp; omega), hB⟩

set_option maxRecDepth 100000 in
set_option maxHeartbeats 1000000 in
theorem okIn_no (k : Int) (a1 a2 : Option Addr) (nt c1 nf c2 : Nat) (r : Int) (w : World) : Calls Tryz.prog 205 #[.int .i64 k, .agg #[.slice a1 nt c1, .slice a2 nf c2], .int .i64 r] w fun e w' => e = .returned (.bool (false)) ∧ Below w.heap.size w w' := by
  have hB : Below w.heap.size w (w.alloc (.cells #[.slice a1 nt c1, .slice a2 nf c2] 35)) := (Below.refl _ _).alloc (Nat.le_refl _) _
  go_enter Tryz.func205, Tryz.ntmps205
  go_wp2
  go_ret
  exact ⟨rfl, hB⟩

end Go.Proofs.YtcbknjjnphknbaaGreatDoor
namespace Go.Proofs.YtcbknjjnphknbaaGreatDoor
open Go.RowKit

theorem block_new_at (w : World) (C : Array Value) (t : TypeId) (g : Nat) (h : w.heap.size = g) : (w.alloc (.cells C t)).heap[g]? = some (.cells C t (0, 0)) := by
  subst h
  exact block_new w C t
theorem not_empty {s : ByteArray} (h : s ≠ ⟨#[]⟩) : (([] : List UInt8) == s.toList) = false ∧ (s.toList == ([] : List UInt8)) = false := by
  have h' : s.toList ≠ [] := by
    intro e
    apply h
    apply ByteArray.ext
    have : s.data.toList = [] := by simpa [ByteArray.toList_eq] using e
    simpa using this
  constructor
  · rw [beq_eq_false_iff_ne]; exact Ne.symm h'
  · rw [beq_eq_false_iff_ne]; exact h'

end Go.Proofs.YtcbknjjnphknbaaGreatDoor
