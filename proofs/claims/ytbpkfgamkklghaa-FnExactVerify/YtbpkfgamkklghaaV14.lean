/-
  What impl.Verify returns, for every module within the stated sizes.
-/
import Derived.Test.YtbpkfgamkklghaaV13
namespace Go.Proofs.Ytbpkfgamkklghaa
open Go.RowKit

/-- What Verify is to answer. -/
def VPost (ts : List ByteArray) (fs : List Fn) (c f a : Int) : Prop := (modB ts fs = false ∧ c = 1 ∧ f = 0 ∧ a = 0) ∨ (modB ts fs = true ∧ Told fs c f a)
theorem VPost.one {ts : List ByteArray} {fs : List Fn} {c f a c' f' a' : Int} (h : VPost ts fs c f a) (h' : VPost ts fs c' f' a') : c = c' ∧ f = f' ∧ a = a' := by
  rcases h with ⟨h, rfl, rfl, rfl⟩ | ⟨h, ht⟩
  · rcases h' with ⟨-, rfl, rfl, rfl⟩ | ⟨h', -⟩
    · exact ⟨rfl, rfl, rfl⟩
    · rw [h] at h'; cases h'
  · rcases h' with ⟨h', -⟩ | ⟨-, ht'⟩
    · rw [h] at h'; cases h'
    · exact ht.one ht'

theorem clear_of {fs : List Fn} {code : List (Int × Int)} {d : List Int} {k : Nat} (hD : Done fs code d) (h : ∀ j, j < k → troubleB fs code d j = 0) : Clear fs code k := fun e he j hj => by
  obtain rfl := hD.one he
  exact h j hj

theorem three_set {W : World} {R : Nat} {x y z : Int} (h : W.heap[R]? = some (.cells #[.int .i64 0, .int .i64 0, .int .i64 0] 30 (0, 0))) : (((W.setCell ⟨R, 0, none⟩ (.int .i64 x)).setCell ⟨R, 1, none⟩ (.int .i64 y)).setCell ⟨R, 2, none⟩ (.int .i64 z)).heap[R]? = some (.cells #[.int .i64 x, .int .i64 y, .int .i64 z] 30 (0, 0)) := by
  have := block_set (i := 2) (block_set (i := 1) (block_set (i := 0) h (.int .i64 x)) (.int .i64 y)) (.int .i64 z)
  simpa using this

set_option maxRecDepth 100000 in
set_option maxHeartbeats 2000000 in
theorem iVerify_any (a1 a2 : Option Addr) (c1 c2 : Nat) (ts : List ByteArray) (fs : List Fn) (w : World) (hs : Small ts fs) (hm : StrsAt w 0 a1 ts) (hm2 : FnsAt w 0 a2 fs) :
    Calls Try.prog 10 #[.agg #[.slice a1 ts.length c1, .slice a2 fs.length c2]] w fun e w' => ∃ c f a, e = .returned (.agg #[.int .i64 c, .int .i64 f, .int .i64 a]) ∧ VPost ts fs c f a ∧ Below w.heap.size w w' := by
  have hn := hs.funcs
  have hbA : Below w.heap.size w ((w.alloc (.cells #[.slice a1 ts.length c1, .slice a2 fs.length c2] 27)).alloc (.cells #[.int .i64 0, .int .i64 0, .int .i64 0] 30)) := ((Below.refl _ _).alloc (Nat.le_refl _) _).alloc (by simp) _
  have hM0 := block_old (block_new w #[.slice a1 ts.length c1, .slice a2 fs.length c2] 27) (.cells #[.int .i64 0, .int .i64 0, .int .i64 0] 30)
  have hR0 := block_new (w.alloc (.cells #[.slice a1 ts.length c1, .slice a2 fs.length c2] 27)) #[.int .i64 0, .int .i64 0, .int .i64 0] 30
  rw [World.size_alloc] at hR0
  go_enter Try.func10, Try.ntmps10
  go_wp2_with fail
  refine (iModuleOk_any _ _ ts fs _ _ _ hs (hm.mono hbA) (hm2.mono hbA)).mono ?_
  rintro e w1 ⟨rfl, hb⟩
  have hM1 := block_kept hM0 hb
  have hR1 := block_kept hR0 hb
  have hb1 : Below w.heap.size w w1 := hbA.trans (hb.mono (by simp; omega))
  have y1 := block_cell hM1
  have r1 := block_cell hR1
  have r2 := block_free hR1
  clear hbA hM0 hR0 hb
  by_cases hok : modB ts fs = true
  · have HO : Hid (modB ts fs = true) := hok
    have FF : ∀ k (hk : k < fs.length), Fine fs fs[k].code := fun k hk => fine_of hok hk
    go_wp2
    clear hok r1 r2 y1
    go_loopw [15] (fun i wr => ∃ (k : Nat), k ≤ fs.length ∧ i = .int .i64 k ∧ Hid (∀ q (hq : q < fs.length), q < k → Clear fs fs[q].code fs[q].code.length) ∧ wr.heap[w.heap.size]? = some (.cells #[.slice a1 ts.length c1, .slice a2 fs.length c2] 27 (0, 0)) ∧ wr.heap[w.heap.size + 1]? = some (.cells #[.int .i64 0, .int .i64 0, .int .i64 0] 30 (0, 0)) ∧ Below w.heap.size w wr) (fun i _ => fs.length - (intOf i).toNat)
    case atStart => exact ⟨0, by omega, rfl, fun _ _ h => absurd h (Nat.not_lt_zero _), hM1, hR1, hb1⟩
    case round =>
      obtain ⟨k, hk, rfl, hcl, hM, hR, hb⟩ := hrel
      obtain ⟨wo, rfl⟩ : ∃ wo, wo = wr := ⟨_, rfl⟩
      clear hM1 hR1 hb1
      by_cases hlt : k < fs.length
      · have F := FF k hlt
        have hmost := F.most
        obtain ⟨b, off, ca, cc, rfl, -, d1, d2, d3, d4⟩ := hm2 k hlt
        have d1' := cell_later hb d1
        have d2' := cell_later hb d2
        have d3' := cell_later hb d3
        clear d1 d2 d3
        obtain ⟨wx, hwx⟩ : ∃ wx, wx = wo.alloc (.cells #[.int .i64 fs[k].params, .int .i64 fs[k].locals, .slice ca fs[k].code.length cc] 36) := ⟨_, rfl⟩
        have hkx : Below wo.heap.size wo wx := by rw [hwx]; exact (Below.refl _ _).alloc (Nat.le_refl _) _
        have hXx : wx.heap[wo.heap.size]? = some (.cells #[.int .i64 fs[k].params, .int .i64 fs[k].locals, .slice ca fs[k].code.length cc] 36 (0, 0)) := by rw [hwx]; exact block_new _ _ _
        have hMx := block_kept hM hkx
        have hRx := block_kept hR hkx
        have hbx : Below w.heap.size w wx := hb.trans (hkx.mono hb.size)
        have HWX : Hid (wx = wo.alloc (.cells #[.int .i64 fs[k].params, .int .i64 fs[k].locals, .slice ca fs[k].code.length cc] 36)) := hwx
        have y0 := block_cell (block_old hM (.cells #[.int .i64 fs[k].params, .int .i64 fs[k].locals, .slice ca fs[k].code.length cc] 36))
        have z0 := block_cell (block_new wo #[.int .i64 fs[k].params, .int .i64 fs[k].locals, .slice ca fs[k].code.length cc] 36)
        clear hwx hkx
        go_wp2_with fail
        rw [← HWX.out]
        refine (iHeights_any _ _ _ _ _ _ _ fs fs[k].code _ (hm2.mono hbx) (d4.mono hbx) F).mono ?_
        rintro e w2 ⟨g, d, rfl, hg, hD, hH, k2⟩
        have P := hD.hts F
        have hM2 := block_kept hMx k2
        have hR2 := block_kept hRx k2
        have hX2 := block_kept hXx k2
        have hb2 : Below w.heap.size w w2 := hbx.trans (k2.mono hbx.size)
        have v2 := block_cell hX2
        clear hMx hRx hXx hbx k2 d1' d2' d3' hM hR hb y0 z0
        go_wp2
        clear v2
        go_loopw [27] (fun i ws => ∃ (j : Nat), j ≤ fs[k].code.length ∧ i = .int .i64 j ∧ Hid (∀ q, q < j → troubleB fs fs[k].code d q = 0) ∧ Ht ws g fs[k].code.length d ∧ ws.heap[w.heap.size]? = some (.cells #[.slice a1 ts.length c1, .slice (some ⟨b, off, none⟩) fs.length c2] 27 (0, 0)) ∧ ws.heap[w.heap.size + 1]? = some (.cells #[.int .i64 0, .int .i64 0, .int .i64 0] 30 (0, 0)) ∧ ws.heap[wo.heap.size]? = some (.cells #[.int .i64 fs[k].params, .int .i64 fs[k].locals, .slice ca fs[k].code.length cc] 36 (0, 0)) ∧ Below w.heap.size w ws) (fun i _ => fs[k].code.length - (intOf i).toNat)
        case atStart => exact ⟨0, by omega, rfl, fun _ h => absurd h (Nat.not_lt_zero _), hH, hM2, hR2, hX2, hb2⟩
        case round =>
          obtain ⟨j, hj, rfl, hno, hH3, hM3, hR3, hX3, hb3⟩ := hrel
          obtain ⟨ws, rfl⟩ : ∃ ws, ws = wr := ⟨_, rfl⟩
          clear hH hM2 hR2 hX2 hb2
          by_cases hlj : j < fs[k].code.length
          · have y3 := block_cell hM3
            have v3 := block_cell hX3
            go_wp2_with fail
            refine (trouble_any _ _ _ _ _ _ _ fs fs[k].code d g _ j _ (hm2.mono hb3) (d4.mono hb3) F P hH3 hlj).mono ?_
            rintro e w4 ⟨rfl, k4⟩
            have hM4 := block_kept hM3 k4
            have hR4 := block_kept hR3 k4
            have hX4 := block_kept hX3 k4
            have hH4 := hH3.mono k4
            have hb4 : Below w.heap.size w w4 := hb3.trans (k4.mono hb3.size)
            clear hM3 hR3 hX3 hH3 hb3 k4 y3 v3
            by_cases hz : troubleB fs fs[k].code d j = 0
            · have HZ : Hid (troubleB fs fs[k].code d j = 0) := hz
              go_wp2
              go_roundw
              case rel => exact ⟨j + 1, by omega, by go_num, fun q hq => (by
                by_cases e : q = j
                · subst e; exact HZ.out
                · exact hno.out q (by omega)), hH4, hM4, hR4, hX4, hb4⟩
              case measure => simp [intOf]; omega
            · have HZ : Hid (¬ troubleB fs fs[k].code d j = 0) := hz
              have bz : (troubleB fs fs[k].code d j != 0) = true := by simpa using hz
              have r4 := block_cell hR4
              have q4 := block_free hR4
              clear hz
              go_wp2
              have rr := block_cell (three_set (x := (troubleB fs fs[k].code d j)) (y := (k : Int)) (z := (j : Int)) hR4)
              refine bodyPost_ret (v := .agg #[.int .i64 (troubleB fs fs[k].code d j), .int .i64 (k : Int), .int .i64 (j : Int)]) (by simp [results, Try.results10, go_sem, rr]) rfl ⟨(troubleB fs fs[k].code d j), (k : Int), (j : Int), rfl, .inr ⟨HO.out, .inr ⟨k, hlt, j, d, rfl, rfl, hlj, hD, rfl, HZ.out, clear_of hD hno.out, hcl.out⟩⟩, ?_⟩
              exact ((hb4.setCell (by simp) _).setCell (by simp) _).setCell (by simp) _
          · have hjn : j = fs[k].code.length := by omega
            subst hjn
            go_wp2
            go_roundw
            case rel => exact ⟨k + 1, by omega, by go_num, fun q hq hqk => (by
                by_cases e : q = k
                · subst e; exact clear_of hD hno.out
                · exact hcl.out q hq (by omega)), hM3, hR3, hb3⟩
            case measure => simp [intOf]; omega
      · have r4 := block_cell hR
        have q4 := block_free hR
        go_wp2
        have rr := block_cell (three_set (x := 0) (y := 0) (z := 0) hR)
        refine bodyPost_ret (v := .agg #[.int .i64 0, .int .i64 0, .int .i64 0]) (by simp [results, Try.results10, go_sem, rr]) rfl ⟨0, 0, 0, rfl, .inr ⟨HO.out, .inl ⟨rfl, rfl, rfl, fun q hq => hcl.out q hq (by omega)⟩⟩, ?_⟩
        exact ((hb.setCell (by simp) _).setCell (by simp) _).setCell (by simp) _
  · have hok' : modB ts fs = false := by simpa using hok
    have HO : Hid (modB ts fs = false) := hok'
    clear hok
    go_wp2
    have rr := block_cell (three_set (x := 1) (y := 0) (z := 0) hR1)
    refine bodyPost_ret (v := .agg #[.int .i64 1, .int .i64 0, .int .i64 0]) (by simp [results, Try.results10, go_sem, rr]) rfl ⟨1, 0, 0, rfl, .inl ⟨HO.out, rfl, rfl, rfl⟩, ?_⟩
    exact ((hb1.setCell (by simp) _).setCell (by simp) _).setCell (by simp) _
end Go.Proofs.Ytbpkfgamkklghaa
