/-
  What impl.ModuleOk returns, for every module within the stated sizes.
-/
import Derived.Test.YtkclkgonihkhlaaDoorW6
namespace Go.Proofs.YtkclkgonihkhlaaDoor
open Go.RowKit

set_option maxHeartbeats 1000000 in
theorem iModuleOk_any (a1 a2 : Option Addr) (ts : List ByteArray) (fs : List Fn) (c1 c2 : Nat) (w : World) (hs : Small ts fs) (hm : StrsAt w 0 a1 ts) (hf : FnsAt w 0 a2 fs) :
    Calls Tryd.prog 29 #[.agg #[.slice a1 ts.length c1, .slice a2 fs.length c2]] w fun e w' => e = .returned (.bool (modB ts fs)) ∧ Below w.heap.size w w' := by
  have s1 := hs.texts
  have s2 := hs.funcs
  by_cases hh : 1 ≤ fs.length ∧ fs.length ≤ 12 ∧ ts.length ≤ 20
  · have HF : Hid (modB ts fs = (ts.all textB && fs.all fun f => fnB ts.length fs.length f)) := modB_all hh
    obtain ⟨g1, g2, g3⟩ := hh
    have hbA : Below w.heap.size w (w.alloc (.cells #[.slice a1 ts.length c1, .slice a2 fs.length c2] 36)) := (Below.refl _ _).alloc (Nat.le_refl _) _
    have hM0 := block_new w #[.slice a1 ts.length c1, .slice a2 fs.length c2] 36
    go_enter Tryd.func29, Tryd.ntmps29
    go_wp2
    go_loop [25] (fun i => ∃ (k : Nat), k ≤ ts.length ∧ i = .int .i64 k ∧ (ts.take k).all textB = true) (fun i => ts.length - (intOf i).toNat)
    case atStart => exact ⟨0, by omega, rfl, by simp⟩
    case round =>
      obtain ⟨k, hk, rfl, hall⟩ := hrel
      by_cases hlt : k < ts.length
      · obtain ⟨b, off, rfl, -, e1⟩ := hm k hlt
        have e1' := cell_later hbA e1
        have hts := hs.text ts[k] (List.getElem_mem hlt)
        clear e1 hM0
        by_cases hi : textB ts[k] = true
        · go_wp2_with (go_at_call 48; refine (textOk_any _ _ hts).mono ?_; rintro e w' ⟨rfl, rfl⟩)
          go_round
          case rel => exact ⟨k + 1, by omega, by go_num, all_take hlt hall hi⟩
          case measure => simp [intOf]; omega
        · have hi' : textB ts[k] = false := by simpa using hi
          have HN : Hid (modB ts fs = false) := by rw [HF.out, all_no hlt hi']; rfl
          clear hi
          go_wp2_with (go_at_call 48; refine (textOk_any _ _ hts).mono ?_; rintro e w' ⟨rfl, rfl⟩)
          go_ret
          exact ⟨ret_bool HN.out.symm, hbA⟩
      · have hall2 : ts.all textB = true := all_end (by omega) hall
        have HF2 : Hid (modB ts fs = fs.all fun f => fnB ts.length fs.length f) := by rw [HF.out, hall2]; rfl
        clear hall hall2
        go_wp2
        go_loopw [36] (fun i wr => ∃ (k : Nat), k ≤ fs.length ∧ i = .int .i64 k ∧ (fs.take k).all (fun f => fnB ts.length fs.length f) = true ∧ wr.heap[w.heap.size]? = some (.cells #[.slice a1 ts.length c1, .slice a2 fs.length c2] 36 (0, 0)) ∧ Below w.heap.size w wr) (fun i _ => fs.length - (intOf i).toNat)
        case atStart => exact ⟨0, by omega, rfl, by simp, hM0, hbA⟩
        case round =>
          obtain ⟨q, hq, rfl, hallf, hM, hb⟩ := hrel
          clear hM0
          by_cases hlq : q < fs.length
          · have x1 := block_cell hM
            have hcq := hs.code fs[q] (List.getElem_mem hlq)
            go_wp2_with fail
            refine (funcOk_any a1 a2 ts.length c1 c2 fs q _ hlq (hf.mono hb) hcq).mono ?_
            rintro e w2 ⟨rfl, hb2⟩
            have hM2 := block_kept hM hb2
            have hb3 : Below w.heap.size w w2 := hb.trans (hb2.mono hb.size)
            clear x1 hb2
            by_cases hi : fnB ts.length fs.length fs[q] = true
            · go_wp2
              go_roundw
              case rel => exact ⟨q + 1, by omega, by go_num, all_take (p := fun f => fnB ts.length fs.length f) hlq hallf hi, hM2, hb3⟩
              case measure => simp [intOf]; omega
            · have hi' : fnB ts.length fs.length fs[q] = false := by simpa using hi
              have HN : Hid (modB ts fs = false) := by rw [HF2.out]; exact all_no (p := fun f => fnB ts.length fs.length f) hlq hi'
              clear hi
              go_wp2
              go_ret
              exact ⟨ret_bool HN.out.symm, hb3⟩
          · go_wp2
            go_ret
            exact ⟨ret_bool (by rw [HF2.out]; exact (all_end (by omega) hallf).symm), hb⟩
  · have HF : Hid (modB ts fs = false) := modB_no hh
    rcases (show 20 < (ts.length : Int) ∨ ((ts.length : Int) ≤ 20 ∧ (fs.length : Int) < 1) ∨ ((ts.length : Int) ≤ 20 ∧ 1 ≤ (fs.length : Int) ∧ 12 < (fs.length : Int)) by omega) with h | ⟨h, h2⟩ | ⟨h, h2, h3⟩
    all_goals
      clear hh
      go_enter Tryd.func29, Tryd.ntmps29
      go_wp2
      go_ret
      exact ⟨ret_bool HF.out.symm, (Below.refl _ _).alloc (Nat.le_refl _) _⟩
end Go.Proofs.YtkclkgonihkhlaaDoor
