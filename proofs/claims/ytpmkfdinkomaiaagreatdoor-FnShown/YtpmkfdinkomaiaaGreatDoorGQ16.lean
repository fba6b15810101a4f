/-
  What impl.ModuleOk returns, for every module within the stated sizes.
  DERIVED: THE SHELF's CONTRACTS AT THIS DUMP, IN PLAIN WORDS (tools/lay-plain.mjs out of 'TrydShelfB.lean', which tools/lay-shelf.mjs wrote): THE SAME DECLARATIONS UNDER THE SAME NAMES: 'import', 'namespace', 'open', 'def', 'theorem' AND NOTHING ELSE: no command of the shelf's: FOR A HAND-IN. Each laying: the table of numbers ('.._ren') and one theorem, a field a fact of the dump's own or the kernel's comparison; each contract: ONE APPLICATION.
-/
import Derived.Test.YtpmkfdinkomaiaaGreatDoorGQ15
import Derived.Shelf.Strings.BuilderK
import Derived.Test.YtpmkfdinkomaiaaGreatDoorProg
namespace Go.Proofs.YtpmkfdinkomaiaaGreatDoor
open Go.RowKit

set_option maxHeartbeats 1000000 in
theorem iModuleOk_any (a1 a2 : Option Addr) (ts : List ByteArray) (fs : List Fn) (c1 c2 : Nat) (w : World) (hs : Small ts fs) (hm : StrsAt w 0 a1 ts) (hf : FnsAt w 0 a2 fs) :
    Calls Tryz.prog 15 #[.agg #[.slice a1 ts.length c1, .slice a2 fs.length c2]] w fun e w' => e = .returned (.bool (modB ts fs)) ∧ Below w.heap.size w w' := by
  have s1 := hs.texts
  have s2 := hs.funcs
  by_cases hh : 1 ≤ fs.length ∧ fs.length ≤ 12 ∧ ts.length ≤ 20
  · have HF : Hid (modB ts fs = (ts.all textB && fs.all fun f => fnB ts.length fs.length f)) := modB_all hh
    obtain ⟨g1, g2, g3⟩ := hh
    have hbA : Below w.heap.size w (w.alloc (.cells #[.slice a1 ts.length c1, .slice a2 fs.length c2] 27)) := (Below.refl _ _).alloc (Nat.le_refl _) _
    have hM0 := block_new w #[.slice a1 ts.length c1, .slice a2 fs.length c2] 27
    go_enter Tryz.func15, Tryz.ntmps15
    go_wp2
    go_loop [25] (fun i => ∃ (k : Nat), k ≤ ts.length ∧ i = .int .i64 k ∧ (ts.take k).all textB = true) (fun i => ts.length - (intOf i).toNat)
    case atStart => exact ⟨0, by omega, rfl, by simp⟩
    case round =>
      obtain ⟨k, hk, rfl, hall⟩ := hrel
      by_cases hlt : k < ts.length
      · obtain ⟨b, off, rfl, -, e1⟩ := hm k hlt
        have e1' := cell_later hbA e1
        have hts := hs.text ts[k] (List.getElem_mem hlt)
        clear e1 hM0
        by_cases hi : textB ts[k] = true
        · go_wp2_with (go_at_call 36; refine (textOk_any _ _ hts).mono ?_; rintro e w' ⟨rfl, rfl⟩)
          go_round
          case rel => exact ⟨k + 1, by omega, by go_num, all_take hlt hall hi⟩
          case measure => simp [intOf]; omega
        · have hi' : textB ts[k] = false := by simpa using hi
          have HN : Hid (modB ts fs = false) := by rw [HF.out, all_no hlt hi']; rfl
          clear hi
          go_wp2_with (go_at_call 36; refine (textOk_any _ _ hts).mono ?_; rintro e w' ⟨rfl, rfl⟩)
          go_ret
          exact ⟨ret_bool HN.out.symm, hbA⟩
      · have hall2 : ts.all textB = true := all_end (by omega) hall
        have HF2 : Hid (modB ts fs = fs.all fun f => fnB ts.length fs.length f) := by rw [HF.out, hall2]; rfl
        clear hall hall2
        go_wp2
        go_loopw [36] (fun i wr => ∃ (k : Nat), k ≤ fs.length ∧ i = .int .i64 k ∧ (fs.take k).all (fun f => fnB ts.length fs.length f) = true ∧ wr.heap[w.heap.size]? = some (.cells #[.slice a1 ts.length c1, .slice a2 fs.length c2] 27 (0, 0)) ∧ Below w.heap.size w wr) (fun i _ => fs.length - (intOf i).toNat)
        case atStart => exact ⟨0, by omega, rfl, by simp, hM0, hbA⟩
        case round =>
          obtain ⟨q, hq, rfl, hallf, hM, hb⟩ := hrel
          clear hM0
          by_cases hlq : q < fs.length
          · have x1 := block_cell hM
            have hcq := hs.code fs[q] (List.getElem_mem hlq)
            go_wp2_with fail
            refine (funcOk_any a1 a2 ts.length c1 c2 fs q _ hlq (hf.mono hb) hcq).mono ?_
            rintro e w2 ⟨rfl, hb2⟩
            have hM2 := block_kept hM hb2
            have hb3 : Below w.heap.size w w2 := hb.trans (hb2.mono hb.size)
            clear x1 hb2
            by_cases hi : fnB ts.length fs.length fs[q] = true
            · go_wp2
              go_roundw
              case rel => exact ⟨q + 1, by omega, by go_num, all_take (p := fun f => fnB ts.length fs.length f) hlq hallf hi, hM2, hb3⟩
              case measure => simp [intOf]; omega
            · have hi' : fnB ts.length fs.length fs[q] = false := by simpa using hi
              have HN : Hid (modB ts fs = false) := by rw [HF2.out]; exact all_no (p := fun f => fnB ts.length fs.length f) hlq hi'
              clear hi
              go_wp2
              go_ret
              exact ⟨ret_bool HN.out.symm, hb3⟩
          · go_wp2
            go_ret
            exact ⟨ret_bool (by rw [HF2.out]; exact (all_end (by omega) hallf).symm), hb⟩
  · have HF : Hid (modB ts fs = false) := modB_no hh
    rcases (show 20 < (ts.length : Int) ∨ ((ts.length : Int) ≤ 20 ∧ (fs.length : Int) < 1) ∨ ((ts.length : Int) ≤ 20 ∧ 1 ≤ (fs.length : Int) ∧ 12 < (fs.length : Int)) by omega) with h | ⟨h, h2⟩ | ⟨h, h2, h3⟩
    all_goals
      clear hh
      go_enter Tryz.func15, Tryz.ntmps15
      go_wp2
      go_ret
      exact ⟨ret_bool HF.out.symm, (Below.refl _ _).alloc (Nat.le_refl _) _⟩
end Go.Proofs.YtpmkfdinkomaiaaGreatDoor

namespace Go.Proofs
open Go.Shelf
def Tryz.lays169_ren : Go.Shelf.Ren := ⟨fun | 169 => 19 | n => n, fun | 70 => 39 | 9 => 9 | 0 => 0 | 72 => 41 | 37 => 22 | 127 => 76 | 3 => 3 | 5 => 5 | n => n, fun | n => n⟩
theorem Tryz.lays169 : Go.Proofs.Lays.n169 Tryz.prog Tryz.lays169_ren := {
  mixed := by kernel_rfl
  f169 := Tryz.func19.trans (congrArg some (by kernel_rfl))
  t0 := Tryz.underlying0
  a0 := Tryz.isAgg0
  z0 := Tryz.sizeOf0
  v0 := Tryz.zeroValue0
  t3 := Tryz.underlying3
  a3 := Tryz.isAgg3
  z3 := Tryz.sizeOf3
  v3 := Tryz.zeroValue3
  t9 := Tryz.underlying9
  a9 := Tryz.isAgg9
  z9 := Tryz.sizeOf9
  v9 := Tryz.zeroValue9
  t37 := Tryz.underlying22
  a37 := Tryz.isAgg22
  z37 := Tryz.sizeOf22
  v37 := Tryz.zeroValue22
  t70 := Tryz.underlying39
  a70 := Tryz.isAgg39
  z70 := Tryz.sizeOf39
  v70 := Tryz.zeroValue39
  t72 := Tryz.underlying41
  a72 := Tryz.isAgg41
  z72 := Tryz.sizeOf41
  v72 := Tryz.zeroValue41
  t127 := Tryz.underlying76
  a127 := Tryz.isAgg76
  z127 := Tryz.sizeOf76
  v127 := Tryz.zeroValue76 }
theorem Tryz.Builder_Extra_169 : Builder.Extra Tryz.prog Tryz.lays169_ren := {
  sizeBuilder := by kernel_rfl
  liesBuilder := by kernel_rfl
  t5 := Tryz.underlying5
  a5 := Tryz.isAgg5
  z5 := Tryz.sizeOf5
  v5 := Tryz.zeroValue5
  infoByte := by kernel_rfl
  cellsByte := by kernel_rfl
  sizeByte := by kernel_rfl
  neB5 := by decide }
open Go.RowKit in
/-- (*strings.Builder).String: "String returns the accumulated string.": WHATEVER THE BUILDER HOLDS; THE FORM '_k': OVER 'Lib.IsBuilderF' (a builder that 'String()' may have read), AND WITH THE FRAME THAT REACHES ABOVE THE BUILDER: 'Lib.OthersKept': every block that is not b and is no row of uint8's stands as it stood: the iterator of a range among them. (LAID: no walk: one application.) -/
theorem Tryz.Builder_String_any_k (B b : Nat) (l : List UInt8) (w : World) (h : Lib.IsBuilderF 41 5 B b (Lib.byteCells l) w) (hBw : B ≤ w.heap.size) :
    Calls Tryz.prog 19 #[.pointer (some ⟨b, 0, none⟩)] w fun e w' => e = .returned (.string ⟨l.toArray⟩) ∧ (Lib.IsBuilderF 41 5 B b (Lib.byteCells l) w' ∧ Below B w w' ∧ Lib.OthersKept 5 (some b) w w') := Any.Builder_String_any_k Tryz.lays169 Tryz.Builder_Extra_169 B b l w h hBw
end Go.Proofs
