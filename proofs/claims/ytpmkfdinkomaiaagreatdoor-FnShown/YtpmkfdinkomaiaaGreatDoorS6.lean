/-
  spec.DrawReadModule: a text that is not long.
-/
import Derived.Test.YtpmkfdinkomaiaaGreatDoorD1
import Derived.Test.YtpmkfdinkomaiaaGreatDoorGQ5
import Derived.Test.YtpmkfdinkomaiaaGreatDoorU3
import Derived.Test.YtpmkfdinkomaiaaGreatDoorGQ7
import Derived.Deep.QuietTactic
import Derived.BigQuiet
import Derived.Deep.RegionWith
import Derived.Deep.CutRange
namespace Go.Proofs.YtpmkfdinkomaiaaGreatDoor
open Go.RowKit

theorem CurAt.lateS {W w w' : World} {C xc M : Nat} {xa : Option Addr} {bs : List Int} (h : CurAt W w C xa bs xc M) (hb : Below w.heap.size w w') : CurAt W w' C xa bs xc M := by
  obtain ⟨p, s, h1, h2⟩ := h.blk
  exact ⟨⟨p, s, block_kept h1 hb, h2⟩, h.low, h.below.trans (hb.mono h.below.size), h.bytes, h.small, h.vals⟩
theorem app_size (a b : ByteArray) : (a ++ b).size = a.size + b.size := ByteArray.size_append ..
theorem ext_size (s : ByteArray) (a b : Nat) : (s.extract a b).size ≤ s.size := by
  rw [ByteArray.size_extract]
  omega

/-- One of two comes up. -/
theorem wpAnyT_two {P : Program} {ops : Array Oper} {Q : Exit → Act → World → Prop} {md : Region.Mode} {R : Nat → World → World → Prop} {i j : Nat} {oi oj : Oper} {n : Nat} {listed : Array Bool} {a : Act} {w : World} (hr : Region.ready md ops listed = [i, j]) (hi : ops[i]? = some oi) (hj : ops[j]? = some oj)
    (h1 : ∀ K' : Act → World → Prop, Shut (∀ a w', R i w w' → wpAnyT P md ops Q R n (listed.setIfInBounds i true) a w' → K' a w') → if Region.wanted oi (yielded ops a.tmps) = true then Oper.wp P oi a w K' Q else K' (a.put oi.dst undef) w)
    (h2 : ∀ K' : Act → World → Prop, Shut (∀ a w', R j w w' → wpAnyT P md ops Q R n (listed.setIfInBounds j true) a w' → K' a w') → if Region.wanted oj (yielded ops a.tmps) = true then Oper.wp P oj a w K' Q else K' (a.put oj.dst undef) w) :
    wpAnyT P md ops Q R (n + 1) listed a w := by
  refine ⟨fun h0 => (by rw [hr] at h0; cases h0), fun q hq => ?_⟩
  rw [hr] at hq
  rcases List.mem_cons.1 hq with rfl | hq
  · exact wpOp_step hi (fun K' hK => h1 K' (fun a w hS hW => hK a w ⟨hS, hW⟩))
  · obtain rfl := List.mem_singleton.1 hq
    exact wpOp_step hj (fun K' hK => h2 K' (fun a w hS hW => hK a w ⟨hS, hW⟩))

def oddT : List ByteArray := [⟨#[32]⟩, ⟨#[48]⟩, ⟨#[45]⟩, ⟨#[10]⟩, ⟨#[34]⟩, ⟨#[97]⟩]
def endT : List ByteArray := [⟨#[116, 101, 120, 116, 32, 34, 122, 34, 10]⟩, ⟨#[32, 32, 110, 105, 108, 10]⟩, ⟨#[102, 117, 110, 99, 32, 48, 32, 48]⟩, ⟨#[10]⟩]
theorem odd_at (r : Nat) (h : r < 6) : ∃ v : ByteArray, (oddT.map Value.string).toArray[r]? = some (.string v) ∧ v.size ≤ 9 := by
  match r, h with
  | 0, _ => exact ⟨_, rfl, by decide⟩
  | 1, _ => exact ⟨_, rfl, by decide⟩
  | 2, _ => exact ⟨_, rfl, by decide⟩
  | 3, _ => exact ⟨_, rfl, by decide⟩
  | 4, _ => exact ⟨_, rfl, by decide⟩
  | 5, _ => exact ⟨_, rfl, by decide⟩
theorem end_at (r : Nat) (h : r < 4) : ∃ v : ByteArray, (endT.map Value.string).toArray[r]? = some (.string v) ∧ v.size ≤ 9 := by
  match r, h with
  | 0, _ => exact ⟨_, rfl, by decide⟩
  | 1, _ => exact ⟨_, rfl, by decide⟩
  | 2, _ => exact ⟨_, rfl, by decide⟩
  | 3, _ => exact ⟨_, rfl, by decide⟩

def DrawnText (w : World) (e : Ending) (w' : World) : Prop := ∃ t : ByteArray, e = .returned (.string t) ∧ t.size ≤ 200000 ∧ Below w.heap.size w w'

/-- A module was drawn. -/
def ModPost (W : World) (C : Nat) (xa : Option Addr) (bs : List Int) (xc M : Nat) (e : Ending) (w' : World) : Prop :=
  ∃ ta tc fa fc ts fs, e = .returned (.agg #[.slice ta (List.length ts) tc, .slice fa (List.length fs) fc]) ∧ StrsAt w' 0 ta ts ∧ FnsAt w' 0 fa fs ∧ Small ts fs ∧ CurAt W w' C xa bs xc M

set_option maxRecDepth 100000 in
set_option maxHeartbeats 8000000 in
theorem drawRead_any (xa : Option Addr) (bs : List Int) (xc : Nat) (w : World)
    (HO : Calls Tryz.prog 13 #[.slice xa bs.length xc] w fun e w' => e = .returned (.pointer (some ⟨w.heap.size, 0, none⟩)) ∧ CurAt w w' w.heap.size xa bs xc 0)
    (HD : ∀ w1, CurAt w w1 w.heap.size xa bs xc 0 → Calls Tryz.prog 14 #[.pointer (some ⟨w.heap.size, 0, none⟩), .int .i64 20] w1 (ModPost w w.heap.size xa bs xc 50000)) :
    Calls Tryz.prog 11 #[.slice xa bs.length xc] w (DrawnText w) := by
  go_enter Tryz.func11, Tryz.ntmps11
  go_wp2_with fail
  refine HO.mono ?_
  rintro e w1 ⟨rfl, hC1⟩
  have hD := HD w1 hC1
  go_wp2_with fail
  refine hD.mono ?_
  rintro e w2 ⟨ta, tc, fa, fc, ts, fs, rfl, hst, hsf, hsm, hC2⟩
  clear hC1 hD HD
  go_wp2_with fail
  refine (sShow_any ta fa ts fs tc fc w2 hsm hst hsf).mono ?_
  rintro e w3 ⟨rfl, hb3⟩
  have hC3 := hC2.lateS hb3
  obtain ⟨s, hsd⟩ : ∃ s, s = shown ts fs := ⟨_, rfl⟩
  have hs0 : s.size ≤ 46960 := by rw [hsd]; exact shown_size ts fs
  rw [← hsd]
  clear hsd hsm hst hsf hb3 hC2
  go_wp2_with fail
  refine (once_any w w.heap.size xc _ xa bs 3 w3 hC3 (by omega) (by omega) (by omega)).mono ?_
  rintro e w4 ⟨r, rfl, hC4, -⟩
  have HB4 : Hid (Below w.heap.size w w4) := hC4.below
  cases r
  case false =>
    go_wp2
    go_ret
    exact ⟨s, rfl, by omega, HB4.out⟩
  case true =>
    by_cases h0 : 0 < s.size
    case neg =>
      have h0' : ¬ (0 : Int) < (s.size : Int) := by omega
      go_wp2
      go_ret
      exact ⟨s, rfl, by omega, HB4.out⟩
    case pos =>
      have h0' : (0 : Int) < (s.size : Int) := by omega
      go_wp2_with fail
      refine (pick_any w w.heap.size xc _ xa bs (s.size : Int) w4 hC4 (by omega)).mono ?_
      rintro e w5 ⟨k', rfl, hk0, hk1, hC5, -⟩
      obtain ⟨k, rfl⟩ : ∃ k : Nat, k' = (k : Int) := ⟨k'.toNat, by omega⟩
      have hkl : k < s.size := by omega
      clear hk0 hk1 HB4 hC4
      go_wp2_with fail
      refine (pick_any w w.heap.size xc _ xa bs 3 w5 hC5 (by omega)).mono ?_
      rintro e w6 ⟨q, rfl, hq0, hq1, hC6, -⟩
      have HB6 : Hid (Below w.heap.size w w6) := hC6.below
      have e1 : (k : Int) ≤ (s.size : Int) := by omega
      have e2 : (k : Int) + 1 ≤ (s.size : Int) := by omega
      have e3 : IntKind.i64.wrap ((k : Int) + 1) = (k : Int) + 1 := by rw [IntKind.wrap_i64]; omega
      have e4 : ((k : Int) + 1).toNat = k + 1 := by omega
      clear hC5
      by_cases hqa : q = 0
      case pos =>
        subst hqa
        go_wp2
        go_big_quiet (fail)
        go_wp2
        go_ret
        exact ⟨_, rfl, by rw [app_size]; have := ext_size s 0 k; have := ext_size s (k + 1) s.size; omega, below_draws HB6.out _⟩
      case neg =>
        have hqa' : (q == 0) = false := by simpa using hqa
        by_cases hqb : q = 1
        case pos =>
          subst hqb
          have hcl : w.heap.size < w6.heap.size := by obtain ⟨_, _, h, _⟩ := hC6.blk; exact lt_block h
          have hbd : Below w6.heap.size w6 w6.drew := (Below.refl _ _).drew
          have hCd := hC6.lateS hbd
          go_upto_region 10 with fail
          refine wp_region_T (RS [] (fun _ : World => True)) (by kernel_rfl) ?_
          refine tkP (i := 0) (v := ?_) rfl (by kernel_rfl) (fun _ _ _ h => h) ?_ ?_
          rotate_left
          · intro w'
            go_simp
            try with_reducible rfl
          simp only [Act.put, List.setIfInBounds_toArray]
          refine tkP (i := 1) (v := ?_) rfl (by kernel_rfl) (fun _ _ _ h => h) ?_ ?_
          rotate_left
          · intro w'
            go_simp
            try with_reducible rfl
          simp only [Act.put]
          refine tkP (i := 2) (v := ?_) rfl (by kernel_rfl) (fun _ _ _ h => h) ?_ ?_
          rotate_left
          · intro w'
            go_simp
            try with_reducible rfl
          simp only [Act.put]
          refine tkP (i := 4) (v := ?_) rfl (by kernel_rfl) (fun _ _ _ h => h) ?_ ?_
          rotate_left
          · intro w'
            go_simp
            try with_reducible rfl
          simp only [Act.put]
          refine tkP (i := 9) (v := ?_) rfl (by kernel_rfl) (fun _ _ _ h => h) ?_ ?_
          rotate_left
          · intro w'
            go_simp
            try with_reducible rfl
          simp only [Act.put]
          refine tkP (i := 10) (v := ?_) rfl (by kernel_rfl) (fun _ _ _ h => h) ?_ ?_
          rotate_left
          · intro w'
            go_simp
            try with_reducible rfl
          simp only [Act.put]
          refine tkP (i := 11) (v := ?_) rfl (by kernel_rfl) (fun _ _ _ h => h) ?_ ?_
          rotate_left
          · intro w'
            go_simp
            try with_reducible rfl
          simp only [Act.put]
          refine wpAnyT_two (i := 3) (j := 5) (by kernel_rfl) rfl rfl (fun Kq hK => ?_) (fun Kq hK => ?_)
          · go_simp
            obtain ⟨wE, hwE⟩ : ∃ wE, wE = (w6.alloc (.cells #[.string ⟨#[32]⟩, .string ⟨#[48]⟩, .string ⟨#[45]⟩, .string ⟨#[10]⟩, .string ⟨#[34]⟩, .string ⟨#[97]⟩] 9)).drew := ⟨_, rfl⟩
            have hbE : Below w6.drew.heap.size w6.drew wE := by rw [hwE]; show Below _ _ (w6.drew.alloc (.cells #[.string ⟨#[32]⟩, .string ⟨#[48]⟩, .string ⟨#[45]⟩, .string ⟨#[10]⟩, .string ⟨#[34]⟩, .string ⟨#[97]⟩] 9)); exact (Below.refl _ _).alloc (Nat.le_refl _) _
            have hE : wE.heap[w6.heap.size]? = some (.cells #[.string ⟨#[32]⟩, .string ⟨#[48]⟩, .string ⟨#[45]⟩, .string ⟨#[10]⟩, .string ⟨#[34]⟩, .string ⟨#[97]⟩] 9 (0, 0)) := by rw [hwE]; exact block_new w6.drew _ _
            have hCE := hCd.lateS hbE
            obtain ⟨gz, hgz⟩ : ∃ gz, gz = w6.heap.size := ⟨_, rfl⟩
            rw [← hwE, ← hgz]
            rw [← hgz] at hE hcl
            clear hwE hgz
            refine hK.out _ _ (.inr (fun _ => trivial)) ?_
            clear hK Kq
            try simp only [Act.put]
            refine wpAnyT_one (i := 5) (o := _) (by kernel_rfl) rfl (fun Kq hK => ?_)
            go_simp
            refine (pick_any w w.heap.size xc _ xa bs 6 wE hCE (by omega)).mono ?_
            rintro e wZ ⟨r', rfl, hr0, hr1, hCZ, hPZ⟩
            obtain ⟨r, rfl⟩ : ∃ r : Nat, r' = (r : Int) := ⟨r'.toNat, by omega⟩
            have hr6 : r < 6 := by omega
            have hEZ := (hPZ.block gz (by omega)).trans hE
            obtain ⟨v, hv1, hv2⟩ := odd_at r hr6
            have HBZ : Hid (Below w.heap.size w wZ) := hCZ.below
            refine hK.out _ _ (.inr (fun _ => trivial)) ?_
            clear hK Kq hE hCE hCZ hPZ hr0 hr1 hbE
            try simp only [Act.put]
            have hrI : (r : Int) < 6 := by omega
            have cv : wZ.cell? ⟨gz, r, none⟩ = some (.string v) := (block_cell hEZ r).trans hv1
            refine tkP (i := 6) (v := ?_) rfl (by kernel_rfl) (fun _ _ _ h => h) ?_ ?_
            rotate_left
            · intro w'
              go_simp
              try with_reducible rfl
            simp only [Act.put]
            refine wpAnyT_one (i := 7) (o := _) (by kernel_rfl) rfl (fun Kq hK => ?_)
            go_simp
            refine hK.out _ _ (.inr (fun _ => trivial)) ?_
            clear hK Kq
            try simp only [Act.put]
            refine tkP (i := 8) (v := .string (s.extract 0 k ++ v)) rfl (by kernel_rfl) (fun _ _ _ h => h) ?_ ?_
            · intro w'
              go_simp
              omega
            simp only [Act.put]
            refine tkP (i := 12) (v := .string (s.extract 0 k ++ v ++ s.extract k s.size)) rfl (by kernel_rfl) (fun _ _ _ h => h) ?_ ?_
            · intro w'
              go_simp
              omega
            simp only [Act.put]
            refine tkP (i := 13) (v := ?_) rfl (by kernel_rfl) (fun _ _ _ h => h) ?_ ?_
            rotate_left
            · intro w'
              go_simp
              try with_reducible rfl
            simp only [Act.put]
            refine wpAnyT_done (by kernel_rfl) ?_ _
            clear hEZ hv1 cv
            go_wp2
            go_ret
            exact ⟨_, rfl, by rw [app_size, app_size]; have := ext_size s 0 k; have := ext_size s k s.size; omega, HBZ.out⟩
          · go_simp
            refine (pick_any w w.heap.size xc _ xa bs 6 w6.drew hCd (by omega)).mono ?_
            rintro e w7 ⟨r', rfl, hr0, hr1, hC7, hP7⟩
            obtain ⟨r, rfl⟩ : ∃ r : Nat, r' = (r : Int) := ⟨r'.toNat, by omega⟩
            have hr6 : r < 6 := by omega
            obtain ⟨v, hv1, hv2⟩ := odd_at r hr6
            refine hK.out _ _ (.inr (fun _ => trivial)) ?_
            clear hK Kq hr0 hr1
            try simp only [Act.put]
            refine wpAnyT_one (i := 3) (o := _) (by kernel_rfl) rfl (fun Kq hK => ?_)
            go_simp
            obtain ⟨wZ, hwZ⟩ : ∃ wZ, wZ = w7.alloc (.cells #[.string ⟨#[32]⟩, .string ⟨#[48]⟩, .string ⟨#[45]⟩, .string ⟨#[10]⟩, .string ⟨#[34]⟩, .string ⟨#[97]⟩] 9) := ⟨_, rfl⟩
            have hbZ : Below w7.heap.size w7 wZ := by rw [hwZ]; exact (Below.refl _ _).alloc (Nat.le_refl _) _
            obtain ⟨gz, hgz⟩ : ∃ gz, gz = w7.heap.size := ⟨_, rfl⟩
            have hEZ : wZ.heap[gz]? = some (.cells #[.string ⟨#[32]⟩, .string ⟨#[48]⟩, .string ⟨#[45]⟩, .string ⟨#[10]⟩, .string ⟨#[34]⟩, .string ⟨#[97]⟩] 9 (0, 0)) := by rw [hwZ, hgz]; exact block_new _ _ _
            have HBZ : Hid (Below w.heap.size w wZ) := (hC7.lateS hbZ).below
            rw [← hwZ, ← hgz]
            refine hK.out _ _ (.inr (fun _ => trivial)) ?_
            clear hK Kq hwZ hgz hbZ hC7 hP7
            try simp only [Act.put]
            have hrI : (r : Int) < 6 := by omega
            have cv : wZ.cell? ⟨gz, r, none⟩ = some (.string v) := (block_cell hEZ r).trans hv1
            refine tkP (i := 6) (v := ?_) rfl (by kernel_rfl) (fun _ _ _ h => h) ?_ ?_
            rotate_left
            · intro w'
              go_simp
              try with_reducible rfl
            simp only [Act.put]
            refine wpAnyT_one (i := 7) (o := _) (by kernel_rfl) rfl (fun Kq hK => ?_)
            go_simp
            refine hK.out _ _ (.inr (fun _ => trivial)) ?_
            clear hK Kq
            try simp only [Act.put]
            refine tkP (i := 8) (v := .string (s.extract 0 k ++ v)) rfl (by kernel_rfl) (fun _ _ _ h => h) ?_ ?_
            · intro w'
              go_simp
              omega
            simp only [Act.put]
            refine tkP (i := 12) (v := .string (s.extract 0 k ++ v ++ s.extract k s.size)) rfl (by kernel_rfl) (fun _ _ _ h => h) ?_ ?_
            · intro w'
              go_simp
              omega
            simp only [Act.put]
            refine tkP (i := 13) (v := ?_) rfl (by kernel_rfl) (fun _ _ _ h => h) ?_ ?_
            rotate_left
            · intro w'
              go_simp
              try with_reducible rfl
            simp only [Act.put]
            refine wpAnyT_done (by kernel_rfl) ?_ _
            clear hEZ hv1 cv
            go_wp2
            go_ret
            exact ⟨_, rfl, by rw [app_size, app_size]; have := ext_size s 0 k; have := ext_size s k s.size; omega, HBZ.out⟩
        case neg =>
          have hqb' : (q == 1) = false := by simpa using hqb
          go_wp2_with fail
          obtain ⟨wE, hwE⟩ : ∃ wE, wE = w6.alloc (.cells #[.string ⟨#[116, 101, 120, 116, 32, 34, 122, 34, 10]⟩, .string ⟨#[32, 32, 110, 105, 108, 10]⟩, .string ⟨#[102, 117, 110, 99, 32, 48, 32, 48]⟩, .string ⟨#[10]⟩] 9) := ⟨_, rfl⟩
          have hbE : Below w6.heap.size w6 wE := by rw [hwE]; exact (Below.refl _ _).alloc (Nat.le_refl _) _
          have hE : wE.heap[w6.heap.size]? = some (.cells #[.string ⟨#[116, 101, 120, 116, 32, 34, 122, 34, 10]⟩, .string ⟨#[32, 32, 110, 105, 108, 10]⟩, .string ⟨#[102, 117, 110, 99, 32, 48, 32, 48]⟩, .string ⟨#[10]⟩] 9 (0, 0)) := by rw [hwE]; exact block_new _ _ _
          have hcl : w.heap.size < w6.heap.size := by obtain ⟨_, _, h, _⟩ := hC6.blk; exact lt_block h
          rw [← hwE]
          clear hwE
          refine (pick_any w w.heap.size xc _ xa bs 4 wE (hC6.lateS hbE) (by omega)).mono ?_
          rintro e w7 ⟨r', rfl, hr0, hr1, hC7, hP7⟩
          obtain ⟨r, rfl⟩ : ∃ r : Nat, r' = (r : Int) := ⟨r'.toNat, by omega⟩
          have hr4 : r < 4 := by omega
          have hrI : (r : Int) < 4 := by omega
          have hE7 := (hP7.block w6.heap.size (by omega)).trans hE
          obtain ⟨v, hv1, hv2⟩ := end_at r hr4
          have cv : w7.cell? ⟨w6.heap.size, r, none⟩ = some (.string v) := (block_cell hE7 r).trans hv1
          have HB7 : Hid (Below w.heap.size w w7) := hC7.below
          clear hE hE7 hv1 hC7 hP7 hC6 hbE hr0 hr1
          go_wp2
          go_ret
          exact ⟨_, rfl, by rw [app_size]; omega, HB7.out⟩
end Go.Proofs.YtpmkfdinkomaiaaGreatDoor
