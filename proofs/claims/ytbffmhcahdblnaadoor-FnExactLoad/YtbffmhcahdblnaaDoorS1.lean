/-
  What spec.l01Number and impl.putNumber return: the slice with the bytes of the number behind it, in memory of the call's own.
-/
import Derived.Test.YtbffmhcahdblnaaDoorW1
import Derived.Test.YtbffmhcahdblnaaDoorMem3
import Derived.Test.YtbffmhcahdblnaaDoorPlain3
namespace Go.Proofs.YtbffmhcahdblnaaDoor
open Go.RowKit

theorem info5 : (Tryd.prog.info? 5).map (fun i => (i.zero, i.size, i.bytes)) = some (some (.int .u8 0), 1, 1) := by kernel_rfl

set_option maxRecDepth 100000 in
set_option maxHeartbeats 800000 in
theorem putNumber_any (B : Nat) (v : Value) (bs : List Int) (n : Int) (w : World) (h0 : -1000000000 ≤ n) (h1 : n ≤ 1000000000) (hown : Buf w B v bs) (hB : B ≤ w.heap.size) (hlen : bs.length ≤ 1000000) :
    Calls Tryd.prog 23 #[v, .int .i64 n] w fun e w' => ∃ g cap, e = .returned (.slice (some ⟨g, 0, none⟩) (bs.length + (num n).length) cap) ∧ Buf w' B (.slice (some ⟨g, 0, none⟩) (bs.length + (num n).length) cap) (bs ++ num n) ∧ Keeps B [5] w w' := by
  obtain ⟨i0, hi, hz0, hz1, hz2⟩ := info_parts info5
  obtain ⟨uz, hu⟩ : ∃ uz, uz = zig n := ⟨_, rfl⟩
  have hu9 : uz ≤ 2000000001 := by rw [hu]; unfold zig; split <;> omega
  have HN : Hid (num n = groups uz uz) := by rw [hu]; rfl
  have HU : Hid ((uz : Int) = if n < 0 then -2 * n - 1 else 2 * n) := by
    show ((uz : Int) = if n < 0 then -2 * n - 1 else 2 * n)
    rw [hu]
    unfold zig
    by_cases h : n < 0 <;> simp only [h, if_true, if_false] <;> omega
  have hnl := num_len h0 h1
  clear hu
  by_cases hneg : n < 0
  all_goals
    go_enter Tryd.func23, Tryd.ntmps23
    go_wp2
    go_loopw [0, 5] (fun o u wr => ∃ (dn : List Int) (f x : Nat), Hid (groups uz uz = dn ++ groups f x) ∧ x ≤ f ∧ x ≤ 2000000001 ∧ u = .int .i64 x ∧ Buf wr B o (bs ++ dn) ∧ Keeps B [5] w wr) (fun _ u _ => (intOf u).toNat)
    case atStart => exact ⟨[], uz, uz, rfl, Nat.le_refl _, hu9, by have := HU.out; congr 1; omega, by simpa using hown, Keeps.refl _ _ _⟩
    case round =>
      obtain ⟨dn, f, x, hg, hxf, hx9, rfl, hbuf, hk⟩ := hrel
      have hl5 : (bs ++ dn).length ≤ 2000000 := by
        have e1 := hg.out
        rw [← HN.out] at e1
        have e2 := congrArg List.length e1
        simp only [List.length_append] at e2 ⊢
        omega
      have hsz : B ≤ wr.heap.size := Nat.le_trans hB hk.size
      by_cases hx : 128 ≤ x
      · have hx' : (128 : Int) ≤ (x : Int) := by omega
        go_wp2_with (first | (at_builtin; refine wpList_append_lies _ rfl _ _ 22 rfl B 5 i0 (.int .u8 0) 1 1 Tryd.underlying22 hi hz0 hz1 hz2 rfl (by decide) _ _ _ rfl (World.ownsRow.alloc hbuf _) ⟨wr.heap.size, 0, none⟩ 1 1 [.int .u8 ((x : Int) % 128 + 128)] rfl rfl (cell_one_new _ _ _) (by intro u hu; simp at hu; subst hu; rfl) (by decide) (by unfold maxLen; omega) (by omega) (by simp; omega) _ rfl ?_; intro g cap w1 hown1 hgrow1 hat1 hlt1))
        obtain ⟨f', hgb, hf'⟩ := groups_big hx hxf
        have HG : Hid (groups uz uz = (dn ++ [(x : Int) % 128 + 128]) ++ groups f' (x / 128)) := by
          show groups uz uz = _
          rw [hg.out, hgb, List.append_assoc]
          rfl
        have hk1 : Keeps B [5] w w1 := (hk.alloc _).trans (Keeps.grown (World.ownsRow.alloc hbuf _) hgrow1 (by simp))
        go_roundw
        case rel => exact ⟨_, f', x / 128, HG, hf', by omega, by go_num, Buf.of hown1 (by simp) (by simp; omega) (by simp), hk1⟩
        case measure => simp [intOf]; omega
      · have hx' : (x : Int) < 128 := by omega
        go_wp2_with (first | (at_builtin; refine wpList_append_lies _ rfl _ _ 22 rfl B 5 i0 (.int .u8 0) 1 1 Tryd.underlying22 hi hz0 hz1 hz2 rfl (by decide) _ _ _ rfl (World.ownsRow.alloc hbuf _) ⟨wr.heap.size, 0, none⟩ 1 1 [.int .u8 (x : Int)] rfl rfl (cell_one_new _ _ _) (by intro u hu; simp at hu; subst hu; rfl) (by decide) (by unfold maxLen; omega) (by omega) (by simp; omega) _ rfl ?_; intro g cap w1 hown1 hgrow1 hat1 hlt1))
        have hfin : groups uz uz = dn ++ [(x : Int)] := by rw [hg.out, groups_small (by omega)]
        have HE : Hid (num n = dn ++ [(x : Int)]) := by show num n = _; rw [HN.out, hfin]
        have hk1 : Keeps B [5] w w1 := (hk.alloc _).trans (Keeps.grown (World.ownsRow.alloc hbuf _) hgrow1 (by simp))
        clear hfin hnl
        go_ret
        refine ⟨g, cap, ret_slice (by rw [HE.out]; simp; omega), ?_, hk1⟩
        rw [HE.out]
        exact Buf.of hown1 (by simp) (by simp; omega) (by simp; omega)


set_option maxRecDepth 100000 in
set_option maxHeartbeats 800000 in
theorem l01Number_any (B : Nat) (v : Value) (bs : List Int) (n : Int) (w : World) (h0 : -1000000000 ≤ n) (h1 : n ≤ 1000000000) (hown : Buf w B v bs) (hB : B ≤ w.heap.size) (hlen : bs.length ≤ 1000000) :
    Calls Tryd.prog 25 #[v, .int .i64 n] w fun e w' => ∃ g cap, e = .returned (.slice (some ⟨g, 0, none⟩) (bs.length + (num n).length) cap) ∧ Buf w' B (.slice (some ⟨g, 0, none⟩) (bs.length + (num n).length) cap) (bs ++ num n) ∧ Keeps B [5] w w' := by
  obtain ⟨i0, hi, hz0, hz1, hz2⟩ := info_parts info5
  obtain ⟨uz, hu⟩ : ∃ uz, uz = zig n := ⟨_, rfl⟩
  have hu9 : uz ≤ 2000000001 := by rw [hu]; unfold zig; split <;> omega
  have HN : Hid (num n = groups uz uz) := by rw [hu]; rfl
  have HU : Hid ((uz : Int) = if n < 0 then -2 * n - 1 else 2 * n) := by
    show ((uz : Int) = if n < 0 then -2 * n - 1 else 2 * n)
    rw [hu]
    unfold zig
    by_cases h : n < 0 <;> simp only [h, if_true, if_false] <;> omega
  have hnl := num_len h0 h1
  clear hu
  by_cases hneg : n < 0
  all_goals
    go_enter Tryd.func25, Tryd.ntmps25
    go_wp2
    go_loopw [0, 5] (fun o u wr => ∃ (dn : List Int) (f x : Nat), Hid (groups uz uz = dn ++ groups f x) ∧ x ≤ f ∧ x ≤ 2000000001 ∧ u = .int .i64 x ∧ Buf wr B o (bs ++ dn) ∧ Keeps B [5] w wr) (fun _ u _ => (intOf u).toNat)
    case atStart => exact ⟨[], uz, uz, rfl, Nat.le_refl _, hu9, by have := HU.out; congr 1; omega, by simpa using hown, Keeps.refl _ _ _⟩
    case round =>
      obtain ⟨dn, f, x, hg, hxf, hx9, rfl, hbuf, hk⟩ := hrel
      have hl5 : (bs ++ dn).length ≤ 2000000 := by
        have e1 := hg.out
        rw [← HN.out] at e1
        have e2 := congrArg List.length e1
        simp only [List.length_append] at e2 ⊢
        omega
      have hsz : B ≤ wr.heap.size := Nat.le_trans hB hk.size
      by_cases hx : 128 ≤ x
      · have hx' : (128 : Int) ≤ (x : Int) := by omega
        go_wp2_with (first | (at_builtin; refine wpList_append_lies _ rfl _ _ 22 rfl B 5 i0 (.int .u8 0) 1 1 Tryd.underlying22 hi hz0 hz1 hz2 rfl (by decide) _ _ _ rfl (World.ownsRow.alloc hbuf _) ⟨wr.heap.size, 0, none⟩ 1 1 [.int .u8 (128 + (x : Int) % 128)] rfl rfl (cell_one_new _ _ _) (by intro u hu; simp at hu; subst hu; rfl) (by decide) (by unfold maxLen; omega) (by omega) (by simp; omega) _ rfl ?_; intro g cap w1 hown1 hgrow1 hat1 hlt1))
        obtain ⟨f', hgb, hf'⟩ := groups_big hx hxf
        have HG : Hid (groups uz uz = (dn ++ [(x : Int) % 128 + 128]) ++ groups f' (x / 128)) := by
          show groups uz uz = _
          rw [hg.out, hgb, List.append_assoc]
          rfl
        have hk1 : Keeps B [5] w w1 := (hk.alloc _).trans (Keeps.grown (World.ownsRow.alloc hbuf _) hgrow1 (by simp))
        go_roundw
        case rel => exact ⟨_, f', x / 128, HG, hf', by omega, by go_num, Buf.of hown1 (by simp [Int.add_comm]) (by simp; omega) (by simp), hk1⟩
        case measure => simp [intOf]; omega
      · have hx' : (x : Int) < 128 := by omega
        go_wp2_with (first | (at_builtin; refine wpList_append_lies _ rfl _ _ 22 rfl B 5 i0 (.int .u8 0) 1 1 Tryd.underlying22 hi hz0 hz1 hz2 rfl (by decide) _ _ _ rfl (World.ownsRow.alloc hbuf _) ⟨wr.heap.size, 0, none⟩ 1 1 [.int .u8 (x : Int)] rfl rfl (cell_one_new _ _ _) (by intro u hu; simp at hu; subst hu; rfl) (by decide) (by unfold maxLen; omega) (by omega) (by simp; omega) _ rfl ?_; intro g cap w1 hown1 hgrow1 hat1 hlt1))
        have hfin : groups uz uz = dn ++ [(x : Int)] := by rw [hg.out, groups_small (by omega)]
        have HE : Hid (num n = dn ++ [(x : Int)]) := by show num n = _; rw [HN.out, hfin]
        have hk1 : Keeps B [5] w w1 := (hk.alloc _).trans (Keeps.grown (World.ownsRow.alloc hbuf _) hgrow1 (by simp))
        clear hfin hnl
        go_ret
        refine ⟨g, cap, ret_slice (by rw [HE.out]; simp; omega), ?_, hk1⟩
        rw [HE.out]
        exact Buf.of hown1 (by simp) (by simp; omega) (by simp; omega)

end Go.Proofs.YtbffmhcahdblnaaDoor
