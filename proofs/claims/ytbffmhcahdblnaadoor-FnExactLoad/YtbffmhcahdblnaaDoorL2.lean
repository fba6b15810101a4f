/-
  What the program's reader of texts answers, and its counts.
-/
import Derived.Test.YtbffmhcahdblnaaDoorL1
import Derived.Deep.RegionHeld3
namespace Go.Proofs.YtbffmhcahdblnaaDoor
open Go.RowKit

theorem RdAt.put {w W : World} {R n cap q q' : Nat} {ab : Option Addr} (h : RdAt w R ab n cap q) (x : Int) (hx : x = (q' : Int)) (hW : W.heap = w.heap := by rfl) : RdAt (W.setCell ⟨R, 1, none⟩ (.int .i64 x)) R ab n cap q' := by
  subst hx
  have h' : W.heap[R]? = some (Obj.cells #[.slice ab n cap, .int .i64 q] 53 (0, 0)) := by rw [hW]; exact h
  have := block_set (i := 1) h' (.int .i64 (q' : Int))
  simpa [RdAt] using this
theorem Only.drew {R : Nat} {a w : World} (h : Only R a w) : Only R a w.drew := ⟨h.os, h.tape, h.output, h.size, h.block⟩
theorem size5 (w : World) : (sizeOf (Tryd.prog.elem 22)).run Tryd.prog w = .ok 1 w := by kernel_rfl

set_option maxHeartbeats 1600000 in
theorem rText_any (R : Nat) (ab : Option Addr) (bs : List Int) (cap p n : Nat) (w wz : World) (hR : RdAt w R ab bs.length cap p) (hp : p ≤ bs.length) (h0 : 0 < bs.length) (hn : bs.length ≤ 1048576) (hcap : bs.length ≤ cap) (hn60 : n ≤ 60)
    (hb : BytesAt wz 0 ab bs) (hbz : Below wz.heap.size wz w) :
    Calls Tryd.prog 33 #[.pointer (some ⟨R, 0, none⟩), .int .i64 n] w fun e w' =>
      (∃ (s : ByteArray) (q : Nat), q ≤ bs.length ∧ pText n (bs.drop p) = some (s, bs.drop q) ∧ e = .returned (.tuple #[.string s, .nilIface]) ∧ RdAt w' R ab bs.length cap q ∧ Only R w w') ∨
      (pText n (bs.drop p) = none ∧ ∃ s, e = .returned (.tuple #[.string ByteArray.empty, .iface 62 (.agg #[.string s])]) ∧ Only R w w') := by
  obtain ⟨b, off, rfl, -, -⟩ := hb 0 h0
  have rc := block_cell hR
  have rf := block_free hR
  have hn0 : decide ((n : Int) < 0) = false := by simp
  by_cases hx : n ≤ bs.length - p
  · have hx' : (n : Int) ≤ (bs.length : Int) - (p : Int) := by omega
    obtain ⟨o, c', hsl, hA⟩ : ∃ (o c' : Nat), (∀ w' : World, (Instr.slice 22 (.slice (some ⟨b, off, none⟩) bs.length cap) (some (.int .i64 p)) (some (.int .i64 ((p : Int) + (n : Int)))) none).run Tryd.prog w' = .ok (.slice (some ⟨b, o, none⟩) n c') w') ∧ (0 < n → o = off + p) := by
      by_cases hc : p < cap
      · refine ⟨off + p, cap - p, fun w' => ?_, fun _ => rfl⟩
        rw [run_slice_lh w' 22 (some ⟨b, off, none⟩) bs.length cap (by kernel_rfl) .i64 .i64 p ((p : Int) + (n : Int)) (by omega) (by omega) (by omega)]
        rw [size5 w']
        have e1 : ((p : Int) + (n : Int)).toNat - p = n := by omega
        have e2 : ¬ cap = p := by omega
        simp only [Result.andThen, sliced, Int.toNat_natCast, e1, if_neg e2, Option.map_some, Nat.mul_one, Go.WideShapes.add_plain]
      · refine ⟨off, cap - p, fun w' => ?_, fun h => by omega⟩
        rw [run_slice_lh w' 22 (some ⟨b, off, none⟩) bs.length cap (by kernel_rfl) .i64 .i64 p ((p : Int) + (n : Int)) (by omega) (by omega) (by omega)]
        rw [size5 w']
        have e1 : ((p : Int) + (n : Int)).toNat - p = n := by omega
        have e2 : cap = p := by omega
        simp only [Result.andThen, sliced, Int.toNat_natCast, e1, if_pos e2]
    have hcv : ∀ (w' : World), w'.heap = w.heap → (convert 22 9 (.slice (some ⟨b, o, none⟩) n c')).run Tryd.prog w' = .ok (.string (strOfNums ((bs.drop p).take n))) w' := by
      intro w' hh
      refine run_convert_bytes_arg (P := Tryd.prog) w' 22 5 Tryd.underlying22 Tryd.underlying5 b o n c' ((bs.drop p).take n) (by simp; omega) (fun i hi => ?_) 9 Tryd.underlying9
      rw [hA (by omega)]
      obtain ⟨b', off', hbo, -, e1⟩ := hb (p + i) (by omega)
      cases hbo
      have e2 := cell_later hbz e1
      rw [show off + p + i = off + (p + i) by omega]
      refine Eq.trans ?_ (e2.trans ?_)
      · exact World.cell?_of_block (w := w) (by rw [hh])
      · rw [List.getD_eq_getElem?_getD, List.getElem?_take_of_lt hi, List.getElem?_drop, List.getElem?_eq_getElem (by omega)]
        rfl
    have hsa : ∀ w' : World, (Instr.sliceAt 22 (.slice (some ⟨b, off, none⟩) bs.length cap) (some (.int .i64 p)) (some (.int .i64 ((p : Int) + (n : Int)))) none).run Tryd.prog w' = .ok (.slice (some ⟨b, o, none⟩) n c') w' := fun w' => (run_sliceAt_slice w' 22 _ _ _ _ (by kernel_rfl)).trans (hsl w')
    have HA : Hid (0 < n → o = off + p) := hA
    clear hA
    have hwr : IntKind.i64.wrap ((p : Int) + (n : Int)) = (p : Int) + (n : Int) := wrap_small _ (by omega) (by omega)
    have z0 : (0 : Int) ≤ (p : Int) := by omega
    have z1 : (p : Int) ≤ (p : Int) + (n : Int) := by omega
    have z2 : (p : Int) + (n : Int) ≤ (cap : Int) := by omega
    go_enter Tryd.func33, Tryd.ntmps33
    go_wp2_with fail
    go_quiet (fail)
    go_wp2
    go_region_held3 (fun w' => w'.heap = w.heap ∧ w'.cell? ⟨R, 0, none⟩ = some (.slice (some ⟨b, off, none⟩) bs.length cap) ∧ w'.cell? ⟨R, 1, none⟩ = some (.int .i64 p)) (first | go_keep | exact ⟨rfl, (rc 0).trans rfl, (rc 1).trans rfl⟩) (fail)
    go_wp2
    go_ret2
    refine Or.inl ⟨_, p + n, by omega, ?_, rfl, RdAt.put hR _ (by omega), ?_⟩
    · unfold pText
      rw [if_pos (by simp; omega), List.drop_drop]
    · exact Only.set (Only.drew (Only.draws (Only.refl _ _) _)) _ _
  · have hx' : (bs.length : Int) - (p : Int) < (n : Int) := by omega
    go_enter Tryd.func33, Tryd.ntmps33
    go_wp2_with fail
    go_quiet (fail)
    go_wp2
    go_ret2
    refine Or.inr ⟨?_, _, rfl, (Only.refl _ _).draws _⟩
    unfold pText
    rw [if_neg (by simp; omega)]

set_option maxHeartbeats 800000 in
theorem takeCount_any (R : Nat) (ab : Option Addr) (bs : List Int) (cap p : Nat) (most : Int) (w wz : World) (hR : RdAt w R ab bs.length cap p) (hp : p ≤ bs.length) (hn : bs.length ≤ 1048576) (hby : Byte bs)
    (hb : BytesAt wz 0 ab bs) (hbz : Below wz.heap.size wz w) (hRz : wz.heap.size ≤ R) (hzw : wz.heap.size ≤ w.heap.size) :
    Calls Tryd.prog 69 #[.func (Fn.func 32) #[.pointer (some ⟨R, 0, none⟩)] #[], .int .i64 most] w fun e w' =>
      (∃ (n q : Nat), q ≤ bs.length ∧ pCount most (bs.drop p) = some (n, bs.drop q) ∧ (n : Int) ≤ most ∧ e = .returned (.tuple #[.int .i64 n, .nilIface]) ∧ RdAt w' R ab bs.length cap q ∧ Only R w w') ∨
      (pCount most (bs.drop p) = none ∧ ∃ s, e = .returned (.tuple #[.int .i64 0, .iface 62 (.agg #[.string s])]) ∧ Only R w w') := by
  go_enter Tryd.func69, Tryd.ntmps69
  go_wp2_with fail
  refine (rNumber_any R ab bs cap p _ wz hR hp hn hby hb hbz hRz hzw).mono ?_
  rintro e w1 (⟨n, q, hq, hpn, rfl, hR1, ho1⟩ | ⟨hpn, s, rfl, ho1⟩)
  · have HP : Hid (pNum (bs.drop p) = some (n, bs.drop q)) := hpn
    clear hpn
    by_cases hc : 0 ≤ n ∧ n ≤ most
    · obtain ⟨hc0, hc1⟩ := hc
      obtain ⟨m, rfl⟩ := Int.eq_ofNat_of_zero_le hc0
      go_wp2
      go_ret2
      refine Or.inl ⟨m, q, hq, ?_, hc1, rfl, hR1, ho1⟩
      unfold pCount
      rw [HP.out]
      simp only
      rw [if_pos ⟨by omega, hc1⟩]
      simp
    · have HE : Hid (pCount most (bs.drop p) = none) := by
        show pCount most (bs.drop p) = none
        unfold pCount
        rw [HP.out]
        simp only
        rw [if_neg hc]
      rcases (show n < 0 ∨ (0 ≤ n ∧ most < n) by omega) with hc1 | ⟨hc1, hc2⟩
      all_goals
        clear hc
        go_wp2
        go_ret2
        exact Or.inr ⟨HE.out, _, rfl, ho1⟩
  · have HE : Hid (pCount most (bs.drop p) = none) := by
      show pCount most (bs.drop p) = none
      unfold pCount
      rw [hpn]
    clear hpn
    go_wp2
    go_ret2
    exact Or.inr ⟨HE.out, _, rfl, ho1⟩
end Go.Proofs.YtbffmhcahdblnaaDoor
