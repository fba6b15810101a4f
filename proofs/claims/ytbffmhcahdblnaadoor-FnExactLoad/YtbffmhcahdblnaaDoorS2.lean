/-
  What impl.putFunc returns: the slice with the bytes of the function behind it, in memory of the call's own.
-/
import Derived.Test.YtbffmhcahdblnaaDoorS1
import Derived.Test.YtbffmhcahdblnaaDoorPlain4
namespace Go.Proofs.YtbffmhcahdblnaaDoor
open Go.RowKit

theorem putN (B : Nat) (v : Value) (bs : List Int) (n : Int) (w : World) (h0 : Fits n) (hown : Buf w B v bs) (hB : B ≤ w.heap.size) (hlen : bs.length ≤ 1000000) :
    Calls Tryd.prog 23 #[v, .int .i64 n] w fun e w' => ∃ v', e = .returned v' ∧ Buf w' B v' (bs ++ num n) ∧ Keeps B [5] w w' :=
  (putNumber_any B v bs n w h0.1 h0.2 hown hB hlen).mono fun _ _ ⟨_, _, he, hb, hk⟩ => ⟨_, he, hb, hk⟩
theorem specN (B : Nat) (v : Value) (bs : List Int) (n : Int) (w : World) (h0 : Fits n) (hown : Buf w B v bs) (hB : B ≤ w.heap.size) (hlen : bs.length ≤ 1000000) :
    Calls Tryd.prog 25 #[v, .int .i64 n] w fun e w' => ∃ v', e = .returned v' ∧ Buf w' B v' (bs ++ num n) ∧ Keeps B [5] w w' :=
  (l01Number_any B v bs n w h0.1 h0.2 hown hB hlen).mono fun _ _ ⟨_, _, he, hb, hk⟩ => ⟨_, he, hb, hk⟩

theorem Buf.alloc {w : World} {B : Nat} {v : Value} {bs : List Int} (h : Buf w B v bs) (o : Obj) : Buf (w.alloc o) B v bs := World.ownsRow.alloc h o
theorem Buf.low {w : World} {B B' : Nat} {v : Value} {bs : List Int} (h : Buf w B v bs) (hb : B' ≤ B) : Buf w B' v bs :=
  ⟨h.1, h.2.elim Or.inl (fun ⟨g, cap, cur, hv, hg, r⟩ => Or.inr ⟨g, cap, cur, hv, Nat.le_trans hb hg, r⟩)⟩

set_option maxHeartbeats 800000 in
theorem putFunc_any (B : Nat) (v : Value) (bs : List Int) (p l : Int) (a : Option Addr) (xs : List (Int × Int)) (cap : Nat) (w wz : World) (hp : Fits p) (hl : Fits l) (hx : xs.length ≤ 120) (hxs : ∀ x ∈ xs, Fits x.1 ∧ Fits x.2)
    (hown : Buf w B v bs) (hB : B ≤ w.heap.size) (hlen : bs.length ≤ 900000) (hc : CodeAt wz 0 a xs) (hzB : wz.heap.size ≤ B) (hbz : Below wz.heap.size wz w) :
    Calls Tryd.prog 24 #[v, .agg #[.int .i64 p, .int .i64 l, .slice a xs.length cap]] w fun e w' => ∃ v', e = .returned v' ∧ Buf w' B v' (bs ++ fnBytes ⟨p, l, xs⟩) ∧ Keeps B [5] w w' := by
  have l1 := num_fits hp
  have l2 := num_fits hl
  have hfx : Fits (xs.length : Int) := by unfold Fits; omega
  have l3 := num_fits hfx
  go_enter Tryd.func24, Tryd.ntmps24
  go_wp2_with fail
  have hbox := block_new w #[.int .i64 p, .int .i64 l, .slice a xs.length cap] 44
  refine (putN B v bs p _ hp (hown.alloc _) (by simp; omega) (by omega)).mono ?_
  rintro e w1 ⟨v1, rfl, hb1, hk⟩
  have hbox1 := hk.cell hbox (by simp)
  have hk1 : Keeps B [5] w w1 := ((Keeps.refl _ _ _).alloc _).trans hk
  have c1 := block_cell hbox1
  clear hk hbox
  go_wp2_with fail
  refine (putN B v1 (bs ++ num p) l _ hl hb1 (Nat.le_trans hB hk1.size) (by simp; omega)).mono ?_
  rintro e w2 ⟨v2, rfl, hb2, hk⟩
  have hbox2 := hk.cell hbox1 (by simp)
  have hk2 : Keeps B [5] w w2 := hk1.trans hk
  have c2 := block_cell hbox2
  clear hk hbox1 c1 hk1 hb1
  go_wp2_with fail
  refine (putN B v2 (bs ++ num p ++ num l) xs.length _ hfx hb2 (Nat.le_trans hB hk2.size) (by simp; omega)).mono ?_
  rintro e w3 ⟨v3, rfl, hb3, hk⟩
  have hbox3 := hk.cell hbox2 (by simp)
  have hk3 : Keeps B [5] w w3 := hk2.trans hk
  have c3 := block_cell hbox3
  clear hk hbox2 c2 hk2 hb2
  go_wp2_with fail
  obtain ⟨hd, hhd⟩ : ∃ hd, hd = bs ++ num p ++ num l ++ num xs.length := ⟨_, rfl⟩
  have hdl : hd.length ≤ 900015 := by rw [hhd]; simp; omega
  rw [← hhd] at hb3
  have HD : Hid (hd = bs ++ num p ++ num l ++ num xs.length) := hhd
  clear hhd l1 l2 l3
  go_loopw [0, 23] (fun o i wr => ∃ (k : Nat), k ≤ xs.length ∧ i = .int .i64 k ∧ Buf wr B o (hd ++ codeBytes (xs.take k)) ∧ Keeps B [5] w wr) (fun _ i _ => xs.length - (intOf i).toNat)
  case atStart => exact ⟨0, by omega, rfl, by simpa [codeBytes] using hb3, hk3⟩
  case round =>
    obtain ⟨k, hk, rfl, hbuf, hkr⟩ := hrel
    clear hb3 hk3 hbox3 c3
    have hcl := codeBytes_len hxs k
    by_cases hlt : k < xs.length
    · have hbw : Below wz.heap.size wz wr := hbz.trans ((hkr.toBelow hB).mono hzB)
      obtain ⟨cb, co, rfl, -, e1, e2⟩ := hc k hlt
      have e1' := cell_later hbw e1
      have e2' := cell_later hbw e2
      have hBr : B ≤ wr.heap.size := Nat.le_trans hB hkr.size
      have hfk := hxs xs[k] (List.getElem_mem hlt)
      have m1 := num_fits hfk.1
      have m2 := num_fits hfk.2
      clear e1 e2 hbw
      go_wp2_with fail
      have hX := block_new wr #[.int .i64 xs[k].1, .int .i64 xs[k].2] 47
      refine (putN B _ (hd ++ codeBytes (xs.take k)) xs[k].1 _ hfk.1 (hbuf.alloc _) (by simp; omega) (by simp; omega)).mono ?_
      rintro e w4 ⟨v4, rfl, hb4, hk4⟩
      have hX4 := hk4.cell hX (by simp)
      have x4 := block_cell hX4
      have hk5 : Keeps B [5] w w4 := (hkr.alloc _).trans hk4
      clear hX e1' e2' hk4 hX4 hbuf
      go_wp2_with fail
      refine (putN B _ (hd ++ codeBytes (xs.take k) ++ num xs[k].1) xs[k].2 _ hfk.2 hb4 (Nat.le_trans hB hk5.size) (by simp; omega)).mono ?_
      rintro e w5 ⟨v5, rfl, hb5, hk6⟩
      have hk7 := hk5.trans hk6
      have HS : Hid (codeBytes (xs.take (k + 1)) = codeBytes (xs.take k) ++ (num xs[k].1 ++ num xs[k].2)) := take_flat hlt
      clear x4 hk5 hk6 hb4
      go_wp2
      go_roundw
      case rel => exact ⟨k + 1, by omega, by go_num, by rw [HS.out]; simpa using hb5, hk7⟩
      case measure => simp [intOf]; omega
    · go_wp2
      go_ret
      refine ⟨_, rfl, ?_, hkr⟩
      rw [List.take_of_length_le (by omega), HD.out] at hbuf
      simpa [fnBytes] using hbuf
end Go.Proofs.YtbffmhcahdblnaaDoor
