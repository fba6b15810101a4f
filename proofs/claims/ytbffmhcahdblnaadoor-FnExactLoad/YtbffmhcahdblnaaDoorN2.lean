/-
  What the walk of the document's Load holds: its result, its module and its reader, each in a block of its own.
-/
import Derived.Test.YtbffmhcahdblnaaDoorN1
import Derived.Test.YtbffmhcahdblnaaDoorS4
namespace Go.Proofs.YtbffmhcahdblnaaDoor
open Go.RowKit

theorem TkAt.far {w w' : World} {R n cap q B : Nat} {ab : Option Addr} {bd : Bool} (h : TkAt w R ab n cap q bd) (hb : Below B w w') (hR : R < B) : TkAt w' R ab n cap q bd := by
  unfold TkAt
  rw [hb.block R hR]
  exact h
theorem far_grown {w w' : World} {base e size n : Nat} {v : Value} {xs : List Value} (hown : w.ownsRow base e size v n xs) (hg : w.grownBy w' v.ownBlock) (hb : base ≤ w.heap.size) : Below base w w' :=
  ⟨hg.os, hg.tape, hg.output, hg.size, fun k hk => hg.block k (by omega) (fun e => by have := (hown.lt k e.symm).1; omega)⟩

/-- The result's block, the module's, the reader's. -/
structure LdAt (w wr : World) (M R : Nat) (ab : Option Addr) (n cap q : Nat) (bd : Bool) (v1 v2 : Value) : Prop where
  eM : M = w.heap.size + 1
  eR : R = w.heap.size + 2
  res : wr.heap[w.heap.size]? = some (Obj.cells #[.slice none 0 0, .slice none 0 0] 27 (0, 0))
  mod : wr.heap[M]? = some (Obj.cells #[v1, v2] 27 (0, 0))
  take : TkAt wr R ab n cap q bd
  below : Below w.heap.size w wr
theorem LdAt.size {w wr : World} {M R : Nat} {ab : Option Addr} {n cap q : Nat} {bd : Bool} {v1 v2 : Value} (h : LdAt w wr M R ab n cap q bd v1 v2) : w.heap.size + 3 ≤ wr.heap.size := by
  have := h.take.lt
  have := h.eR
  omega
theorem LdAt.far {w wr w' : World} {M R : Nat} {ab : Option Addr} {n cap q : Nat} {bd : Bool} {v1 v2 : Value} (h : LdAt w wr M R ab n cap q bd v1 v2) (hb : Below (w.heap.size + 3) wr w') : LdAt w w' M R ab n cap q bd v1 v2 :=
  ⟨h.eM, h.eR, by rw [hb.block _ (by omega)]; exact h.res, by rw [hb.block _ (by have := h.eM; omega)]; exact h.mod, h.take.far hb (by have := h.eR; omega), h.below.trans (hb.mono (by omega))⟩
theorem LdAt.only {w wr w' : World} {M R : Nat} {ab : Option Addr} {n cap q q' : Nat} {bd bd' : Bool} {v1 v2 : Value} (h : LdAt w wr M R ab n cap q bd v1 v2) (ho : Only R wr w') (ht : TkAt w' R ab n cap q' bd') : LdAt w w' M R ab n cap q' bd' v1 v2 := by
  have e1 := h.eM
  have e2 := h.eR
  exact ⟨e1, e2, ho.blk h.res (by omega), ho.blk h.mod (by omega), ht, h.below.trans (ho.below (by omega) (by have := h.size; omega))⟩
theorem LdAt.set0 {w wr : World} {M R : Nat} {ab : Option Addr} {n cap q : Nat} {bd : Bool} {v1 v2 : Value} (h : LdAt w wr M R ab n cap q bd v1 v2) (v : Value) : LdAt w (wr.setCell ⟨M, 0, none⟩ v) M R ab n cap q bd v v2 := by
  have e1 := h.eM
  have e2 := h.eR
  refine ⟨e1, e2, ?_, ?_, ?_, h.below.setCell (by show _ ≤ M; omega) _⟩
  · rw [Below.heap_setCell _ _ _ _ (by show _ ≠ M; omega)]; exact h.res
  · have := block_set (i := 0) h.mod v
    simpa using this
  · unfold TkAt
    rw [Below.heap_setCell _ _ _ _ (by show _ ≠ M; omega)]; exact h.take
theorem LdAt.set1 {w wr : World} {M R : Nat} {ab : Option Addr} {n cap q : Nat} {bd : Bool} {v1 v2 : Value} (h : LdAt w wr M R ab n cap q bd v1 v2) (v : Value) : LdAt w (wr.setCell ⟨M, 1, none⟩ v) M R ab n cap q bd v1 v := by
  have e1 := h.eM
  have e2 := h.eR
  refine ⟨e1, e2, ?_, ?_, ?_, h.below.setCell (by show _ ≤ M; omega) _⟩
  · rw [Below.heap_setCell _ _ _ _ (by show _ ≠ M; omega)]; exact h.res
  · have := block_set (i := 1) h.mod v
    simpa using this
  · unfold TkAt
    rw [Below.heap_setCell _ _ _ _ (by show _ ≠ M; omega)]; exact h.take
theorem LdAt.go {w wr : World} {M R : Nat} {ab : Option Addr} {n cap q : Nat} {bd : Bool} {v1 v2 : Value} (h : LdAt w wr M R ab n cap q bd v1 v2) (x : Int) (q' : Nat) (e : x = (q' : Int)) : LdAt w (wr.setCell ⟨R, 1, none⟩ (.int .i64 x)) M R ab n cap q' bd v1 v2 := by
  have e1 := h.eM
  have e2 := h.eR
  refine ⟨e1, e2, ?_, ?_, h.take.go x q' e, h.below.setCell (by show _ ≤ R; omega) _⟩
  · rw [Below.heap_setCell _ _ _ _ (by show _ ≠ R; omega)]; exact h.res
  · rw [Below.heap_setCell _ _ _ _ (by show _ ≠ R; omega)]; exact h.mod
theorem LdAt.draws {w wr : World} {M R : Nat} {ab : Option Addr} {n cap q : Nat} {bd : Bool} {v1 v2 : Value} (h : LdAt w wr M R ab n cap q bd v1 v2) (k : Nat) : LdAt w (wr.drewN k) M R ab n cap q bd v1 v2 := h.far (below_draws (Below.refl _ _) k)
/-- At the beginning. -/
theorem LdAt.start (w : World) (ab : Option Addr) (n cap : Nat) : LdAt w (((w.alloc (.cells #[.slice none 0 0, .slice none 0 0] 27)).alloc (.cells #[.slice none 0 0, .slice none 0 0] 27)).alloc (.cells #[.slice ab n cap, .int .i64 0, .bool false] 69)) (w.heap.size + 1) (w.heap.size + 1 + 1) ab n cap 0 false (.slice none 0 0) (.slice none 0 0) := by
  refine ⟨rfl, rfl, block_old (block_old (block_new w #[.slice none 0 0, .slice none 0 0] 27) _) _, ?_, ?_, ((((Below.refl _ _).alloc (Nat.le_refl _) _).alloc (by simp) _).alloc (by simp only [World.size_alloc]; omega) _)⟩
  · have := block_old (block_new (w.alloc (.cells #[.slice none 0 0, .slice none 0 0] 27)) #[.slice none 0 0, .slice none 0 0] 27) (.cells #[.slice ab n cap, .int .i64 0, .bool false] 69)
    simpa using this
  · have := block_new ((w.alloc (.cells #[.slice none 0 0, .slice none 0 0] 27)).alloc (.cells #[.slice none 0 0, .slice none 0 0] 27)) #[.slice ab n cap, .int .i64 0, .bool false] 69
    simpa [TkAt] using this

/-- A piece of the bytes as a text. -/
theorem cut_text (ab : Option Addr) (bs : List Int) (cap q n : Nat) (w : World) (h0 : 0 < bs.length) (hn : bs.length ≤ 1048576) (hb : BytesAt w 0 ab bs) (hcap : bs.length ≤ cap) (hq : q + n ≤ bs.length) :
    ∃ v : Value, (∀ w' : World, (Instr.slice 22 (.slice ab bs.length cap) (some (.int .i64 q)) (some (.int .i64 ((q : Int) + (n : Int)))) none).run Tryd.prog w' = .ok v w') ∧
      (∀ w' : World, (Instr.sliceAt 22 (.slice ab bs.length cap) (some (.int .i64 q)) (some (.int .i64 ((q : Int) + (n : Int)))) none).run Tryd.prog w' = .ok v w') ∧
      (∀ w' : World, Below w.heap.size w w' → (convert 22 9 v).run Tryd.prog w' = .ok (.string (strOfNums ((bs.drop q).take n))) w') := by
  obtain ⟨b, off, rfl, -, -⟩ := hb 0 h0
  have e1 : ((q : Int) + (n : Int)).toNat - q = n := by omega
  obtain ⟨o, c', hsl, hA⟩ : ∃ (o c' : Nat), (∀ w' : World, (Instr.slice 22 (.slice (some ⟨b, off, none⟩) bs.length cap) (some (.int .i64 q)) (some (.int .i64 ((q : Int) + (n : Int)))) none).run Tryd.prog w' = .ok (.slice (some ⟨b, o, none⟩) n c') w') ∧ (0 < n → o = off + q) := by
    by_cases hc : q < cap
    · refine ⟨off + q, cap - q, fun w' => ?_, fun _ => rfl⟩
      rw [run_slice_lh w' 22 (some ⟨b, off, none⟩) bs.length cap (by kernel_rfl) .i64 .i64 q ((q : Int) + (n : Int)) (by omega) (by omega) (by omega)]
      rw [size5 w']
      have e2 : ¬ cap = q := by omega
      simp only [Result.andThen, sliced, Int.toNat_natCast, e1, if_neg e2, Option.map_some, Nat.mul_one, Go.WideShapes.add_plain]
    · refine ⟨off, cap - q, fun w' => ?_, fun h => by omega⟩
      rw [run_slice_lh w' 22 (some ⟨b, off, none⟩) bs.length cap (by kernel_rfl) .i64 .i64 q ((q : Int) + (n : Int)) (by omega) (by omega) (by omega)]
      rw [size5 w']
      have e2 : cap = q := by omega
      simp only [Result.andThen, sliced, Int.toNat_natCast, e1, if_pos e2]
  refine ⟨_, hsl, fun w' => (run_sliceAt_slice w' 22 _ _ _ _ (by kernel_rfl)).trans (hsl w'), fun w' hw' => ?_⟩
  refine run_convert_bytes_arg (P := Tryd.prog) w' 22 5 Tryd.underlying22 Tryd.underlying5 b o n c' ((bs.drop q).take n) (by simp; omega) (fun i hi => ?_) 9 Tryd.underlying9
  rw [hA (by omega)]
  obtain ⟨b', off', hbo, -, c1⟩ := hb (q + i) (by omega)
  cases hbo
  rw [show off + q + i = off + (q + i) by omega]
  refine (cell_later hw' c1).trans ?_
  rw [List.getD_eq_getElem?_getD, List.getElem?_take_of_lt hi, List.getElem?_drop, List.getElem?_eq_getElem (by omega)]
  rfl

set_option maxHeartbeats 400000 in
theorem sNumber_end (R : Nat) (ab : Option Addr) (n cap p : Nat) (bd : Bool) (w : World) (hR : TkAt w R ab n cap p bd) (hp : n ≤ p) :
    Calls Tryd.prog 39 #[.pointer (some ⟨R, 0, none⟩)] w fun e w' => e = .returned (.int .i64 0) ∧ TkAt w' R ab n cap p true ∧ Only R w w' := by
  have hp' : (n : Int) ≤ (p : Int) := by omega
  go_enter Tryd.func39, Tryd.ntmps39
  go_wp2
  go_loopw [3, 4, 5] (fun _ _ i wr => i = .int .i64 0 ∧ TkAt wr R ab n cap p bd ∧ Only R w wr) (fun _ _ _ _ => 0)
  case atStart => exact ⟨rfl, hR, Only.refl _ _⟩
  case round =>
    obtain ⟨rfl, hRr, hor⟩ := hrel
    have rc := block_cell hRr
    have rf := block_free hRr
    go_wp2
    go_quiet (fail)
    go_wp2
    go_ret
    exact ⟨rfl, (hRr.draws _).bad, (hor.draws _).set _ _⟩
set_option maxHeartbeats 400000 in
theorem sCount_end (R : Nat) (ab : Option Addr) (n cap p : Nat) (bd : Bool) (most : Nat) (w : World) (hR : TkAt w R ab n cap p bd) (hp : n ≤ p) :
    Calls Tryd.prog 38 #[.pointer (some ⟨R, 0, none⟩), .int .i64 most] w fun e w' => e = .returned (.int .i64 0) ∧ TkAt w' R ab n cap p true ∧ Only R w w' := by
  go_enter Tryd.func38, Tryd.ntmps38
  go_wp2_with fail
  refine (sNumber_end R ab n cap p bd _ hR hp).mono ?_
  rintro e w1 ⟨rfl, hR1, ho1⟩
  go_wp2_with fail
  refine (between_any _ _ _ _).mono ?_
  rintro e w2 ⟨rfl, rfl⟩
  have hd : (decide ((0 : Int) ≤ (0 : Int)) && decide ((0 : Int) ≤ (most : Int))) = true := by simp
  rw [hd]
  go_wp2
  go_ret
  exact ⟨rfl, hR1, ho1⟩
theorem sCount_pos (R : Nat) (ab : Option Addr) (bs : List Int) (cap p : Nat) (bd : Bool) (most : Nat) (w wz : World) (I : In wz R ab bs cap) (hR : TkAt w R ab bs.length cap p bd) (hp : p ≤ bs.length) (hbz : Below wz.heap.size wz w) :
    Calls Tryd.prog 38 #[.pointer (some ⟨R, 0, none⟩), .int .i64 most] w fun e w' =>
      ∃ (n q : Nat) (bd' : Bool), n ≤ most ∧ q ≤ bs.length ∧ e = .returned (.int .i64 n) ∧ TkAt w' R ab bs.length cap q bd' ∧ Only R w w' ∧ (∀ v r, pCount most (bs.drop p) = some (v, r) → n = v ∧ bs.drop q = r ∧ bd' = bd) ∧ (n = 0 ∨ 0 < bs.length) := by
  by_cases h : p < bs.length
  · refine (sCount_any R ab bs cap p bd most w wz I hR hp hbz).mono ?_
    rintro e w' ⟨n, q, bd', h1, h2, h3, h4, h5, h6⟩
    exact ⟨n, q, bd', h1, h2, h3, h4, h5, h6, Or.inr (by omega)⟩
  · refine (sCount_end R ab bs.length cap p bd most w hR (by omega)).mono ?_
    rintro e w' ⟨rfl, h4, h5⟩
    refine ⟨0, p, true, by omega, hp, rfl, h4, h5, fun v r hx => ?_, Or.inl rfl⟩
    have := pCount_num_of hx
    rw [List.drop_of_length_le (by omega)] at this
    simp [pNum, rdNum] at this
end Go.Proofs.YtbffmhcahdblnaaDoor
