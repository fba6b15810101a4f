/-
  What is black of one function: turnTo, strikes.
-/
import Derived.Test.YtmjkkpmfneabjaaJ11
import Derived.Test.YtmjkkpmfneabjaaMem3
namespace Go.Proofs.Ytmjkkpmfneabjaa
open Go.RowKit

/-- Nothing that was there is changed but one block. -/
structure But (g : Nat) (w w' : World) : Prop where
  os : w'.os = w.os
  tape : w'.tape = w.tape
  output : w'.output = w.output
  size : w.heap.size ≤ w'.heap.size
  block : ∀ k, k < w.heap.size → k ≠ g → w'.heap[k]? = w.heap[k]?
theorem But.refl (g : Nat) (w : World) : But g w w := ⟨rfl, rfl, rfl, Nat.le_refl _, fun _ _ _ => rfl⟩
theorem But.trans {g : Nat} {a b c : World} (h : But g a b) (k : But g b c) : But g a c :=
  ⟨k.os.trans h.os, k.tape.trans h.tape, k.output.trans h.output, Nat.le_trans h.size k.size, fun i hi hg => (k.block i (Nat.lt_of_lt_of_le hi h.size) hg).trans (h.block i hi hg)⟩
theorem But.of_below {g : Nat} {w w' : World} (h : Below w.heap.size w w') : But g w w' := ⟨h.os, h.tape, h.output, h.size, fun k hk _ => h.block k hk⟩
theorem But.below {g B : Nat} {a w w' : World} (hb : Below B a w) (h : But g w w') (hg : B ≤ g) (hB : B ≤ w.heap.size) : Below B a w' :=
  ⟨h.os.trans hb.os, h.tape.trans hb.tape, h.output.trans hb.output, Nat.le_trans hb.size h.size, fun k hk => (h.block k (by omega) (by omega)).trans (hb.block k hk)⟩
theorem But.set (g : Nat) (w : World) (o : Obj) : But g w (ChangeMaps.setBlock w g o) :=
  ⟨rfl, rfl, rfl, by simp [ChangeMaps.setBlock], fun k _ hg => by simp [ChangeMaps.setBlock, Array.getElem?_setIfInBounds_ne (fun e => hg e.symm)]⟩
theorem lt_size {w : World} {g : Nat} {o : Obj} (h : w.heap[g]? = some o) : g < w.heap.size := by
  rcases Nat.lt_or_ge g w.heap.size with hl | hl
  · exact hl
  · rw [Array.getElem?_eq_none hl] at h; cases h
theorem But.kept {g k : Nat} {w w' : World} {o : Obj} (h : But g w w') (hk : k ≠ g) (ho : w.heap[k]? = some o) : w'.heap[k]? = some o := (h.block k (lt_size ho) hk).trans ho
theorem But.cell {g b i : Nat} {w w' : World} {v : Value} (h : But g w w') (hb : b ≠ g) (hv : w.cell? ⟨b, i, none⟩ = some v) : w'.cell? ⟨b, i, none⟩ = some v := by
  have hl : b < w.heap.size := by
    rcases Nat.lt_or_ge b w.heap.size with hl | hl
    · exact hl
    · simp [World.cell?, Array.getElem?_eq_none hl] at hv
  rw [World.cell?_of_block (w := w) (h.block b hl hb)]
  exact hv
theorem set_map {w : World} {g : Nat} {o o' : Obj} (h : w.heap[g]? = some o) : (ChangeMaps.setBlock w g o').heap[g]? = some o' := by
  have := lt_size h
  simp [ChangeMaps.setBlock, this]
theorem MapIs.later {w w' : World} {g : Nat} {ks : List Si} (h : MapIs w g ks) (hb : Below w.heap.size w w') : MapIs w' g ks := by
  obtain ⟨es, c, h1, h2⟩ := h
  exact ⟨es, c, block_kept h1 hb, h2⟩
theorem MapIs.no_cell {w : World} {g i : Nat} {ks : List Si} {v : Value} (h : MapIs w g ks) : w.cell? ⟨g, i, none⟩ ≠ some v := by
  obtain ⟨es, c, h1, h2⟩ := h
  simp [World.cell?, h1]
theorem SitesAt.but {w w' : World} {g lo : Nat} {a : Option Addr} {ss ks : List Si} (h : SitesAt w lo a ss) (hm : MapIs w g ks) (hb : But g w w') : SitesAt w' lo a ss := by
  intro i hi
  obtain ⟨b, off, h1, h2, h3, h4, h5, h6⟩ := h i hi
  have hne : b ≠ g := fun e => by subst e; exact hm.no_cell h3
  exact ⟨b, off, h1, h2, hb.cell hne h3, hb.cell hne h4, hb.cell hne h5, hb.cell hne h6⟩
theorem CodeAt.but {w w' : World} {g lo : Nat} {a : Option Addr} {xs : List (Int × Int)} {ks : List Si} (h : CodeAt w lo a xs) (hm : MapIs w g ks) (hb : But g w w') : CodeAt w' lo a xs := by
  intro i hi
  obtain ⟨b, off, h1, h2, h3, h4⟩ := h i hi
  have hne : b ≠ g := fun e => by subst e; exact hm.no_cell h3
  exact ⟨b, off, h1, h2, hb.cell hne h3, hb.cell hne h4⟩
theorem FnsAt.but {w w' : World} {g lo : Nat} {a : Option Addr} {fs : List Fn} {ks : List Si} (h : FnsAt w lo a fs) (hm : MapIs w g ks) (hb : But g w w') : FnsAt w' lo a fs := by
  intro i hi
  obtain ⟨b, off, ca, cc, h1, h2, h3, h4, h5, h6⟩ := h i hi
  have hne : b ≠ g := fun e => by subst e; exact hm.no_cell h3
  exact ⟨b, off, ca, cc, h1, h2, hb.cell hne h3, hb.cell hne h4, hb.cell hne h5, h6.but hm hb⟩

/-- A guess as it stands among what is black. -/
def bare (u : Si) : Si := ⟨u.f, u.pc, u.seen, 0⟩

set_option maxHeartbeats 400000 in
theorem withoutTarget_any (a b c d : Int) (w : World) :
    Calls Try.prog 85 #[.agg #[.int .i64 a, .int .i64 b, .int .i64 c, .int .i64 d]] w fun e w' => e = .returned (.agg #[.int .i64 a, .int .i64 b, .int .i64 c, .int .i64 0]) ∧ Below w.heap.size w w' := by
  go_enter Try.func85, Try.ntmps85
  go_wp2
  refine bodyPost_ret (v := .agg #[.int .i64 a, .int .i64 b, .int .i64 c, .int .i64 0]) (by simp [results, Try.results85, go_sem]) rfl ⟨rfl, ?_⟩
  repeat (first | refine Below.setCell ?_ (by first | omega | (simp; omega) | simp) _ | refine Below.alloc ?_ (by first | omega | (simp; omega) | simp) _ | exact Below.refl _ _)

theorem len_map {w : World} {g : Nat} {ks : List Si} (h : MapIs w g ks) : (Builtin.len_ #[107] 3 #[.map (some g)]).run Try.prog w = .ok (.int .i64 ks.length) w := by
  obtain ⟨es, c, h1, h2⟩ := h
  have hl : es.size = ks.length := by simpa using congrArg List.length h2
  simp [Builtin.len_, run_underlying Try.underlying107, MapKept.run_getObj_map h1, goInt, hl]

set_option maxRecDepth 100000 in
set_option maxHeartbeats 1000000 in
theorem strikes_any (g : Nat) (u : Si) (ks : List Si) (w : World) (hm : MapIs w g ks) :
    Calls Try.prog 65 #[.map (some g), .agg #[.int .i64 u.f, .int .i64 u.pc, .int .i64 u.seen, .int .i64 u.target]] w fun e w' => ∃ ks', e = .returned (.bool (decide (bare u ∈ ks))) ∧ MapIs w' g ks' ∧ ks'.length ≤ ks.length ∧ (∀ x, x ≠ bare u → (x ∈ ks' ↔ x ∈ ks)) ∧ But g w w' := by
  have hb0 : Below w.heap.size w (w.alloc (.cells #[.int .i64 u.f, .int .i64 u.pc, .int .i64 u.seen, .int .i64 u.target] 44)) := (Below.refl _ _).alloc (Nat.le_refl _) _
  have HM := hm.later hb0
  have l0 := len_map HM
  have hX := block_new w #[.int .i64 u.f, .int .i64 u.pc, .int .i64 u.seen, .int .i64 u.target] 44
  go_enter Try.func65, Try.ntmps65
  go_wp2_with fail
  refine (withoutTarget_any _ _ _ _ _).mono ?_
  rintro e w2 ⟨rfl, hb2⟩
  have HM2 := HM.later hb2
  have hB2 := hb0.trans (hb2.mono hb0.size)
  obtain ⟨es, c, ks', hdel, hkeys, hlen, hle, hmem⟩ := del_key (bare u) g ks 0 w2 HM2
  obtain ⟨w3, hw3⟩ : ∃ w3, w3 = ChangeMaps.setBlock w2 g (.map es c) := ⟨_, rfl⟩
  rw [← hw3] at hdel
  have hM3 : MapIs w3 g ks' := by
    obtain ⟨es0, c0, h1, -⟩ := HM2
    exact ⟨es, c, by rw [hw3]; exact set_map h1, hkeys⟩
  have hB3 : But g w w3 := by rw [hw3]; exact (But.of_below hB2).trans (But.set _ _ _)
  have l3 := len_map hM3
  have hdel' : (Builtin.delete_ #[107, 44] 0 #[.map (some g), .agg #[.int .i64 u.f, .int .i64 u.pc, .int .i64 u.seen, .int .i64 0]]).run Try.prog w2 = .ok (.tuple #[]) w3 := hdel
  have HLEN : Hid (ks'.length < ks.length ↔ bare u ∈ ks) := hlen
  have HREST : Hid (MapIs w3 g ks' ∧ ks'.length ≤ ks.length ∧ (∀ x, x ≠ bare u → (x ∈ ks' ↔ x ∈ ks)) ∧ But g w w3) := ⟨hM3, hle, hmem, hB3⟩
  clear hw3 hdel hkeys hlen hle hmem hM3 hB3 HM2 HM hX l0 hb2 hB2 hb0 hm
  go_wp2
  go_ret
  refine ⟨ks', ret_bool ?_, HREST.out⟩
  rw [Bool.eq_iff_iff]
  simp only [decide_eq_true_eq]
  rw [← HLEN.out]

set_option maxRecDepth 100000 in
set_option maxHeartbeats 1000000 in
theorem turnTo_any (g : Nat) (f : Int) (a : Option Addr) (cap : Nat) (bs ks : List Si) (w : World) (hm : MapIs w g ks) (hn : bs.length ≤ 1048576) (hs : SitesAt w 0 a bs) :
    Calls Try.prog 63 #[.map (some g), .int .i64 f, .slice a bs.length cap] w fun e w' => e = .returned (.tuple #[]) ∧ (∃ ks', MapIs w' g ks' ∧ ks'.length ≤ bs.length ∧ (∀ x, x ∈ ks' ↔ ∃ t ∈ bs, t.f = f ∧ x = bare t)) ∧ But g w w' := by
  obtain ⟨c0, hcl⟩ := clear_keys g ks 0 w hm
  obtain ⟨w1, hw1⟩ : ∃ w1, w1 = ChangeMaps.setBlock w g (.map #[] c0) := ⟨_, rfl⟩
  rw [← hw1] at hcl
  have hM1 : MapIs w1 g [] := by
    obtain ⟨es0, c0', h1, -⟩ := hm
    exact ⟨#[], c0, by rw [hw1]; exact set_map h1, rfl⟩
  have hB1 : But g w w1 := by rw [hw1]; exact But.set _ _ _
  clear hw1
  go_enter Try.func63, Try.ntmps63
  go_wp2
  clear hcl
  go_loopw [11] (fun i wr => ∃ (k : Nat), k ≤ bs.length ∧ i = .int .i64 k ∧ Hid (∃ ks', MapIs wr g ks' ∧ ks'.length ≤ k ∧ (∀ x, x ∈ ks' ↔ ∃ j, ∃ (hj : j < bs.length), j < k ∧ bs[j].f = f ∧ x = bare bs[j])) ∧ Hid (But g w wr)) (fun i _ => bs.length - (intOf i).toNat)
  case atStart => exact ⟨0, by omega, rfl, ⟨[], hM1, by simp, fun x => by simp⟩, hB1⟩
  case round =>
    obtain ⟨k, hk, rfl, HK, HB⟩ := hrel
    by_cases hlt : k < bs.length
    case neg =>
      have HP : Hid (∃ ks', MapIs wr g ks' ∧ ks'.length ≤ bs.length ∧ (∀ x, x ∈ ks' ↔ ∃ t ∈ bs, t.f = f ∧ x = bare t)) := by
        obtain ⟨ks', h1, h2, h3⟩ := HK.out
        refine ⟨ks', h1, by omega, fun x => ?_⟩
        rw [h3]
        constructor
        · rintro ⟨j, hj, -, h4, h5⟩
          exact ⟨bs[j], List.getElem_mem hj, h4, h5⟩
        · rintro ⟨t, ht, h4, h5⟩
          obtain ⟨j, hj, rfl⟩ := List.getElem_of_mem ht
          exact ⟨j, hj, by omega, h4, h5⟩
      clear HK
      go_wp2
      go_end0
      exact ⟨rfl, HP.out, HB.out⟩
    have hS := hs.but hm HB.out
    obtain ⟨b, off, rfl, -, d1, d2, d3, d4⟩ := hS k hlt
    clear hS
    by_cases h1 : bs[k].f = f
    case neg =>
      obtain ⟨bf, hbf⟩ : ∃ bf, bf = bs[k].f := ⟨_, rfl⟩
      rw [← hbf] at d1 h1
      have HBF : Hid (bf = bs[k].f) := hbf
      clear hbf
      go_wp2
      go_roundw
      case rel =>
        refine ⟨k + 1, by omega, by go_num, ?_, HB.out.trans (But.of_below ((Below.refl _ _).alloc (Nat.le_refl _) _))⟩
        obtain ⟨ks', g1, g2, g3⟩ := HK.out
        refine ⟨ks', g1.later ((Below.refl _ _).alloc (Nat.le_refl _) _), by omega, fun x => ?_⟩
        rw [g3]
        constructor
        · rintro ⟨j, hj, h4, h5⟩
          exact ⟨j, hj, by omega, h5⟩
        · rintro ⟨j, hj, h4, h5, h6⟩
          refine ⟨j, hj, ?_, h5, h6⟩
          by_cases e : j = k
          · subst e; exact absurd (HBF.out.trans h5) h1
          · omega
      case measure => simp [intOf]; omega
    obtain ⟨ks', g1, g2, g3⟩ := HK.out
    have hbA : Below wr.heap.size wr (wr.alloc (.cells #[.int .i64 bs[k].f, .int .i64 bs[k].pc, .int .i64 bs[k].seen, .int .i64 bs[k].target] 44)) := (Below.refl _ _).alloc (Nat.le_refl _) _
    have hMA := g1.later hbA
    obtain ⟨wA, hwA⟩ : ∃ wA, wA = wr.alloc (.cells #[.int .i64 bs[k].f, .int .i64 bs[k].pc, .int .i64 bs[k].seen, .int .i64 bs[k].target] 44) := ⟨_, rfl⟩
    rw [← hwA] at hbA hMA
    have HG : Hid (MapIs wr g ks' ∧ ks'.length ≤ k ∧ ∀ x, x ∈ ks' ↔ ∃ j, ∃ (hj : j < bs.length), j < k ∧ bs[j].f = f ∧ x = bare bs[j]) := ⟨g1, g2, g3⟩
    have H1 : Hid (bs[k].f = f) := h1
    obtain ⟨bf, hbf⟩ : ∃ bf, bf = bs[k].f := ⟨_, rfl⟩
    have hwA' : wA = wr.alloc (.cells #[.int .i64 bf, .int .i64 bs[k].pc, .int .i64 bs[k].seen, .int .i64 bs[k].target] 44) := by rw [hwA, hbf]
    rw [← hbf] at d1 h1
    have HBF : Hid (bf = bs[k].f) := hbf
    clear g1 g2 g3 hbf hwA HK
    subst h1
    go_wp2_with fail
    rw [← hwA']
    clear hwA'
    refine (withoutTarget_any _ _ _ _ _).mono ?_
    rintro e w2 ⟨rfl, hb2⟩
    have hM2 := hMA.later hb2
    obtain ⟨es, c, ks2, hput, hkeys, hlen, hmem⟩ := put_key (bare bs[k]) (.agg #[]) g ks' w2 hM2
    obtain ⟨w3, hw3⟩ : ∃ w3, w3 = ChangeMaps.setBlock w2 g (.map es c) := ⟨_, rfl⟩
    rw [← hw3] at hput
    have hM3 : MapIs w3 g ks2 := by
      obtain ⟨es0, c0, h1, -⟩ := hM2
      exact ⟨es, c, by rw [hw3]; exact set_map h1, hkeys⟩
    have hB3 : But g w w3 := by rw [hw3]; exact (HB.out.trans (But.of_below (hbA.trans (hb2.mono hbA.size)))).trans (But.set _ _ _)
    have hput' : (Instr.mapUpdate 107 (.map (some g)) (.agg #[.int .i64 bf, .int .i64 bs[k].pc, .int .i64 bs[k].seen, .int .i64 0]) (.agg #[])).run Try.prog w2 = .ok () w3 := by rw [HBF.out]; exact hput
    have HM3 : Hid (∃ ks', MapIs w3 g ks' ∧ ks'.length ≤ k + 1 ∧ (∀ x, x ∈ ks' ↔ ∃ j, ∃ (hj : j < bs.length), j < k + 1 ∧ bs[j].f = bf ∧ x = bare bs[j])) := by
      refine ⟨ks2, hM3, by have := HG.out.2.1; omega, fun x => ?_⟩
      rw [hmem, HG.out.2.2]
      constructor
      · rintro (⟨j, hj, h4, h5⟩ | rfl)
        · exact ⟨j, hj, by omega, h5⟩
        · exact ⟨k, hlt, by omega, HBF.out.symm, rfl⟩
      · rintro ⟨j, hj, h4, h5, h6⟩
        by_cases e : j = k
        · subst e; exact .inr h6
        · exact .inl ⟨j, hj, by omega, h5, h6⟩
    have HB3 : Hid (But g w w3) := hB3
    clear hw3 hput hkeys hlen hmem hM3 hB3 hM2 HG hMA hbA hb2 d1 d2 d3 d4
    go_wp2
    go_roundw
    case rel => exact ⟨k + 1, by omega, by go_num, HM3.out, HB3.out⟩
    case measure => simp [intOf]; omega
end Go.Proofs.Ytmjkkpmfneabjaa
