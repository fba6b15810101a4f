/-
  The document's l08Mark, l08Leaders and l08Heads.
  Small ones of folding: a set's member, a list's member, which work an Op does.
  The document's l08Leaders and l08Heads.
  The document's l08Leaders.
-/
import Derived.Test.YtjdoljaailokmaaGreatDoorZFQ11
import Derived.Maps.AppendAt
import Derived.Test.YtjdoljaailokmaaGreatDoorZFQ4
namespace Go.Proofs.YtjdoljaailokmaaGreatDoor
open Go.RowKit

theorem infoB : (Tryz.prog.info? 4).map (fun i => (i.zero, i.size, i.bytes)) = some (some (.bool false), 1, 1) := by kernel_rfl

/-- A row of marks: those at which P holds. -/
def MkP (w : World) (g n : Nat) (P : Nat → Prop) : Prop := ∃ c : Array Value, w.heap[g]? = some (.cells c 4 (0, 0)) ∧ c.size = n ∧ ∀ j, j < n → c[j]? = some (.bool (pB (P j)))
theorem MkP.mono {w w' : World} {g n : Nat} {P : Nat → Prop} (h : MkP w g n P) (hb : Below w.heap.size w w') : MkP w' g n P := by
  obtain ⟨c, h1, h2, h3⟩ := h
  exact ⟨c, block_kept h1 hb, h2, h3⟩
theorem MkP.cell {w : World} {g n j : Nat} {P : Nat → Prop} (h : MkP w g n P) (hj : j < n) : w.cell? ⟨g, j, none⟩ = some (.bool (pB (P j))) := by
  obtain ⟨c, h1, h2, h3⟩ := h
  rw [block_cell h1]; exact h3 j hj
theorem MkP.free {w : World} {g n : Nat} {P : Nat → Prop} (h : MkP w g n P) (j : Nat) : w.frozen? ⟨g, j, none⟩ = false := by
  obtain ⟨c, h1, -⟩ := h
  exact block_free h1 j
theorem MkP.lt {w : World} {g n : Nat} {P : Nat → Prop} (h : MkP w g n P) : g < w.heap.size := by
  obtain ⟨c, h1, -⟩ := h
  exact lt_block h1
theorem MkP.as {w : World} {g n : Nat} {P Q : Nat → Prop} (h : MkP w g n P) (hq : ∀ j, j < n → (P j ↔ Q j)) : MkP w g n Q := by
  obtain ⟨c, h1, h2, h3⟩ := h
  exact ⟨c, h1, h2, fun j hj => by rw [h3 j hj]; simp only [show P j = Q j from propext (hq j hj)]⟩
theorem MkP.set {w : World} {g n i : Nat} {P : Nat → Prop} (h : MkP w g n P) (hi : i < n) : MkP (w.setCell ⟨g, i, none⟩ (.bool true)) g n (fun j => P j ∨ j = i) := by
  obtain ⟨c, h1, h2, h3⟩ := h
  refine ⟨_, block_set h1 _, by simpa using h2, fun j hj => ?_⟩
  by_cases e : j = i
  · subst e
    rw [set_self _ (by omega), pB_yes (.inr rfl)]
  · rw [set_else _ e, h3 j hj]
    simp only [show (P j ∨ j = i) = P j from propext ⟨fun h => h.elim id (fun h => absurd h e), .inl⟩]
theorem MkP.other {w : World} {g n B i : Nat} {P : Nat → Prop} {v : Value} (h : MkP w g n P) (hne : g ≠ B) : MkP (w.setCell ⟨B, i, none⟩ v) g n P := by
  obtain ⟨c, h1, h2, h3⟩ := h
  exact ⟨c, by rw [Below.heap_setCell _ _ _ _ hne]; exact h1, h2, h3⟩

theorem own_dsl {w : World} {B : Nat} {v : Value} {n : Nat} {d : List Int} (h : w.ownsRow B 3 1 v n (d.map (Value.int .i64))) (hn : n = d.length) : DSl w B v d := by
  by_cases h0 : 0 < n
  · obtain ⟨g, cap, hv, hg, hH⟩ := Ht.own h rfl hn h0
    exact .inr ⟨g, cap, by rw [hv, hn], hg, hH⟩
  · have hd : d = [] := List.eq_nil_of_length_eq_zero (by omega)
    rcases h.2 with ⟨hv, -⟩ | ⟨g, cap, cur, hv, -⟩
    · exact .inl ⟨hd, _, _, by rw [hv]⟩
    · exact .inl ⟨hd, _, _, by rw [hv, show n = 0 by omega]⟩

set_option maxRecDepth 100000 in
set_option maxHeartbeats 1000000 in
theorem sMark_any (g n : Nat) (P : Nat → Prop) (w : World) (hn : n ≤ 120) (hM : MkP w g n P) :
    Calls Tryz.prog 55 #[.slice (some ⟨g, 0, none⟩) n n] w fun e w' => ∃ v, e = .returned v ∧ DSl w' w.heap.size v (lstI P n) ∧ Below w.heap.size w w' := by
  obtain ⟨i0, hi, hz0, hz1, hz2⟩ := info_parts info3
  have hE0 : (w.alloc (.cells #[] 3)).ownsRow w.heap.size 3 1 (.slice (some ⟨w.heap.size, 0, none⟩) 0 0) 0 [] := by
    have := World.ownsRow_made (base := w.heap.size) (e := 3) (size := 1) w #[] 0 (Nat.le_refl _) (by unfold maxLen; omega) rfl
    simpa using this
  go_enter Tryz.func55, Tryz.ntmps55
  go_wp2
  go_loopw [3, 4] (fun o i wr => ∃ (k : Nat), k ≤ n ∧ i = .int .i64 k ∧ wr.ownsRow w.heap.size 3 1 o (lstI P k).length ((lstI P k).map (Value.int .i64)) ∧ Below w.heap.size w wr) (fun _ i _ => n - (intOf i).toNat)
  case atStart => exact ⟨0, by omega, rfl, hE0, (Below.refl _ _).alloc (Nat.le_refl _) _⟩
  case round =>
    obtain ⟨k, hk, rfl, hown, hb⟩ := hrel
    clear hE0
    by_cases hlt : k < n
    · have hcl := (hM.mono hb).cell hlt
      have hln := lstI_len P k
      by_cases hp : P k
      · rw [pB_yes hp] at hcl
        have HY : Hid (lstI P (k + 1) = lstI P k ++ [(k : Int)]) := lstI_yes hp
        have hszr := hb.size
        go_wp2_with (first | (at_builtin; refine wpList_append_lies _ rfl _ _ 62 rfl w.heap.size 3 i0 (.int .i64 0) 1 8 Tryz.underlying62 hi hz0 hz1 hz2 rfl (by decide) _ _ _ rfl (World.ownsRow.alloc hown _) ⟨wr.heap.size, 0, none⟩ 1 1 [.int .i64 (k : Int)] rfl rfl (cell_one_new _ _ _) (by intro u hu; simp at hu; subst hu; rfl) (by decide) (by unfold maxLen; omega) (by omega) (by simp; omega) _ rfl ?_; intro g1 cap w1 hown1 hgrow1 hat1 hlt1))
        have hk1 := Keeps.grown (ts := [3]) (World.ownsRow.alloc hown _) hgrow1 (by simp)
        have hb1 : Below w.heap.size w w1 := (hb.alloc hb.size _).trans (hk1.toBelow (by simp; omega))
        go_roundw
        case rel => exact ⟨k + 1, by omega, by go_num, by rw [HY.out]; simpa using hown1, hb1⟩
        case measure => simp [intOf]; omega
      · rw [pB_no hp] at hcl
        have HY : Hid (lstI P (k + 1) = lstI P k) := lstI_no hp
        go_wp2
        go_roundw
        case rel => exact ⟨k + 1, by omega, by go_num, by rw [HY.out]; exact hown, hb⟩
        case measure => simp [intOf]; omega
    · have hkn : k = n := by omega
      subst hkn
      have hds := own_dsl hown rfl
      obtain ⟨a, cap, rfl, -⟩ := hds.form
      go_wp2
      go_ret
      exact ⟨_, rfl, hds, hb⟩
end Go.Proofs.YtjdoljaailokmaaGreatDoor

namespace Go.Proofs.YtjdoljaailokmaaGreatDoor
open Go.RowKit

theorem hid' {p : Prop} (h : p) : Hid p := h
theorem bit_one {x : Nat} (hx : x < 2 ^ 64) (k : Nat) : (bits .and .u64 ((x : Int) / 2 ^ k) 1 == 1) = x.testBit k := by
  have hlt : x / 2 ^ k < 2 ^ 64 := Nat.lt_of_le_of_lt (Nat.div_le_self _ _) hx
  have e1 : (x : Int) / 2 ^ k = ((x / 2 ^ k : Nat) : Int) := by push_cast; rfl
  rw [e1, Nat.testBit_eq_decide_div_mod_eq]
  generalize x / 2 ^ k = y at hlt
  have a1 : (BitVec.ofInt 64 (y : Int)).toNat = y := by
    rw [BitVec.toNat_ofInt]
    omega
  have a2 : (BitVec.ofInt 64 1).toNat = 1 := by decide
  have e2 : ((BitVec.ofInt 64 (y : Int)) &&& (BitVec.ofInt 64 1)).toNat = y % 2 := by
    rw [BitVec.toNat_and, a1, a2, Nat.and_one_is_mod]
  have e3 : bits .and .u64 (y : Int) 1 = IntKind.u64.wrap ((y % 2 : Nat) : Int) := by
    simp only [bits]
    show IntKind.u64.wrap (((BitVec.ofInt 64 (y : Int)) &&& (BitVec.ofInt 64 1)).toNat : Int) = _
    rw [e2]
  rw [e3]
  rcases Nat.mod_two_eq_zero_or_one y with h | h
  · rw [h]; rfl
  · rw [h]; rfl

set_option maxRecDepth 100000 in
set_option maxHeartbeats 1000000 in
theorem has_any (s : Nat × Nat) (k : Nat) (w : World) (hs : bok s) (hk : k < 128) :
    Calls Tryz.prog 44 #[bv s, .int .i64 (k : Int)] w fun e w' => e = .returned (.bool (bhas s k)) ∧ Below w.heap.size w w' := by
  obtain ⟨x, y⟩ := s
  by_cases h : k < 64
  · have HO : Hid ((bits .and .u64 ((x : Int) / 2 ^ k) 1 == 1) = x.testBit k) := bit_one hs.1 k
    have e : bhas (x, y) k = x.testBit k := if_pos h
    rw [e]
    unfold bv
    dsimp only
    have h1 : (k : Int) / 64 = 0 := by omega
    have h2 : k / 64 = 0 := by omega
    have h3 : (k : Int) % 64 = k := by omega
    have h4 : k % 64 = k := by omega
    go_enter Tryz.func44, Tryz.ntmps44
    go_wp2
    rw [HO.out]
    go_ret
    exact ⟨rfl, (Below.refl _ _).alloc (Nat.le_refl _) _⟩
  · have HO : Hid ((bits .and .u64 ((y : Int) / 2 ^ (k - 64)) 1 == 1) = y.testBit (k - 64)) := bit_one hs.2 (k - 64)
    have e : bhas (x, y) k = y.testBit (k - 64) := if_neg h
    rw [e]
    unfold bv
    dsimp only
    have h1 : (k : Int) / 64 = 1 := by omega
    have h2 : k / 64 = 1 := by omega
    have h3 : (k : Int) % 64 = (k : Int) - 64 := by omega
    have h4 : k % 64 = k - 64 := by omega
    have h5 : ((k : Int) - 64).toNat = k - 64 := by omega
    go_enter Tryz.func44, Tryz.ntmps44
    go_wp2
    rw [HO.out]
    go_ret
    exact ⟨rfl, (Below.refl _ _).alloc (Nat.le_refl _) _⟩
theorem intValue_any (n : Int) (w : World) : Calls Tryz.prog 66 #[.int .i64 n] w fun e w' => e = .returned (.agg #[.int .i64 1, .int .i64 n, .string ⟨#[]⟩]) ∧ Below w.heap.size w w' := by
  have hz := block_cell (block_new w #[.int .i64 1, .int .i64 n, .string ⟨#[]⟩] 107)
  have z0 := hz 0
  have z1 := hz 1
  have z2 := hz 2
  go_enter Tryz.func66, Tryz.ntmps66
  go_wp2
  refine bodyPost_ret (v := .agg #[.int .i64 1, .int .i64 n, .string ⟨#[]⟩]) (by simp [results, Tryz.results66, go_sem, z0, z1, z2]) rfl ⟨rfl, (Below.refl _ _).alloc (Nat.le_refl _) _⟩
/-- What an Op does with two numbers. -/
def workV (op : Int) : Value := if op = 11 then .func (.func 79) #[] #[] else if op = 12 then .func (.func 80) #[] #[] else if op = 13 then .func (.func 81) #[] #[] else .nilFunc
theorem work_any (op : Int) (w : World) : Calls Tryz.prog 65 #[.int .i64 op] w fun e w' => e = .returned (workV op) ∧ w' = w := by
  by_cases h1 : op = 11
  · subst h1
    go_enter Tryz.func65, Tryz.ntmps65
    go_wp2
    go_ret
    exact ⟨rfl, rfl⟩
  by_cases h2 : op = 12
  · subst h2
    go_enter Tryz.func65, Tryz.ntmps65
    go_wp2
    go_ret
    exact ⟨rfl, rfl⟩
  by_cases h3 : op = 13
  · subst h3
    go_enter Tryz.func65, Tryz.ntmps65
    go_wp2
    go_ret
    exact ⟨rfl, rfl⟩
  have q1 : (op == 11) = false := beq_eq_false_iff_ne.2 h1
  have q2 : (op == 12) = false := beq_eq_false_iff_ne.2 h2
  have q3 : (op == 13) = false := beq_eq_false_iff_ne.2 h3
  have e : workV op = .nilFunc := by unfold workV; rw [if_neg h1, if_neg h2, if_neg h3]
  rw [e]
  clear e
  go_enter Tryz.func65, Tryz.ntmps65
  go_wp2
  go_ret
  exact ⟨rfl, rfl⟩

set_option maxHeartbeats 1000000 in
theorem has14_any (v : Value) (l : List Int) (n : Int) (B : Nat) (w : World) (hv : DSl w B v l) (hl : l.length ≤ 1000) :
    Calls Tryz.prog 32 #[v, .int .i64 n] w fun e w' => e = .returned (.bool (decide (n ∈ l))) ∧ w' = w := by
  obtain ⟨a, cap, rfl, hI⟩ := hv.form
  go_enter Tryz.func32, Tryz.ntmps32
  go_wp2
  go_loopw [5] (fun i wr => ∃ (k : Nat), k ≤ l.length ∧ i = .int .i64 k ∧ (∀ j (h : j < l.length), j < k → l[j] ≠ n) ∧ wr = w) (fun i _ => l.length - (intOf i).toNat)
  case atStart => exact ⟨0, by omega, rfl, fun j _ h => absurd h (Nat.not_lt_zero _), rfl⟩
  case round =>
    obtain ⟨k, hk, rfl, HN, rfl⟩ := hrel
    by_cases hlt : k < l.length
    · obtain ⟨b, off, rfl, -, d1⟩ := hI k hlt
      by_cases he : l[k] = n
      · have hm : decide (n ∈ l) = true := decide_eq_true (by rw [← he]; exact List.getElem_mem hlt)
        have HM := hid' hm
        have he' : (l[k] == n) = true := by simpa using he
        clear hm HN he
        go_wp2
        go_ret
        exact ⟨congrArg (fun b => Ending.returned (Value.bool b)) HM.out.symm, rfl⟩
      · have he' : (l[k] == n) = false := beq_eq_false_iff_ne.2 he
        have HN2 : Hid (∀ j (h : j < l.length), j < k + 1 → l[j] ≠ n) := fun j h hj => by
          by_cases e : j = k
          · subst e; exact he
          · exact HN j h (by omega)
        clear HN he
        go_wp2
        go_roundw
        case rel =>
          refine ⟨k + 1, by omega, by go_num, ?_, ?_⟩
          · exact HN2.out
          · first | rfl | trivial
        case measure => simp [intOf]; omega
    · have hm : decide (n ∈ l) = false := decide_eq_false (fun h => by
        obtain ⟨j, hj, e⟩ := List.getElem_of_mem h
        exact HN j hj (by omega) e)
      have HM := hid' hm
      clear hm HN
      go_wp2
      go_ret
      exact ⟨congrArg (fun b => Ending.returned (Value.bool b)) HM.out.symm, rfl⟩
end Go.Proofs.YtjdoljaailokmaaGreatDoor

namespace Go.Proofs.YtjdoljaailokmaaGreatDoor
open Go.RowKit

theorem madeB {w1 : World} {base g n : Nat} (h : w1.ownsRow base 4 1 (.slice (some ⟨g, 0, none⟩) n n) n (madeCells (Value.bool false).cells (n * 1)).toList) : MkP w1 g n (fun _ => False) := by
  rcases h.2 with ⟨hv, -⟩ | ⟨g', cap, cur, hv, -, hh, -, -, hs, ht⟩
  · cases hv
  · cases hv
    refine ⟨cur, hh, by omega, fun j hj => ?_⟩
    have h1 : (cur.toList.take (n * 1))[j]? = ((madeCells (Value.bool false).cells (n * 1)).toList)[j]? := by rw [ht]
    rw [List.getElem?_take_of_lt (by omega)] at h1
    rw [pB_no (by simp)]
    have h2 : ((madeCells (Value.bool false).cells (n * 1)).toList)[j]? = some (.bool false) := by
      simp [madeCells, Value.cells, hj, Nat.mod_one]
    rw [h2] at h1
    simpa using h1

end Go.Proofs.YtjdoljaailokmaaGreatDoor

namespace Go.Proofs.YtjdoljaailokmaaGreatDoor
open Go.RowKit

set_option maxRecDepth 100000 in
set_option maxHeartbeats 4000000 in
theorem sLeaders_any (a1 a2 : Option Addr) (nt c1 c2 : Nat) (fs : List Fn) (f : Nat) (w : World) (hf : f < fs.length) (hn : fs.length ≤ 1048576) (hm : FnsAt w 0 a2 fs) (F : Fine fs fs[f].code) (HG : ∀ d, Done fs fs[f].code d → GJ fs[f].code d) :
    Calls Tryz.prog 31 #[.agg #[.slice a1 nt c1, .slice a2 fs.length c2], .int .i64 f] w fun e w' => ∃ v d, e = .returned v ∧ Done fs fs[f].code d ∧ DSl w' w.heap.size v (lstI (LP fs[f].code d fs[f].code.length) fs[f].code.length) ∧ Below w.heap.size w w' := by
  obtain ⟨i0, hi, hz0, hz1, hz2⟩ := info_parts infoB
  have hone := F.one
  have hmost := F.most
  have HM : Hid (FnsAt w 0 a2 fs) := hm
  obtain ⟨b, off, ca, cc, rfl, -, d1, d2, d3, d4⟩ := hm f hf
  have hbA : Below w.heap.size w (w.alloc (.cells #[.slice a1 nt c1, .slice (some ⟨b, off, none⟩) fs.length c2] 29)) := (Below.refl _ _).alloc (Nat.le_refl _) _
  have d3' := cell_later hbA d3
  clear d1 d2 d3
  go_enter Tryz.func31, Tryz.ntmps31
  go_wp2_with fail
  refine (sDepths_any a1 _ nt c1 c2 fs f _ hf hn (HM.out.mono hbA) F).mono ?_
  rintro e w1 ⟨g, cap, d, rfl, hg, hD, hH, hb⟩
  have G := HG d hD
  have H := hD.hts F
  have HDD : Hid (Done fs fs[f].code d) := hD
  have hb1 : Below w.heap.size w w1 := hbA.trans (hb.mono hbA.size)
  have d4' := d4.mono hb1
  obtain ⟨code, hcode⟩ : ∃ code, code = fs[f].code := ⟨_, rfl⟩
  rw [← hcode] at F d4' hone hmost G H
  have HCO : Hid (code = fs[f].code) := hcode
  rw [← hcode]
  clear hcode hbA d3' hD hb d4 HG HM
  go_wp2_with (first | (at_make; refine wpList_make_full _ rfl _ _ 45 rfl w1.heap.size 4 i0 (.bool false) 1 Tryz.underlying45 hi hz0 hz1 _ _ _ _ code.length rfl rfl rfl rfl (by rw [hz2]; omega) (by unfold maxLen; omega) (Nat.le_refl _) ?_; intro w2 hown hgrow; have hM0 := madeB hown; have m0 := hM0.cell (j := 0) (by omega); have m1 := hM0.free 0))
  have hbm : Below w1.heap.size w1 w2 := (Below.refl _ _).grown hgrow (Nat.le_refl _) (by intro k hk; cases hk)
  have hH2 := hH.mono hbm
  have d42 := d4'.mono hbm
  have hb2 : Below w.heap.size w w2 := hb1.trans (hbm.mono hb1.size)
  have hlo : w.heap.size ≤ w1.heap.size := hb1.size
  have HLD : Hid (d.length = code.length) := H.len
  have hM1 := hM0.set (i := 0) (by omega)
  have hH3 : Ht (w2.setCell ⟨w1.heap.size, 0, none⟩ (.bool true)) g cap d := by
    obtain ⟨cc', hc1, hc2⟩ := hH2
    exact ⟨cc', by rw [Below.heap_setCell _ _ _ _ (Nat.ne_of_lt hH.lt)]; exact hc1, hc2⟩
  have hA3 : ∀ X : World, Below w1.heap.size w1 X → CodeAt X 0 ca code := fun X h => d4'.mono h
  have hb3 : Below w1.heap.size w1 (w2.setCell ⟨w1.heap.size, 0, none⟩ (.bool true)) := hbm.setCell (p := ⟨w1.heap.size, 0, none⟩) (Nat.le_refl _) _
  have hM2 : MkP (w2.setCell ⟨w1.heap.size, 0, none⟩ (.bool true)) w1.heap.size code.length (LP code d 0) := hM1.as (fun j _ => by show _ ↔ j = 0; simp)
  clear hM1 hM0 m0 m1 hown hgrow hbm hH2 d42
  have HB1 : Hid (Below w.heap.size w w1) := hb1
  have HA3 : Hid (∀ X : World, Below w1.heap.size w1 X → CodeAt X 0 ca code) := hA3
  have HH1 : Hid (Ht w1 g cap d) := hH
  clear hb1 hb2 hA3 d4' hH3 hH hi hz0 hz1 hz2
  go_loopw [8] (fun i wr => ∃ (k : Nat), k ≤ code.length ∧ i = .int .i64 k ∧ MkP wr w1.heap.size code.length (LP code d k) ∧ Below w1.heap.size w1 wr) (fun i _ => code.length - (intOf i).toNat)
  case atStart => exact ⟨0, by omega, rfl, hM2, hb3⟩
  case round =>
    obtain ⟨k, hk, rfl, hM, hb⟩ := hrel
    clear hM2 hb3
    by_cases hlt : k < code.length
    case neg =>
      obtain rfl : k = code.length := by omega
      go_wp2_with fail
      refine (sMark_any _ _ _ _ hmost hM).mono ?_
      rintro e w5 ⟨v, rfl, hds, k5⟩
      have hB5 : Below w.heap.size w w5 := (HB1.out.trans (hb.mono hlo)).trans (k5.mono (Nat.le_trans hlo hb.size))
      have hds' : DSl w5 w.heap.size v (lstI (LP code d code.length) code.length) := hds.low (Nat.le_trans hlo hb.size)
      obtain ⟨av, cv, rfl, -⟩ := hds.form
      clear hds k5 hM
      go_wp2
      go_ret
      exact ⟨_, d, rfl, HDD.out, by rw [← HCO.out]; exact hds', hB5⟩
    have hkd : k < d.length := by rw [HLD.out]; exact hlt
    obtain ⟨b4, off4, rfl, -, e1, e2⟩ := HA3.out wr hb k hlt
    have e3 := (HH1.out.mono hb).cell hkd
    have ec := getD_at (code := code) hlt
    have ed : d.getD k (-1) = d[k] := by rw [List.getD_eq_getElem?_getD, List.getElem?_eq_getElem hkd]; rfl
    have hlow := H.low k hkd
    have HED : Hid (isJ code d k ↔ 0 ≤ d[k] ∧ (code[k].1 = 17 ∨ code[k].1 = 18 ∨ code[k].1 = 19)) := by
      show _ ↔ _
      unfold isJ; rw [ed, ec]
      constructor
      · rintro ⟨h1, h2⟩; exact ⟨by omega, h2⟩
      · rintro ⟨h1, h2⟩; exact ⟨by omega, h2⟩
    have HEC : Hid (code.getD k (0, 0) = code[k]) := ec
    obtain ⟨op, hop⟩ : ∃ op, op = code[k].1 := ⟨_, rfl⟩
    obtain ⟨av, hav⟩ : ∃ av, av = code[k].2 := ⟨_, rfl⟩
    obtain ⟨dk, hdk⟩ : ∃ dk, dk = d[k] := ⟨_, rfl⟩
    rw [← hop] at e1
    rw [← hav] at e2
    rw [← hdk] at e3
    rw [← hop, ← hdk] at HED
    have HOP : Hid (code[k].1 = op ∧ code[k].2 = av) := ⟨hop.symm, hav.symm⟩
    clear ec ed hop hav hdk hlow
    have NO : ¬ isJ code d k → ∀ j, j < code.length → (LP code d k j ↔ LP code d (k + 1) j) := fun h j _ => ⟨.inl, fun q => q.elim id (fun q => absurd q.1 h)⟩
    have HNO : Hid (¬ isJ code d k → ∀ j, j < code.length → (LP code d k j ↔ LP code d (k + 1) j)) := NO
    clear NO
    by_cases hz : dk < 0
    · have HJN : Hid (¬ isJ code d k) := fun h => by have := (HED.out.1 h).1; omega
      have hM' := hM.as (HNO.out HJN.out)
      go_wp2
      go_roundw
      case rel => exact ⟨k + 1, by omega, by go_num, hM', hb⟩
      case measure => simp [intOf]; omega
    by_cases hj : op = 17 ∨ op = 18 ∨ op = 19
    case neg =>
      have HJN : Hid (¬ isJ code d k) := fun h => hj (HED.out.1 h).2
      have q1 : (op != 17) = true := by simpa using fun e => hj (.inl e)
      have q2 : (op != 18) = true := by simpa using fun e => hj (.inr (.inl e))
      have q3 : (op != 19) = true := by simpa using fun e => hj (.inr (.inr e))
      have p1 : (op == 17) = false := by simpa using fun e => hj (.inl e)
      have p2 : (op == 18) = false := by simpa using fun e => hj (.inr (.inl e))
      have p3 : (op == 19) = false := by simpa using fun e => hj (.inr (.inr e))
      have hM' := hM.as (HNO.out HJN.out)
      go_wp2
      go_roundw
      case rel => exact ⟨k + 1, by omega, by go_num, hM', hb⟩
      case measure => simp [intOf]; omega
    have HJY : Hid (isJ code d k) := HED.out.2 ⟨by omega, hj⟩
    obtain ⟨g1, g2, g3⟩ := G.jump k hlt HJY.out
    rw [HEC.out, HOP.out.2] at g1 g2
    rw [HEC.out, HOP.out.1] at g3
    obtain ⟨ai, rfl⟩ : ∃ ai : Nat, av = (ai : Int) := ⟨av.toNat, by omega⟩
    have hai : ai < code.length := by omega
    have s1 := hM.cell hai
    have s2 := hM.free ai
    have hM3 := hM.set hai
    have hb3 := hb.setCell (p := ⟨w1.heap.size, ai, none⟩) (Nat.le_refl _) (.bool true)
    have e9 : ∀ (j : Nat), (j : Int) = (code.getD k (0, 0)).2 ↔ j = ai := fun j => by rw [HEC.out, HOP.out.2]; omega
    by_cases h17 : op = 17
    · have hM4 : MkP (wr.setCell ⟨w1.heap.size, ai, none⟩ (.bool true)) w1.heap.size code.length (LP code d (k + 1)) := hM3.as (fun j _ => by
        show _ ↔ LP code d k j ∨ (isJ code d k ∧ ((j : Int) = (code.getD k (0, 0)).2 ∨ ((code.getD k (0, 0)).1 ≠ 17 ∧ j = k + 1)))
        constructor
        · rintro (h | h)
          · exact .inl h
          · exact .inr ⟨HJY.out, .inl ((e9 j).2 h)⟩
        · rintro (h | ⟨-, h | ⟨h, -⟩⟩)
          · exact .inl h
          · exact .inr ((e9 j).1 h)
          · rw [HEC.out, HOP.out.1] at h; exact absurd h17 h)
      have HM4 : Hid (MkP (wr.setCell ⟨w1.heap.size, ai, none⟩ (.bool true)) w1.heap.size code.length (LP code d (k + 1))) := hM4
      clear hM3 hM4 e9 g3
      subst h17
      go_wp2
      go_roundw
      case rel => exact ⟨k + 1, by omega, by go_num, HM4.out, hb3⟩
      case measure => simp [intOf]; omega
    have hk1 := g3 h17
    have t1 := hM3.cell hk1
    have t2 := hM3.free (k + 1)
    have hM5 := hM3.set hk1
    have hb5 := hb3.setCell (p := ⟨w1.heap.size, k + 1, none⟩) (Nat.le_refl _) (.bool true)
    have hM4 : MkP ((wr.setCell ⟨w1.heap.size, ai, none⟩ (.bool true)).setCell ⟨w1.heap.size, k + 1, none⟩ (.bool true)) w1.heap.size code.length (LP code d (k + 1)) := hM5.as (fun j _ => by
      show _ ↔ LP code d k j ∨ (isJ code d k ∧ ((j : Int) = (code.getD k (0, 0)).2 ∨ ((code.getD k (0, 0)).1 ≠ 17 ∧ j = k + 1)))
      constructor
      · rintro ((h | h) | h)
        · exact .inl h
        · exact .inr ⟨HJY.out, .inl ((e9 j).2 h)⟩
        · exact .inr ⟨HJY.out, .inr ⟨by rw [HEC.out, HOP.out.1]; exact h17, h⟩⟩
      · rintro (h | ⟨-, h | ⟨-, h⟩⟩)
        · exact .inl (.inl h)
        · exact .inl (.inr ((e9 j).1 h))
        · exact .inr h)
    have HM4 : Hid (MkP ((wr.setCell ⟨w1.heap.size, ai, none⟩ (.bool true)).setCell ⟨w1.heap.size, k + 1, none⟩ (.bool true)) w1.heap.size code.length (LP code d (k + 1))) := hM4
    clear hM3 hM4 hM5 e9 g3
    rcases hj.resolve_left h17 with rfl | rfl
    · go_wp2
      go_roundw
      case rel => exact ⟨k + 1, by omega, by go_num, HM4.out, hb5⟩
      case measure => simp [intOf]; omega
    · go_wp2
      go_roundw
      case rel => exact ⟨k + 1, by omega, by go_num, HM4.out, hb5⟩
      case measure => simp [intOf]; omega
end Go.Proofs.YtjdoljaailokmaaGreatDoor
