/-
  The first three instructions that become one: impl.foldFirst.
-/
import Derived.Test.YtjdoljaailokmaaGreatDoorZFF4
import Derived.Test.YtjdoljaailokmaaGreatDoorZFQ21
import Derived.Test.YtjdoljaailokmaaGreatDoorZFQ19
import Derived.Deep.RegionHeld3
import Derived.Deep.CutRange
namespace Go.Proofs.YtjdoljaailokmaaGreatDoor
open Go.RowKit

theorem goneF_list {i n : Nat} (h : i + 2 < n) : goneL (goneF i) n = [((i + 1 : Nat) : Int), ((i + 2 : Nat) : Int)] := by
  have h0 : goneL (goneF i) (i + 1) = [] := goneL_none (fun j hj => goneF_no (by omega) (by omega)) _ (Nat.le_refl _)
  have h3 : goneL (goneF i) (i + 3) = [((i + 1 : Nat) : Int), ((i + 2 : Nat) : Int)] := by
    rw [goneL_yes (k := i + 2) (goneF_yes (.inr rfl)), goneL_yes (k := i + 1) (goneF_yes (.inl rfl)), h0]; rfl
  have h4 : ∀ j, goneL (goneF i) (i + 3 + j) = goneL (goneF i) (i + 3) := by
    intro j
    induction j with
    | zero => rfl
    | succ j ih => rw [show i + 3 + (j + 1) = (i + 3 + j) + 1 by omega, goneL_no (goneF_no (by omega) (by omega)), ih]
  have := h4 (n - (i + 3))
  rw [show i + 3 + (n - (i + 3)) = n by omega] at this
  rw [this, h3]
theorem fold_set {code : List (Int × Int)} {i : Nat} {v : Int} (hi : i + 2 < code.length) : foldTo i v code = (takeOut (goneF i) code).set i (1, v) := by
  have hni : news (goneF i) i = i := news_id (n := i) (fun j hj => goneF_no (by omega) (by omega)) i (Nat.le_refl _)
  have gi : goneF i i = false := goneF_no (by omega) (by omega)
  have hl : (code.set i (1, v)).length = code.length := List.length_set ..
  unfold foldTo
  apply List.ext_getElem
  · rw [List.length_set, takeOut_len, takeOut_len, hl]
  · intro j h1 h2
    have h1' : j < news (goneF i) code.length := by rw [takeOut_len, hl] at h1; exact h1
    obtain ⟨m, hm1, hm2, hm3⟩ := news_onto h1'
    have e1 := takeOut_at (code := code.set i (1, v)) (by rw [hl]; exact hm1) hm2
    have e2 := takeOut_at hm1 hm2
    rw [hm3, getD_code h1] at e1
    rw [hm3, getD_code (by rw [takeOut_len]; exact h1')] at e2
    rw [e1, List.getElem_set, getD_setQ]
    by_cases e : m = i
    · subst e
      rw [if_pos ⟨rfl, hm1⟩, if_pos (by rw [← hm3, hni])]
      unfold fixB
      rw [if_neg (by rintro (h | h | h) <;> cases h)]
    · rw [if_neg (fun q => e q.1), if_neg (fun q => ?_), e2]
      rcases Nat.lt_or_gt_of_ne e with a | a
      · have := news_lt a hm2; omega
      · have := news_lt a gi; omega
/-- An instruction of a row of one's own, written whole. -/
theorem own_ins2 {w : World} {base c : Nat} {g : Nat} {xs : List (Int × Int)} (h : w.ownsRow base 44 2 (.slice (some ⟨g, 0, none⟩) xs.length c) xs.length (codeVals xs)) {i : Nat} (hi : i < xs.length) (p v : Int) (hp : xs[i].1 = p) :
    ((w.setCell ⟨g, i * 2, none⟩ (.int .i64 p)).setCell ⟨g, i * 2 + 1, none⟩ (.int .i64 v)).ownsRow base 44 2 (.slice (some ⟨g, 0, none⟩) xs.length c) xs.length (codeVals (xs.set i (p, v))) ∧ w.frozen? ⟨g, i * 2, none⟩ = false ∧ (∃ u, w.cell? ⟨g, i * 2, none⟩ = some u) ∧ (∃ u, w.cell? ⟨g, i * 2 + 1, none⟩ = some u) ∧ w.frozen? ⟨g, i * 2 + 1, none⟩ = false := by
  have hv := codeVals_at xs i hi
  obtain ⟨g1, hg1, -, hf, hc, ⟨u, hu⟩, hput, -⟩ := own_put h (i * 2) (by omega)
  cases hg1
  obtain ⟨g2, hg2, -, hf2, hc2, ⟨u2, hu2⟩, -, -⟩ := own_put h (i * 2 + 1) (by omega)
  cases hg2
  have h1 := hput (.int .i64 p)
  have e : (codeVals xs).set (i * 2) (.int .i64 p) = codeVals xs := by
    apply List.ext_getElem?
    intro j
    by_cases ej : j = i * 2
    · subst ej
      have hl : i * 2 < (codeVals xs).length := by rw [codeVals_len]; omega
      rw [List.getElem?_set_self hl, hv.1, hp]
    · rw [List.getElem?_set_ne (fun x => ej x.symm)]
  rw [e] at h1
  obtain ⟨g3, hg3, -, -, -, -, hp2, -⟩ := own_ins h1 hi
  cases hg3
  have := hp2 v
  rw [hp] at this
  exact ⟨this, hf, ⟨u, hc.trans hu⟩, ⟨u2, hc2.trans hu2⟩, hf2⟩

theorem stored2 {w : World} {g : Nat} {x0 x1 a b : Value} {t : TypeId} (h : w.heap[g]? = some (.cells #[x0, x1] t (0, 0))) : ((w.setCell ⟨g, 0, none⟩ a).setCell ⟨g, 1, none⟩ b).heap[g]? = some (.cells #[a, b] t (0, 0)) := by
  have := block_set (i := 1) (block_set (i := 0) h a) b
  simpa using this
/-- What one step answers. -/
def StepPost (code : List (Int × Int)) (d : List Int) (B g cap : Nat) (e : Ending) (w' : World) : Prop :=
  (∃ (i : Nat) (v : Int) (u : Value), First code d i v ∧ e = .returned (.tuple #[u, .bool true]) ∧ CRow w' B u (foldTo i v code)) ∨
  ((∀ i v, ¬ FAt code d i v) ∧ e = .returned (.tuple #[.slice (some ⟨g, 0, none⟩) code.length cap, .bool false]))

set_option maxRecDepth 100000 in
set_option maxHeartbeats 8000000 in
theorem foldFirst_any (a1 a2 : Option Addr) (nt c1 c2 g cap B : Nat) (fs : List Fn) (code : List (Int × Int)) (d : List Int) (E0 E1 E2 : Addr) (w : World) (hm : FnsAt w 0 a2 fs) (K : FOk fs code d) (hown : w.ownsRow B 44 2 (.slice (some ⟨g, 0, none⟩) code.length cap) code.length (codeVals code)) (hB : B ≤ w.heap.size) (hE : Errs w E0 E1 E2) :
    Calls Tryz.prog 21 #[.agg #[.slice a1 nt c1, .slice a2 fs.length c2], .slice (some ⟨g, 0, none⟩) code.length cap] w fun e w' => StepPost code d B g cap e w' ∧ Below w.heap.size w w' := by
  have hone := K.fine.one
  have hmost := K.fine.most
  have hdl := K.lab.len
  have hlow := K.lab.low
  have hcc := own_cap hown
  have HK := hid K
  have HOWN := hid hown
  have hcode : CodeAt w 0 (some ⟨g, 0, none⟩) code := (code_at hown).low (Nat.zero_le _)
  have hbA : Below w.heap.size w (w.alloc (.cells #[.slice a1 nt c1, .slice a2 fs.length c2] 29)) := (Below.refl _ _).alloc (Nat.le_refl _) _
  have hM := block_new w #[.slice a1 nt c1, .slice a2 fs.length c2] 29
  have m0 := block_cell hM
  clear hown
  go_enter Tryz.func21, Tryz.ntmps21
  go_wp2_with fail
  refine (iHeights_any a1 a2 (some ⟨g, 0, none⟩) nt c1 c2 cap fs code _ (hm.mono hbA) (hcode.mono hbA) K.fine).mono ?_
  rintro e w1 ⟨gh, d', rfl, -, hD, hH, hb1⟩
  obtain rfl := K.lab.done K.fine hD
  have hbw := hbA.trans (hb1.mono hbA.size)
  obtain ⟨GJ1, JO1⟩ := lab_gj K.fine K.lab
  clear hbA hM m0 hm hD
  go_wp2_with fail
  refine (flowOf_at gh code.length cap (some ⟨g, 0, none⟩) code d' w1 JO1 hdl (hcode.mono hbw) hH (by omega)).mono ?_
  rintro e w2 ⟨x, y, z, u, HFB, rfl, hb2⟩
  have hH2 := hH.mono hb2
  have hbw2 := hbw.trans (hb2.mono hbw.size)
  have HLD : Hid (∀ j, j < 128 → (bhas (x, y) j = true ↔ Ldr code d' j)) := fun j hj => by
    have h1 := (flow_bits (d := d') JO1 (Nat.le_refl code.length) j hj).1
    rw [HFB.out] at h1
    exact h1.trans (lp_ldr hlow j)
  have hok := (flowB_ok (jl code d' code.length)).1
  rw [HFB.out] at hok
  have HHAS : Hid (∀ (j : Nat) (W : World), j < 128 → Calls Tryz.prog 44 #[.agg #[.int .u64 (x : Int), .int .u64 (y : Int)], .int .i64 (j : Int)] W fun e w' => e = .returned (.bool (bhas (x, y) j)) ∧ Below W.heap.size W w') := fun j W hj => has_any (x, y) j W hok hj
  clear hb1 hb2 hH HFB hok GJ1 JO1 hbw hcode K
  have hfl : (Instr.field 78 (.agg #[.int .u64 (x : Int), .int .u64 (y : Int), .int .u64 (z : Int), .int .u64 (u : Int)]) 0).run Tryz.prog w2 = .ok (.agg #[.int .u64 (x : Int), .int .u64 (y : Int)]) w2 := by kernel_rfl
  obtain ⟨wL, hwL⟩ : ∃ wL, wL = w2.alloc (.cells #[.int .u64 (x : Int), .int .u64 (y : Int)] 76) := ⟨_, rfl⟩
  have hLb : wL.heap[w2.heap.size]? = some (.cells #[.int .u64 (x : Int), .int .u64 (y : Int)] 76 (0, 0)) := by rw [hwL]; exact block_new _ _ _
  have hbL : Below w2.heap.size w2 wL := by rw [hwL]; exact (Below.refl _ _).alloc (Nat.le_refl _) _
  go_wp2
  rw [← hwL]
  clear hwL hfl
  obtain ⟨Lb, hLbe⟩ : ∃ Lb, Lb = w2.heap.size := ⟨_, rfl⟩
  rw [← hLbe] at hLb
  rw [← hLbe]
  clear hLbe
  go_loopw [22] (fun i wr => ∃ (k : Nat), k ≤ code.length ∧ i = .int .i64 k ∧ Hid (∀ j, j < k → ∀ u, ¬ FAt code d' j u) ∧ wr.heap[Lb]? = some (.cells #[.int .u64 (x : Int), .int .u64 (y : Int)] 76 (0, 0)) ∧ Below w2.heap.size w2 wr) (fun i _ => code.length - (intOf i).toNat)
  case atStart => exact ⟨0, by omega, rfl, fun j h => absurd h (Nat.not_lt_zero _), hLb, hbL⟩
  case round =>
    obtain ⟨k, hk, rfl, HN, hLk, hbr⟩ := hrel
    clear hLb hbL
    by_cases hlt : k + 2 < code.length
    case neg =>
      have hl1 : ¬ (k : Int) < (code.length : Int) - 2 := by omega
      have HE : Hid (∀ i v, ¬ FAt code d' i v) := fun i v h => HN.out i (by have := h.hi; omega) v h
      have HBW := hid (hbw2.trans (hbr.mono hbw2.size))
      clear HN hLk hbr hlt
      go_wp2
      go_ret2
      exact ⟨.inr ⟨HE.out, rfl⟩, HBW.out⟩
    have hl1 : (k : Int) < (code.length : Int) - 2 := by omega
    have HNO := HN
    have HNX : Hid ((∀ u, ¬ FAt code d' k u) → ∀ j, j < k + 1 → ∀ u, ¬ FAt code d' j u) := fun h j hj u => by
      by_cases e : j = k
      · subst e; exact h u
      · exact HNO.out j (by omega) u
    have e0 := (hH2.mono hbr).cell (j := k) (by omega)
    have mL := block_cell hLk
    have qd : d'.getD k (-1) = d'[k] := by rw [List.getD_eq_getElem?_getD, List.getElem?_eq_getElem (by omega)]; rfl
    obtain ⟨dk, hdk⟩ : ∃ dk, dk = d'[k] := ⟨_, rfl⟩
    obtain ⟨b1, hb1⟩ : ∃ b1, b1 = bhas (x, y) (k + 1) := ⟨_, rfl⟩
    obtain ⟨b2, hb2⟩ : ∃ b2, b2 = bhas (x, y) (k + 2) := ⟨_, rfl⟩
    rw [← hdk] at e0 qd
    have HL1 : Hid (b1 = true ↔ Ldr code d' (k + 1)) := by show _ ↔ _; rw [hb1]; exact HLD.out (k + 1) (by omega)
    have HL2 : Hid (b2 = true ↔ Ldr code d' (k + 2)) := by show _ ↔ _; rw [hb2]; exact HLD.out (k + 2) (by omega)
    have HH1 : Hid (∀ W, Calls Tryz.prog 44 #[.agg #[.int .u64 (x : Int), .int .u64 (y : Int)], .int .i64 ((k : Int) + 1)] W fun e w' => e = .returned (.bool b1) ∧ Below W.heap.size W w') := fun W => by rw [hb1]; exact HHAS.out (k + 1) W (by omega)
    have HH2 : Hid (∀ W, Calls Tryz.prog 44 #[.agg #[.int .u64 (x : Int), .int .u64 (y : Int)], .int .i64 ((k : Int) + 2)] W fun e w' => e = .returned (.bool b2) ∧ Below W.heap.size W w') := fun W => by rw [hb2]; exact HHAS.out (k + 2) W (by omega)
    have HQ : Hid (d'.getD k (-1) = dk ∧ -1 ≤ dk) := ⟨qd, by have := hlow k; omega⟩
    clear hb1 hb2 hdk qd HN
    by_cases hz : dk = -1
    · have hz1 : (dk == -1) = true := by simpa using hz
      have HN2 : Hid (∀ j, j < k + 1 → ∀ u, ¬ FAt code d' j u) := HNX.out (fun u h => by have := h.h0; rw [HQ.out.1] at this; omega)
      clear hz
      go_wp2
      go_roundw
      case rel => exact ⟨k + 1, by omega, by go_num, HN2.out, hLk, hbr⟩
      case measure => simp [intOf]; omega
    have hz1 : (dk == -1) = false := beq_eq_false_iff_ne.2 hz
    have HDK : Hid (0 ≤ dk) := by have := HQ.out.2; show _ ≤ _; omega
    clear hz
    go_wp2_with fail
    refine (HH1.out _).mono ?_
    rintro e w3 ⟨rfl, hb3⟩
    have hL3 := block_kept hLk hb3
    have hbr3 := hbr.trans (hb3.mono hbr.size)
    have m3 := block_cell hL3
    clear hLk hbr hb3 mL e0
    cases b1 with
    | true =>
      have HN2 : Hid (∀ j, j < k + 1 → ∀ u, ¬ FAt code d' j u) := HNX.out (fun u h => h.l1 (HL1.out.1 rfl))
      go_wp2
      go_roundw
      case rel => exact ⟨k + 1, by omega, by go_num, HN2.out, hL3, hbr3⟩
      case measure => simp [intOf]; omega
    | false =>
      have NL1 : Hid (¬ Ldr code d' (k + 1)) := fun h => by have := HL1.out.2 h; cases this
      go_wp2_with fail
      refine (HH2.out _).mono ?_
      rintro e w4 ⟨rfl, hb4⟩
      have hL4 := block_kept hL3 hb4
      have hbr4 := hbr3.trans (hb4.mono hbr3.size)
      clear hL3 hbr3 hb4 m3
      cases b2 with
      | true =>
        have HN2 : Hid (∀ j, j < k + 1 → ∀ u, ¬ FAt code d' j u) := HNX.out (fun u h => h.l2 (HL2.out.1 rfl))
        go_wp2
        go_roundw
        case rel => exact ⟨k + 1, by omega, by go_num, HN2.out, hL4, hbr4⟩
        case measure => simp [intOf]; omega
      | false =>
        have NL2 : Hid (¬ Ldr code d' (k + 2)) := fun h => by have := HL2.out.2 h; cases this
        have hbw4 := hbw2.trans (hbr4.mono hbw2.size)
        have hown4 := own_keeps (B := 0) (ts := []) HOWN.out (Keeps.below hbw4) (by simp)
        obtain ⟨o1, ho1⟩ : ∃ o1, o1 = code[k].1 := ⟨_, rfl⟩
        obtain ⟨x1, hx1⟩ : ∃ x1, x1 = code[k].2 := ⟨_, rfl⟩
        obtain ⟨o2, ho2⟩ : ∃ o2, o2 = code[k + 1].1 := ⟨_, rfl⟩
        obtain ⟨x2, hx2⟩ : ∃ x2, x2 = code[k + 1].2 := ⟨_, rfl⟩
        obtain ⟨o3, ho3⟩ : ∃ o3, o3 = code[k + 2].1 := ⟨_, rfl⟩
        obtain ⟨x3, hx3⟩ : ∃ x3, x3 = code[k + 2].2 := ⟨_, rfl⟩
        have HS : Hid (∀ w' : World, Below w4.heap.size w4 w' → w'.cell? ⟨g, k * 2, none⟩ = some (.int .i64 o1) ∧ w'.cell? ⟨g, k * 2 + 1, none⟩ = some (.int .i64 x1) ∧ w'.cell? ⟨g, (k + 1) * 2, none⟩ = some (.int .i64 o2) ∧ w'.cell? ⟨g, (k + 1) * 2 + 1, none⟩ = some (.int .i64 x2) ∧ w'.cell? ⟨g, (k + 2) * 2, none⟩ = some (.int .i64 o3) ∧ w'.cell? ⟨g, (k + 2) * 2 + 1, none⟩ = some (.int .i64 x3)) := fun w' q => by
          have ho := own_keeps (B := 0) (ts := []) hown4 (Keeps.below q) (by simp)
          obtain ⟨q0, hq0, -, r1, r2, -⟩ := own_ins ho (i := k) (by omega)
          cases hq0
          obtain ⟨q0, hq0, -, r3, r4, -⟩ := own_ins ho (i := k + 1) (by omega)
          cases hq0
          obtain ⟨q0, hq0, -, r5, r6, -⟩ := own_ins ho (i := k + 2) hlt
          cases hq0
          exact ⟨by rw [r1, ho1], by rw [r2, hx1], by rw [r3, ho2], by rw [r4, hx2], by rw [r5, ho3], by rw [r6, hx3]⟩
        have q1 := getD_at (code := code) (k := k) (by omega)
        have q2 := getD_at (code := code) (k := k + 1) (by omega)
        have q3 := getD_at (code := code) (k := k + 2) hlt
        have HFW : Hid (∀ v, FAt code d' k v ↔ Works o1 x1 o2 x2 o3 v) := fun v => by
          constructor
          · intro h
            refine ⟨?_, ?_, ?_, ?_, ?_⟩
            · rw [ho1, ← q1]; exact h.o1
            · rw [ho2, ← q2]; exact h.o2
            · rw [ho3, ← q3]; exact h.o3
            · rw [ho3, hx1, hx2, ← q1, ← q2, ← q3]; exact h.val
            · rw [hx1, hx2, ← q1, ← q2]; exact h.ok
          · rintro ⟨r1, r2, r3, r4, r5⟩
            refine ⟨hlt, by rw [HQ.out.1]; exact HDK.out, ?_, ?_, ?_, NL1.out, NL2.out, ?_, ?_⟩
            · rw [q1, ← ho1]; exact r1
            · rw [q2, ← ho2]; exact r2
            · rw [q3, ← ho3]; exact r3
            · rw [q1, q2, q3, ← ho3, ← hx1, ← hx2]; exact r4
            · rw [q1, q2, ← hx1, ← hx2]; exact r5
        have q : Below w4.heap.size w4 w4.drew := (Below.refl _ _).drew
        obtain ⟨j0, j1, j2, j3, j4, j5⟩ := HS.out w4 (Below.refl _ _)
        have hE4 := hE.later hbw4
        have HOW4 := hid hown4
        have HC1 : Hid (o1 = code[k].1) := ho1
        clear ho1 hx1 ho2 hx2 ho3 hx3 q1 q2 q3 hown4
        go_upto_region 7 with fail
        have i1 : (0 : Int) ≤ (k : Int) := by omega
        have i2 : (k : Int) < (code.length : Int) := by omega
        have i3 : (0 : Int) ≤ (k : Int) + 1 := by omega
        have i4 : (k : Int) + 1 < (code.length : Int) := by omega
        have i5 : (0 : Int) ≤ (k : Int) + 2 := by omega
        have i6 : (k : Int) + 2 < (code.length : Int) := by omega
        have i7 : IntKind.i64.wrap ((k : Int) + 1) = (k : Int) + 1 := by rw [IntKind.wrap_i64]; omega
        have i8 : IntKind.i64.wrap ((k : Int) + 2) = (k : Int) + 2 := by rw [IntKind.wrap_i64]; omega
        have i9 : ((k : Int) + 1).toNat = k + 1 := by omega
        have i10 : ((k : Int) + 2).toNat = k + 2 := by omega
        go_cut [9, 10] from 23 to 73 (fun s9 s10 wx => ∃ (gx : Nat) (p n : Int) (b : Bool), s9 = .pointer (some ⟨gx, 0, none⟩) ∧ s10 = .bool b ∧ Hid (b = true → p = 1 ∧ Works o1 x1 o2 x2 o3 n) ∧ Hid (b = false → ∀ v, ¬ Works o1 x1 o2 x2 o3 v) ∧ wx.heap[gx]? = some (.cells #[.int .i64 p, .int .i64 n] 44 (0, 0)) ∧ Below w4.heap.size w4 wx)
        case first =>
          go_region_held3 (fun w' => w'.cell? ⟨g, k * 2, none⟩ = some (.int .i64 o1) ∧ w'.cell? ⟨g, k * 2 + 1, none⟩ = some (.int .i64 x1) ∧ w'.cell? ⟨g, (k + 1) * 2, none⟩ = some (.int .i64 o2) ∧ w'.cell? ⟨g, (k + 1) * 2 + 1, none⟩ = some (.int .i64 x2) ∧ w'.cell? ⟨g, (k + 2) * 2, none⟩ = some (.int .i64 o3) ∧ w'.cell? ⟨g, (k + 2) * 2 + 1, none⟩ = some (.int .i64 x3))
            (first
              | exact ⟨j0, j1, j2, j3, j4, j5⟩
              | exact HS.out _ q
              | exact HS.out _ (q.alloc q.size _)
              | exact HS.out _ ((q.setCell hg _).setCell hg _)
              | exact HS.out _ (((q.alloc q.size _).setCell q.size _).setCell q.size _))
            (first
              | (go_at_call 45; refine (workedOut_any _ _ _ _ _ _ E0 E1 E2 _ (by first | exact hE4.later q | exact hE4.later (q.alloc q.size _))).mono ?_; rintro e wb ⟨⟨p, n, b, rfl, HY, HNW⟩, kd⟩; (first | (have hk := block_kept hk kd; have hc := block_cell hk; have hf := block_free hk) | (have hk := block_kept (block_new_drew _ _ _) kd; have hg := Nat.le_refl w4.heap.size; have hc := block_cell hk; have hf := block_free hk) | (have hk := block_kept (block_new _ _ _) kd; have hg := q.size; have hc := block_cell hk; have hf := block_free hk) | skip); (first | (have q := q.trans (kd.mono q.size)) | (have q := (q.alloc q.size _).trans (kd.mono (by have := q.size; simp <;> omega))))))
          all_goals
            go_wp2_with fail
            go_meet
            case rel =>
              first
                | exact ⟨_, p, n, b, rfl, rfl, HY, HNW, stored2 hk, (q.setCell hg _).setCell hg _⟩
                | exact ⟨_, p, n, b, rfl, rfl, HY, HNW, block_new _ _ _, q.alloc q.size _⟩
        case rest =>
          obtain ⟨gx, p, n, b, rfl, rfl, HY, HNW, hG, hq⟩ := hcut
          have hLc := block_kept hL4 hq
          have hbrc := hbr4.trans (hq.mono hbr4.size)
          have hbwc := hbw2.trans (hbrc.mono hbw2.size)
          clear j0 j1 j2 j3 j4 j5 q HS hE4 hL4 hbr4 hbw4
          cases b with
          | false =>
            have HN2 : Hid (∀ j, j < k + 1 → ∀ u, ¬ FAt code d' j u) := HNX.out (fun u h => HNW.out rfl u ((HFW.out u).1 h))
            clear hG hq HOW4 i1 i2 i3 i4 i5 i6 i7 i8 i9 i10
            go_wp2
            go_roundw
            case rel =>
              exact ⟨k + 1, by omega, by go_num, HN2.out, hLc, hbrc⟩
            case measure => simp [intOf]; omega
          | true =>
            obtain ⟨hp1, HW⟩ := HY.out rfl
            subst hp1
            have HF : Hid (First code d' k n) := ⟨(HFW.out n).2 HW, fun j hj u => HNO.out j hj u⟩
            have hownc := own_keeps (B := 0) (ts := []) HOW4.out (Keeps.below hq) (by simp)
            obtain ⟨L, hL⟩ : ∃ L, L = takeOut (goneF k) code := ⟨_, rfl⟩
            have hLl : L.length + 2 = code.length := by
              have := foldTo_len (v := n) hlt
              rw [fold_set hlt, List.length_set, ← hL] at this
              exact this
            have HWO : Hid (∀ W, Below wc.heap.size wc W → W.heap[wc.heap.size]? = some (.cells #[.int .i64 ((k : Int) + 1), .int .i64 ((k : Int) + 2)] 3 (0, 0)) → Calls Tryz.prog 46 #[.slice (some ⟨g, 0, none⟩) code.length cap, .slice (some ⟨wc.heap.size, 0, none⟩) 2 2] W fun e w' => ∃ G, e = .returned (.slice (some ⟨G, 0, none⟩) L.length L.length) ∧ w'.ownsRow W.heap.size 44 2 (.slice (some ⟨G, 0, none⟩) L.length L.length) L.length (codeVals L) ∧ Below W.heap.size W w') := fun W hW hc => by
              have hgl := goneF_list hlt
              have := withoutIns_any g 0 cap code (goneF k) (some ⟨wc.heap.size, 0, none⟩) 2 W (((code_at hownc).low (Nat.zero_le _)).mono hW) hone hmost hcc (goneF_no (by omega) (by omega)) (by
                rw [hgl]
                intro i hi
                have hb := block_cell hc
                have hi2 : i = 0 ∨ i = 1 := by simp at hi; omega
                refine ⟨wc.heap.size, 0, rfl, Nat.zero_le _, ?_⟩
                rcases hi2 with rfl | rfl
                · rw [hb]; simp
                · rw [hb]; simp) (fun j hj1 hj2 hj => by rw [getD_code hj1] at hj ⊢; exact HK.out.fine.jump j hj1 hj)
              rw [hgl, ← hL] at this
              exact this
            have HL := hid hL
            have hGc := block_cell hG
            have HGG := hid hG
            have HBC := hid hbwc
            have hszc : gx < wc.heap.size := lt_block hG
            clear HY HNW HNX HNO HFW HW HOW4 hLc hbrc hownc hL hq hG hH2
            go_upto_region 9 with fail
            go_wp2_with fail
            refine (HWO.out _ ((Below.refl _ _).alloc (Nat.le_refl _) _) (block_new _ _ _)).mono ?_
            rintro e w5 ⟨G, rfl, hown5, hb5⟩
            have hb5' : Below wc.heap.size wc w5 := ((Below.refl _ _).alloc (Nat.le_refl _) _).trans (hb5.mono (by simp))
            have hG5 := block_cell (block_kept HGG.out hb5')
            have hkL : k < L.length := by omega
            have hLk : L[k].1 = 1 := by
              have e1 := takeOut_at (g := goneF k) (code := code) (i := k) (by omega) (goneF_no (by omega) (by omega))
              rw [news_id (n := k) (fun j hj => goneF_no (by omega) (by omega)) k (Nat.le_refl _), ← HL.out, getD_code hkL] at e1
              rw [e1, fixB_op]
              exact HF.out.1.o1
            obtain ⟨hown6, s1, ⟨u1, s2⟩, ⟨u2, s3⟩, s4⟩ := own_ins2 hown5 hkL 1 n hLk
            have hGb := (own_lt hown5 rfl).1
            have HO6 : Hid (CRow ((w5.setCell ⟨G, k * 2, none⟩ (.int .i64 1)).setCell ⟨G, k * 2 + 1, none⟩ (.int .i64 n)) B (.slice (some ⟨G, 0, none⟩) L.length L.length) (foldTo k n code)) := by
              have e1 : foldTo k n code = L.set k (1, n) := by rw [fold_set hlt, HL.out]
              have e2 : (foldTo k n code).length = L.length := by rw [e1, List.length_set]
              refine ⟨some ⟨G, 0, none⟩, L.length, by rw [e2], ?_⟩
              rw [e2, e1]
              exact own_low hown6 (by simp; have := HBC.out.size; omega)
            have HB6 : Hid (Below w.heap.size w ((w5.setCell ⟨G, k * 2, none⟩ (.int .i64 1)).setCell ⟨G, k * 2 + 1, none⟩ (.int .i64 n))) := by
              have hz := HBC.out.size
              have hGb' : w.heap.size ≤ G := by simp at hGb; omega
              exact ((HBC.out.trans (hb5'.mono hz)).setCell (p := ⟨G, k * 2, none⟩) hGb' _).setCell (p := ⟨G, k * 2 + 1, none⟩) hGb' _
            clear hown5 hown6 hb5 hb5' hLk hGc HWO HGG
            go_wp2
            go_ret2
            exact ⟨.inl ⟨k, n, _, HF.out, rfl, HO6.out⟩, HB6.out⟩
end Go.Proofs.YtjdoljaailokmaaGreatDoor
