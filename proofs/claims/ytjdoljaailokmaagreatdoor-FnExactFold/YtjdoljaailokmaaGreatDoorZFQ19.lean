/-
  What impl takes out of a function's code: withoutIns.
  Copies of texts and of instructions: impl.eachOf over texts, slices.Clone.
  The passes done one behind the other: impl.settled, for cutUnreached.
  A function of a module with the passes done: impl.rewritten's closure.
-/
import Derived.Test.YtjdoljaailokmaaGreatDoorZFQ18
import Derived.Test.YtjdoljaailokmaaGreatDoorZV9
import Derived.Test.YtjdoljaailokmaaGreatDoorZGT
namespace Go.Proofs.YtjdoljaailokmaaGreatDoor
open Go.RowKit

set_option maxRecDepth 100000 in
set_option maxHeartbeats 8000000 in
theorem withoutIns_any (b off cc : Nat) (code : List (Int × Int)) (g : Nat → Bool) (ga : Option Addr) (gc : Nat) (w : World) (hcode : CodeAt w 0 (some ⟨b, off, none⟩) code) (h1 : 1 ≤ code.length) (h120 : code.length ≤ 120) (hcc : code.length ≤ cc) (g0 : g 0 = false) (hm : IntsAt w 0 ga (goneL g code.length))
    (hJ : ∀ i, i < code.length → g i = false → Jop (code.getD i (0, 0)).1 → 0 ≤ (code.getD i (0, 0)).2 ∧ (code.getD i (0, 0)).2 < code.length) :
    Calls Tryz.prog 46 #[.slice (some ⟨b, off, none⟩) code.length cc, .slice ga (goneL g code.length).length gc] w fun e w' => ∃ G, e = .returned (.slice (some ⟨G, 0, none⟩) (takeOut g code).length (takeOut g code).length) ∧ w'.ownsRow w.heap.size 44 2 (.slice (some ⟨G, 0, none⟩) (takeOut g code).length (takeOut g code).length) (takeOut g code).length (codeVals (takeOut g code)) ∧ Below w.heap.size w w' := by
  have HJ := hid hJ
  have HM := hid hm
  have hnl := news_le g code.length
  clear hJ
  go_enter Tryz.func46, Tryz.ntmps46
  go_wp2_with fail
  refine (without_any b off cc code g ga gc _ hcode h1 h120 hcc g0 hm).mono ?_
  rintro e w1 ⟨G, rfl, hown, hb⟩
  have hkl := keptL_len g ((0, 0) : Int × Int) code code.length
  obtain ⟨L, hL⟩ : ∃ L, L = keptL g (0, 0) code code.length := ⟨_, rfl⟩
  have HL := hid hL
  rw [← hL] at hown hkl
  obtain ⟨N, hN⟩ : ∃ N, N = L.length := ⟨_, rfl⟩
  rw [← hkl, ← hN] at hown hnl ⊢
  have HKL := hid (hN.trans hkl)
  have HNL := hid hN
  have hN120 : N ≤ 120 := by omega
  obtain ⟨T, hT⟩ : ∃ T, T = (goneL g code.length).length := ⟨_, rfl⟩
  rw [← hT]
  have HT := hid hT
  clear hL hkl hN hT hcode hm
  go_wp2
  go_loopw [13] (fun i wx => ∃ (t : Nat) (ys : List (Int × Int)), t ≤ N ∧ i = .int .i64 t ∧ ys.length = N ∧ Hid (∀ j, j < N → ys[j]? = if j < t then some (fixB g (L.getD j (0, 0))) else some (L.getD j (0, 0))) ∧ wx.ownsRow w.heap.size 44 2 (.slice (some ⟨G, 0, none⟩) ys.length N) ys.length (codeVals ys) ∧ Below w.heap.size w wx) (fun i _ => N - (intOf i).toNat)
  case atStart => exact ⟨0, L, by omega, rfl, HNL.out.symm, fun j hj => by rw [if_neg (by omega), List.getElem?_eq_getElem (by rw [← HNL.out]; exact hj), getD_code (by rw [← HNL.out]; exact hj)], by rw [← HNL.out]; exact hown, hb⟩
  case round =>
    obtain ⟨t, ys, ht, rfl, hyl, HY, hownY, hbx⟩ := hrel
    clear hown hb
    by_cases hlt : t < N
    · have hty : t < ys.length := by omega
      have hyt : ys[t] = L.getD t (0, 0) := by
        have := HY.out t hlt
        rw [if_neg (by omega), List.getElem?_eq_getElem hty] at this
        simpa using this
      obtain ⟨i, hi1, hi2, hi3⟩ := news_onto (show t < news g code.length by have := HKL.out; omega)
      have hLt : L.getD t (0, 0) = code.getD i (0, 0) := by
        have := keptL_at (z := ((0, 0) : Int × Int)) (l := code) hi1 hi2
        rw [← HL.out, hi3] at this
        rw [List.getD_eq_getElem?_getD, this]; rfl
      obtain ⟨gy, hgy, hgb, d1, d2, d3, hput, honly⟩ := own_ins hownY hty
      obtain rfl : G = gy := by cases hgy; rfl
      rw [hyt, hLt] at d1 d2
      have hput' := hput
      rw [hyt, hLt] at hput'
      have HYS : Hid (∀ z : Int × Int, z = fixB g (code.getD i (0, 0)) → ∀ j, j < N → (ys.set t z)[j]? = if j < t + 1 then some (fixB g (L.getD j (0, 0))) else some (L.getD j (0, 0))) := fun z hz j hj' => by
        by_cases e : j = t
        · subst e
          rw [if_pos (by omega), hLt, ← hz]
          simp [hty]
        · rw [List.getElem?_set_ne (fun x => e x.symm), HY.out j hj']
          by_cases e2 : j < t
          · rw [if_pos e2, if_pos (by omega)]
          · rw [if_neg e2, if_neg (by omega)]
      have HYN : Hid (fixB g (code.getD i (0, 0)) = code.getD i (0, 0) → ys = ys.set t (fixB g (code.getD i (0, 0)))) := fun h => by
        rw [h, ← hLt, ← hyt]
        simp
      have hJi := HJ.out i hi1 hi2
      have HYT : Hid (ys[t] = code.getD i (0, 0)) := by show _ = _; rw [hyt, hLt]
      clear hput hyt hLt HY hgy honly
      have HOP : Hid (fixB g (code.getD i (0, 0)) = if Jop (code.getD i (0, 0)).1 then ((code.getD i (0, 0)).1, (news g (code.getD i (0, 0)).2.toNat : Int)) else code.getD i (0, 0)) := rfl
      generalize code.getD i (0, 0) = x at d1 d2 hput' hJi HOP HYS HYN HYT
      obtain ⟨op, a⟩ := x
      simp only at d1 d2 hput' hJi HOP HYS HYN
      by_cases hop : Jop op
      · obtain ⟨ha0, ha1⟩ := hJi hop
        obtain ⟨p, rfl⟩ : ∃ p : Nat, a = (p : Int) := ⟨a.toNat, by omega⟩
        have hp : p < code.length := by omega
        have HOP2 : Hid (fixB g (op, (p : Int)) = (op, (news g p : Int))) := by
          show _ = _
          rw [HOP.out, if_pos hop, Int.toNat_natCast]
        have hd : decide (op = 17 ∨ op = 18 ∨ op = 19) = true := decide_eq_true hop
        have HNUM : Hid (∀ W, Below w.heap.size w W → Calls Tryz.prog 69 #[.int .i64 p, .slice ga T gc] W fun e w' => e = .returned (.int .i64 (news g p : Int)) ∧ Below W.heap.size W w') := fun W hW => by
          have := numWithout_any p code.length g ga gc W (by omega) h120 (HM.out.mono hW)
          rwa [← HT.out] at this
        have hfr := hid d3
        have hoY := hid hownY
        have hpn := hid (hput' (news g p))
        clear hput' hJi HOP HYN ha0 ha1 hop
        go_wp2_with fail
        refine (jumpOp_any op _).mono ?_
        rintro e w2 ⟨rfl, hw2⟩
        subst hw2
        rw [hd]
        go_wp2_with fail
        refine (HNUM.out _ (by repeat (first | exact hbx | apply Below.drew))).mono ?_
        rintro e w3 ⟨rfl, hb3⟩
        have hown3 := own_keeps (B := 0) (ts := []) hoY.out (Keeps.below hb3) (by simp)
        obtain ⟨gy, hgy, hgb3, k1, k2, k3, hput3, -⟩ := own_ins hown3 hty
        obtain rfl : G = gy := by cases hgy; rfl
        rw [HYT.out] at k1 k2 hput3
        have hpn3 := hput3 (news g p)
        have hb4 : Below w.heap.size w _ := (hbx.trans (hb3.mono hbx.size)).setCell (p := ⟨G, t * 2 + 1, none⟩) hgb3 (.int .i64 (news g p : Int))
        clear hput3 hown3 hoY hfr hpn hownY d1 d2 d3 hgy
        go_wp2_with fail
        go_roundw
        case rel => exact ⟨t + 1, ys.set t (op, (news g p : Int)), by omega, by go_num, by simpa using hyl, HYS.out _ HOP2.out.symm, by simpa using hpn3, hb4⟩
        case measure => simp [intOf]; omega
      · have hd : decide (op = 17 ∨ op = 18 ∨ op = 19) = false := decide_eq_false hop
        have HOP2 : Hid (fixB g (op, a) = (op, a)) := by
          show _ = _
          rw [HOP.out, if_neg hop]
        have HY3 : Hid (∀ j, j < N → ys[j]? = if j < t + 1 then some (fixB g (L.getD j (0, 0))) else some (L.getD j (0, 0))) := fun j hj' => by
          have := HYS.out _ rfl j hj'
          rwa [← HYN.out HOP2.out] at this
        clear hput' hJi HOP HYN HYS hop HYT
        go_wp2_with fail
        refine (jumpOp_any op _).mono ?_
        rintro e w2 ⟨rfl, hw2⟩
        subst hw2
        rw [hd]
        go_wp2_with fail
        go_roundw
        case rel => exact ⟨t + 1, ys, by omega, by go_num, hyl, HY3, hownY, hbx⟩
        case measure => simp [intOf]; omega
    · have hte : t = N := by omega
      have hy : ys = takeOut g code := by
        unfold takeOut
        rw [← HL.out]
        apply List.ext_getElem?
        intro j
        by_cases hj' : j < N
        · rw [HY.out j hj', if_pos (by omega), List.getElem?_map, List.getElem?_eq_getElem (by rw [← HNL.out]; exact hj'), getD_code (by rw [← HNL.out]; exact hj')]; rfl
        · rw [List.getElem?_eq_none (by omega), List.getElem?_eq_none (by simp; have := HNL.out; omega)]
      have hyl3 : N = (takeOut g code).length := by rw [← hy, hyl]
      have HO : Hid (wr.ownsRow w.heap.size 44 2 (.slice (some ⟨G, 0, none⟩) (takeOut g code).length (takeOut g code).length) (takeOut g code).length (codeVals (takeOut g code))) := by
        rw [← hyl3]
        rw [hy, ← hyl3] at hownY
        exact hownY
      have HE := hid hyl3
      clear HY hy hyl3 hownY
      go_wp2
      go_ret
      rw [HE.out]
      exact ⟨G, rfl, HO.out, hbx⟩
end Go.Proofs.YtjdoljaailokmaaGreatDoor

namespace Go.Proofs.YtjdoljaailokmaaGreatDoor
open Go.RowKit

def OuCells (cur : Array Value) (ss : List ByteArray) (k : Nat) : Prop := cur.size = ss.length ∧ ∀ i (h : i < ss.length), i < k → cur[i]? = some (.string ss[i])

theorem OuCells.more {cur : Array Value} {ss : List ByteArray} {k : Nat} (h : OuCells cur ss k) (hk : k < ss.length) : OuCells (cur.setIfInBounds k (.string ss[k])) ss (k + 1) := by
  refine ⟨by simpa using h.1, fun i hi hik => ?_⟩
  have hs := h.1
  by_cases e : i = k
  · subst e
    exact set_self _ (by omega)
  · rw [set_else _ e]
    exact h.2 i hi (by omega)
theorem clone_any (s : ByteArray) (w : World) (hs : s.size ≤ 1048576) : Calls Tryz.prog 37 #[.string s] w fun e w' => e = .returned (.string s) ∧ Below w.heap.size w w' := by
  go_enter Tryz.func37, Tryz.ntmps37
  go_wp2_with (go_at_call 59; refine (Tryz.stringslite_Clone s _ (by omega)).mono ?_; rintro e w1 ⟨rfl, hb⟩)
  go_ret
  exact ⟨rfl, hb⟩

set_option maxHeartbeats 1000000 in
theorem eachS_is (a : Option Addr) (ss : List ByteArray) (cap : Nat) (w : World) (hn : ss.length ≤ 1048576) (hc : ∀ s ∈ ss, s.size ≤ 1048576) (hm : StrsAt w 0 a ss) :
    Calls Tryz.prog 36 #[.slice a ss.length cap, .func (.func 37) #[] #[]] w fun e w' => ∃ cur, e = .returned (.slice (some ⟨w.heap.size, 0, none⟩) ss.length ss.length) ∧ w'.heap[w.heap.size]? = some (.cells cur 9 (0, 0)) ∧ OuCells cur ss ss.length ∧ Below w.heap.size w w' := by
  obtain ⟨i0, hi, hz0, hz1, hz2⟩ := info_parts info9
  go_enter Tryz.func36, Tryz.ntmps36
  go_wp2_with (first | (at_make; refine wpList_make_full _ rfl _ _ 22 rfl w.heap.size 9 i0 (.string ByteArray.empty) 1 Tryz.underlying22 hi hz0 hz1 _ _ _ _ ss.length rfl rfl rfl rfl (by rw [hz2]; omega) (by unfold maxLen; omega) (Nat.le_refl _) ?_; intro w1 hown hgrow))
  obtain ⟨cur0, hblk, hsz⟩ := made_block hown
  have hb0 : Below w.heap.size w w1 := (Below.refl _ _).grown hgrow (Nat.le_refl _) (by intro k hk; cases hk)
  clear hown hgrow hi hz0 hz1 hz2
  go_loopw [13] (fun i wr => ∃ (k : Nat) (cur : Array Value), k ≤ ss.length ∧ i = .int .i64 k ∧ wr.heap[w.heap.size]? = some (.cells cur 9 (0, 0)) ∧ Hid (OuCells cur ss k) ∧ Below w.heap.size w wr) (fun i _ => ss.length - (intOf i).toNat)
  case atStart => exact ⟨0, cur0, by omega, rfl, hblk, ⟨by simpa using hsz, fun i _ h => absurd h (Nat.not_lt_zero _)⟩, hb0⟩
  case round =>
    obtain ⟨k, cur, hk, rfl, hblk, HC, hb⟩ := hrel
    by_cases hlt : k < ss.length
    · obtain ⟨b, off, rfl, -, c1⟩ := hm k hlt
      have c1' := cell_later hb c1
      clear c1
      have hck := hc ss[k] (List.getElem_mem hlt)
      have hsz := HC.out.1
      go_wp2_with fail
      refine (clone_any ss[k] _ hck).mono ?_
      rintro e w2 ⟨rfl, hb2⟩
      have hblk2 := block_kept hblk hb2
      have hfz := block_free hblk2
      have hcl : w2.cell? ⟨w.heap.size, k, none⟩ = some cur[k] := by rw [block_cell hblk2]; simp
      have hb3 : Below w.heap.size w w2 := hb.trans (hb2.mono hb.size)
      clear hb2
      go_wp2
      go_roundw
      case rel =>
        exact ⟨k + 1, _, by omega, by go_num, block_set hblk2 _, HC.out.more hlt, hb3.setCell (Nat.le_refl _) _⟩
      case measure => simp [intOf]; omega
    · have hkn : k = ss.length := by omega
      subst hkn
      go_wp2
      go_ret
      exact ⟨cur, rfl, hblk, HC.out, hb⟩

theorem OuCells.own {w : World} {g base : Nat} {cur : Array Value} {ss : List ByteArray} (h : OuCells cur ss ss.length) (hg : w.heap[g]? = some (.cells cur 9 (0, 0))) (hb : base ≤ g) (hn : ss.length ≤ 1048576) : w.ownsRow base 9 1 (.slice (some ⟨g, 0, none⟩) ss.length ss.length) ss.length (ss.map .string) := by
  refine ⟨by simp, .inr ⟨g, ss.length, cur, rfl, hb, hg, Nat.le_refl _, by unfold maxLen; omega, by have := h.1; omega, ?_⟩⟩
  have hs := h.1
  apply List.ext_getElem?
  intro i
  by_cases hi : i < ss.length
  · rw [List.getElem?_take_of_lt (by omega), Array.getElem?_toList, h.2 i hi hi]
    simp [hi]
  · rw [List.getElem?_eq_none (by simp; omega), List.getElem?_eq_none (by simp; omega)]
theorem own_cap {w : World} {base e size n c : Nat} {a : Option Addr} {xs : List Value} (h : w.ownsRow base e size (.slice a n c) n xs) : n ≤ c := by
  rcases h.2 with ⟨hv, h0⟩ | ⟨g, cap, cur, hv, -, -, hnc, -⟩
  · omega
  · cases hv; exact hnc
theorem own_ptr {w : World} {base e size n c : Nat} {a : Option Addr} {xs : List Value} (h : w.ownsRow base e size (.slice a n c) n xs) (hn : 1 ≤ n) : ∃ g, a = some ⟨g, 0, none⟩ ∧ base ≤ g := by
  rcases h.2 with ⟨hv, h0⟩ | ⟨g, cap, cur, hv, hb, -⟩
  · omega
  · cases hv; exact ⟨g, rfl, hb⟩

set_option maxRecDepth 100000 in
set_option maxHeartbeats 2000000 in
theorem insClone_any (b off n cc : Nat) (code : List (Int × Int)) (w : World) (hn : n = code.length) (hcode : CodeAt w 0 (some ⟨b, off, none⟩) code) (h1 : 1 ≤ n) (h120 : n ≤ 120) :
    Calls Tryz.prog 41 #[.slice (some ⟨b, off, none⟩) n cc] w fun e w' => ∃ g cap, e = .returned (.slice (some ⟨g, 0, none⟩) n cap) ∧ w'.ownsRow w.heap.size 44 2 (.slice (some ⟨g, 0, none⟩) n cap) n (codeVals code) ∧ Below w.heap.size w w' := by
  obtain ⟨j0, hj, hy0, hy1, hy2⟩ := info_parts info44
  have hbe : Below w.heap.size w (w.alloc (.cells #[] 44)) := (Below.refl _ _).alloc (Nat.le_refl _) _
  have hE : (w.alloc (.cells #[] 44)).ownsRow w.heap.size 44 2 (.slice (some ⟨w.heap.size, 0, none⟩) 0 0) 0 [] := by
    have := World.ownsRow_made (base := w.heap.size) (e := 44) (size := 2) w #[] 0 (Nat.le_refl _) (by unfold maxLen; omega) rfl
    simpa using this
  obtain ⟨vs, hvs⟩ : ∃ vs, vs = codeVals code := ⟨_, rfl⟩
  have HN : Hid (∀ (j : Nat) (u : Value), vs[j]? = some u → (w.alloc (.cells #[] 44)).cell? ((⟨b, off, none⟩ : Addr).add j) = some u) := by rw [hvs]; exact code_news hcode hbe
  have HVL : Hid (vs.length = n * 2) := by show _ = _; rw [hvs, codeVals_len, hn]
  have hv1 : ∀ u ∈ vs, u.oneCell' = true := fun u hu => by rw [hvs] at hu; exact codeVals_one u hu
  rw [← hvs]
  clear hcode hvs hn
  have hnil : (binOp .eql 38 (.slice (some ⟨b, off, none⟩) n cc) (.slice none 0 0)).run Tryz.prog w = .ok (.bool false) w := by first | rfl | kernel_rfl | simp [binOp, go_sem, Tryz.underlying38]
  go_enter Tryz.func41, Tryz.ntmps41
  go_wp2_with (at_builtin; (refine wpList_append_lies _ rfl _ _ 38 rfl w.heap.size 44 j0 (.agg #[.int .i64 0, .int .i64 0]) 2 16 Tryz.underlying38 hj hy0 hy1 hy2 rfl (by decide) _ _ _ rfl hE ⟨b, off, none⟩ n cc vs rfl HVL.out HN.out hv1 (by omega) (by unfold maxLen; omega) (by omega) (by simp) _ rfl ?_); intro g cp w1 hown1 hgrow1 hat1 hlt1)
  have hk1 := Keeps.grown (ts := [44]) hE hgrow1 (by simp)
  have hb1 : Below w.heap.size w w1 := hbe.trans (hk1.toBelow (by simp))
  have HO : Hid (w1.ownsRow w.heap.size 44 2 (.slice (some ⟨g, 0, none⟩) n cp) n vs) := by show World.ownsRow _ _ _ _ _ _ _; simpa using hown1
  clear hown1 hgrow1 hk1 hat1 hlt1
  go_wp2
  go_ret
  exact ⟨g, cp, by simp, HO.out, hb1⟩
end Go.Proofs.YtjdoljaailokmaaGreatDoor

namespace Go.Proofs.YtjdoljaailokmaaGreatDoor
open Go.RowKit

/-- A row of instructions in memory of one's own. -/
def CRow (w : World) (B : Nat) (v : Value) (ys : List (Int × Int)) : Prop := ∃ a c, v = .slice a ys.length c ∧ w.ownsRow B 44 2 (.slice a ys.length c) ys.length (codeVals ys)

theorem goneL_none {g : Nat → Bool} {n : Nat} (h : ∀ i, i < n → g i = false) : ∀ k, k ≤ n → goneL g k = [] := by
  intro k
  induction k with
  | zero => exact fun _ => rfl
  | succ k ih => exact fun hk => by rw [goneL_no (h k (by omega)), ih (by omega)]

end Go.Proofs.YtjdoljaailokmaaGreatDoor

namespace Go.Proofs.YtjdoljaailokmaaGreatDoor
open Go.RowKit

/-- What settled does with the instructions of each function of this module. -/
def SetC (w0 : World) (a1 a2 : Option Addr) (c1 c2 : Nat) (ts : List ByteArray) (fs : List Fn) (pv : Value) (f : List (Int × Int) → List (Int × Int)) : Prop :=
  ∀ (w : World) (B cap : Nat) (code : List (Int × Int)) (ca : Option Addr), Below w0.heap.size w0 w → w0.heap.size ≤ B → B ≤ w.heap.size → (∃ F ∈ fs, F.code = code) → w.ownsRow B 44 2 (.slice ca code.length cap) code.length (codeVals code) →
    Calls Tryz.prog 40 #[.agg #[.slice a1 ts.length c1, .slice a2 fs.length c2], .slice ca code.length cap, pv] w fun e w' => ∃ v, e = .returned v ∧ CRow w' B v (f code) ∧ Below B w w'

set_option maxRecDepth 100000 in
set_option maxHeartbeats 8000000 in
theorem rew1_any (w0 w : World) (a1 a2 : Option Addr) (c1 c2 Mb Pb b off cc : Nat) (ts : List ByteArray) (fs : List Fn) (pv : Value) (p l : Int) (code : List (Int × Int)) (f : List (Int × Int) → List (Int × Int)) (hset : SetC w0 a1 a2 c1 c2 ts fs pv f) (hb : Below w0.heap.size w0 w) (hF : ∃ F ∈ fs, F.code = code)
    (h1 : 1 ≤ code.length) (h120 : code.length ≤ 120) (hcode : CodeAt w 0 (some ⟨b, off, none⟩) code)
    (hM : w.heap[Mb]? = some (.cells #[.slice a1 ts.length c1, .slice a2 fs.length c2] 29 (0, 0))) (hP : w.heap[Pb]? = some (.cells #[pv] 51 (0, 0))) :
    Calls Tryz.prog 39 #[.agg #[.int .i64 p, .int .i64 l, .slice (some ⟨b, off, none⟩) code.length cc], .pointer (some ⟨Mb, 0, none⟩), .pointer (some ⟨Pb, 0, none⟩)] w fun e w' => ∃ a' c', e = .returned (.agg #[.int .i64 p, .int .i64 l, .slice a' (f code).length c']) ∧ w'.ownsRow w.heap.size 44 2 (.slice a' (f code).length c') (f code).length (codeVals (f code)) ∧ Below w.heap.size w w' := by
  obtain ⟨wA, hwA⟩ : ∃ wA, wA = (w.alloc (.cells #[.int .i64 p, .int .i64 l, .slice (some ⟨b, off, none⟩) code.length cc] 40)).alloc (.cells #[.int .i64 0, .int .i64 0, .slice none 0 0] 40) := ⟨_, rfl⟩
  have hbA : Below w.heap.size w wA := by rw [hwA]; exact ((Below.refl _ _).alloc (Nat.le_refl _) _).alloc (by simp) _
  have hFn : wA.heap[w.heap.size]? = some (.cells #[.int .i64 p, .int .i64 l, .slice (some ⟨b, off, none⟩) code.length cc] 40 (0, 0)) := by rw [hwA]; exact block_old (block_new _ _ _) _
  have hRn : wA.heap[w.heap.size + 1]? = some (.cells #[.int .i64 0, .int .i64 0, .slice none 0 0] 40 (0, 0)) := by rw [hwA]; simpa using block_new (w.alloc (.cells #[.int .i64 p, .int .i64 l, .slice (some ⟨b, off, none⟩) code.length cc] 40)) #[.int .i64 0, .int .i64 0, .slice none 0 0] 40
  have hMA := block_kept hM hbA
  have hPA := block_kept hP hbA
  have hszA : w.heap.size + 2 ≤ wA.heap.size := by rw [hwA]; simp
  have HSZ := hid hszA
  have HBA := hid hbA
  have HCL : Hid (∀ W, Below wA.heap.size wA W → Calls Tryz.prog 41 #[.slice (some ⟨b, off, none⟩) code.length cc] W fun e w' => ∃ g cap, e = .returned (.slice (some ⟨g, 0, none⟩) code.length cap) ∧ w'.ownsRow W.heap.size 44 2 (.slice (some ⟨g, 0, none⟩) code.length cap) code.length (codeVals code) ∧ Below W.heap.size W w') := fun W hW => insClone_any b off code.length cc code W rfl ((hcode.mono hbA).mono hW) h1 h120
  have HST : Hid (∀ (W : World) (g cap : Nat), Below wA.heap.size wA W → W.ownsRow wA.heap.size 44 2 (.slice (some ⟨g, 0, none⟩) code.length cap) code.length (codeVals code) → Calls Tryz.prog 40 #[.agg #[.slice a1 ts.length c1, .slice a2 fs.length c2], .slice (some ⟨g, 0, none⟩) code.length cap, pv] W fun e w' => ∃ v, e = .returned v ∧ CRow w' wA.heap.size v (f code) ∧ Below wA.heap.size W w') := fun W g cap hW ho =>
    hset W wA.heap.size cap code (some ⟨g, 0, none⟩) ((hb.trans (hbA.mono hb.size)).trans (hW.mono (Nat.le_trans hb.size hbA.size))) (Nat.le_trans hb.size hbA.size) hW.size hF ho
  have HFX : Hid (∀ w', Below wA.heap.size wA w' → w'.heap[w.heap.size]? = some (.cells #[.int .i64 p, .int .i64 l, .slice (some ⟨b, off, none⟩) code.length cc] 40 (0, 0))) := fun w' q => block_kept hFn q
  have HS : Hid (∀ w', Below wA.heap.size wA w' → w'.cell? ⟨Mb, 0, none⟩ = some (.slice a1 ts.length c1) ∧ w'.cell? ⟨Mb, 1, none⟩ = some (.slice a2 fs.length c2) ∧ w'.cell? ⟨Pb, 0, none⟩ = some pv ∧ w'.cell? ⟨w.heap.size, 2, none⟩ = some (.slice (some ⟨b, off, none⟩) code.length cc)) := fun w' q => ⟨by rw [block_cell (block_kept hMA q)]; rfl, by rw [block_cell (block_kept hMA q)]; rfl, by rw [block_cell (block_kept hPA q)]; rfl, by rw [block_cell (block_kept hFn q)]; rfl⟩
  clear hset hcode hM hP hMA hPA hF
  go_enter Tryz.func39, Tryz.ntmps39
  go_upto_region 1 with fail
  rw [← hwA]
  clear hwA hbA hszA
  have hh : (fun w' : World => w'.cell? ⟨Mb, 0, none⟩ = some (.slice a1 ts.length c1) ∧ w'.cell? ⟨Mb, 1, none⟩ = some (.slice a2 fs.length c2) ∧ w'.cell? ⟨Pb, 0, none⟩ = some pv ∧ w'.cell? ⟨w.heap.size, 2, none⟩ = some (.slice (some ⟨b, off, none⟩) code.length cc)) wA.drew := HS.out _ (Below.refl _ _).drew
  refine wp_region_T (RS [7] (fun w' : World => w'.cell? ⟨Mb, 0, none⟩ = some (.slice a1 ts.length c1) ∧ w'.cell? ⟨Mb, 1, none⟩ = some (.slice a2 fs.length c2) ∧ w'.cell? ⟨Pb, 0, none⟩ = some pv ∧ w'.cell? ⟨w.heap.size, 2, none⟩ = some (.slice (some ⟨b, off, none⟩) code.length cc))) (by kernel_rfl) ?_
  refine tkS (i := 0) [5, 7] (v := ?_) rfl (by kernel_rfl) (by kernel_rfl) (fun _ _ _ h => h) ?_ hh ?_
  rotate_left
  · intro w' hSw
    obtain ⟨s0, s1, s2, s3⟩ := hSw
    go_simp
    try with_reducible rfl
  simp only [Act.put, List.setIfInBounds_toArray]
  refine tkP (i := 1) (v := ?_) rfl (by kernel_rfl) (fun _ _ _ h => h) ?_ ?_
  rotate_left
  · intro w'
    go_simp
    try with_reducible rfl
  simp only [Act.put]
  refine tkS (i := 2) [3, 5, 7] (v := ?_) rfl (by kernel_rfl) (by kernel_rfl) (fun _ _ _ h => h) ?_ hh ?_
  rotate_left
  · intro w' hSw
    obtain ⟨s0, s1, s2, s3⟩ := hSw
    go_simp
    try with_reducible rfl
  simp only [Act.put]
  refine tkS (i := 4) [5, 7] (v := ?_) rfl (by kernel_rfl) (by kernel_rfl) (fun _ _ _ h => h) ?_ hh ?_
  rotate_left
  · intro w' hSw
    obtain ⟨s0, s1, s2, s3⟩ := hSw
    go_simp
    try with_reducible rfl
  simp only [Act.put]
  refine wpAnyT_one (i := 3) (o := _) (by kernel_rfl) rfl (fun Kq hK => ?_)
  go_simp
  go_at_call 41
  refine (HCL.out _ (Below.refl _ _).drew).mono ?_
  rintro e w5 ⟨g5, cp5, rfl, hown5, hb5⟩
  have q5 : Below wA.heap.size wA w5 := (Below.refl _ _).drew.trans hb5
  refine hK.out _ _ (.inr fun _ => HS.out w5 q5) ?_
  clear hK Kq
  try simp only [Act.put]
  refine wpAnyT_one (i := 5) (o := _) (by kernel_rfl) rfl (fun Kq hK => ?_)
  go_simp
  go_at_call 40
  refine (HST.out w5 g5 cp5 q5 hown5).mono ?_
  rintro e w6 ⟨v6, rfl, hrow6, hb6⟩
  have q6 : Below wA.heap.size wA w6 := q5.trans hb6
  have f2 := block_cell (HFX.out w6 q6)
  have f3 := block_free (HFX.out w6 q6)
  refine hK.out _ _ (.inr fun _ => HS.out w6 q6) ?_
  clear hK Kq
  try simp only [Act.put]
  refine tkP (i := 6) (v := ?_) rfl (by kernel_rfl) (fun _ _ _ h => h) ?_ ?_
  rotate_left
  · intro w'
    go_simp
    try with_reducible rfl
  simp only [Act.put]
  refine wpAnyT_one (i := 7) (o := _) (by kernel_rfl) rfl (fun Kq hK => ?_)
  obtain ⟨a6, c6, rfl, hown6⟩ := hrow6
  go_simp
  refine hK.out _ _ (.inl (by decide)) ?_
  clear hK Kq
  try simp only [Act.put]
  refine wpAnyT_done (by kernel_rfl) ?_ _
  have hFn6 := HFX.out w6 q6
  have hRn6 := block_kept hRn q6
  have hFs := block_set (i := 2) hFn6 (.slice a6 (f code).length c6)
  have hRs : (w6.setCell ⟨w.heap.size, 2, none⟩ (.slice a6 (f code).length c6)).heap[w.heap.size + 1]? = some (.cells #[.int .i64 0, .int .i64 0, .slice none 0 0] 40 (0, 0)) := by rw [Below.heap_setCell _ _ _ _ (by simp)]; exact hRn6
  have y1 := block_cell hFs
  have y2 := block_cell hRs
  have y3 := block_free hRs
  have hq1 := block_set (i := 0) hRs (.int .i64 p)
  have hq2 := block_set (i := 1) hq1 (.int .i64 l)
  have hq3 := block_set (i := 2) hq2 (.slice a6 (f code).length c6)
  have rr := block_cell hq3
  have HF : Hid ((∃ a' c', (Ending.returned (.agg #[.int .i64 p, .int .i64 l, .slice a6 (f code).length c6]) = .returned (.agg #[.int .i64 p, .int .i64 l, .slice a' (f code).length c'])) ∧ ((((w6.setCell ⟨w.heap.size, 2, none⟩ (.slice a6 (f code).length c6)).setCell ⟨w.heap.size + 1, 0, none⟩ (.int .i64 p)).setCell ⟨w.heap.size + 1, 1, none⟩ (.int .i64 l)).setCell ⟨w.heap.size + 1, 2, none⟩ (.slice a6 (f code).length c6)).ownsRow w.heap.size 44 2 (.slice a' (f code).length c') (f code).length (codeVals (f code)) ∧ Below w.heap.size w ((((w6.setCell ⟨w.heap.size, 2, none⟩ (.slice a6 (f code).length c6)).setCell ⟨w.heap.size + 1, 0, none⟩ (.int .i64 p)).setCell ⟨w.heap.size + 1, 1, none⟩ (.int .i64 l)).setCell ⟨w.heap.size + 1, 2, none⟩ (.slice a6 (f code).length c6)))) := by
    refine ⟨a6, c6, rfl, ?_, ?_⟩
    · have := own_low (ownsRow_setCell_below (ownsRow_setCell_below (ownsRow_setCell_below (ownsRow_setCell_below hown6 (a := ⟨w.heap.size, 2, none⟩) (by have := HSZ.out; simp; omega) (.slice a6 (f code).length c6)) (a := ⟨w.heap.size + 1, 0, none⟩) (by have := HSZ.out; simp; omega) (.int .i64 p)) (a := ⟨w.heap.size + 1, 1, none⟩) (by have := HSZ.out; simp; omega) (.int .i64 l)) (a := ⟨w.heap.size + 1, 2, none⟩) (by have := HSZ.out; simp; omega) (.slice a6 (f code).length c6)) (show w.heap.size ≤ wA.heap.size by have := HSZ.out; omega)
      exact this
    · exact ((((HBA.out.trans (q6.mono HBA.out.size)).setCell (p := ⟨w.heap.size, 2, none⟩) (Nat.le_refl _) (.slice a6 (f code).length c6)).setCell (p := ⟨w.heap.size + 1, 0, none⟩) (by simp) (.int .i64 p)).setCell (p := ⟨w.heap.size + 1, 1, none⟩) (by simp) (.int .i64 l)).setCell (p := ⟨w.heap.size + 1, 2, none⟩) (by simp) (.slice a6 (f code).length c6)
  clear hFs hRs hq1 hq2 hq3 hown6 hb6 q6 hown5 hb5 q5 hFn6 hRn6 hRn hFn f2 f3 hh
  go_simp
  go_wp2
  refine bodyPost_ret (v := .agg #[.int .i64 p, .int .i64 l, .slice a6 (f code).length c6]) (by simp [results, Tryz.results39, go_sem, rr]) rfl HF.out
end Go.Proofs.YtjdoljaailokmaaGreatDoor
