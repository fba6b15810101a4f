/-
  impl.cutUnreached: what nobody comes to is taken out.
  Copies of texts and of instructions: impl.eachOf over texts, slices.Clone.
-/
import Derived.Test.YtffeejkghmpkkaaRCK
import Derived.Test.YtffeejkghmpkkaaRV9
namespace Go.Proofs.Ytffeejkghmpkkaa
open Go.RowKit

set_option maxRecDepth 100000 in
set_option maxHeartbeats 8000000 in
theorem cutU_any (a1 a2 : Option Addr) (nt c1 c2 b off cc : Nat) (fs : List Fn) (code : List (Int × Int)) (d : List Int) (w : World) (hm : FnsAt w 0 a2 fs) (hcode : CodeAt w 0 (some ⟨b, off, none⟩) code) (F : Fine fs code) (L : Lab fs code d) (hcc : code.length ≤ cc) :
    Calls Try.prog 23 #[.agg #[.slice a1 nt c1, .slice a2 fs.length c2], .slice (some ⟨b, off, none⟩) code.length cc] w fun e w' => ∃ G, e = .returned (.tuple #[.slice (some ⟨G, 0, none⟩) (takeOut (goneD d) code).length (takeOut (goneD d) code).length, .bool (decide (0 < (goneL (goneD d) code.length).length))]) ∧ w'.ownsRow w.heap.size 54 2 (.slice (some ⟨G, 0, none⟩) (takeOut (goneD d) code).length (takeOut (goneD d) code).length) (takeOut (goneD d) code).length (codeVals (takeOut (goneD d) code)) ∧ Below w.heap.size w w' := by
  obtain ⟨i0, hi, hz0, hz1, hz2⟩ := info_parts info3
  have hone := F.one
  have hmost := F.most
  have hdl := L.len
  have hlow := L.low
  have hbA : Below w.heap.size w (w.alloc (.cells #[.slice a1 nt c1, .slice a2 fs.length c2] 29)) := (Below.refl _ _).alloc (Nat.le_refl _) _
  have hM := block_new w #[.slice a1 nt c1, .slice a2 fs.length c2] 29
  have g0 : goneD d 0 = false := by unfold goneD; rw [L.zero]; rfl
  have m0 := block_cell hM
  go_enter Try.func23, Try.ntmps23
  go_wp2_with fail
  refine (iHeights_any a1 a2 (some ⟨b, off, none⟩) nt c1 c2 cc fs code _ (hm.mono hbA) (hcode.mono hbA) F).mono ?_
  rintro e w1 ⟨gh, d', rfl, -, hD, hH, hb1⟩
  obtain rfl := L.done F hD
  have hb : Below w.heap.size w w1 := hbA.trans (hb1.mono hbA.size)
  have hrow0 : w1.ownsRow w1.heap.size 3 1 (.slice none 0 0) 0 [] := World.ownsRow_nil _ _ _ _
  have HC := hid hcode
  have HF := hid F
  obtain ⟨n, hn⟩ : ∃ n, n = code.length := ⟨_, rfl⟩
  rw [← hn] at hdl hone hmost hcc ⊢
  have HN := hid hn
  clear hm hcode L F hD hb1 hM m0 hbA hn
  go_wp2
  go_loopw [6, 13] (fun o i wr => ∃ (t : Nat) (ga : Option Addr) (gc : Nat), t ≤ n ∧ i = .int .i64 t ∧ o = .slice ga (goneL (goneD d') t).length gc ∧ wr.ownsRow w1.heap.size 3 1 (.slice ga (goneL (goneD d') t).length gc) (goneL (goneD d') t).length ((goneL (goneD d') t).map (Value.int .i64)) ∧ Below w1.heap.size w1 wr) (fun _ i _ => n - (intOf i).toNat)
  case atStart => exact ⟨0, none, 0, by omega, rfl, rfl, hrow0, Below.refl _ _⟩
  case round =>
    obtain ⟨t, ga, gc, ht, rfl, rfl, hown, hbx⟩ := hrel
    clear hrow0
    have hgl := goneL_len (goneD d') t
    by_cases hlt : t < n
    · have hcd := (hH.mono hbx).cell (j := t) (by omega)
      have hszx := hbx.size
      have hszw := hb.size
      have hget : d'.getD t (-1) = d'[t] := by rw [List.getD_eq_getElem?_getD, List.getElem?_eq_getElem (by omega)]; rfl
      have hlt2 := hlow t
      cases hg : goneD d' t with
      | true =>
        have hz : d'[t] = -1 := by unfold goneD at hg; rw [hget] at hg hlt2; have := of_decide_eq_true hg; omega
        rw [hz] at hcd
        have H1 : Hid (goneL (goneD d') (t + 1) = goneL (goneD d') t ++ [(t : Int)]) := goneL_yes hg
        obtain ⟨k, hk⟩ : ∃ k, k = (goneL (goneD d') t).length := ⟨_, rfl⟩
        have HK := hid hk
        rw [← hk] at hown hgl ⊢
        clear hk hz hget hlt2
        go_wp2_with (first | (at_builtin; refine wpList_append_lies _ rfl _ _ 38 rfl w1.heap.size 3 i0 (.int .i64 0) 1 8 Try.underlying38 hi hz0 hz1 hz2 rfl (by decide) _ _ _ rfl (World.ownsRow.alloc hown _) ⟨wr.heap.size, 0, none⟩ 1 1 [.int .i64 (t : Int)] rfl rfl (cell_one_new _ _ _) (by intro u hu; simp at hu; subst hu; rfl) (by decide) (by unfold maxLen; omega) (by omega) (by simp; omega) _ rfl ?_; intro g1 cap w2 hown1 hgrow1 hat1 hlt1))
        have hk1 := Keeps.grown (ts := [3]) (World.ownsRow.alloc hown _) hgrow1 (by simp)
        have hb2 : Below w1.heap.size w1 w2 := (hbx.alloc hbx.size _).trans (hk1.toBelow (by simp; omega))
        have HE : Hid ((goneL (goneD d') (t + 1)).length = k + 1) := by show _ = _; rw [H1.out]; simp [HK.out]
        go_roundw
        case rel => exact ⟨t + 1, _, _, by omega, by go_num, by rw [HE.out], by rw [HE.out, H1.out]; simpa using hown1, hb2⟩
        case measure => simp [intOf]; omega
      | false =>
        have hz : (d'[t] == -1) = false := by unfold goneD at hg; rw [hget] at hg; have := of_decide_eq_false hg; exact beq_eq_false_iff_ne.2 (by omega)
        have H1 : Hid (goneL (goneD d') (t + 1) = goneL (goneD d') t) := goneL_no hg
        generalize d'[t] = z at hcd hz hget
        clear hget hlt2
        go_wp2_with fail
        go_roundw
        case rel => exact ⟨t + 1, ga, gc, by omega, by go_num, by rw [H1.out], by rw [H1.out]; exact hown, hbx⟩
        case measure => simp [intOf]; omega
    · have hte : t = n := by omega
      subst hte
      have hbw : Below w.heap.size w wr := hb.trans (hbx.mono hb.size)
      have HIN : Hid (IntsAt wr 0 ga (goneL (goneD d') t)) := (IntsAt.own hown rfl (by simp)).low (Nat.zero_le _)
      have HO : Hid (∀ W, Below wr.heap.size wr W → Calls Try.prog 44 #[.slice (some ⟨b, off, none⟩) t cc, .slice ga (goneL (goneD d') t).length gc] W fun e w' => ∃ G, e = .returned (.slice (some ⟨G, 0, none⟩) (takeOut (goneD d') code).length (takeOut (goneD d') code).length) ∧ w'.ownsRow W.heap.size 54 2 (.slice (some ⟨G, 0, none⟩) (takeOut (goneD d') code).length (takeOut (goneD d') code).length) (takeOut (goneD d') code).length (codeVals (takeOut (goneD d') code)) ∧ Below W.heap.size W w') := fun W hW => by
        have := withoutIns_any b off cc code (goneD d') ga gc W (HC.out.mono (hbw.trans (hW.mono hbw.size))) HF.out.one HF.out.most (by rw [← HN.out]; exact hcc) g0 (by rw [← HN.out]; exact HIN.out.mono hW) (fun i hi1 hi2 hj => by rw [getD_code hi1] at hj ⊢; exact HF.out.jump i hi1 hj)
        rw [← HN.out] at this
        exact this
      clear hown hH
      go_wp2_with fail
      refine (HO.out _ (Below.refl _ _)).mono ?_
      rintro e w3 ⟨G, rfl, hown3, hb3⟩
      have HF3 := hid (And.intro (own_low hown3 hbw.size) (hbw.trans (hb3.mono hbw.size)))
      obtain ⟨LL, hLL⟩ : ∃ LL, LL = (goneL (goneD d') t).length := ⟨_, rfl⟩
      rw [← hLL]
      have HLL := hid hLL
      have hgl2 : LL ≤ t := by omega
      clear hown3 hb3 hbw hLL hgl
      go_wp2
      go_ret2
      refine ⟨G, ?_, HF3.out.1, HF3.out.2⟩
      rw [← HN.out, ← HLL.out]
      rfl
end Go.Proofs.Ytffeejkghmpkkaa

namespace Go.Proofs.Ytffeejkghmpkkaa
open Go.RowKit

def OuCells (cur : Array Value) (ss : List ByteArray) (k : Nat) : Prop := cur.size = ss.length ∧ ∀ i (h : i < ss.length), i < k → cur[i]? = some (.string ss[i])

theorem OuCells.more {cur : Array Value} {ss : List ByteArray} {k : Nat} (h : OuCells cur ss k) (hk : k < ss.length) : OuCells (cur.setIfInBounds k (.string ss[k])) ss (k + 1) := by
  refine ⟨by simpa using h.1, fun i hi hik => ?_⟩
  have hs := h.1
  by_cases e : i = k
  · subst e
    exact set_self _ (by omega)
  · rw [set_else _ e]
    exact h.2 i hi (by omega)
theorem clone_any (s : ByteArray) (w : World) (hs : s.size ≤ 1048576) : Calls Try.prog 38 #[.string s] w fun e w' => e = .returned (.string s) ∧ Below w.heap.size w w' := by
  go_enter Try.func38, Try.ntmps38
  go_wp2_with (go_at_call 56; refine (Try.stringslite_Clone s _ (by omega)).mono ?_; rintro e w1 ⟨rfl, hb⟩)
  go_ret
  exact ⟨rfl, hb⟩

set_option maxHeartbeats 1000000 in
theorem eachS_is (a : Option Addr) (ss : List ByteArray) (cap : Nat) (w : World) (hn : ss.length ≤ 1048576) (hc : ∀ s ∈ ss, s.size ≤ 1048576) (hm : StrsAt w 0 a ss) :
    Calls Try.prog 37 #[.slice a ss.length cap, .func (.func 38) #[] #[]] w fun e w' => ∃ cur, e = .returned (.slice (some ⟨w.heap.size, 0, none⟩) ss.length ss.length) ∧ w'.heap[w.heap.size]? = some (.cells cur 9 (0, 0)) ∧ OuCells cur ss ss.length ∧ Below w.heap.size w w' := by
  obtain ⟨i0, hi, hz0, hz1, hz2⟩ := info_parts info9
  go_enter Try.func37, Try.ntmps37
  go_wp2_with (first | (at_make; refine wpList_make_full _ rfl _ _ 22 rfl w.heap.size 9 i0 (.string ByteArray.empty) 1 Try.underlying22 hi hz0 hz1 _ _ _ _ ss.length rfl rfl rfl rfl (by rw [hz2]; omega) (by unfold maxLen; omega) (Nat.le_refl _) ?_; intro w1 hown hgrow))
  obtain ⟨cur0, hblk, hsz⟩ := made_block hown
  have hb0 : Below w.heap.size w w1 := (Below.refl _ _).grown hgrow (Nat.le_refl _) (by intro k hk; cases hk)
  clear hown hgrow hi hz0 hz1 hz2
  go_loopw [13] (fun i wr => ∃ (k : Nat) (cur : Array Value), k ≤ ss.length ∧ i = .int .i64 k ∧ wr.heap[w.heap.size]? = some (.cells cur 9 (0, 0)) ∧ Hid (OuCells cur ss k) ∧ Below w.heap.size w wr) (fun i _ => ss.length - (intOf i).toNat)
  case atStart => exact ⟨0, cur0, by omega, rfl, hblk, ⟨by simpa using hsz, fun i _ h => absurd h (Nat.not_lt_zero _)⟩, hb0⟩
  case round =>
    obtain ⟨k, cur, hk, rfl, hblk, HC, hb⟩ := hrel
    by_cases hlt : k < ss.length
    · obtain ⟨b, off, rfl, -, c1⟩ := hm k hlt
      have c1' := cell_later hb c1
      clear c1
      have hck := hc ss[k] (List.getElem_mem hlt)
      have hsz := HC.out.1
      go_wp2_with fail
      refine (clone_any ss[k] _ hck).mono ?_
      rintro e w2 ⟨rfl, hb2⟩
      have hblk2 := block_kept hblk hb2
      have hfz := block_free hblk2
      have hcl : w2.cell? ⟨w.heap.size, k, none⟩ = some cur[k] := by rw [block_cell hblk2]; simp
      have hb3 : Below w.heap.size w w2 := hb.trans (hb2.mono hb.size)
      clear hb2
      go_wp2
      go_roundw
      case rel =>
        exact ⟨k + 1, _, by omega, by go_num, block_set hblk2 _, HC.out.more hlt, hb3.setCell (Nat.le_refl _) _⟩
      case measure => simp [intOf]; omega
    · have hkn : k = ss.length := by omega
      subst hkn
      go_wp2
      go_ret
      exact ⟨cur, rfl, hblk, HC.out, hb⟩

theorem OuCells.own {w : World} {g base : Nat} {cur : Array Value} {ss : List ByteArray} (h : OuCells cur ss ss.length) (hg : w.heap[g]? = some (.cells cur 9 (0, 0))) (hb : base ≤ g) (hn : ss.length ≤ 1048576) : w.ownsRow base 9 1 (.slice (some ⟨g, 0, none⟩) ss.length ss.length) ss.length (ss.map .string) := by
  refine ⟨by simp, .inr ⟨g, ss.length, cur, rfl, hb, hg, Nat.le_refl _, by unfold maxLen; omega, by have := h.1; omega, ?_⟩⟩
  have hs := h.1
  apply List.ext_getElem?
  intro i
  by_cases hi : i < ss.length
  · rw [List.getElem?_take_of_lt (by omega), Array.getElem?_toList, h.2 i hi hi]
    simp [hi]
  · rw [List.getElem?_eq_none (by simp; omega), List.getElem?_eq_none (by simp; omega)]
theorem own_cap {w : World} {base e size n c : Nat} {a : Option Addr} {xs : List Value} (h : w.ownsRow base e size (.slice a n c) n xs) : n ≤ c := by
  rcases h.2 with ⟨hv, h0⟩ | ⟨g, cap, cur, hv, -, -, hnc, -⟩
  · omega
  · cases hv; exact hnc
theorem own_ptr {w : World} {base e size n c : Nat} {a : Option Addr} {xs : List Value} (h : w.ownsRow base e size (.slice a n c) n xs) (hn : 1 ≤ n) : ∃ g, a = some ⟨g, 0, none⟩ ∧ base ≤ g := by
  rcases h.2 with ⟨hv, h0⟩ | ⟨g, cap, cur, hv, hb, -⟩
  · omega
  · cases hv; exact ⟨g, rfl, hb⟩

set_option maxRecDepth 100000 in
set_option maxHeartbeats 2000000 in
theorem insClone_any (b off n cc : Nat) (code : List (Int × Int)) (w : World) (hn : n = code.length) (hcode : CodeAt w 0 (some ⟨b, off, none⟩) code) (h1 : 1 ≤ n) (h120 : n ≤ 120) :
    Calls Try.prog 42 #[.slice (some ⟨b, off, none⟩) n cc] w fun e w' => ∃ g cap, e = .returned (.slice (some ⟨g, 0, none⟩) n cap) ∧ w'.ownsRow w.heap.size 54 2 (.slice (some ⟨g, 0, none⟩) n cap) n (codeVals code) ∧ Below w.heap.size w w' := by
  obtain ⟨j0, hj, hy0, hy1, hy2⟩ := info_parts info54
  have hbe : Below w.heap.size w (w.alloc (.cells #[] 54)) := (Below.refl _ _).alloc (Nat.le_refl _) _
  have hE : (w.alloc (.cells #[] 54)).ownsRow w.heap.size 54 2 (.slice (some ⟨w.heap.size, 0, none⟩) 0 0) 0 [] := by
    have := World.ownsRow_made (base := w.heap.size) (e := 54) (size := 2) w #[] 0 (Nat.le_refl _) (by unfold maxLen; omega) rfl
    simpa using this
  obtain ⟨vs, hvs⟩ : ∃ vs, vs = codeVals code := ⟨_, rfl⟩
  have HN : Hid (∀ (j : Nat) (u : Value), vs[j]? = some u → (w.alloc (.cells #[] 54)).cell? ((⟨b, off, none⟩ : Addr).add j) = some u) := by rw [hvs]; exact code_news hcode hbe
  have HVL : Hid (vs.length = n * 2) := by show _ = _; rw [hvs, codeVals_len, hn]
  have hv1 : ∀ u ∈ vs, u.oneCell' = true := fun u hu => by rw [hvs] at hu; exact codeVals_one u hu
  rw [← hvs]
  clear hcode hvs hn
  have hnil : (binOp .eql 41 (.slice (some ⟨b, off, none⟩) n cc) (.slice none 0 0)).run Try.prog w = .ok (.bool false) w := by first | rfl | kernel_rfl | simp [binOp, go_sem, Try.underlying41]
  go_enter Try.func42, Try.ntmps42
  go_wp2_with (at_builtin; (refine wpList_append_lies _ rfl _ _ 41 rfl w.heap.size 54 j0 (.agg #[.int .i64 0, .int .i64 0]) 2 16 Try.underlying41 hj hy0 hy1 hy2 rfl (by decide) _ _ _ rfl hE ⟨b, off, none⟩ n cc vs rfl HVL.out HN.out hv1 (by omega) (by unfold maxLen; omega) (by omega) (by simp) _ rfl ?_); intro g cp w1 hown1 hgrow1 hat1 hlt1)
  have hk1 := Keeps.grown (ts := [54]) hE hgrow1 (by simp)
  have hb1 : Below w.heap.size w w1 := hbe.trans (hk1.toBelow (by simp))
  have HO : Hid (w1.ownsRow w.heap.size 54 2 (.slice (some ⟨g, 0, none⟩) n cp) n vs) := by show World.ownsRow _ _ _ _ _ _ _; simpa using hown1
  clear hown1 hgrow1 hk1 hat1 hlt1
  go_wp2
  go_ret
  exact ⟨g, cp, by simp, HO.out, hb1⟩
end Go.Proofs.Ytffeejkghmpkkaa
