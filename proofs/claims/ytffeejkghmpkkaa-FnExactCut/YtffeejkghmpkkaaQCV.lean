/-
  Copies of texts and of instructions: impl.eachOf over texts, slices.Clone.
-/
import Derived.Test.YtffeejkghmpkkaaQCU
namespace Go.Proofs.Ytffeejkghmpkkaa
open Go.RowKit

def OuCells (cur : Array Value) (ss : List ByteArray) (k : Nat) : Prop := cur.size = ss.length ∧ ∀ i (h : i < ss.length), i < k → cur[i]? = some (.string ss[i])

theorem OuCells.more {cur : Array Value} {ss : List ByteArray} {k : Nat} (h : OuCells cur ss k) (hk : k < ss.length) : OuCells (cur.setIfInBounds k (.string ss[k])) ss (k + 1) := by
  refine ⟨by simpa using h.1, fun i hi hik => ?_⟩
  have hs := h.1
  by_cases e : i = k
  · subst e
    exact set_self _ (by omega)
  · rw [set_else _ e]
    exact h.2 i hi (by omega)
theorem clone_any (s : ByteArray) (w : World) (hs : s.size ≤ 1048576) : Calls Try.prog 38 #[.string s] w fun e w' => e = .returned (.string s) ∧ Below w.heap.size w w' := by
  go_enter Try.func38, Try.ntmps38
  go_wp2_with (go_at_call 56; refine (Try.stringslite_Clone s _ (by omega)).mono ?_; rintro e w1 ⟨rfl, hb⟩)
  go_ret
  exact ⟨rfl, hb⟩

set_option maxHeartbeats 1000000 in
theorem eachS_is (a : Option Addr) (ss : List ByteArray) (cap : Nat) (w : World) (hn : ss.length ≤ 1048576) (hc : ∀ s ∈ ss, s.size ≤ 1048576) (hm : StrsAt w 0 a ss) :
    Calls Try.prog 37 #[.slice a ss.length cap, .func (.func 38) #[] #[]] w fun e w' => ∃ cur, e = .returned (.slice (some ⟨w.heap.size, 0, none⟩) ss.length ss.length) ∧ w'.heap[w.heap.size]? = some (.cells cur 9 (0, 0)) ∧ OuCells cur ss ss.length ∧ Below w.heap.size w w' := by
  obtain ⟨i0, hi, hz0, hz1, hz2⟩ := info_parts info9
  go_enter Try.func37, Try.ntmps37
  go_wp2_with (first | (at_make; refine wpList_make_full _ rfl _ _ 22 rfl w.heap.size 9 i0 (.string ByteArray.empty) 1 Try.underlying22 hi hz0 hz1 _ _ _ _ ss.length rfl rfl rfl rfl (by rw [hz2]; omega) (by unfold maxLen; omega) (Nat.le_refl _) ?_; intro w1 hown hgrow))
  obtain ⟨cur0, hblk, hsz⟩ := made_block hown
  have hb0 : Below w.heap.size w w1 := (Below.refl _ _).grown hgrow (Nat.le_refl _) (by intro k hk; cases hk)
  clear hown hgrow hi hz0 hz1 hz2
  go_loopw [13] (fun i wr => ∃ (k : Nat) (cur : Array Value), k ≤ ss.length ∧ i = .int .i64 k ∧ wr.heap[w.heap.size]? = some (.cells cur 9 (0, 0)) ∧ Hid (OuCells cur ss k) ∧ Below w.heap.size w wr) (fun i _ => ss.length - (intOf i).toNat)
  case atStart => exact ⟨0, cur0, by omega, rfl, hblk, ⟨by simpa using hsz, fun i _ h => absurd h (Nat.not_lt_zero _)⟩, hb0⟩
  case round =>
    obtain ⟨k, cur, hk, rfl, hblk, HC, hb⟩ := hrel
    by_cases hlt : k < ss.length
    · obtain ⟨b, off, rfl, -, c1⟩ := hm k hlt
      have c1' := cell_later hb c1
      clear c1
      have hck := hc ss[k] (List.getElem_mem hlt)
      have hsz := HC.out.1
      go_wp2_with fail
      refine (clone_any ss[k] _ hck).mono ?_
      rintro e w2 ⟨rfl, hb2⟩
      have hblk2 := block_kept hblk hb2
      have hfz := block_free hblk2
      have hcl : w2.cell? ⟨w.heap.size, k, none⟩ = some cur[k] := by rw [block_cell hblk2]; simp
      have hb3 : Below w.heap.size w w2 := hb.trans (hb2.mono hb.size)
      clear hb2
      go_wp2
      go_roundw
      case rel =>
        exact ⟨k + 1, _, by omega, by go_num, block_set hblk2 _, HC.out.more hlt, hb3.setCell (Nat.le_refl _) _⟩
      case measure => simp [intOf]; omega
    · have hkn : k = ss.length := by omega
      subst hkn
      go_wp2
      go_ret
      exact ⟨cur, rfl, hblk, HC.out, hb⟩

theorem OuCells.own {w : World} {g base : Nat} {cur : Array Value} {ss : List ByteArray} (h : OuCells cur ss ss.length) (hg : w.heap[g]? = some (.cells cur 9 (0, 0))) (hb : base ≤ g) (hn : ss.length ≤ 1048576) : w.ownsRow base 9 1 (.slice (some ⟨g, 0, none⟩) ss.length ss.length) ss.length (ss.map .string) := by
  refine ⟨by simp, .inr ⟨g, ss.length, cur, rfl, hb, hg, Nat.le_refl _, by unfold maxLen; omega, by have := h.1; omega, ?_⟩⟩
  have hs := h.1
  apply List.ext_getElem?
  intro i
  by_cases hi : i < ss.length
  · rw [List.getElem?_take_of_lt (by omega), Array.getElem?_toList, h.2 i hi hi]
    simp [hi]
  · rw [List.getElem?_eq_none (by simp; omega), List.getElem?_eq_none (by simp; omega)]
theorem own_cap {w : World} {base e size n c : Nat} {a : Option Addr} {xs : List Value} (h : w.ownsRow base e size (.slice a n c) n xs) : n ≤ c := by
  rcases h.2 with ⟨hv, h0⟩ | ⟨g, cap, cur, hv, -, -, hnc, -⟩
  · omega
  · cases hv; exact hnc
theorem own_ptr {w : World} {base e size n c : Nat} {a : Option Addr} {xs : List Value} (h : w.ownsRow base e size (.slice a n c) n xs) (hn : 1 ≤ n) : ∃ g, a = some ⟨g, 0, none⟩ ∧ base ≤ g := by
  rcases h.2 with ⟨hv, h0⟩ | ⟨g, cap, cur, hv, hb, -⟩
  · omega
  · cases hv; exact ⟨g, rfl, hb⟩

set_option maxRecDepth 100000 in
set_option maxHeartbeats 2000000 in
theorem insClone_any (b off n cc : Nat) (code : List (Int × Int)) (w : World) (hn : n = code.length) (hcode : CodeAt w 0 (some ⟨b, off, none⟩) code) (h1 : 1 ≤ n) (h120 : n ≤ 120) :
    Calls Try.prog 42 #[.slice (some ⟨b, off, none⟩) n cc] w fun e w' => ∃ g cap, e = .returned (.slice (some ⟨g, 0, none⟩) n cap) ∧ w'.ownsRow w.heap.size 54 2 (.slice (some ⟨g, 0, none⟩) n cap) n (codeVals code) ∧ Below w.heap.size w w' := by
  obtain ⟨j0, hj, hy0, hy1, hy2⟩ := info_parts info54
  have hbe : Below w.heap.size w (w.alloc (.cells #[] 54)) := (Below.refl _ _).alloc (Nat.le_refl _) _
  have hE : (w.alloc (.cells #[] 54)).ownsRow w.heap.size 54 2 (.slice (some ⟨w.heap.size, 0, none⟩) 0 0) 0 [] := by
    have := World.ownsRow_made (base := w.heap.size) (e := 54) (size := 2) w #[] 0 (Nat.le_refl _) (by unfold maxLen; omega) rfl
    simpa using this
  obtain ⟨vs, hvs⟩ : ∃ vs, vs = codeVals code := ⟨_, rfl⟩
  have HN : Hid (∀ (j : Nat) (u : Value), vs[j]? = some u → (w.alloc (.cells #[] 54)).cell? ((⟨b, off, none⟩ : Addr).add j) = some u) := by rw [hvs]; exact code_news hcode hbe
  have HVL : Hid (vs.length = n * 2) := by show _ = _; rw [hvs, codeVals_len, hn]
  have hv1 : ∀ u ∈ vs, u.oneCell' = true := fun u hu => by rw [hvs] at hu; exact codeVals_one u hu
  rw [← hvs]
  clear hcode hvs hn
  have hnil : (binOp .eql 41 (.slice (some ⟨b, off, none⟩) n cc) (.slice none 0 0)).run Try.prog w = .ok (.bool false) w := by first | rfl | kernel_rfl | simp [binOp, go_sem, Try.underlying41]
  go_enter Try.func42, Try.ntmps42
  go_wp2_with (at_builtin; (refine wpList_append_lies _ rfl _ _ 41 rfl w.heap.size 54 j0 (.agg #[.int .i64 0, .int .i64 0]) 2 16 Try.underlying41 hj hy0 hy1 hy2 rfl (by decide) _ _ _ rfl hE ⟨b, off, none⟩ n cc vs rfl HVL.out HN.out hv1 (by omega) (by unfold maxLen; omega) (by omega) (by simp) _ rfl ?_); intro g cp w1 hown1 hgrow1 hat1 hlt1)
  have hk1 := Keeps.grown (ts := [54]) hE hgrow1 (by simp)
  have hb1 : Below w.heap.size w w1 := hbe.trans (hk1.toBelow (by simp))
  have HO : Hid (w1.ownsRow w.heap.size 54 2 (.slice (some ⟨g, 0, none⟩) n cp) n vs) := by show World.ownsRow _ _ _ _ _ _ _; simpa using hown1
  clear hown1 hgrow1 hk1 hat1 hlt1
  go_wp2
  go_ret
  exact ⟨g, cp, by simp, HO.out, hb1⟩
end Go.Proofs.Ytffeejkghmpkkaa
