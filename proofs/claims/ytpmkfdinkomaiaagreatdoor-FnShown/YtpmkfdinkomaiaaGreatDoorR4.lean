/-
  What the program's wordsOf gives: the words of a line, in a row of the call's own.
-/
import Derived.Test.YtpmkfdinkomaiaaGreatDoorR3
import Derived.Lib.OthersKept
namespace Go.Proofs.YtpmkfdinkomaiaaGreatDoor
open Go.RowKit

def Ascii (s : ByteArray) : Prop := ∀ k (h : k < s.size), s[k].toNat < 128
/-- Rows of words: at least one, none longer than the line, and of plain bytes just the pieces between the blanks. -/
structure WordsOf (s : ByteArray) (ws : List ByteArray) : Prop where
  one : 0 < ws.length
  few : ws.length ≤ s.size + 1
  small : ∀ x ∈ ws, x.size ≤ s.size
  same : Ascii s → ws = cutsB 32 s

theorem extract_le (s : ByteArray) (a b : Nat) : (s.extract a b).size ≤ s.size := by simp; omega
theorem own_iter {w : World} {base e size n k : Nat} {v : Value} {xs : List Value} (h : w.ownsRow base e size v n xs) (hk : k < base) (s : ByteArray) (pos : Nat) : (w.iterAt k s pos).ownsRow base e size v n xs := by
  refine ⟨h.1, ?_⟩
  rcases h.2 with hn | ⟨g, cap, cur, hv, hb, hg, r⟩
  · exact .inl hn
  · exact .inr ⟨g, cap, cur, hv, hb, by rw [Lib.iterAt_other _ _ _ _ _ (by omega)]; exact hg, r⟩

theorem grown_kept {w w' : World} {base e size n k : Nat} {v : Value} {xs : List Value} {o : Obj} (hown : w.ownsRow base e size v n xs) (hk : k < base) (ho : w.heap[k]? = some o) (hg : w.grownBy w' v.ownBlock) : w'.heap[k]? = some o := by
  rw [hg.block k (Array.getElem?_eq_some_iff.1 ho).1 (fun e => by have := (hown.lt k e.symm).1; omega)]
  exact ho
theorem grown_below {w w' : World} {base e size n B : Nat} {v : Value} {xs : List Value} (hown : w.ownsRow base e size v n xs) (hB : B ≤ base) (hb : B ≤ w.heap.size) (hg : w.grownBy w' v.ownBlock) : Below B w w' :=
  ⟨hg.os, hg.tape, hg.output, hg.size, fun k hk => hg.block k (by omega) (fun e => by have := (hown.lt k e.symm).1; omega)⟩

def WPost (s : ByteArray) (w : World) (e : Ending) (w' : World) : Prop := ∃ (ws : List ByteArray) (a : Option Addr) (c : Nat), e = .returned (.slice a ws.length c) ∧ WordsOf s ws ∧ w'.ownsRow (w.heap.size + 1) 9 1 (.slice a ws.length c) ws.length (ws.map .string) ∧ Below w.heap.size w w'

set_option maxRecDepth 100000 in
set_option maxHeartbeats 4000000 in
theorem words_any (s : ByteArray) (w : World) (hs : s.size ≤ 1048576) : Calls Tryz.prog 62 #[.string s] w (WPost s w) := by
  obtain ⟨i0, hi, hz0, hz1, hz2⟩ := info_parts info9c
  go_enter Tryz.func62, Tryz.ntmps62
  go_wp2_with fail
  have hb0 : Below w.heap.size w (w.iter s 0) := (Below.refl _ _).alloc (Nat.le_refl _) _
  go_loopw [3, 4] (fun o av wr => ∃ (pos at' : Nat) (dn : List ByteArray) (a : Option Addr) (c : Nat), wr.heap[w.heap.size]? = some (.stringIter s pos) ∧ av = .int .i64 at' ∧ o = .slice a dn.length c ∧ dn.length ≤ at' ∧ at' ≤ pos ∧ at' ≤ s.size ∧ Hid (Ascii s → CutSt 32 s dn at' pos) ∧ Hid (∀ x ∈ dn, x.size ≤ s.size) ∧ wr.ownsRow (w.heap.size + 1) 9 1 (.slice a dn.length c) dn.length (dn.map .string) ∧ Below w.heap.size w wr) (fun _ _ wr => s.size - wr.iterPos w.heap.size)
  case atStart => exact ⟨0, 0, [], none, 0, World.iter_heap w s 0, rfl, rfl, Nat.le_refl _, Nat.le_refl _, Nat.zero_le _, fun _ => CutSt.start 32 s, fun x hx => by simp at hx, World.ownsRow_nil _ _ _ _, hb0⟩
  case round =>
    obtain ⟨pos, at', dn, a, c, hit, rfl, rfl, h1, h2, h3, HC, HZ, hown, hbr⟩ := hrel
    have hlt0 : w.heap.size < wr.heap.size := (Array.getElem?_eq_some_iff.1 hit).1
    by_cases hp : pos < s.size
    · have hnx : ∀ ty, (Instr.next (.pointer (some ⟨w.heap.size, 0, none⟩)) true ty).run Tryz.prog wr = _ := fun ty => Lib.run_next_any_at wr w.heap.size s pos ty hit hp
      by_cases hy : s[pos].toNat = 32
      · have hd := decode_ascii s pos hp (by omega)
        rw [hd] at hnx
        have hcut : Hid (Ascii s → CutSt 32 s (dn ++ [s.extract at' pos]) (pos + 1) (pos + 1)) := fun ha => (HC.out ha).hit hp (UInt8.toNat_inj.1 (by rw [hy]; rfl))
        have hzz : Hid (∀ x ∈ dn ++ [s.extract at' pos], x.size ≤ s.size) := by
          intro x hx
          rcases List.mem_append.1 hx with hx | hx
          · exact HZ.out x hx
          · rw [List.mem_singleton.1 hx]; exact extract_le _ _ _
        rw [hy] at hnx
        clear hd hy HC HZ
        have hit2 := Lib.iterAt_heap wr w.heap.size s pos (pos + 1) hit
        have hb2 := Lib.below_iterAt hbr (k := w.heap.size) (Nat.le_refl _) s (pos + 1)
        have hown2 := own_iter hown (Nat.lt_succ_self _) s (pos + 1)
        have hsz2 : w.heap.size < (wr.iterAt w.heap.size s (pos + 1)).heap.size := by rw [Lib.iterAt_size]; exact hlt0
        clear hown hbr
        generalize wr.iterAt w.heap.size s (pos + 1) = w2 at *
        generalize hx : s.extract at' pos = x at hcut hzz
        go_wp2_with (first | (at_builtin; refine wpList_append_lies _ rfl _ _ 24 rfl (w.heap.size + 1) 9 i0 (.string ByteArray.empty) 1 16 Tryz.underlying24 hi hz0 hz1 hz2 rfl (by decide) _ _ _ rfl (World.ownsRow.alloc hown2 _) ⟨w2.heap.size, 0, none⟩ 1 1 [.string x] rfl rfl (cell_one_new _ _ _) (by intro u hu; simp at hu; subst hu; rfl) (by decide) (by unfold maxLen; omega) (by omega) (by simp; omega) _ rfl ?_; intro g cp w4 hown4 hgrow4 hat4 hlt4))
        have hown5 : w4.ownsRow (w.heap.size + 1) 9 1 (.slice (some ⟨g, 0, none⟩) (dn ++ [x]).length cp) (dn ++ [x]).length ((dn ++ [x]).map .string) := by simpa using hown4
        have hb5 : Below w.heap.size w w4 := (hb2.alloc (by omega) _).trans (grown_below (World.ownsRow.alloc hown2 _) (by omega) (by simp; omega) hgrow4)
        have hit4 := grown_kept (World.ownsRow.alloc hown2 _) (Nat.lt_succ_self _) (block_old hit2 _) hgrow4
        clear hown4 hgrow4 hat4
        go_roundw
        case rel => exact ⟨pos + 1, pos + 1, dn ++ [x], some ⟨g, 0, none⟩, cp, hit4, by go_num, by simp, by simp; omega, Nat.le_refl _, by omega, hcut, hzz, hown5, hb5⟩
        case measure => simp only [World.iterPos, hit4, hit]; omega
      · have hdw : 1 ≤ (Utf8.decode s pos).2 ∧ (Utf8.decode s pos).1 ≠ 32 ∧ (s[pos].toNat < 128 → (Utf8.decode s pos).2 = 1) := by
          by_cases ha : s[pos].toNat < 128
          · rw [decode_ascii s pos hp ha]; exact ⟨Nat.le_refl _, hy, fun _ => rfl⟩
          · have := decode_high s pos hp (by omega)
            exact ⟨this.2, by omega, fun h => absurd h ha⟩
        have hrn := decode_le s pos
        have hcut : Hid (Ascii s → CutSt 32 s dn at' (pos + (Utf8.decode s pos).2)) := fun ha => by
          rw [hdw.2.2 (ha pos hp)]
          exact (HC.out ha).miss hp (fun e => hy (by rw [e]; rfl))
        have hy' : (((Utf8.decode s pos).1 : Int) == 32) = false := by
          simp only [beq_eq_false_iff_ne, ne_eq]
          have := hdw.2.1
          omega
        have hd1 := hdw.1
        clear hdw hy HC
        have hit2 := Lib.iterAt_heap wr w.heap.size s pos (pos + (Utf8.decode s pos).2) hit
        have hb2 := Lib.below_iterAt hbr (k := w.heap.size) (Nat.le_refl _) s (pos + (Utf8.decode s pos).2)
        have hown2 := own_iter hown (Nat.lt_succ_self _) s (pos + (Utf8.decode s pos).2)
        generalize wr.iterAt w.heap.size s (pos + (Utf8.decode s pos).2) = w2 at *
        go_wp2
        go_roundw
        case rel => exact ⟨pos + (Utf8.decode s pos).2, at', dn, a, c, hit2, rfl, rfl, h1, by omega, h3, hcut, HZ, hown2, hb2⟩
        case measure => simp only [World.iterPos, hit2, hit]; omega
    · have hnx : ∀ ty, (Instr.next (.pointer (some ⟨w.heap.size, 0, none⟩)) true ty).run Tryz.prog wr = _ := fun ty => Lib.run_next_end_at wr w.heap.size s pos ty hit hp
      have HW : Hid (WordsOf s (dn ++ [s.extract at' s.size])) := by
        refine ⟨by simp, by simp; omega, fun x hx => ?_, fun ha => ?_⟩
        · rcases List.mem_append.1 hx with hx | hx
          · exact HZ.out x hx
          · rw [List.mem_singleton.1 hx]; exact extract_le _ _ _
        · have hc := HC.out ha
          have hpe : pos = s.size := by have := hc.2.1; omega
          rw [hpe] at hc
          exact hc.last.symm
      clear HC HZ
      generalize hx : s.extract at' s.size = x at HW
      go_wp2_with (first | (at_builtin; refine wpList_append_lies _ rfl _ _ 24 rfl (w.heap.size + 1) 9 i0 (.string ByteArray.empty) 1 16 Tryz.underlying24 hi hz0 hz1 hz2 rfl (by decide) _ _ _ rfl (World.ownsRow.alloc hown _) ⟨wr.heap.size, 0, none⟩ 1 1 [.string x] rfl rfl (cell_one_new _ _ _) (by intro u hu; simp at hu; subst hu; rfl) (by decide) (by unfold maxLen; omega) (by omega) (by simp; omega) _ rfl ?_; intro g cp w4 hown4 hgrow4 hat4 hlt4))
      have hown5 : w4.ownsRow (w.heap.size + 1) 9 1 (.slice (some ⟨g, 0, none⟩) (dn ++ [x]).length cp) (dn ++ [x]).length ((dn ++ [x]).map .string) := by simpa using hown4
      have hb5 : Below w.heap.size w w4 := (hbr.alloc (by omega) _).trans (grown_below (World.ownsRow.alloc hown _) (by omega) (by simp; omega) hgrow4)
      clear hown4 hgrow4 hat4
      go_ret
      exact ⟨dn ++ [x], some ⟨g, 0, none⟩, cp, by simp, HW.out, hown5, hb5⟩
end Go.Proofs.YtpmkfdinkomaiaaGreatDoor
