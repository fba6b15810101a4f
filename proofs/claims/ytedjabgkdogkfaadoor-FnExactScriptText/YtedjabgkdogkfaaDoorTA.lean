/-
  Lines of words as one text: impl.linesText.
-/
import Derived.Test.YtedjabgkdogkfaaDoorTI
import Derived.Test.YtedjabgkdogkfaaDoorU5
namespace Go.Proofs.YtedjabgkdogkfaaDoor
open Go.RowKit

def wsT (s : ByteArray) (l : List ByteArray) : ByteArray := l.foldl (fun a t => a ++ ⟨#[32]⟩ ++ t) s
theorem wsT_succ (s : ByteArray) (l : List ByteArray) (k : Nat) (h : k < l.length) : wsT s (l.take (k + 1)) = wsT s (l.take k) ++ ⟨#[32]⟩ ++ l[k] := by
  unfold wsT
  rw [List.take_succ_eq_append_getElem h, List.foldl_append]
  rfl
theorem wsT_append (s : ByteArray) (a b : List ByteArray) : wsT s (a ++ b) = wsT (wsT s a) b := by
  unfold wsT
  rw [List.foldl_append]
theorem wsT_size (s : ByteArray) : ∀ l : List ByteArray, (∀ t ∈ l, t.size ≤ 60) → (wsT s l).size ≤ s.size + 61 * l.length := by
  intro l
  induction l generalizing s with
  | nil => intro _; simp [wsT]
  | cons t l ih =>
    intro h
    have h1 := ih (s ++ ⟨#[32]⟩ ++ t) (fun x hx => h x (List.mem_cons_of_mem _ hx))
    have h2 := h t (List.mem_cons_self ..)
    have e1 : (⟨#[32]⟩ : ByteArray).size = 1 := rfl
    simp only [ByteArray.size_append] at h1
    show (wsT (s ++ ⟨#[32]⟩ ++ t) l).size ≤ _
    simp only [List.length_cons]
    omega
def lineJ (ws : List ByteArray) : ByteArray := ⟨(Lib.join (ws.map (·.data.toList)) [32]).toArray⟩
def linesT (s : ByteArray) (lls : List (List ByteArray)) : ByteArray := lls.foldl (fun a l => a ++ (lineJ l ++ ⟨#[10]⟩)) s
theorem linesT_succ (s : ByteArray) (l : List (List ByteArray)) (k : Nat) (h : k < l.length) : linesT s (l.take (k + 1)) = linesT s (l.take k) ++ (lineJ l[k] ++ ⟨#[10]⟩) := by
  unfold linesT
  rw [List.take_succ_eq_append_getElem h, List.foldl_append]
  rfl
theorem wsT_data : ∀ (ws : List ByteArray) (x : ByteArray), (wsT x ws).data.toList = x.data.toList ++ Lib.joinTail [32] (ws.map (·.data.toList)) := by
  intro ws
  induction ws with
  | nil => intro x; simp [wsT, Lib.joinTail]
  | cons t l ih =>
    intro x
    show (wsT (x ++ ⟨#[32]⟩ ++ t) l).data.toList = _
    rw [ih]
    simp [Lib.joinTail]
theorem lineJ_cons (x : ByteArray) (ws : List ByteArray) : lineJ (x :: ws) = wsT x ws := by
  apply ByteArray.ext
  apply Array.toList_inj.1
  rw [wsT_data]
  simp [lineJ, Lib.join_cons]
theorem wsT_ahead (s : ByteArray) : ∀ (ws : List ByteArray) (x : ByteArray), s ++ wsT x ws = wsT (s ++ x) ws := by
  intro ws
  induction ws with
  | nil => intro x; rfl
  | cons t l ih =>
    intro x
    show s ++ wsT (x ++ ⟨#[32]⟩ ++ t) l = wsT (s ++ x ++ ⟨#[32]⟩ ++ t) l
    rw [ih, ← ByteArray.append_assoc, ← ByteArray.append_assoc]

theorem lineJ_size (l : List ByteArray) (h : ∀ t ∈ l, t.size ≤ 60) : (lineJ l).size ≤ 61 * l.length := by
  cases l with
  | nil => exact Nat.le_refl _
  | cons x r =>
    rw [lineJ_cons]
    have h1 := wsT_size x r (fun t ht => h t (List.mem_cons_of_mem _ ht))
    have h2 := h x (List.mem_cons_self ..)
    simp only [List.length_cons]
    omega

/-- A row of words in memory. -/
def LineAt (w : World) (lo : Nat) (v : Value) (ws : List ByteArray) : Prop := ∃ (g cap : Nat) (cur : Array Value), v = .slice (some ⟨g, 0, none⟩) ws.length cap ∧ lo ≤ g ∧ w.heap[g]? = some (.cells cur 9 (0, 0)) ∧ ws.length ≤ cap ∧ ∀ (j : Nat) (x : ByteArray), ws[j]? = some x → cur[j]? = some (Value.string x)
theorem LineAt.mono {w w' : World} {lo : Nat} {v : Value} {ws : List ByteArray} (h : LineAt w lo v ws) (hb : Below w.heap.size w w') : LineAt w' lo v ws := by
  obtain ⟨g, cap, cur, h1, h2, h3, h4⟩ := h
  exact ⟨g, cap, cur, h1, h2, block_kept h3 hb, h4⟩
theorem LineAt.keeps {w w' : World} {lo B : Nat} {l : List Nat} {v : Value} {ws : List ByteArray} (h : LineAt w lo v ws) (hk : Keeps B l w w') (h9 : 9 ∉ l) : LineAt w' lo v ws := by
  obtain ⟨g, cap, cur, h1, h2, h3, h4⟩ := h
  exact ⟨g, cap, cur, h1, h2, hk.cell h3 h9, h4⟩
theorem LineAt.low {w : World} {lo lo' : Nat} {v : Value} {ws : List ByteArray} (h : LineAt w lo v ws) (hl : lo' ≤ lo) : LineAt w lo' v ws := by
  obtain ⟨g, cap, cur, h1, h2, h3⟩ := h
  exact ⟨g, cap, cur, h1, by omega, h3⟩
/-- Rows of words in memory. -/
def RowsAt (w : World) (a : Option Addr) (lls : List (List ByteArray)) : Prop := ∀ j (h : j < lls.length), ∃ b off v, a = some ⟨b, off, none⟩ ∧ w.cell? ⟨b, off + j, none⟩ = some v ∧ LineAt w 0 v lls[j]
theorem RowsAt.mono {w w' : World} {a : Option Addr} {lls : List (List ByteArray)} (h : RowsAt w a lls) (hb : Below w.heap.size w w') : RowsAt w' a lls := by
  intro j hj
  obtain ⟨b, off, v, h1, h2, h3⟩ := h j hj
  exact ⟨b, off, v, h1, cell_later hb h2, h3.mono hb⟩

theorem linesT_size (lls : List (List ByteArray)) (h : ∀ l ∈ lls, l.length ≤ 3000000 ∧ ∀ t ∈ l, t.size ≤ 60) (k : Nat) (hk : k ≤ lls.length) : (linesT ⟨#[]⟩ (lls.take k)).size ≤ 200000000 * k := by
  induction k with
  | zero => exact Nat.le_refl _
  | succ k ih =>
    have hlt : k < lls.length := by omega
    rw [linesT_succ _ _ _ hlt]
    have h1 := ih (by omega)
    have h2 := h lls[k] (List.getElem_mem hlt)
    have h3 := lineJ_size lls[k] h2.2
    have e1 : (⟨#[10]⟩ : ByteArray).size = 1 := rfl
    simp only [ByteArray.size_append]
    omega

set_option maxRecDepth 100000 in
set_option maxHeartbeats 2000000 in
theorem linesText_any (a : Option Addr) (lls : List (List ByteArray)) (cap : Nat) (w : World) (hn : lls.length ≤ 100) (hl : ∀ l ∈ lls, l.length ≤ 3000000 ∧ ∀ t ∈ l, t.size ≤ 60) (hm : RowsAt w a lls) :
    Calls Tryd.prog 16 #[.slice a lls.length cap] w fun e w' => e = .returned (.string (linesT ⟨#[]⟩ lls)) ∧ Below w.heap.size w w' := by
  have hb0 : Below w.heap.size w (w.alloc (.cells #[.pointer none, .slice none 0 0] 59)) := (Below.refl _ _).alloc (Nat.le_refl _) _
  have hE1 : Bld (w.alloc (.cells #[.pointer none, .slice none 0 0] 59)) w.heap.size w.heap.size (linesT ⟨#[]⟩ (lls.take 0)) := ⟨Nat.le_refl _, _, _, block_new w _ 59, Or.inl rfl, World.ownsRow_nil _ _ _ _⟩
  have hB2 : w.heap.size ≤ (w.alloc (.cells #[.pointer none, .slice none 0 0] 59)).heap.size := by simp
  obtain ⟨w2, hw2⟩ : ∃ w2, w2 = w.alloc (.cells #[.pointer none, .slice none 0 0] 59) := ⟨_, rfl⟩
  rw [← hw2] at hb0 hE1 hB2
  obtain ⟨B, eB⟩ : ∃ B, Hid (B = w.heap.size) := ⟨_, rfl⟩
  go_enter Tryd.func16, Tryd.ntmps16
  go_wp2_with fail
  rw [← hw2]
  rw [← eB.out] at hb0 hE1 hB2 ⊢
  have HM : Hid (RowsAt w a lls) := hm
  clear hw2 hm
  go_loopw [8] (fun i wr => ∃ (k : Nat), k ≤ lls.length ∧ i = .int .i64 k ∧ Bld wr B B (linesT ⟨#[]⟩ (lls.take k)) ∧ Keeps B [5, 59] w2 wr) (fun i _ => lls.length - (intOf i).toNat)
  case atStart => exact ⟨0, by omega, rfl, hE1, Keeps.refl _ _ _⟩
  case round =>
    obtain ⟨k, hk, rfl, hbuf, hkr⟩ := hrel
    have hBr : B ≤ wr.heap.size := Nat.le_trans hB2 hkr.size
    have hsz := linesT_size lls hl k hk
    by_cases hlt : k < lls.length
    · have hbw : Below w.heap.size w wr := by rw [← eB.out]; exact hb0.trans (hkr.toBelow hB2)
      obtain ⟨b, off, v, rfl, c1, hline⟩ := (HM.out.mono hbw) k hlt
      obtain ⟨g, cp, cur, rfl, -, hgr, hcp, hcells⟩ := hline
      have hlk := hl lls[k] (List.getElem_mem hlt)
      have hjs := lineJ_size lls[k] hlk.2
      have hgl : g < wr.heap.size := (Array.getElem?_eq_some_iff.1 hgr).1
      have hj1 : (Lib.join (lls[k].map (·.data.toList)) [32]).length ≤ 140737488355328 := by
        have e : (lineJ lls[k]).size = (Lib.join (lls[k].map (·.data.toList)) [32]).length := by simp [lineJ, ByteArray.size]
        omega
      have HJ : Hid (Calls Tryd.prog 27 #[.slice (some ⟨g, 0, none⟩) lls[k].length cp, .string ⟨#[32]⟩] wr fun e w' => e = .returned (.string (lineJ lls[k])) ∧ Below wr.heap.size wr w') :=
        Tryd.strings_Join g 0 cp lls[k] ⟨#[32]⟩ wr (fun j x hx => by rw [block_cell hgr, Nat.zero_add]; exact hcells j x hx) hgl (by omega) hcp hj1
      have HS : Hid (linesT ⟨#[]⟩ (lls.take (k + 1)) = linesT ⟨#[]⟩ (lls.take k) ++ (lineJ lls[k] ++ ⟨#[10]⟩)) := linesT_succ _ _ _ hlt
      clear hcells hj1 hgl hgr hcp hbw
      generalize lineJ lls[k] = t at *
      have q1 : ¬ 9223372036854775807 < t.size + 1 := by omega
      have e10 : (t ++ ⟨#[10]⟩ : ByteArray).size = t.size + 1 := by rw [ByteArray.size_append]; rfl
      obtain ⟨u, hu⟩ : ∃ u, t ++ ⟨#[10]⟩ = u := ⟨_, rfl⟩
      rw [hu] at e10 HS
      go_wp2_with fail
      refine HJ.out.mono ?_
      rintro e w3 ⟨rfl, hb3⟩
      have hbuf3 := hbuf.below hb3
      have hk3 := hkr.trans (Keeps.below (B := B) (ts := [5, 59]) hb3)
      have hB3 := Nat.le_trans hBr hb3.size
      clear hb3 HJ c1 hbuf hkr
      go_wp2_with fail
      have hz3 : (linesT ⟨#[]⟩ (lls.take k)).size + u.size ≤ 1000000000000 := by omega
      refine (write_is B B (linesT ⟨#[]⟩ (lls.take k)) u w3 hbuf3 hz3 hB3).mono ?_
      rintro e w4 ⟨rfl, hbuf4, hk4⟩
      have hkk := hk3.trans hk4
      clear hbuf3 hk3 hk4 hB3 e10 hu hz3
      go_wp2
      go_roundw
      case rel => exact ⟨k + 1, by omega, by go_num, by rw [HS.out]; exact hbuf4, hkk⟩
      case measure => simp [intOf]; omega
    · have hke : k = lls.length := by omega
      subst hke
      rw [List.take_length] at hbuf
      have hbel := hkr.toBelow hB2
      clear hsz
      go_wp2_with fail
      refine (string_is B B (linesT ⟨#[]⟩ lls) wr hbuf hBr).mono ?_
      rintro e w4 ⟨rfl, hb4⟩
      have hbz := (hb0.trans hbel).trans hb4
      clear hbuf hb4 hbel
      go_wp2
      go_ret
      exact ⟨rfl, by rw [← eB.out]; exact hbz⟩
end Go.Proofs.YtedjabgkdogkfaaDoor
