/-
  Lines of words as one text: impl.linesText; the words of a state.
-/
import Derived.Test.YtfefbgemcakabaaGreatDoorTX4
import Derived.Test.YtfefbgemcakabaaGreatDoorVQ8
import Derived.Test.YtfefbgemcakabaaGreatDoorM3
namespace Go.Proofs.YtfefbgemcakabaaGreatDoor
open Go.RowKit

def lineJ (ws : List ByteArray) : ByteArray := ⟨(Lib.join (ws.map (·.data.toList)) [32]).toArray⟩
def linesT (s : ByteArray) (lls : List (List ByteArray)) : ByteArray := lls.foldl (fun a l => a ++ (lineJ l ++ ⟨#[10]⟩)) s
theorem linesT_succ (s : ByteArray) (l : List (List ByteArray)) (k : Nat) (h : k < l.length) : linesT s (l.take (k + 1)) = linesT s (l.take k) ++ (lineJ l[k] ++ ⟨#[10]⟩) := by
  unfold linesT
  rw [List.take_succ_eq_append_getElem h, List.foldl_append]
  rfl
theorem wsT_data : ∀ (ws : List ByteArray) (x : ByteArray), (wsT x ws).data.toList = x.data.toList ++ Lib.joinTail [32] (ws.map (·.data.toList)) := by
  intro ws
  induction ws with
  | nil => intro x; simp [wsT, Lib.joinTail]
  | cons t l ih =>
    intro x
    show (wsT (x ++ ⟨#[32]⟩ ++ t) l).data.toList = _
    rw [ih]
    simp [Lib.joinTail]
theorem lineJ_cons (x : ByteArray) (ws : List ByteArray) : lineJ (x :: ws) = wsT x ws := by
  apply ByteArray.ext
  apply Array.toList_inj.1
  rw [wsT_data]
  simp [lineJ, Lib.join_cons]
theorem wsT_ahead (s : ByteArray) : ∀ (ws : List ByteArray) (x : ByteArray), s ++ wsT x ws = wsT (s ++ x) ws := by
  intro ws
  induction ws with
  | nil => intro x; rfl
  | cons t l ih =>
    intro x
    show s ++ wsT (x ++ ⟨#[32]⟩ ++ t) l = wsT (s ++ x ++ ⟨#[32]⟩ ++ t) l
    rw [ih, ← ByteArray.append_assoc, ← ByteArray.append_assoc]

def frW (hp : List (List Vl)) (f : Fr) : List ByteArray := ⟨#[102, 114, 97, 109, 101]⟩ :: numText f.fn :: numText f.pc :: (f.locals.map (vlT hp) ++ (⟨#[124]⟩ :: f.stack.map (vlT hp)))
def stW (d : VmD) : List ByteArray := if d.status = 1 then [⟨#[100, 111, 110, 101]⟩, vlT d.heap d.value] else if d.status = 2 then [⟨#[116, 114, 97, 112]⟩, numText d.trap] else [⟨#[114, 117, 110]⟩]
def laW (d : VmD) : List ByteArray := [⟨#[109, 97, 100, 101]⟩, numText d.made, ⟨#[111, 117, 116]⟩, numText (d.out.length : Nat)]
theorem st_line (d : VmD) : lineJ (stW d) ++ ⟨#[10]⟩ = stT d := by
  unfold stW stT
  split
  · rw [lineJ_cons, show (⟨#[100, 111, 110, 101, 32]⟩ : ByteArray) = ⟨#[100, 111, 110, 101]⟩ ++ ⟨#[32]⟩ from rfl]
    rfl
  split
  · rw [lineJ_cons, show (⟨#[116, 114, 97, 112, 32]⟩ : ByteArray) = ⟨#[116, 114, 97, 112]⟩ ++ ⟨#[32]⟩ from rfl]
    rfl
  · rw [lineJ_cons]
    rfl
theorem fr_line (hp : List (List Vl)) (f : Fr) (a : ByteArray) : a ++ (lineJ (frW hp f) ++ ⟨#[10]⟩) = frT hp a f := by
  unfold frW frT
  rw [lineJ_cons, ← ByteArray.append_assoc, wsT_ahead]
  rw [show numText f.fn :: numText f.pc :: (f.locals.map (vlT hp) ++ (⟨#[124]⟩ :: f.stack.map (vlT hp))) = [numText f.fn, numText f.pc] ++ (f.locals.map (vlT hp) ++ ([⟨#[124]⟩] ++ f.stack.map (vlT hp))) from rfl]
  rw [wsT_append, wsT_append, wsT_append]
  rw [show (⟨#[102, 114, 97, 109, 101, 32]⟩ : ByteArray) = ⟨#[102, 114, 97, 109, 101]⟩ ++ ⟨#[32]⟩ from rfl, show (⟨#[32, 124]⟩ : ByteArray) = ⟨#[32]⟩ ++ ⟨#[124]⟩ from rfl]
  simp only [wsT, List.foldl_cons, List.foldl_nil, ByteArray.append_assoc]
theorem la_line (d : VmD) (a : ByteArray) : a ++ (lineJ (laW d) ++ ⟨#[10]⟩) = a ++ ⟨#[109, 97, 100, 101, 32]⟩ ++ numText d.made ++ ⟨#[32, 111, 117, 116, 32]⟩ ++ numText (d.out.length : Nat) ++ ⟨#[10]⟩ := by
  unfold laW
  rw [lineJ_cons, show (⟨#[109, 97, 100, 101, 32]⟩ : ByteArray) = ⟨#[109, 97, 100, 101]⟩ ++ ⟨#[32]⟩ from rfl, show (⟨#[32, 111, 117, 116, 32]⟩ : ByteArray) = ⟨#[32]⟩ ++ (⟨#[111, 117, 116]⟩ ++ ⟨#[32]⟩) from rfl]
  simp only [wsT, List.foldl_cons, List.foldl_nil, ByteArray.append_assoc]
/-- The lines of a state. -/
def vmW (d : VmD) : List (List ByteArray) := (stW d :: d.frames.map (frW d.heap)) ++ [laW d]
theorem lines_vm (d : VmD) : linesT ⟨#[]⟩ (vmW d) = vmT d := by
  unfold vmW vmT linesT frsT
  rw [List.foldl_append, List.foldl_cons, List.foldl_cons, List.foldl_nil, la_line, List.foldl_map]
  have e0 : (⟨#[]⟩ : ByteArray) ++ (lineJ (stW d) ++ ⟨#[10]⟩) = stT d := by
    rw [st_line]
    apply ByteArray.ext
    simp
  rw [e0]
  have : (fun (x : ByteArray) (y : Fr) => x ++ (lineJ (frW d.heap y) ++ ⟨#[10]⟩)) = frT d.heap := by
    funext x y
    exact fr_line d.heap y x
  rw [this]
theorem lineJ_size (l : List ByteArray) (h : ∀ t ∈ l, t.size ≤ 60) : (lineJ l).size ≤ 61 * l.length := by
  cases l with
  | nil => exact Nat.le_refl _
  | cons x r =>
    rw [lineJ_cons]
    have h1 := wsT_size x r (fun t ht => h t (List.mem_cons_of_mem _ ht))
    have h2 := h x (List.mem_cons_self ..)
    simp only [List.length_cons]
    omega

/-- A row of words in memory. -/
def LineAt (w : World) (lo : Nat) (v : Value) (ws : List ByteArray) : Prop := ∃ (g cap : Nat) (cur : Array Value), v = .slice (some ⟨g, 0, none⟩) ws.length cap ∧ lo ≤ g ∧ w.heap[g]? = some (.cells cur 9 (0, 0)) ∧ ws.length ≤ cap ∧ ∀ (j : Nat) (x : ByteArray), ws[j]? = some x → cur[j]? = some (Value.string x)
theorem LineAt.mono {w w' : World} {lo : Nat} {v : Value} {ws : List ByteArray} (h : LineAt w lo v ws) (hb : Below w.heap.size w w') : LineAt w' lo v ws := by
  obtain ⟨g, cap, cur, h1, h2, h3, h4⟩ := h
  exact ⟨g, cap, cur, h1, h2, block_kept h3 hb, h4⟩
theorem LineAt.keeps {w w' : World} {lo B : Nat} {l : List Nat} {v : Value} {ws : List ByteArray} (h : LineAt w lo v ws) (hk : Keeps B l w w') (h9 : 9 ∉ l) : LineAt w' lo v ws := by
  obtain ⟨g, cap, cur, h1, h2, h3, h4⟩ := h
  exact ⟨g, cap, cur, h1, h2, hk.cell h3 h9, h4⟩
theorem LineAt.low {w : World} {lo lo' : Nat} {v : Value} {ws : List ByteArray} (h : LineAt w lo v ws) (hl : lo' ≤ lo) : LineAt w lo' v ws := by
  obtain ⟨g, cap, cur, h1, h2, h3⟩ := h
  exact ⟨g, cap, cur, h1, by omega, h3⟩
/-- Rows of words in memory. -/
def RowsAt (w : World) (a : Option Addr) (lls : List (List ByteArray)) : Prop := ∀ j (h : j < lls.length), ∃ b off v, a = some ⟨b, off, none⟩ ∧ w.cell? ⟨b, off + j, none⟩ = some v ∧ LineAt w 0 v lls[j]
theorem RowsAt.mono {w w' : World} {a : Option Addr} {lls : List (List ByteArray)} (h : RowsAt w a lls) (hb : Below w.heap.size w w') : RowsAt w' a lls := by
  intro j hj
  obtain ⟨b, off, v, h1, h2, h3⟩ := h j hj
  exact ⟨b, off, v, h1, cell_later hb h2, h3.mono hb⟩

theorem linesT_size (lls : List (List ByteArray)) (h : ∀ l ∈ lls, l.length ≤ 3000000 ∧ ∀ t ∈ l, t.size ≤ 60) (k : Nat) (hk : k ≤ lls.length) : (linesT ⟨#[]⟩ (lls.take k)).size ≤ 200000000 * k := by
  induction k with
  | zero => exact Nat.le_refl _
  | succ k ih =>
    have hlt : k < lls.length := by omega
    rw [linesT_succ _ _ _ hlt]
    have h1 := ih (by omega)
    have h2 := h lls[k] (List.getElem_mem hlt)
    have h3 := lineJ_size lls[k] h2.2
    have e1 : (⟨#[10]⟩ : ByteArray).size = 1 := rfl
    simp only [ByteArray.size_append]
    omega

set_option maxRecDepth 100000 in
set_option maxHeartbeats 2000000 in
theorem linesText_any (a : Option Addr) (lls : List (List ByteArray)) (cap : Nat) (w : World) (hn : lls.length ≤ 100) (hl : ∀ l ∈ lls, l.length ≤ 3000000 ∧ ∀ t ∈ l, t.size ≤ 60) (hm : RowsAt w a lls) :
    Calls Tryz.prog 29 #[.slice a lls.length cap] w fun e w' => e = .returned (.string (linesT ⟨#[]⟩ lls)) ∧ Below w.heap.size w w' := by
  have hb0 : Below w.heap.size w (w.alloc (.cells #[.pointer none, .slice none 0 0] 107)) := (Below.refl _ _).alloc (Nat.le_refl _) _
  have hE1 : Bld (w.alloc (.cells #[.pointer none, .slice none 0 0] 107)) w.heap.size w.heap.size (linesT ⟨#[]⟩ (lls.take 0)) := ⟨Nat.le_refl _, _, _, block_new w _ 107, Or.inl rfl, World.ownsRow_nil _ _ _ _⟩
  have hB2 : w.heap.size ≤ (w.alloc (.cells #[.pointer none, .slice none 0 0] 107)).heap.size := by simp
  obtain ⟨w2, hw2⟩ : ∃ w2, w2 = w.alloc (.cells #[.pointer none, .slice none 0 0] 107) := ⟨_, rfl⟩
  rw [← hw2] at hb0 hE1 hB2
  obtain ⟨B, eB⟩ : ∃ B, Hid (B = w.heap.size) := ⟨_, rfl⟩
  go_enter Tryz.func29, Tryz.ntmps29
  go_wp2_with fail
  rw [← hw2]
  rw [← eB.out] at hb0 hE1 hB2 ⊢
  have HM : Hid (RowsAt w a lls) := hm
  clear hw2 hm
  go_loopw [8] (fun i wr => ∃ (k : Nat), k ≤ lls.length ∧ i = .int .i64 k ∧ Bld wr B B (linesT ⟨#[]⟩ (lls.take k)) ∧ Keeps B [5, 107] w2 wr) (fun i _ => lls.length - (intOf i).toNat)
  case atStart => exact ⟨0, by omega, rfl, hE1, Keeps.refl _ _ _⟩
  case round =>
    obtain ⟨k, hk, rfl, hbuf, hkr⟩ := hrel
    have hBr : B ≤ wr.heap.size := Nat.le_trans hB2 hkr.size
    have hsz := linesT_size lls hl k hk
    by_cases hlt : k < lls.length
    · have hbw : Below w.heap.size w wr := by rw [← eB.out]; exact hb0.trans (hkr.toBelow hB2)
      obtain ⟨b, off, v, rfl, c1, hline⟩ := (HM.out.mono hbw) k hlt
      obtain ⟨g, cp, cur, rfl, -, hgr, hcp, hcells⟩ := hline
      have hlk := hl lls[k] (List.getElem_mem hlt)
      have hjs := lineJ_size lls[k] hlk.2
      have hgl : g < wr.heap.size := (Array.getElem?_eq_some_iff.1 hgr).1
      have hj1 : (Lib.join (lls[k].map (·.data.toList)) [32]).length ≤ 140737488355328 := by
        have e : (lineJ lls[k]).size = (Lib.join (lls[k].map (·.data.toList)) [32]).length := by simp [lineJ, ByteArray.size]
        omega
      have HJ : Hid (Calls Tryz.prog 54 #[.slice (some ⟨g, 0, none⟩) lls[k].length cp, .string ⟨#[32]⟩] wr fun e w' => e = .returned (.string (lineJ lls[k])) ∧ Below wr.heap.size wr w') :=
        Tryz.strings_Join g 0 cp lls[k] ⟨#[32]⟩ wr (fun j x hx => by rw [block_cell hgr, Nat.zero_add]; exact hcells j x hx) hgl (by omega) hcp hj1
      have HS : Hid (linesT ⟨#[]⟩ (lls.take (k + 1)) = linesT ⟨#[]⟩ (lls.take k) ++ (lineJ lls[k] ++ ⟨#[10]⟩)) := linesT_succ _ _ _ hlt
      clear hcells hj1 hgl hgr hcp hbw
      generalize lineJ lls[k] = t at *
      have q1 : ¬ 9223372036854775807 < t.size + 1 := by omega
      have e10 : (t ++ ⟨#[10]⟩ : ByteArray).size = t.size + 1 := by rw [ByteArray.size_append]; rfl
      obtain ⟨u, hu⟩ : ∃ u, t ++ ⟨#[10]⟩ = u := ⟨_, rfl⟩
      rw [hu] at e10 HS
      go_wp2_with fail
      refine HJ.out.mono ?_
      rintro e w3 ⟨rfl, hb3⟩
      have hbuf3 := hbuf.below hb3
      have hk3 := hkr.trans (Keeps.below (B := B) (ts := [5, 107]) hb3)
      have hB3 := Nat.le_trans hBr hb3.size
      clear hb3 HJ c1 hbuf hkr
      go_wp2_with fail
      have hz3 : (linesT ⟨#[]⟩ (lls.take k)).size + u.size ≤ 1000000000000 := by omega
      refine (write_is B B (linesT ⟨#[]⟩ (lls.take k)) u w3 hbuf3 hz3 hB3).mono ?_
      rintro e w4 ⟨rfl, hbuf4, hk4⟩
      have hkk := hk3.trans hk4
      clear hbuf3 hk3 hk4 hB3 e10 hu hz3
      go_wp2
      go_roundw
      case rel => exact ⟨k + 1, by omega, by go_num, by rw [HS.out]; exact hbuf4, hkk⟩
      case measure => simp [intOf]; omega
    · have hke : k = lls.length := by omega
      subst hke
      rw [List.take_length] at hbuf
      have hbel := hkr.toBelow hB2
      clear hsz
      go_wp2_with fail
      refine (string_is B B (linesT ⟨#[]⟩ lls) wr hbuf hBr).mono ?_
      rintro e w4 ⟨rfl, hb4⟩
      have hbz := (hb0.trans hbel).trans hb4
      clear hbuf hb4 hbel
      go_wp2
      go_ret
      exact ⟨rfl, by rw [← eB.out]; exact hbz⟩

set_option maxRecDepth 100000 in
set_option maxHeartbeats 2000000 in
theorem statusW_any (fa ha oa : Option Addr) (fc hcp oc : Nat) (d : VmD) (w : World) (hv : VOk d.value) (htr : d.status = 2 → 1 ≤ d.trap ∧ d.trap ≤ 8) (hh : HpOk w ha d.heap) (htab : TabP w) :
    Calls Tryz.prog 26 #[.agg (vmCells fa ha oa fc hcp oc d)] w fun e w' => ∃ v, e = .returned v ∧ LineAt w' w.heap.size v (stW d) ∧ Below w.heap.size w w' := by
  have HBA : Hid (∀ o : Obj, Below w.heap.size w (w.alloc o)) := fun o => (Below.refl _ _).alloc (Nat.le_refl _) _
  have HV : Hid (∀ w1, Below w.heap.size w w1 → Calls Tryz.prog 49 #[.agg #[.int .i64 d.value.k, .int .i64 d.value.n, .string d.value.s], .slice ha d.heap.length hcp] w1 fun e w' => e = .returned (.string (vlT d.heap d.value)) ∧ Below w1.heap.size w1 w') := fun w1 hb =>
    iVText_any d.value.k d.value.n d.value.s ha d.heap hcp _ hh.len hh.each (by have := hv.1; omega) hv.2 (hh.mono hb).lies (htab.below hb)
  have HT : Hid (∀ w1, Below w.heap.size w w1 → TabP w1) := fun w1 hb => htab.below hb
  unfold vmCells at *
  by_cases h1 : d.status = 1
  · have hW : stW d = [⟨#[100, 111, 110, 101]⟩, vlT d.heap d.value] := by unfold stW; rw [if_pos h1]
    rw [hW]
    clear HT
    generalize vlT d.heap d.value = t at *
    go_enter Tryz.func26, Tryz.ntmps26
    go_wp2_with fail
    refine (HV.out _ (HBA.out _)).mono ?_
    rintro e w1 ⟨rfl, hb1⟩
    have hB1 := (HBA.out _).trans (hb1.mono (HBA.out _).size)
    have hs1 := hB1.size
    clear hb1
    go_wp2
    go_ret
    refine ⟨_, rfl, ⟨w1.heap.size, 2, #[.string ⟨#[100, 111, 110, 101]⟩, .string t], rfl, hs1, block_new w1 _ 9, Nat.le_refl _, ?_⟩, hB1.alloc hs1 _⟩
    intro j x hx
    match j, hx with
    | 0, hx => cases hx; rfl
    | 1, hx => cases hx; rfl
  by_cases h2 : d.status = 2
  · have hW : stW d = [⟨#[116, 114, 97, 112]⟩, numText d.trap] := by unfold stW; rw [if_neg h1, if_pos h2]
    have hr := htr h2
    have HD : Hid (∀ w' : World, TabP w' → Calls Tryz.prog 27 #[.int .i64 d.trap] w' fun e w'' => e = .returned (.string (numText d.trap)) ∧ Below w'.heap.size w' w'') := fun w' ht => itoa_any d.trap w' (show _ ≤ _ by omega) (show _ ≤ _ by omega) ht
    rw [hW]
    clear HV
    generalize numText d.trap = t at *
    go_enter Tryz.func26, Tryz.ntmps26
    go_wp2_with fail
    refine (HD.out _ (HT.out _ (HBA.out _))).mono ?_
    rintro e w1 ⟨rfl, hb1⟩
    have hB1 := (HBA.out _).trans (hb1.mono (HBA.out _).size)
    have hs1 := hB1.size
    clear hb1 HD HT
    go_wp2
    go_ret
    refine ⟨_, rfl, ⟨w1.heap.size, 2, #[.string ⟨#[116, 114, 97, 112]⟩, .string t], rfl, hs1, block_new w1 _ 9, Nat.le_refl _, ?_⟩, hB1.alloc hs1 _⟩
    intro j x hx
    match j, hx with
    | 0, hx => cases hx; rfl
    | 1, hx => cases hx; rfl
  · have hW : stW d = [⟨#[114, 117, 110]⟩] := by unfold stW; rw [if_neg h1, if_neg h2]
    rw [hW]
    clear HV HT
    go_enter Tryz.func26, Tryz.ntmps26
    go_wp2
    go_ret
    refine ⟨_, rfl, ⟨_, 1, #[.string ⟨#[114, 117, 110]⟩], rfl, by omega, block_new_at _ _ 9 _ (by simp), Nat.le_refl _, ?_⟩, (HBA.out _).alloc (HBA.out _).size _⟩
    intro j x hx
    match j, hx with
    | 0, hx => cases hx; rfl
end Go.Proofs.YtfefbgemcakabaaGreatDoor
