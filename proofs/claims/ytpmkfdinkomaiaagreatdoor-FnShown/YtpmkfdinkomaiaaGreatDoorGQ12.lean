/-
  The program's line reader: what takeLine does.
  A module's text as a list of lines, each of which says what it adds.
-/
import Derived.Test.YtpmkfdinkomaiaaGreatDoorR10
import Derived.Test.YtpmkfdinkomaiaaGreatDoorGQ4
namespace Go.Proofs.YtpmkfdinkomaiaaGreatDoor
open Go.RowKit

def startT : ByteArray := ⟨#[116, 101, 120, 116, 32, 34]⟩
def indentT : ByteArray := ⟨#[32, 32]⟩
def cutOff (s p : ByteArray) : ByteArray := ⟨(Lib.trimPrefix s.data.toList p.data.toList).toArray⟩
theorem cutOff_size (s p : ByteArray) : (cutOff s p).size ≤ s.size := by
  show (Lib.trimPrefix s.data.toList p.data.toList).toArray.size ≤ s.data.size
  rw [List.size_toArray]
  unfold Lib.trimPrefix
  split
  · rw [List.length_drop, Array.length_toList]; omega
  · rw [Array.length_toList]; exact Nat.le_refl _
def LinePost (R base K : Nat) (a1 : Option Addr) (c1 : Nat) (a2 : Option Addr) (c2 : Nat) (ts : List ByteArray) (fs : List Fn) (cs : List (Option Addr × Nat)) (line : ByteArray) (w : World) (e : Ending) (w' : World) : Prop :=
  (Lib.hasPrefix line.data.toList startT.data.toList = true ∧ TextPost R base (.map (some K)) a2 c2 ts fs cs (cutOff line startT) w e w' ∧ (e = .returned (.bool false) → LineAt w R (.map (some K)) a1 ts.length c1 a2 fs.length c2)) ∨
  (Lib.hasPrefix line.data.toList startT.data.toList = false ∧ Lib.hasPrefix line.data.toList indentT.data.toList = true ∧ InsPost R base K a1 c1 a2 c2 ts fs cs (cutOff line indentT) w e w') ∨
  (Lib.hasPrefix line.data.toList startT.data.toList = false ∧ Lib.hasPrefix line.data.toList indentT.data.toList = false ∧ FuncPost R base (.map (some K)) a1 c1 a2 c2 ts fs cs line w e w')

set_option maxRecDepth 100000 in
set_option maxHeartbeats 1600000 in
theorem takeLine_any (R base K : Nat) (a1 a2 : Option Addr) (c1 c2 : Nat) (ts : List ByteArray) (fs : List Fn) (cs : List (Option Addr × Nat)) (line : ByteArray) (w : World)
    (hR : LineAt w R (.map (some K)) a1 ts.length c1 a2 fs.length c2) (hm : ModOwn w base a1 c1 a2 c2 ts fs cs) (hK : OpsAt w K) (hRb : R < base) (hKb : K < base) (hbw : base ≤ w.heap.size) (hts : ts.length ≤ 1048576) (hfs : fs.length ≤ 1048576) (hcd : ∀ f ∈ fs, f.code.length ≤ 1048576) (hls : line.size ≤ 1048576) (hv : Vars w) :
    Calls Tryz.prog 27 #[.pointer (some ⟨R, 0, none⟩), .string line] w (LinePost R base K a1 c1 a2 c2 ts fs cs line w) := by
  have ht := takeText_any R base (.map (some K)) a1 a2 c1 c2 ts fs cs (cutOff line startT) w hR hm hRb hbw hts (Nat.le_trans (cutOff_size _ _) hls)
  have hi := takeIns_any R base K a1 a2 c1 c2 ts fs cs (cutOff line indentT) w hR hm hK hRb hKb hbw hfs hcd (Nat.le_trans (cutOff_size _ _) hls) hv
  have hf := takeFunc_any R base (.map (some K)) a1 a2 c1 c2 ts fs cs line w hR hm hRb hbw hfs hls hv
  go_enter Tryz.func27, Tryz.ntmps27
  go_wp2_with fail
  refine (Tryz.strings_HasPrefix line startT w).mono ?_
  rintro e w1 ⟨rfl, rfl⟩
  cases h1 : Lib.hasPrefix line.data.toList startT.data.toList
  · go_wp2_with fail
    refine (Tryz.strings_HasPrefix line indentT w1).mono ?_
    rintro e w2 ⟨rfl, rfl⟩
    cases h2 : Lib.hasPrefix line.data.toList indentT.data.toList
    · go_wp2_with fail
      refine hf.mono ?_
      intro e w3 hp
      obtain ⟨b, rfl⟩ : ∃ b, e = .returned (.bool b) := by
        obtain ⟨ws, -, -, ⟨_, _, _, _, h, -⟩ | ⟨h, -⟩⟩ := hp
        · exact ⟨_, h⟩
        · exact ⟨_, h⟩
      have HP : Hid (FuncPost R base (.map (some K)) a1 c1 a2 c2 ts fs cs line w2 (.returned (.bool b)) w3) := hp
      clear hp
      go_wp2
      go_ret
      exact Or.inr (Or.inr ⟨h1, h2, HP.out⟩)
    · go_wp2_with fail
      refine (Tryz.strings_TrimPrefix line indentT w2).mono ?_
      rintro e w3 ⟨rfl, rfl⟩
      go_wp2_with fail
      refine hi.mono ?_
      intro e w4 hp
      obtain ⟨b, rfl⟩ : ∃ b, e = .returned (.bool b) := by
        obtain ⟨ws, -, -, -, ⟨_, _, _, _, _, _, _, h, -⟩ | ⟨h, -⟩⟩ := hp
        · exact ⟨_, h⟩
        · exact ⟨_, h⟩
      have HP : Hid (InsPost R base K a1 c1 a2 c2 ts fs cs (cutOff line indentT) w3 (.returned (.bool b)) w4) := hp
      clear hp
      go_wp2
      go_ret
      exact Or.inr (Or.inl ⟨h1, h2, HP.out⟩)
  · go_wp2_with fail
    refine (Tryz.strings_TrimPrefix line startT w1).mono ?_
    rintro e w3 ⟨rfl, rfl⟩
    go_wp2_with fail
    refine ht.mono ?_
    intro e w4 hp
    obtain ⟨b, rfl⟩ : ∃ b, e = .returned (.bool b) := by
      rcases hp with ⟨-, h, -⟩ | ⟨-, h, -⟩
      · exact ⟨_, h⟩
      · exact ⟨_, h⟩
    have HP : Hid (TextPost R base (.map (some K)) a2 c2 ts fs cs (cutOff line startT) w3 (.returned (.bool b)) w4) := hp
    clear hp
    go_wp2
    go_ret
    exact Or.inl ⟨h1, HP.out, fun _ => hR⟩
end Go.Proofs.YtpmkfdinkomaiaaGreatDoor

namespace Go.Proofs.YtpmkfdinkomaiaaGreatDoor
open Go.RowKit

/-- What one line says. -/
inductive It where
  | t (s : ByteArray)
  | f (p l : Int)
  | i (o a : Int)
def It.line : It → ByteArray
  | .t s => lineT s
  | .f p l => lineF p l
  | .i o a => lineI o a
def fItems (f : Fn) : List It := .f f.params f.locals :: f.code.map fun x => .i x.1 x.2
def items (ts : List ByteArray) (fs : List Fn) : List It := ts.map .t ++ fs.flatMap fItems
def bytesOf (l : List It) : List UInt8 := l.flatMap fun x => x.line.data.toList
/-- What was read, and one line more. -/
def ap (st : List ByteArray × List Fn) : It → List ByteArray × List Fn
  | .t s => (st.1 ++ [s], st.2)
  | .f p l => (st.1, st.2 ++ [⟨p, l, []⟩])
  | .i o a => (st.1, match st.2.getLast? with
    | some f => st.2.dropLast ++ [⟨f.params, f.locals, f.code ++ [(o, a)]⟩]
    | none => [])

theorem ap_texts (T : List ByteArray) : ∀ (ts : List ByteArray) (fs : List Fn), (T.map It.t).foldl ap (ts, fs) = (ts ++ T, fs) := by
  induction T with
  | nil => intro ts fs; simp
  | cons t T ih => intro ts fs; rw [List.map_cons, List.foldl_cons]; show List.foldl ap (ts ++ [t], fs) _ = _; rw [ih]; simp
theorem ap_ins (ts : List ByteArray) (fs : List Fn) (p l o a : Int) (c : List (Int × Int)) : ap (ts, fs ++ [⟨p, l, c⟩]) (.i o a) = (ts, fs ++ [⟨p, l, c ++ [(o, a)]⟩]) := by
  simp [ap]
theorem ap_code (code : List (Int × Int)) : ∀ (ts : List ByteArray) (fs : List Fn) (p l : Int) (c : List (Int × Int)), (code.map fun x => It.i x.1 x.2).foldl ap (ts, fs ++ [⟨p, l, c⟩]) = (ts, fs ++ [⟨p, l, c ++ code⟩]) := by
  induction code with
  | nil => intro ts fs p l c; simp
  | cons x code ih => intro ts fs p l c; rw [List.map_cons, List.foldl_cons, ap_ins, ih]; simp
theorem ap_funcs (F : List Fn) : ∀ (ts : List ByteArray) (fs : List Fn), (F.flatMap fItems).foldl ap (ts, fs) = (ts, fs ++ F) := by
  induction F with
  | nil => intro ts fs; simp
  | cons f F ih =>
    intro ts fs
    rw [List.flatMap_cons, List.foldl_append]
    have h : (fItems f).foldl ap (ts, fs) = (ts, fs ++ [f]) := by
      unfold fItems
      rw [List.foldl_cons]
      show List.foldl ap (ts, fs ++ [⟨f.params, f.locals, []⟩]) _ = _
      rw [ap_code]
      simp
    rw [h, ih]
    simp
/-- All lines say the module. -/
theorem ap_all (T : List ByteArray) (F : List Fn) : (items T F).foldl ap ([], []) = (T, F) := by
  unfold items
  rw [List.foldl_append, ap_texts, ap_funcs]
  simp

theorem data_app (a b : ByteArray) : (a ++ b).data.toList = a.data.toList ++ b.data.toList := by
  rw [ByteArray.data_append, Array.toList_append]
theorem fold_line {α : Type} (g : α → ByteArray) (l : List α) : ∀ s : ByteArray, (l.foldl (fun s x => s ++ g x) s).data.toList = s.data.toList ++ l.flatMap fun x => (g x).data.toList := by
  induction l with
  | nil => intro s; simp
  | cons x l ih => intro s; rw [List.foldl_cons, ih, data_app, List.flatMap_cons, List.append_assoc]
theorem bytes_app (a b : List It) : bytesOf (a ++ b) = bytesOf a ++ bytesOf b := by unfold bytesOf; rw [List.flatMap_append]
theorem bytes_cons (x : It) (l : List It) : bytesOf (x :: l) = x.line.data.toList ++ bytesOf l := by unfold bytesOf; rw [List.flatMap_cons]
theorem tB_bytes (ts : List ByteArray) : (tB ts).data.toList = bytesOf (ts.map It.t) := by
  unfold tB bytesOf
  rw [fold_line, List.flatMap_map]
  rfl
theorem cB_bytes (s : ByteArray) (xs : List (Int × Int)) : (cB s xs).data.toList = s.data.toList ++ bytesOf (xs.map fun x => It.i x.1 x.2) := by
  unfold cB bytesOf
  rw [fold_line (fun x : Int × Int => lineI x.1 x.2), List.flatMap_map]
  rfl
theorem fB_bytes (fs : List Fn) : ∀ s : ByteArray, (fB s fs).data.toList = s.data.toList ++ bytesOf (fs.flatMap fItems) := by
  induction fs with
  | nil => intro s; unfold fB; simp [bytesOf]
  | cons f fs ih =>
    intro s
    have h : fB s (f :: fs) = fB (cB (s ++ lineF f.params f.locals) f.code) fs := rfl
    rw [h, ih, cB_bytes, data_app, List.flatMap_cons, bytes_app]
    have h2 : bytesOf (fItems f) = (lineF f.params f.locals).data.toList ++ bytesOf (f.code.map fun x => It.i x.1 x.2) := bytes_cons _ _
    rw [h2]
    simp only [List.append_assoc]
/-- The text of a module, line by line. -/
theorem showB_bytes (ts : List ByteArray) (fs : List Fn) : (showB ts fs).data.toList = bytesOf (items ts fs) := by
  unfold showB items
  rw [fB_bytes, tB_bytes, bytes_app]
end Go.Proofs.YtpmkfdinkomaiaaGreatDoor
