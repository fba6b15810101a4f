/-
  A module's text as a list of lines, each of which says what it adds.
-/
import Derived.Test.YtkclkgonihkhlaaDoorU1
namespace Go.Proofs.YtkclkgonihkhlaaDoor
open Go.RowKit

/-- What one line says. -/
inductive It where
  | t (s : ByteArray)
  | f (p l : Int)
  | i (o a : Int)
def It.line : It → ByteArray
  | .t s => lineT s
  | .f p l => lineF p l
  | .i o a => lineI o a
def fItems (f : Fn) : List It := .f f.params f.locals :: f.code.map fun x => .i x.1 x.2
def items (ts : List ByteArray) (fs : List Fn) : List It := ts.map .t ++ fs.flatMap fItems
def bytesOf (l : List It) : List UInt8 := l.flatMap fun x => x.line.data.toList
/-- What was read, and one line more. -/
def ap (st : List ByteArray × List Fn) : It → List ByteArray × List Fn
  | .t s => (st.1 ++ [s], st.2)
  | .f p l => (st.1, st.2 ++ [⟨p, l, []⟩])
  | .i o a => (st.1, match st.2.getLast? with
    | some f => st.2.dropLast ++ [⟨f.params, f.locals, f.code ++ [(o, a)]⟩]
    | none => [])

theorem ap_texts (T : List ByteArray) : ∀ (ts : List ByteArray) (fs : List Fn), (T.map It.t).foldl ap (ts, fs) = (ts ++ T, fs) := by
  induction T with
  | nil => intro ts fs; simp
  | cons t T ih => intro ts fs; rw [List.map_cons, List.foldl_cons]; show List.foldl ap (ts ++ [t], fs) _ = _; rw [ih]; simp
theorem ap_ins (ts : List ByteArray) (fs : List Fn) (p l o a : Int) (c : List (Int × Int)) : ap (ts, fs ++ [⟨p, l, c⟩]) (.i o a) = (ts, fs ++ [⟨p, l, c ++ [(o, a)]⟩]) := by
  simp [ap]
theorem ap_code (code : List (Int × Int)) : ∀ (ts : List ByteArray) (fs : List Fn) (p l : Int) (c : List (Int × Int)), (code.map fun x => It.i x.1 x.2).foldl ap (ts, fs ++ [⟨p, l, c⟩]) = (ts, fs ++ [⟨p, l, c ++ code⟩]) := by
  induction code with
  | nil => intro ts fs p l c; simp
  | cons x code ih => intro ts fs p l c; rw [List.map_cons, List.foldl_cons, ap_ins, ih]; simp
theorem ap_funcs (F : List Fn) : ∀ (ts : List ByteArray) (fs : List Fn), (F.flatMap fItems).foldl ap (ts, fs) = (ts, fs ++ F) := by
  induction F with
  | nil => intro ts fs; simp
  | cons f F ih =>
    intro ts fs
    rw [List.flatMap_cons, List.foldl_append]
    have h : (fItems f).foldl ap (ts, fs) = (ts, fs ++ [f]) := by
      unfold fItems
      rw [List.foldl_cons]
      show List.foldl ap (ts, fs ++ [⟨f.params, f.locals, []⟩]) _ = _
      rw [ap_code]
      simp
    rw [h, ih]
    simp
/-- All lines say the module. -/
theorem ap_all (T : List ByteArray) (F : List Fn) : (items T F).foldl ap ([], []) = (T, F) := by
  unfold items
  rw [List.foldl_append, ap_texts, ap_funcs]
  simp

theorem data_app (a b : ByteArray) : (a ++ b).data.toList = a.data.toList ++ b.data.toList := by
  rw [ByteArray.data_append, Array.toList_append]
theorem fold_line {α : Type} (g : α → ByteArray) (l : List α) : ∀ s : ByteArray, (l.foldl (fun s x => s ++ g x) s).data.toList = s.data.toList ++ l.flatMap fun x => (g x).data.toList := by
  induction l with
  | nil => intro s; simp
  | cons x l ih => intro s; rw [List.foldl_cons, ih, data_app, List.flatMap_cons, List.append_assoc]
theorem bytes_app (a b : List It) : bytesOf (a ++ b) = bytesOf a ++ bytesOf b := by unfold bytesOf; rw [List.flatMap_append]
theorem bytes_cons (x : It) (l : List It) : bytesOf (x :: l) = x.line.data.toList ++ bytesOf l := by unfold bytesOf; rw [List.flatMap_cons]
theorem tB_bytes (ts : List ByteArray) : (tB ts).data.toList = bytesOf (ts.map It.t) := by
  unfold tB bytesOf
  rw [fold_line, List.flatMap_map]
  rfl
theorem cB_bytes (s : ByteArray) (xs : List (Int × Int)) : (cB s xs).data.toList = s.data.toList ++ bytesOf (xs.map fun x => It.i x.1 x.2) := by
  unfold cB bytesOf
  rw [fold_line (fun x : Int × Int => lineI x.1 x.2), List.flatMap_map]
  rfl
theorem fB_bytes (fs : List Fn) : ∀ s : ByteArray, (fB s fs).data.toList = s.data.toList ++ bytesOf (fs.flatMap fItems) := by
  induction fs with
  | nil => intro s; unfold fB; simp [bytesOf]
  | cons f fs ih =>
    intro s
    have h : fB s (f :: fs) = fB (cB (s ++ lineF f.params f.locals) f.code) fs := rfl
    rw [h, ih, cB_bytes, data_app, List.flatMap_cons, bytes_app]
    have h2 : bytesOf (fItems f) = (lineF f.params f.locals).data.toList ++ bytesOf (f.code.map fun x => It.i x.1 x.2) := bytes_cons _ _
    rw [h2]
    simp only [List.append_assoc]
/-- The text of a module, line by line. -/
theorem showB_bytes (ts : List ByteArray) (fs : List Fn) : (showB ts fs).data.toList = bytesOf (items ts fs) := by
  unfold showB items
  rw [fB_bytes, tB_bytes, bytes_app]
end Go.Proofs.YtkclkgonihkhlaaDoor
