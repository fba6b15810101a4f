/-
  When a text, an instruction, a function and a module are ok, as functions on plain data, and what is known of them.
  What spec.l01Text, impl.textOk and impl.argBounds return, for every argument within the stated sizes.
-/
import Derived.Test.YtlohoolimejihaaGreatMem
import Derived.Test.YtlohoolimejihaaGreatW1
import Derived.Deep.QuietTactic
import Derived.BigQuiet
import Derived.Deep.RegionWith
namespace Go.Proofs.YtlohoolimejihaaGreat

def byteB (c : UInt8) : Bool := decide (32 ≤ c.toNat) && decide (c.toNat ≤ 126) && decide (c.toNat ≠ 34)
/-- A text that may stand in a module. -/
def textB (s : ByteArray) : Bool := decide (s.size ≤ 60) && s.data.toList.all byteB

theorem textB_no {s : ByteArray} {k : Nat} (hk : k < s.size) (h : byteB s[k] = false) : textB s = false := by
  unfold textB
  rw [Bool.and_eq_false_iff]
  right
  rw [List.all_eq_false]
  exact ⟨s[k], by simp [ByteArray.getElem_eq_getElem_data], by simp [h]⟩

theorem textB_yes {s : ByteArray} (h60 : s.size ≤ 60) (h : ∀ j (hj : j < s.size), byteB s[j] = true) : textB s = true := by
  unfold textB
  rw [Bool.and_eq_true]
  refine ⟨by simpa using h60, ?_⟩
  rw [List.all_eq_true]
  intro x hx
  obtain ⟨i, hi, rfl⟩ := List.getElem_of_mem hx
  exact h i (by simpa using hi)

/-- What an instruction may be, in a function of 'nc' instructions and 'loc' locals of a module of 'nt' texts and 'nf' functions. -/
def insB (nt nf loc nc op a : Int) : Bool :=
  if op = 1 then decide (-1000000000 ≤ a) && decide (a ≤ 1000000000)
  else if op = 2 then decide (0 ≤ a) && decide (a ≤ 1)
  else if op = 3 then decide (0 ≤ a) && decide (a < nt)
  else if op = 5 ∨ op = 24 then decide (0 ≤ a) && decide (a < nf)
  else if op = 6 ∨ op = 7 then decide (0 ≤ a) && decide (a < loc)
  else if op = 17 ∨ op = 18 ∨ op = 19 then decide (0 ≤ a) && decide (a < nc)
  else if op = 20 then decide (0 ≤ a) && decide (a ≤ 6)
  else if op = 21 ∨ op = 22 then decide (0 ≤ a) && decide (a ≤ 5)
  else if op = 23 then decide (0 ≤ a) && decide (a ≤ 6)
  else decide (1 ≤ op) && decide (op ≤ 26) && decide (a = 0)

/-- The least A of an Op, and the number behind the greatest. -/
def boundsB (nt nf loc nc op : Int) : Int × Int :=
  if op = 1 then (-1000000000, 1000000001)
  else if op = 2 then (0, 2)
  else if op = 3 then (0, nt)
  else if op = 5 ∨ op = 24 then (0, nf)
  else if op = 6 ∨ op = 7 then (0, loc)
  else if op = 17 ∨ op = 18 ∨ op = 19 then (0, nc)
  else if op = 20 then (0, 7)
  else if op = 21 ∨ op = 22 then (0, 6)
  else if op = 23 then (0, 7)
  else if 1 ≤ op ∧ op ≤ 26 then (0, 1)
  else (0, 0)

theorem ops_cases (op : Int) : op = 1 ∨ op = 2 ∨ op = 3 ∨ op = 4 ∨ op = 5 ∨ op = 6 ∨ op = 7 ∨ op = 8 ∨ op = 9 ∨ op = 10 ∨ op = 11 ∨ op = 12 ∨ op = 13 ∨ op = 14 ∨ op = 15 ∨ op = 16 ∨ op = 17 ∨ op = 18 ∨ op = 19 ∨ op = 20 ∨ op = 21 ∨ op = 22 ∨ op = 23 ∨ op = 24 ∨ op = 25 ∨ op = 26 ∨ op < 1 ∨ 26 < op := by omega

theorem boundsB_out {nt nf loc nc op : Int} (h : op < 1 ∨ 26 < op) : boundsB nt nf loc nc op = (0, 0) := by
  unfold boundsB
  repeat' split
  all_goals first | rfl | omega

theorem insB_out {nt nf loc nc op a : Int} (h : op < 1 ∨ 26 < op) : insB nt nf loc nc op a = false := by
  rw [Bool.eq_false_iff]
  unfold insB
  repeat' split
  all_goals simp
  all_goals omega

theorem insB_bounds (nt nf loc nc op a : Int) : (decide ((boundsB nt nf loc nc op).1 ≤ a) && decide (a < (boundsB nt nf loc nc op).2)) = insB nt nf loc nc op a := by
  rw [Bool.eq_iff_iff]
  unfold boundsB insB
  repeat' split
  all_goals simp
  all_goals omega

def fnB (nt nf : Int) (f : Fn) : Bool :=
  decide (0 ≤ f.params) && decide (f.params ≤ 6) && decide (f.params ≤ f.locals) && decide (f.locals ≤ 12) && decide (1 ≤ f.code.length) && decide (f.code.length ≤ 120) &&
    f.code.all fun x => insB nt nf f.locals f.code.length x.1 x.2

def modB (ts : List ByteArray) (fs : List Fn) : Bool :=
  decide (1 ≤ fs.length) && decide (fs.length ≤ 12) && decide (ts.length ≤ 20) && ts.all textB && fs.all fun f => fnB ts.length fs.length f

theorem all_take {α : Type} {l : List α} {p : α → Bool} {k : Nat} (h : k < l.length) (h1 : (l.take k).all p = true) (h2 : p l[k] = true) : (l.take (k + 1)).all p = true := by
  rw [List.take_succ_eq_append_getElem h, List.all_append, h1, List.all_cons, h2]
  rfl
theorem all_no {α : Type} {l : List α} {p : α → Bool} {k : Nat} (h : k < l.length) (h2 : p l[k] = false) : l.all p = false := by
  rw [List.all_eq_false]
  exact ⟨l[k], List.getElem_mem h, by simp [h2]⟩
theorem all_end {α : Type} {l : List α} {p : α → Bool} {k : Nat} (h : l.length ≤ k) (h1 : (l.take k).all p = true) : l.all p = true := by
  rwa [List.take_of_length_le h] at h1
end Go.Proofs.YtlohoolimejihaaGreat

namespace Go.Proofs.YtlohoolimejihaaGreat
open Go.RowKit


set_option maxHeartbeats 800000 in
theorem l01Text_any (s : ByteArray) (w : World) (hs : s.size ≤ 1048576) :
    Calls Tryz.prog 60 #[.string s] w fun e w' => e = .returned (.bool (textB s)) ∧ w' = w := by
  by_cases h60 : s.size ≤ 60
  · go_enter Tryz.func60, Tryz.ntmps60
    go_wp2
    go_loop [3] (fun i => ∃ k : Nat, k ≤ s.size ∧ i = .int .i64 k ∧ ∀ j (hj : j < s.size), j < k → byteB s[j] = true) (fun i => s.size - (intOf i).toNat)
    case atStart => exact ⟨0, by omega, rfl, fun j _ h => by omega⟩
    case round =>
      obtain ⟨k, hk, rfl, hall⟩ := hrel
      by_cases hlt : k < s.size
      · by_cases b1 : (s[k].toNat : Int) < 32
        · go_wp2
          go_ret
          exact ⟨ret_bool (textB_no hlt (by unfold byteB; simp; omega)).symm, rfl⟩
        by_cases b2 : 126 < (s[k].toNat : Int)
        · go_wp2
          go_ret
          exact ⟨ret_bool (textB_no hlt (by unfold byteB; simp; omega)).symm, rfl⟩
        by_cases b3 : (s[k].toNat : Int) = 34
        · have b3' : ((s[k].toNat : Int) == 34) = true := by simpa using b3
          have hno := textB_no hlt (by unfold byteB; simp; omega)
          clear b3
          go_wp2
          go_ret
          exact ⟨rfl, rfl⟩
        · have b3' : ((s[k].toNat : Int) == 34) = false := by simpa using b3
          have hyes : byteB s[k] = true := by unfold byteB; simp; omega
          go_wp2
          go_round
          case rel =>
            refine ⟨k + 1, by omega, by go_num, fun j hj hjk => ?_⟩
            by_cases e : j = k
            · subst e; exact hyes
            · exact hall j hj (by omega)
          case measure => simp [intOf]; omega
      · go_wp2
        go_ret
        exact ⟨ret_bool (textB_yes h60 fun j hj => hall j hj (by omega)).symm, rfl⟩
  · go_enter Tryz.func60, Tryz.ntmps60
    go_wp2
    go_ret
    exact ⟨ret_bool (by simp [textB, h60]), rfl⟩

set_option maxHeartbeats 800000 in
theorem textOk_any (s : ByteArray) (w : World) (hs : s.size ≤ 1048576) :
    Calls Tryz.prog 103 #[.string s] w fun e w' => e = .returned (.bool (textB s)) ∧ w' = w := by
  by_cases h60 : s.size ≤ 60
  · go_enter Tryz.func103, Tryz.ntmps103
    go_wp2
    go_loop [3] (fun i => ∃ k : Nat, k ≤ s.size ∧ i = .int .i64 k ∧ ∀ j (hj : j < s.size), j < k → byteB s[j] = true) (fun i => s.size - (intOf i).toNat)
    case atStart => exact ⟨0, by omega, rfl, fun j _ h => by omega⟩
    case round =>
      obtain ⟨k, hk, rfl, hall⟩ := hrel
      by_cases hlt : k < s.size
      · by_cases b1 : (s[k].toNat : Int) < 32
        · go_wp2
          go_ret
          exact ⟨ret_bool (textB_no hlt (by unfold byteB; simp; omega)).symm, rfl⟩
        by_cases b2 : 126 < (s[k].toNat : Int)
        · go_wp2
          go_ret
          exact ⟨ret_bool (textB_no hlt (by unfold byteB; simp; omega)).symm, rfl⟩
        by_cases b3 : (s[k].toNat : Int) = 34
        · have b3' : ((s[k].toNat : Int) == 34) = true := by simpa using b3
          have hno := textB_no hlt (by unfold byteB; simp; omega)
          clear b3
          go_wp2
          go_ret
          exact ⟨rfl, rfl⟩
        · have b3' : ((s[k].toNat : Int) == 34) = false := by simpa using b3
          have hyes : byteB s[k] = true := by unfold byteB; simp; omega
          go_wp2
          go_round
          case rel =>
            refine ⟨k + 1, by omega, by go_num, fun j hj hjk => ?_⟩
            by_cases e : j = k
            · subst e; exact hyes
            · exact hall j hj (by omega)
          case measure => simp [intOf]; omega
      · go_wp2
        go_ret
        exact ⟨ret_bool (textB_yes h60 fun j hj => hall j hj (by omega)).symm, rfl⟩
  · go_enter Tryz.func103, Tryz.ntmps103
    go_wp2
    go_ret
    exact ⟨ret_bool (by simp [textB, h60]), rfl⟩

theorem ret_two {a b c d : Int} (h : a = c) (k : b = d) : Ending.returned (.tuple #[.int .i64 a, .int .i64 b]) = .returned (.tuple #[.int .i64 c, .int .i64 d]) := by rw [h, k]

set_option maxHeartbeats 4000000 in
theorem argBounds_any (a1 a2 a3 : Option Addr) (nt c1 nf c2 nc c3 : Nat) (p l op : Int) (w : World) :
    Calls Tryz.prog 155 #[.agg #[.slice a1 nt c1, .slice a2 nf c2], .agg #[.int .i64 p, .int .i64 l, .slice a3 nc c3], .int .i64 op] w fun e w' => e = .returned (.tuple #[.int .i64 (boundsB nt nf l nc op).1, .int .i64 (boundsB nt nf l nc op).2]) ∧ Below w.heap.size w w' := by
  rcases ops_cases op with rfl | rfl | rfl | rfl | rfl | rfl | rfl | rfl | rfl | rfl | rfl | rfl | rfl | rfl | rfl | rfl | rfl | rfl | rfl | rfl | rfl | rfl | rfl | rfl | rfl | rfl | h | h
  case inr.inr.inr.inr.inr.inr.inr.inr.inr.inr.inr.inr.inr.inr.inr.inr.inr.inr.inr.inr.inr.inr.inr.inr.inr.inr.inl =>
    have hbb := boundsB_out (nt := nt) (nf := nf) (loc := l) (nc := nc) (Or.inl h : op < 1 ∨ 26 < op)
    rw [hbb]
    clear hbb
    go_enter Tryz.func155, Tryz.ntmps155
    go_wp2
    go_ret2
    exact ⟨rfl, ((Below.refl _ _).alloc (Nat.le_refl _) _).alloc (by simp) _⟩
  case inr.inr.inr.inr.inr.inr.inr.inr.inr.inr.inr.inr.inr.inr.inr.inr.inr.inr.inr.inr.inr.inr.inr.inr.inr.inr.inr =>
    have hbb := boundsB_out (nt := nt) (nf := nf) (loc := l) (nc := nc) (Or.inr h : op < 1 ∨ 26 < op)
    rw [hbb]
    clear hbb
    go_enter Tryz.func155, Tryz.ntmps155
    go_wp2
    go_ret2
    exact ⟨rfl, ((Below.refl _ _).alloc (Nat.le_refl _) _).alloc (by simp) _⟩
  all_goals
    go_enter Tryz.func155, Tryz.ntmps155
    go_wp2
    try go_quiet (fail)
    try go_wp2
    go_ret2
    refine ⟨rfl, ?_⟩
    first | exact ((Below.refl _ _).alloc (Nat.le_refl _) _).alloc (by simp) _ | exact below_draws (((Below.refl _ _).alloc (Nat.le_refl _) _).alloc (by simp) _) _

end Go.Proofs.YtlohoolimejihaaGreat
