/-
  The small functions that sites are asked with, of both sides.
  When a text, an instruction, a function and a module are ok, as functions on plain data, and what is known of them.
  What spec.l01Text, impl.textOk and impl.argBounds return, for every argument within the stated sizes.
-/
import Derived.Test.YtcbknjjnphknbaaGreatDoorZOQ3
import Derived.Deep.RegionHeld3
import Derived.Test.YtcbknjjnphknbaaGreatDoorZOQ1
import Derived.Test.YtcbknjjnphknbaaGreatDoorZOQ2
import Derived.Deep.QuietTactic
import Derived.BigQuiet
import Derived.Deep.RegionWith
namespace Go.Proofs.YtcbknjjnphknbaaGreatDoor
open Go.RowKit

/-- -1, 0 or 1. -/
def cmpI (x y : Int) : Int := if x < y then -1 else if y < x then 1 else 0

set_option maxHeartbeats 400000 in
theorem isNaN_any (x : Int) (w : World) : Calls Tryz.prog 160 #[.int .i64 x] w fun e w' => e = .returned (.bool false) ∧ w' = w := by
  go_enter Tryz.func160, Tryz.ntmps160
  go_wp2
  go_ret
  exact ⟨ret_bool (by simp), rfl⟩

set_option maxHeartbeats 400000 in
theorem compare_any (x y : Int) (w : World) : Calls Tryz.prog 158 #[.int .i64 x, .int .i64 y] w fun e w' => e = .returned (.int .i64 (cmpI x y)) ∧ w' = w := by
  unfold cmpI
  by_cases h1 : x < y
  · rw [if_pos h1]
    go_enter Tryz.func158, Tryz.ntmps158
    go_wp2_with (go_at_call 160; refine (isNaN_any _ _).mono ?_; rintro e w' ⟨rfl, rfl⟩)
    go_ret
    exact ⟨rfl, rfl⟩
  · rw [if_neg h1]
    by_cases h2 : y < x
    · rw [if_pos h2]
      go_enter Tryz.func158, Tryz.ntmps158
      go_wp2_with (go_at_call 160; refine (isNaN_any _ _).mono ?_; rintro e w' ⟨rfl, rfl⟩)
      go_ret
      exact ⟨rfl, rfl⟩
    · rw [if_neg h2]
      go_enter Tryz.func158, Tryz.ntmps158
      go_wp2_with (go_at_call 160; refine (isNaN_any _ _).mono ?_; rintro e w' ⟨rfl, rfl⟩)
      go_ret
      exact ⟨rfl, rfl⟩

set_option maxHeartbeats 400000 in
theorem numberOp_any (op : Int) (w : World) : Calls Tryz.prog 153 #[.int .i64 op] w fun e w' => e = .returned (.bool (decide (11 ≤ op ∧ op ≤ 14))) ∧ w' = w := by
  by_cases h1 : op = 11
  · subst h1; go_enter Tryz.func153, Tryz.ntmps153; go_wp2; go_ret; exact ⟨rfl, rfl⟩
  by_cases h2 : op = 12
  · subst h2; go_enter Tryz.func153, Tryz.ntmps153; go_wp2; go_ret; exact ⟨rfl, rfl⟩
  by_cases h3 : op = 13
  · subst h3; go_enter Tryz.func153, Tryz.ntmps153; go_wp2; go_ret; exact ⟨rfl, rfl⟩
  by_cases h4 : op = 14
  · subst h4; go_enter Tryz.func153, Tryz.ntmps153; go_wp2; go_ret; exact ⟨rfl, rfl⟩
  go_enter Tryz.func153, Tryz.ntmps153
  go_wp2
  go_ret
  exact ⟨ret_bool (by symm; simp; omega), rfl⟩

set_option maxHeartbeats 400000 in
theorem is_any (op : Int) (w : World) : Calls Tryz.prog 113 #[.int .i64 op] w fun e w' => e = .returned (.bool (decide (11 ≤ op ∧ op ≤ 14 ∨ op = 23))) ∧ w' = w := by
  by_cases h1 : op = 11
  · subst h1; go_enter Tryz.func113, Tryz.ntmps113; go_wp2; go_ret; exact ⟨rfl, rfl⟩
  by_cases h2 : op = 12
  · subst h2; go_enter Tryz.func113, Tryz.ntmps113; go_wp2; go_ret; exact ⟨rfl, rfl⟩
  by_cases h3 : op = 13
  · subst h3; go_enter Tryz.func113, Tryz.ntmps113; go_wp2; go_ret; exact ⟨rfl, rfl⟩
  by_cases h4 : op = 14
  · subst h4; go_enter Tryz.func113, Tryz.ntmps113; go_wp2; go_ret; exact ⟨rfl, rfl⟩
  by_cases h5 : op = 23
  · subst h5; go_enter Tryz.func113, Tryz.ntmps113; go_wp2; go_ret; exact ⟨rfl, rfl⟩
  go_enter Tryz.func113, Tryz.ntmps113
  go_wp2
  go_ret
  exact ⟨ret_bool (by symm; simp; omega), rfl⟩

/-- One site is ahead of another one. -/
def SiteLess (a b : Si) : Prop := a.f < b.f ∨ a.f = b.f ∧ a.pc < b.pc
instance (a b : Si) : Decidable (SiteLess a b) := by unfold SiteLess; infer_instance

/-- The first that is not 0. -/
def orI (x y : Int) : Int := if x = 0 then y else x
set_option maxHeartbeats 1000000 in
theorem or_any (x y : Int) (g cap : Nat) (w : World) (h0 : w.cell? ⟨g, 0, none⟩ = some (.int .i64 x)) (h1 : w.cell? ⟨g, 1, none⟩ = some (.int .i64 y)) :
    Calls Tryz.prog 157 #[.slice (some ⟨g, 0, none⟩) 2 cap] w fun e w' => e = .returned (.int .i64 (orI x y)) ∧ Below w.heap.size w w' := by
  unfold orI
  go_enter Tryz.func157, Tryz.ntmps157
  go_wp2
  go_loopw [8] (fun i wr => ∃ (k : Nat), k ≤ 2 ∧ i = .int .i64 k ∧ Hid (0 < k → x = 0) ∧ Hid (1 < k → y = 0) ∧ Below w.heap.size w wr) (fun i _ => 2 - (intOf i).toNat)
  case atStart => exact ⟨0, by omega, rfl, fun h => absurd h (by omega), fun h => absurd h (by omega), Below.refl _ _⟩
  case round =>
    obtain ⟨k, hk, rfl, hx, hy, hb⟩ := hrel
    have c0 := cell_later hb h0
    have c1 := cell_later hb h1
    clear h0 h1
    obtain rfl | rfl | rfl : k = 0 ∨ k = 1 ∨ k = 2 := by omega
    · by_cases h : x = 0
      · subst h
        go_wp2
        go_roundw
        case rel => exact ⟨1, by omega, rfl, (by show _ → _; simp), fun h => absurd h (by omega), hb⟩
        case measure => simp [intOf]
      · go_wp2
        go_ret
        exact ⟨rfl, hb⟩
    · obtain rfl := hx.out (by omega)
      by_cases h : y = 0
      · subst h
        go_wp2
        go_roundw
        case rel => exact ⟨2, by omega, rfl, (by show _ → _; simp), (by show _ → _; simp), hb⟩
        case measure => simp [intOf]
      · go_wp2
        go_ret
        exact ⟨rfl, hb⟩
    · obtain rfl := hx.out (by omega)
      obtain rfl := hy.out (by omega)
      go_wp2
      go_ret
      exact ⟨rfl, hb⟩

set_option maxRecDepth 100000 in
set_option maxHeartbeats 1000000 in
theorem comparePlaces_any (af ap bf bp : Int) (w : World) :
    Calls Tryz.prog 154 #[.agg #[.int .i64 af, .int .i64 ap], .agg #[.int .i64 bf, .int .i64 bp]] w fun e w' => e = .returned (.int .i64 (orI (cmpI af bf) (cmpI ap bp))) ∧ Below w.heap.size w w' := by
  obtain ⟨wA, hwA⟩ : ∃ wA, wA = (w.alloc (.cells #[.int .i64 af, .int .i64 ap] 173)).alloc (.cells #[.int .i64 bf, .int .i64 bp] 173) := ⟨_, rfl⟩
  have hbA : Below w.heap.size w wA := by rw [hwA]; exact ((Below.refl _ _).alloc (Nat.le_refl _) _).alloc (by simp) _
  have hX : wA.heap[w.heap.size]? = some (.cells #[.int .i64 af, .int .i64 ap] 173 (0, 0)) := by rw [hwA]; exact block_old (block_new _ _ _) _
  have hY : wA.heap[w.heap.size + 1]? = some (.cells #[.int .i64 bf, .int .i64 bp] 173 (0, 0)) := by rw [hwA]; simpa using block_new (w.alloc (.cells #[.int .i64 af, .int .i64 ap] 173)) #[.int .i64 bf, .int .i64 bp] 173
  have hS : ∀ w', Below wA.heap.size wA w' → w'.cell? ⟨w.heap.size, 0, none⟩ = some (.int .i64 af) ∧ w'.cell? ⟨w.heap.size, 1, none⟩ = some (.int .i64 ap) ∧ w'.cell? ⟨w.heap.size + 1, 0, none⟩ = some (.int .i64 bf) ∧ w'.cell? ⟨w.heap.size + 1, 1, none⟩ = some (.int .i64 bp) := fun w' hb =>
    ⟨by rw [block_cell (block_kept hX hb)]; rfl, by rw [block_cell (block_kept hX hb)]; rfl, by rw [block_cell (block_kept hY hb)]; rfl, by rw [block_cell (block_kept hY hb)]; rfl⟩
  have HS : Hid (∀ w', Below wA.heap.size wA w' → w'.cell? ⟨w.heap.size, 0, none⟩ = some (.int .i64 af) ∧ w'.cell? ⟨w.heap.size, 1, none⟩ = some (.int .i64 ap) ∧ w'.cell? ⟨w.heap.size + 1, 0, none⟩ = some (.int .i64 bf) ∧ w'.cell? ⟨w.heap.size + 1, 1, none⟩ = some (.int .i64 bp)) := hS
  have q : Below wA.heap.size wA wA.drew := (Below.refl _ _).drew
  have HB : Hid (Below w.heap.size w wA) := hbA
  clear hS hX hY hbA
  go_enter Tryz.func154, Tryz.ntmps154
  go_wp2
  rw [← hwA]
  clear hwA
  go_region_held3 (fun w' => w'.cell? ⟨w.heap.size, 0, none⟩ = some (.int .i64 af) ∧ w'.cell? ⟨w.heap.size, 1, none⟩ = some (.int .i64 ap) ∧ w'.cell? ⟨w.heap.size + 1, 0, none⟩ = some (.int .i64 bf) ∧ w'.cell? ⟨w.heap.size + 1, 1, none⟩ = some (.int .i64 bp))
    ((refine HS.out _ ?_; first | exact q | exact Below.refl _ _ | exact ((Below.refl _ _).alloc (Nat.le_refl _) _).drew))
    (first
      | (go_at_call 158; refine (compare_any _ _ _).mono ?_; rintro e wb ⟨rfl, rfl⟩)
      | (go_at_call 157; refine (or_any (cmpI af bf) (cmpI ap bp) _ _ _ (by exact (cell_new wA #[.int .i64 (cmpI af bf), .int .i64 (cmpI ap bp)] 3 0).trans rfl) (by exact (cell_new wA #[.int .i64 (cmpI af bf), .int .i64 (cmpI ap bp)] 3 1).trans rfl)).mono ?_; rintro e w3 ⟨rfl, kd⟩; have q := (((Below.refl wA.heap.size wA).alloc (Nat.le_refl _) (.cells #[.int .i64 (cmpI af bf), .int .i64 (cmpI ap bp)] 3)).drew).trans (kd.mono (by simp))))
  go_wp2
  go_ret
  exact ⟨rfl, HB.out.trans (q.mono HB.out.size)⟩
theorem cmp_less (a b : Si) : 0 ≤ orI (cmpI a.f b.f) (cmpI a.pc b.pc) ↔ ¬ SiteLess a b := by
  unfold orI cmpI SiteLess
  repeat' split
  all_goals omega
end Go.Proofs.YtcbknjjnphknbaaGreatDoor

namespace Go.Proofs.YtcbknjjnphknbaaGreatDoor

def byteB (c : UInt8) : Bool := decide (32 ≤ c.toNat) && decide (c.toNat ≤ 126) && decide (c.toNat ≠ 34)
/-- A text that may stand in a module. -/
def textB (s : ByteArray) : Bool := decide (s.size ≤ 60) && s.data.toList.all byteB

theorem textB_no {s : ByteArray} {k : Nat} (hk : k < s.size) (h : byteB s[k] = false) : textB s = false := by
  unfold textB
  rw [Bool.and_eq_false_iff]
  right
  rw [List.all_eq_false]
  exact ⟨s[k], by simp [ByteArray.getElem_eq_getElem_data], by simp [h]⟩

theorem textB_yes {s : ByteArray} (h60 : s.size ≤ 60) (h : ∀ j (hj : j < s.size), byteB s[j] = true) : textB s = true := by
  unfold textB
  rw [Bool.and_eq_true]
  refine ⟨by simpa using h60, ?_⟩
  rw [List.all_eq_true]
  intro x hx
  obtain ⟨i, hi, rfl⟩ := List.getElem_of_mem hx
  exact h i (by simpa using hi)

/-- What an instruction may be, in a function of 'nc' instructions and 'loc' locals of a module of 'nt' texts and 'nf' functions. -/
def insB (nt nf loc nc op a : Int) : Bool :=
  if op = 1 then decide (-1000000000 ≤ a) && decide (a ≤ 1000000000)
  else if op = 2 then decide (0 ≤ a) && decide (a ≤ 1)
  else if op = 3 then decide (0 ≤ a) && decide (a < nt)
  else if op = 5 ∨ op = 24 then decide (0 ≤ a) && decide (a < nf)
  else if op = 6 ∨ op = 7 then decide (0 ≤ a) && decide (a < loc)
  else if op = 17 ∨ op = 18 ∨ op = 19 then decide (0 ≤ a) && decide (a < nc)
  else if op = 20 then decide (0 ≤ a) && decide (a ≤ 6)
  else if op = 21 ∨ op = 22 then decide (0 ≤ a) && decide (a ≤ 5)
  else if op = 23 then decide (0 ≤ a) && decide (a ≤ 6)
  else decide (1 ≤ op) && decide (op ≤ 26) && decide (a = 0)

/-- The least A of an Op, and the number behind the greatest. -/
def boundsB (nt nf loc nc op : Int) : Int × Int :=
  if op = 1 then (-1000000000, 1000000001)
  else if op = 2 then (0, 2)
  else if op = 3 then (0, nt)
  else if op = 5 ∨ op = 24 then (0, nf)
  else if op = 6 ∨ op = 7 then (0, loc)
  else if op = 17 ∨ op = 18 ∨ op = 19 then (0, nc)
  else if op = 20 then (0, 7)
  else if op = 21 ∨ op = 22 then (0, 6)
  else if op = 23 then (0, 7)
  else if 1 ≤ op ∧ op ≤ 26 then (0, 1)
  else (0, 0)

theorem ops_cases (op : Int) : op = 1 ∨ op = 2 ∨ op = 3 ∨ op = 4 ∨ op = 5 ∨ op = 6 ∨ op = 7 ∨ op = 8 ∨ op = 9 ∨ op = 10 ∨ op = 11 ∨ op = 12 ∨ op = 13 ∨ op = 14 ∨ op = 15 ∨ op = 16 ∨ op = 17 ∨ op = 18 ∨ op = 19 ∨ op = 20 ∨ op = 21 ∨ op = 22 ∨ op = 23 ∨ op = 24 ∨ op = 25 ∨ op = 26 ∨ op < 1 ∨ 26 < op := by omega

theorem boundsB_out {nt nf loc nc op : Int} (h : op < 1 ∨ 26 < op) : boundsB nt nf loc nc op = (0, 0) := by
  unfold boundsB
  repeat' split
  all_goals first | rfl | omega

theorem insB_out {nt nf loc nc op a : Int} (h : op < 1 ∨ 26 < op) : insB nt nf loc nc op a = false := by
  rw [Bool.eq_false_iff]
  unfold insB
  repeat' split
  all_goals simp
  all_goals omega

theorem insB_bounds (nt nf loc nc op a : Int) : (decide ((boundsB nt nf loc nc op).1 ≤ a) && decide (a < (boundsB nt nf loc nc op).2)) = insB nt nf loc nc op a := by
  rw [Bool.eq_iff_iff]
  unfold boundsB insB
  repeat' split
  all_goals simp
  all_goals omega

def fnB (nt nf : Int) (f : Fn) : Bool :=
  decide (0 ≤ f.params) && decide (f.params ≤ 6) && decide (f.params ≤ f.locals) && decide (f.locals ≤ 12) && decide (1 ≤ f.code.length) && decide (f.code.length ≤ 120) &&
    f.code.all fun x => insB nt nf f.locals f.code.length x.1 x.2

def modB (ts : List ByteArray) (fs : List Fn) : Bool :=
  decide (1 ≤ fs.length) && decide (fs.length ≤ 12) && decide (ts.length ≤ 20) && ts.all textB && fs.all fun f => fnB ts.length fs.length f

theorem all_take {α : Type} {l : List α} {p : α → Bool} {k : Nat} (h : k < l.length) (h1 : (l.take k).all p = true) (h2 : p l[k] = true) : (l.take (k + 1)).all p = true := by
  rw [List.take_succ_eq_append_getElem h, List.all_append, h1, List.all_cons, h2]
  rfl
theorem all_no {α : Type} {l : List α} {p : α → Bool} {k : Nat} (h : k < l.length) (h2 : p l[k] = false) : l.all p = false := by
  rw [List.all_eq_false]
  exact ⟨l[k], List.getElem_mem h, by simp [h2]⟩
theorem all_end {α : Type} {l : List α} {p : α → Bool} {k : Nat} (h : l.length ≤ k) (h1 : (l.take k).all p = true) : l.all p = true := by
  rwa [List.take_of_length_le h] at h1
end Go.Proofs.YtcbknjjnphknbaaGreatDoor

namespace Go.Proofs.YtcbknjjnphknbaaGreatDoor
open Go.RowKit


set_option maxHeartbeats 800000 in
theorem l01Text_any (s : ByteArray) (w : World) (hs : s.size ≤ 1048576) :
    Calls Tryz.prog 109 #[.string s] w fun e w' => e = .returned (.bool (textB s)) ∧ w' = w := by
  by_cases h60 : s.size ≤ 60
  · go_enter Tryz.func109, Tryz.ntmps109
    go_wp2
    go_loop [3] (fun i => ∃ k : Nat, k ≤ s.size ∧ i = .int .i64 k ∧ ∀ j (hj : j < s.size), j < k → byteB s[j] = true) (fun i => s.size - (intOf i).toNat)
    case atStart => exact ⟨0, by omega, rfl, fun j _ h => by omega⟩
    case round =>
      obtain ⟨k, hk, rfl, hall⟩ := hrel
      by_cases hlt : k < s.size
      · by_cases b1 : (s[k].toNat : Int) < 32
        · go_wp2
          go_ret
          exact ⟨ret_bool (textB_no hlt (by unfold byteB; simp; omega)).symm, rfl⟩
        by_cases b2 : 126 < (s[k].toNat : Int)
        · go_wp2
          go_ret
          exact ⟨ret_bool (textB_no hlt (by unfold byteB; simp; omega)).symm, rfl⟩
        by_cases b3 : (s[k].toNat : Int) = 34
        · have b3' : ((s[k].toNat : Int) == 34) = true := by simpa using b3
          have hno := textB_no hlt (by unfold byteB; simp; omega)
          clear b3
          go_wp2
          go_ret
          exact ⟨rfl, rfl⟩
        · have b3' : ((s[k].toNat : Int) == 34) = false := by simpa using b3
          have hyes : byteB s[k] = true := by unfold byteB; simp; omega
          go_wp2
          go_round
          case rel =>
            refine ⟨k + 1, by omega, by go_num, fun j hj hjk => ?_⟩
            by_cases e : j = k
            · subst e; exact hyes
            · exact hall j hj (by omega)
          case measure => simp [intOf]; omega
      · go_wp2
        go_ret
        exact ⟨ret_bool (textB_yes h60 fun j hj => hall j hj (by omega)).symm, rfl⟩
  · go_enter Tryz.func109, Tryz.ntmps109
    go_wp2
    go_ret
    exact ⟨ret_bool (by simp [textB, h60]), rfl⟩

set_option maxHeartbeats 800000 in
theorem textOk_any (s : ByteArray) (w : World) (hs : s.size ≤ 1048576) :
    Calls Tryz.prog 84 #[.string s] w fun e w' => e = .returned (.bool (textB s)) ∧ w' = w := by
  by_cases h60 : s.size ≤ 60
  · go_enter Tryz.func84, Tryz.ntmps84
    go_wp2
    go_loop [3] (fun i => ∃ k : Nat, k ≤ s.size ∧ i = .int .i64 k ∧ ∀ j (hj : j < s.size), j < k → byteB s[j] = true) (fun i => s.size - (intOf i).toNat)
    case atStart => exact ⟨0, by omega, rfl, fun j _ h => by omega⟩
    case round =>
      obtain ⟨k, hk, rfl, hall⟩ := hrel
      by_cases hlt : k < s.size
      · by_cases b1 : (s[k].toNat : Int) < 32
        · go_wp2
          go_ret
          exact ⟨ret_bool (textB_no hlt (by unfold byteB; simp; omega)).symm, rfl⟩
        by_cases b2 : 126 < (s[k].toNat : Int)
        · go_wp2
          go_ret
          exact ⟨ret_bool (textB_no hlt (by unfold byteB; simp; omega)).symm, rfl⟩
        by_cases b3 : (s[k].toNat : Int) = 34
        · have b3' : ((s[k].toNat : Int) == 34) = true := by simpa using b3
          have hno := textB_no hlt (by unfold byteB; simp; omega)
          clear b3
          go_wp2
          go_ret
          exact ⟨rfl, rfl⟩
        · have b3' : ((s[k].toNat : Int) == 34) = false := by simpa using b3
          have hyes : byteB s[k] = true := by unfold byteB; simp; omega
          go_wp2
          go_round
          case rel =>
            refine ⟨k + 1, by omega, by go_num, fun j hj hjk => ?_⟩
            by_cases e : j = k
            · subst e; exact hyes
            · exact hall j hj (by omega)
          case measure => simp [intOf]; omega
      · go_wp2
        go_ret
        exact ⟨ret_bool (textB_yes h60 fun j hj => hall j hj (by omega)).symm, rfl⟩
  · go_enter Tryz.func84, Tryz.ntmps84
    go_wp2
    go_ret
    exact ⟨ret_bool (by simp [textB, h60]), rfl⟩

theorem ret_two {a b c d : Int} (h : a = c) (k : b = d) : Ending.returned (.tuple #[.int .i64 a, .int .i64 b]) = .returned (.tuple #[.int .i64 c, .int .i64 d]) := by rw [h, k]

set_option maxHeartbeats 4000000 in
theorem argBounds_any (a1 a2 a3 : Option Addr) (nt c1 nf c2 nc c3 : Nat) (p l op : Int) (w : World) :
    Calls Tryz.prog 139 #[.agg #[.slice a1 nt c1, .slice a2 nf c2], .agg #[.int .i64 p, .int .i64 l, .slice a3 nc c3], .int .i64 op] w fun e w' => e = .returned (.tuple #[.int .i64 (boundsB nt nf l nc op).1, .int .i64 (boundsB nt nf l nc op).2]) ∧ Below w.heap.size w w' := by
  rcases ops_cases op with rfl | rfl | rfl | rfl | rfl | rfl | rfl | rfl | rfl | rfl | rfl | rfl | rfl | rfl | rfl | rfl | rfl | rfl | rfl | rfl | rfl | rfl | rfl | rfl | rfl | rfl | h | h
  case inr.inr.inr.inr.inr.inr.inr.inr.inr.inr.inr.inr.inr.inr.inr.inr.inr.inr.inr.inr.inr.inr.inr.inr.inr.inr.inl =>
    have hbb := boundsB_out (nt := nt) (nf := nf) (loc := l) (nc := nc) (Or.inl h : op < 1 ∨ 26 < op)
    rw [hbb]
    clear hbb
    go_enter Tryz.func139, Tryz.ntmps139
    go_wp2
    go_ret2
    exact ⟨rfl, ((Below.refl _ _).alloc (Nat.le_refl _) _).alloc (by simp) _⟩
  case inr.inr.inr.inr.inr.inr.inr.inr.inr.inr.inr.inr.inr.inr.inr.inr.inr.inr.inr.inr.inr.inr.inr.inr.inr.inr.inr =>
    have hbb := boundsB_out (nt := nt) (nf := nf) (loc := l) (nc := nc) (Or.inr h : op < 1 ∨ 26 < op)
    rw [hbb]
    clear hbb
    go_enter Tryz.func139, Tryz.ntmps139
    go_wp2
    go_ret2
    exact ⟨rfl, ((Below.refl _ _).alloc (Nat.le_refl _) _).alloc (by simp) _⟩
  all_goals
    go_enter Tryz.func139, Tryz.ntmps139
    go_wp2
    try go_quiet (fail)
    try go_wp2
    go_ret2
    refine ⟨rfl, ?_⟩
    first | exact ((Below.refl _ _).alloc (Nat.le_refl _) _).alloc (by simp) _ | exact below_draws (((Below.refl _ _).alloc (Nat.le_refl _) _).alloc (by simp) _) _

end Go.Proofs.YtcbknjjnphknbaaGreatDoor
