/-
  The text of a value, of a frame and of a state, as plain data.
  What the document's ValueText gives.
-/
import Derived.Test.YtfefbgemcakabaaGreatDoorVQ2
import Derived.Test.YtfefbgemcakabaaGreatDoorVQ6
namespace Go.Proofs.YtfefbgemcakabaaGreatDoor
open Go.RowKit

def recT (hp : List (List Vl)) (n : Int) : ByteArray := if 0 ≤ n ∧ n < (hp.length : Int) then ⟨#[123]⟩ ++ numText ((hp.getD n.toNat []).length : Nat) ++ ⟨#[125]⟩ else ⟨#[]⟩
/-- The text of a value. -/
def vT (hp : List (List Vl)) (k n : Int) (s : ByteArray) : ByteArray :=
  if k = 0 then ⟨#[110, 105, 108]⟩ else if k = 1 then numText n else if k = 2 then (if n = 1 then ⟨#[116, 114, 117, 101]⟩ else ⟨#[102, 97, 108, 115, 101]⟩)
  else if k = 3 then s else if k = 4 then recT hp n else if k = 5 then ⟨#[102, 117, 110]⟩ ++ numText n else ⟨#[]⟩
/-- A number is one that a value may have. -/
def nOk (k n : Int) : Prop := (k = 1 → -1000000000000 ≤ n ∧ n ≤ 1000000000000) ∧ (k = 5 → -1000000000000 ≤ n ∧ n ≤ 1000000000000)
def vlT (hp : List (List Vl)) (v : Vl) : ByteArray := vT hp v.k v.n v.s
/-- Words, each behind a blank. -/
def wsT (s : ByteArray) (l : List ByteArray) : ByteArray := l.foldl (fun a t => a ++ ⟨#[32]⟩ ++ t) s
theorem wsT_succ (s : ByteArray) (l : List ByteArray) (k : Nat) (h : k < l.length) : wsT s (l.take (k + 1)) = wsT s (l.take k) ++ ⟨#[32]⟩ ++ l[k] := by
  unfold wsT
  rw [List.take_succ_eq_append_getElem h, List.foldl_append]
  rfl
theorem wsT_append (s : ByteArray) (a b : List ByteArray) : wsT s (a ++ b) = wsT (wsT s a) b := by
  unfold wsT
  rw [List.foldl_append]
def frT (hp : List (List Vl)) (s : ByteArray) (f : Fr) : ByteArray :=
  wsT (wsT (s ++ ⟨#[102, 114, 97, 109, 101, 32]⟩ ++ numText f.fn ++ ⟨#[32]⟩ ++ numText f.pc) (f.locals.map (vlT hp)) ++ ⟨#[32, 124]⟩) (f.stack.map (vlT hp)) ++ ⟨#[10]⟩
def frsT (hp : List (List Vl)) (s : ByteArray) (l : List Fr) : ByteArray := l.foldl (frT hp) s
theorem frsT_succ (hp : List (List Vl)) (s : ByteArray) (l : List Fr) (k : Nat) (h : k < l.length) : frsT hp s (l.take (k + 1)) = frT hp (frsT hp s (l.take k)) l[k] := by
  unfold frsT
  rw [List.take_succ_eq_append_getElem h, List.foldl_append]
  rfl
def stT (d : VmD) : ByteArray := if d.status = 1 then ⟨#[100, 111, 110, 101, 32]⟩ ++ vlT d.heap d.value ++ ⟨#[10]⟩ else if d.status = 2 then ⟨#[116, 114, 97, 112, 32]⟩ ++ numText d.trap ++ ⟨#[10]⟩ else ⟨#[114, 117, 110, 10]⟩
/-- The text of a state. -/
def vmT (d : VmD) : ByteArray := frsT d.heap (stT d) d.frames ++ ⟨#[109, 97, 100, 101, 32]⟩ ++ numText d.made ++ ⟨#[32, 111, 117, 116, 32]⟩ ++ numText (d.out.length : Nat) ++ ⟨#[10]⟩

theorem recT_size (hp : List (List Vl)) (n : Int) (hh : ∀ r ∈ hp, r.length ≤ 1048576) : (recT hp n).size ≤ 60 := by
  unfold recT
  split
  · rename_i h
    have hm : (hp.getD n.toNat []).length ≤ 1048576 := by
      rw [List.getD_eq_getElem?_getD, List.getElem?_eq_getElem (show n.toNat < hp.length by omega)]
      exact hh _ (List.getElem_mem _)
    have := numText_size ((hp.getD n.toNat []).length : Nat) (by omega) (by omega)
    simp only [ByteArray.size_append]
    have e1 : (⟨#[123]⟩ : ByteArray).size = 1 := rfl
    have e2 : (⟨#[125]⟩ : ByteArray).size = 1 := rfl
    omega
  · exact Nat.zero_le _
theorem vT_size (hp : List (List Vl)) (k n : Int) (s : ByteArray) (hh : ∀ r ∈ hp, r.length ≤ 1048576) (hs : s.size ≤ 60) (hn : nOk k n) : (vT hp k n s).size ≤ 60 := by
  unfold vT
  split
  · decide
  split
  · rename_i h
    have := hn.1 h
    exact Nat.le_trans (numText_size n (by omega) (by omega)) (by omega)
  split
  · split <;> decide
  split
  · exact hs
  split
  · exact recT_size hp n hh
  split
  · rename_i h
    have := hn.2 h
    have h2 := numText_size n (by omega) (by omega)
    have e1 : (⟨#[102, 117, 110]⟩ : ByteArray).size = 3 := rfl
    simp only [ByteArray.size_append]
    omega
  · exact Nat.zero_le _
theorem wsT_size (s : ByteArray) : ∀ l : List ByteArray, (∀ t ∈ l, t.size ≤ 60) → (wsT s l).size ≤ s.size + 61 * l.length := by
  intro l
  induction l generalizing s with
  | nil => intro _; simp [wsT]
  | cons t l ih =>
    intro h
    have h1 := ih (s ++ ⟨#[32]⟩ ++ t) (fun x hx => h x (List.mem_cons_of_mem _ hx))
    have h2 := h t (List.mem_cons_self ..)
    have e1 : (⟨#[32]⟩ : ByteArray).size = 1 := rfl
    simp only [ByteArray.size_append] at h1
    show (wsT (s ++ ⟨#[32]⟩ ++ t) l).size ≤ _
    simp only [List.length_cons]
    omega
end Go.Proofs.YtfefbgemcakabaaGreatDoor

namespace Go.Proofs.YtfefbgemcakabaaGreatDoor
open Go.RowKit

theorem vT_0 (hp : List (List Vl)) (n : Int) (s : ByteArray) : vT hp 0 n s = ⟨#[110, 105, 108]⟩ := rfl
theorem vT_1 (hp : List (List Vl)) (n : Int) (s : ByteArray) : vT hp 1 n s = numText n := rfl
theorem vT_2a (hp : List (List Vl)) (s : ByteArray) : vT hp 2 1 s = ⟨#[116, 114, 117, 101]⟩ := rfl
theorem vT_2b (hp : List (List Vl)) (n : Int) (s : ByteArray) (h : ¬ n = 1) : vT hp 2 n s = ⟨#[102, 97, 108, 115, 101]⟩ := by
  show (if n = 1 then _ else _) = _
  rw [if_neg h]
theorem vT_3 (hp : List (List Vl)) (n : Int) (s : ByteArray) : vT hp 3 n s = s := rfl
theorem vT_4 (hp : List (List Vl)) (n : Int) (s : ByteArray) : vT hp 4 n s = recT hp n := rfl
theorem vT_5 (hp : List (List Vl)) (n : Int) (s : ByteArray) : vT hp 5 n s = ⟨#[102, 117, 110]⟩ ++ numText n := rfl
theorem vT_z (hp : List (List Vl)) (k n : Int) (s : ByteArray) (h0 : ¬ k = 0) (h1 : ¬ k = 1) (h2 : ¬ k = 2) (h3 : ¬ k = 3) (h4 : ¬ k = 4) (h5 : ¬ k = 5) : vT hp k n s = ⟨#[]⟩ := by
  unfold vT
  rw [if_neg h0, if_neg h1, if_neg h2, if_neg h3, if_neg h4, if_neg h5]
theorem recT_in (hp : List (List Vl)) (j : Nat) (h : j < hp.length) : recT hp (j : Int) = ⟨#[123]⟩ ++ numText (hp[j].length : Nat) ++ ⟨#[125]⟩ := by
  unfold recT
  rw [if_pos ⟨by omega, by omega⟩, Int.toNat_natCast, List.getD_eq_getElem?_getD, List.getElem?_eq_getElem h]
  rfl
theorem recT_out (hp : List (List Vl)) (n : Int) (h : n < 0 ∨ (hp.length : Int) ≤ n) : recT hp n = ⟨#[]⟩ := by
  unfold recT
  rw [if_neg (by omega)]

set_option maxRecDepth 100000 in
set_option maxHeartbeats 2000000 in
theorem sVText_any (k n : Int) (s : ByteArray) (ha : Option Addr) (hp : List (List Vl)) (hc : Nat) (w : World) (hhl : hp.length ≤ 1048576) (hh : ∀ r ∈ hp, r.length ≤ 1048576) (hn : nOk k n) (hm : RecsAt w 0 ha hp) :
    Calls Tryz.prog 18 #[.agg #[.int .i64 k, .int .i64 n, .string s], .slice ha hp.length hc] w fun e w' => e = .returned (.string (vT hp k n s)) ∧ Below w.heap.size w w' := by
  have hb0 : Below w.heap.size w (w.alloc (.cells #[.int .i64 k, .int .i64 n, .string s] 41)) := (Below.refl _ _).alloc (Nat.le_refl _) _
  have HB : Hid (Below w.heap.size w (w.alloc (.cells #[.int .i64 k, .int .i64 n, .string s] 41))) := hb0
  have HM : Hid (RecsAt (w.alloc (.cells #[.int .i64 k, .int .i64 n, .string s] 41)) 0 ha hp) := hm.mono hb0
  have HH : Hid (∀ r ∈ hp, r.length ≤ 1048576) := hh
  clear hb0 hm hh
  by_cases h0 : k = 0
  · subst h0
    rw [vT_0]
    go_enter Tryz.func18, Tryz.ntmps18
    go_wp2
    go_ret
    exact ⟨rfl, HB.out⟩
  by_cases h1 : k = 1
  · subst h1
    rw [vT_1]
    have hr := hn.1 rfl
    go_enter Tryz.func18, Tryz.ntmps18
    go_wp2_with fail
    refine (sDigits_any n (by omega) (by omega) _).mono ?_
    rintro e w1 ⟨rfl, hb1⟩
    have hB1 := HB.out.trans (hb1.mono HB.out.size)
    clear hb1
    go_wp2
    go_ret
    exact ⟨rfl, hB1⟩
  by_cases h2 : k = 2
  · subst h2
    by_cases e : n = 1
    · subst e
      rw [vT_2a]
      go_enter Tryz.func18, Tryz.ntmps18
      go_wp2
      go_ret
      exact ⟨rfl, HB.out⟩
    · rw [vT_2b _ _ _ e]
      go_enter Tryz.func18, Tryz.ntmps18
      go_wp2
      go_ret
      exact ⟨rfl, HB.out⟩
  by_cases h3 : k = 3
  · subst h3
    rw [vT_3]
    go_enter Tryz.func18, Tryz.ntmps18
    go_wp2
    go_ret
    exact ⟨rfl, HB.out⟩
  by_cases h5 : k = 5
  · subst h5
    rw [vT_5]
    have hr := hn.2 rfl
    have hz := numText_size n (by omega) (by omega)
    have hd := sDigits_any n (by omega) (by omega)
    generalize numText n = t at *
    go_enter Tryz.func18, Tryz.ntmps18
    go_wp2_with fail
    refine (hd _).mono ?_
    rintro e w1 ⟨rfl, hb1⟩
    have hB1 := HB.out.trans (hb1.mono HB.out.size)
    clear hb1
    go_wp2
    go_ret
    exact ⟨rfl, hB1⟩
  by_cases h4 : k = 4
  · subst h4
    rw [vT_4]
    have hwl : IntKind.i64.wrap ((hp.length : Int) - 1) = (hp.length : Int) - 1 := by rw [IntKind.wrap_i64]; omega
    by_cases hin : 0 ≤ n ∧ n < (hp.length : Int)
    · obtain ⟨j, rfl⟩ := Int.eq_ofNat_of_zero_le hin.1
      have hj : j < hp.length := by omega
      rw [recT_in hp j hj]
      obtain ⟨b, off, fa, fc, rfl, -, c0, hv⟩ := HM.out j hj
      have hlen := HH.out hp[j] (List.getElem_mem hj)
      have hz := numText_size (hp[j].length : Nat) (by omega) (by omega)
      have hd := sDigits_any (hp[j].length : Nat) (by omega) (by omega)
      have hbet : (decide ((0 : Int) ≤ (j : Int)) && decide ((j : Int) ≤ (hp.length : Int) - 1)) = true := by simp; omega
      clear hv
      generalize numText (hp[j].length : Nat) = t at *
      go_enter Tryz.func18, Tryz.ntmps18
      go_wp2_with (first | (go_at_call 40; refine (between_any _ _ _ _).mono ?_; rintro e w1 ⟨rfl, rfl⟩; rw [hbet]) | (go_at_call 19; refine (hd _).mono ?_; rintro e w2 ⟨rfl, hb2⟩))
      have hs2 : (⟨#[123]⟩ ++ t : ByteArray).size ≤ 22 := by
        rw [ByteArray.size_append]
        have : (⟨#[123]⟩ : ByteArray).size = 1 := rfl
        omega
      have hB2 := HB.out.trans (hb2.mono HB.out.size)
      clear hb2
      go_wp2
      go_ret
      exact ⟨rfl, hB2⟩
    · rw [recT_out hp n (by omega)]
      have hbet : (decide ((0 : Int) ≤ n) && decide (n ≤ (hp.length : Int) - 1)) = false := by
        rw [Bool.and_eq_false_iff]
        simp only [decide_eq_false_iff_not]
        omega
      go_enter Tryz.func18, Tryz.ntmps18
      go_wp2_with (first | (go_at_call 40; refine (between_any _ _ _ _).mono ?_; rintro e w1 ⟨rfl, rfl⟩; rw [hbet]))
      go_ret
      exact ⟨rfl, HB.out⟩
  rw [vT_z hp k n s h0 h1 h2 h3 h4 h5]
  go_enter Tryz.func18, Tryz.ntmps18
  go_wp2
  go_ret
  exact ⟨rfl, HB.out⟩
end Go.Proofs.YtfefbgemcakabaaGreatDoor
