/-
  What the program's ValueText gives.
-/
import Derived.Test.YtfefbgemcakabaaGreatDoorVQ7
import Derived.Test.YtfefbgemcakabaaGreatDoorShelf
import Derived.Lib.AppendIntMem
namespace Go.Proofs.YtfefbgemcakabaaGreatDoor
open Go.RowKit

/-- The table of powers of ten lies in memory. -/
def TabP (w : World) : Prop := Lib.TabIs Tryz.prog w "internal/strconv.uint64pow10" .u64 Lib.pow10Tab
theorem TabP.mono {w w' : World} {B : Nat} (h : TabP w) (hB : B = w.heap.size) (hb : Below B w w') : TabP w' := Lib.tabBelow_of_tabIs h _ (by rw [← hB]; exact hb)
theorem TabP.below {w w' : World} (h : TabP w) (hb : Below w.heap.size w w') : TabP w' := Lib.tabBelow_of_tabIs h _ hb
theorem itoa_any (a : Int) (w : World) (h0 : Hid (-9223372036854775808 ≤ a)) (h1 : Hid (a ≤ 9223372036854775807)) (htab : TabP w) :
    Calls Tryz.prog 27 #[.int .i64 a] w fun e w' => e = .returned (.string (numText a)) ∧ Below w.heap.size w w' := by
  refine (Tryz.strconv_Itoa a h0.out h1.out w htab).mono ?_
  rintro e w1 ⟨rfl, k, os, rfl⟩
  exact ⟨rfl, Lib.below_grow _ _ (Nat.le_refl _) k os⟩

set_option maxRecDepth 100000 in
set_option maxHeartbeats 1000000 in
theorem clone_any (s : ByteArray) (w : World) (hs : s.size ≤ 1048576) : Calls Tryz.prog 156 #[.string s] w fun e w' => e = .returned (.string s) ∧ Below w.heap.size w w' := by
  go_enter Tryz.func156, Tryz.ntmps156
  go_wp2_with fail
  refine (Tryz.stringslite_Clone s w (by omega)).mono ?_
  rintro e w1 ⟨rfl, hb1⟩
  go_wp2
  go_ret
  exact ⟨rfl, hb1⟩

set_option maxRecDepth 100000 in
set_option maxHeartbeats 2000000 in
theorem iVText_any (k n : Int) (s : ByteArray) (ha : Option Addr) (hp : List (List Vl)) (hc : Nat) (w : World) (_hhl : hp.length ≤ 1048576) (hh : ∀ r ∈ hp, r.length ≤ 1048576) (hs : s.size ≤ 1048576) (hn : nOk k n) (hm : RecsAt w 0 ha hp) (htab : TabP w) :
    Calls Tryz.prog 49 #[.agg #[.int .i64 k, .int .i64 n, .string s], .slice ha hp.length hc] w fun e w' => e = .returned (.string (vT hp k n s)) ∧ Below w.heap.size w w' := by
  have hb0 : Below w.heap.size w (w.alloc (.cells #[.int .i64 k, .int .i64 n, .string s] 41)) := (Below.refl _ _).alloc (Nat.le_refl _) _
  have HB : Hid (Below w.heap.size w (w.alloc (.cells #[.int .i64 k, .int .i64 n, .string s] 41))) := hb0
  have HM : Hid (RecsAt w 0 ha hp) := hm
  have HH : Hid (∀ r ∈ hp, r.length ≤ 1048576) := hh
  have HT : Hid (TabP w) := htab
  clear hb0 hm hh htab
  by_cases h0 : k = 0
  · subst h0
    rw [vT_0]
    have m2 : ∀ (v : Value) (W : World), (Go.method 314 162 v "loop.example/g00094/impl.text").run Tryz.prog W = .ok (143, v) W := fun _ _ => by kernel_rfl
    go_enter Tryz.func49, Tryz.ntmps49
    go_wp2_with fail
    refine (thingOf_any _ _ _ _).mono ?_
    rintro e w1 ⟨rfl, hb1⟩
    rw [show thing 0 n s = .iface 162 (.agg #[]) by rfl]
    have hB1 := HB.out.trans (hb1.mono HB.out.size)
    clear hb1
    go_wp2
    go_ret
    exact ⟨rfl, hB1.alloc hB1.size _⟩
  by_cases h1 : k = 1
  · subst h1
    rw [vT_1]
    have hr := hn.1 rfl
    have HD : Hid (∀ w' : World, TabP w' → Calls Tryz.prog 27 #[.int .i64 n] w' fun e w'' => e = .returned (.string (numText n)) ∧ Below w'.heap.size w' w'') := fun w' ht => itoa_any n w' (show _ ≤ _ by omega) (show _ ≤ _ by omega) ht
    have hz := numText_size n (by omega) (by omega)
    generalize numText n = t at *
    have m2 : ∀ (v : Value) (W : World), (Go.method 314 163 v "loop.example/g00094/impl.text").run Tryz.prog W = .ok (146, v) W := fun _ _ => by kernel_rfl
    go_enter Tryz.func49, Tryz.ntmps49
    go_wp2_with fail
    refine (thingOf_any _ _ _ _).mono ?_
    rintro e w1 ⟨rfl, hb1⟩
    rw [show thing 1 n s = .iface 163 (.int .i64 n) by rfl]
    have hB1 := HB.out.trans (hb1.mono HB.out.size)
    clear hb1
    have ht1 := HT.out.below hB1
    go_wp2_with (first | (go_at_call 27; refine (HD.out _ ht1).mono ?_; rintro e w2 ⟨rfl, hb2⟩) | go_in)
    have hB2 := hB1.trans (hb2.mono hB1.size)
    clear hb2
    go_wp2
    go_ret
    exact ⟨rfl, hB2⟩
  by_cases h2 : k = 2
  · subst h2
    by_cases e1 : n = 1
    · subst e1
      rw [vT_2a]
      have m2 : ∀ (v : Value) (W : World), (Go.method 314 164 v "loop.example/g00094/impl.text").run Tryz.prog W = .ok (149, v) W := fun _ _ => by kernel_rfl
      go_enter Tryz.func49, Tryz.ntmps49
      go_wp2_with fail
      refine (thingOf_any _ _ _ _).mono ?_
      rintro e w1 ⟨rfl, hb1⟩
      rw [show thing 2 1 s = .iface 164 (.int .i64 1) by rfl]
      have hB1 := HB.out.trans (hb1.mono HB.out.size)
      clear hb1
      go_wp2
      go_ret
      exact ⟨rfl, hB1⟩
    · rw [vT_2b _ _ _ e1]
      have e2 : (n == 1) = false := by simpa using e1
      have m2 : ∀ (v : Value) (W : World), (Go.method 314 164 v "loop.example/g00094/impl.text").run Tryz.prog W = .ok (149, v) W := fun _ _ => by kernel_rfl
      go_enter Tryz.func49, Tryz.ntmps49
      go_wp2_with fail
      refine (thingOf_any _ _ _ _).mono ?_
      rintro e w1 ⟨rfl, hb1⟩
      rw [show thing 2 n s = .iface 164 (.int .i64 n) by rfl]
      have hB1 := HB.out.trans (hb1.mono HB.out.size)
      clear hb1
      go_wp2
      go_ret
      exact ⟨rfl, hB1⟩
  by_cases h3 : k = 3
  · subst h3
    rw [vT_3]
    have m2 : ∀ (v : Value) (W : World), (Go.method 314 165 v "loop.example/g00094/impl.text").run Tryz.prog W = .ok (154, v) W := fun _ _ => by kernel_rfl
    go_enter Tryz.func49, Tryz.ntmps49
    go_wp2_with fail
    refine (thingOf_any _ _ _ _).mono ?_
    rintro e w1 ⟨rfl, hb1⟩
    rw [show thing 3 n s = .iface 165 (.string s) by rfl]
    have hB1 := HB.out.trans (hb1.mono HB.out.size)
    clear hb1
    go_wp2_with (first | (go_at_call 156; refine (clone_any s _ hs).mono ?_; rintro e w2 ⟨rfl, hb2⟩) | go_in)
    have hB2 := hB1.trans (hb2.mono hB1.size)
    clear hb2
    go_wp2
    go_ret
    exact ⟨rfl, hB2⟩
  by_cases h5 : k = 5
  · subst h5
    rw [vT_5]
    have hr := hn.2 rfl
    have HD : Hid (∀ w' : World, TabP w' → Calls Tryz.prog 27 #[.int .i64 n] w' fun e w'' => e = .returned (.string (numText n)) ∧ Below w'.heap.size w' w'') := fun w' ht => itoa_any n w' (show _ ≤ _ by omega) (show _ ≤ _ by omega) ht
    have hz := numText_size n (by omega) (by omega)
    generalize numText n = t at *
    have m2 : ∀ (v : Value) (W : World), (Go.method 314 167 v "loop.example/g00094/impl.text").run Tryz.prog W = .ok (162, v) W := fun _ _ => by kernel_rfl
    go_enter Tryz.func49, Tryz.ntmps49
    go_wp2_with fail
    refine (thingOf_any _ _ _ _).mono ?_
    rintro e w1 ⟨rfl, hb1⟩
    rw [show thing 5 n s = .iface 167 (.int .i64 n) by rfl]
    have hB1 := HB.out.trans (hb1.mono HB.out.size)
    clear hb1
    have ht1 := HT.out.below hB1
    go_wp2_with (first | (go_at_call 27; refine (HD.out _ ht1).mono ?_; rintro e w2 ⟨rfl, hb2⟩) | go_in)
    have hB2 := hB1.trans (hb2.mono hB1.size)
    clear hb2
    go_wp2
    go_ret
    exact ⟨rfl, hB2⟩
  by_cases h4 : k = 4
  · subst h4
    rw [vT_4]
    by_cases hin : 0 ≤ n ∧ n < (hp.length : Int)
    · obtain ⟨j, rfl⟩ := Int.eq_ofNat_of_zero_le hin.1
      have hj : j < hp.length := by omega
      rw [recT_in hp j hj]
      obtain ⟨b, off, fa, fc, rfl, -, c0, hv⟩ := HM.out j hj
      have hlen := HH.out hp[j] (List.getElem_mem hj)
      have hz := numText_size (hp[j].length : Nat) (by omega) (by omega)
      have HD : Hid (∀ w' : World, TabP w' → Calls Tryz.prog 27 #[.int .i64 (hp[j].length : Nat)] w' fun e w'' => e = .returned (.string (numText (hp[j].length : Nat))) ∧ Below w'.heap.size w' w'') := fun w' ht => itoa_any _ w' (show _ ≤ _ by omega) (show _ ≤ _ by omega) ht
      have g1 : ¬ ((j : Int) < 0) := by omega
      have g2 : ¬ ((hp.length : Int) ≤ (j : Int)) := by omega
      have HC : Hid (∀ w', Below w.heap.size w w' → w'.cell? ⟨b, off + j, none⟩ = some (.slice fa hp[j].length fc)) := fun w' hb => cell_later hb c0
      clear hv c0
      generalize numText (hp[j].length : Nat) = t at *
      have m2 : ∀ (v : Value) (W : World), (Go.method 314 166 v "loop.example/g00094/impl.text").run Tryz.prog W = .ok (159, v) W := fun _ _ => by kernel_rfl
      go_enter Tryz.func49, Tryz.ntmps49
      go_wp2_with fail
      refine (thingOf_any _ _ _ _).mono ?_
      rintro e w1 ⟨rfl, hb1⟩
      rw [show thing 4 (j : Int) s = .iface 166 (.int .i64 (j : Int)) by rfl]
      have hB1 := HB.out.trans (hb1.mono HB.out.size)
      clear hb1
      have c1 := HC.out _ hB1
      have ht1 := HT.out.below hB1
      go_wp2_with (first | (go_at_call 27; refine (HD.out _ ht1).mono ?_; rintro e w2 ⟨rfl, hb2⟩) | go_in)
      have hs2 : (⟨#[123]⟩ ++ t : ByteArray).size ≤ 22 := by
        rw [ByteArray.size_append]
        have : (⟨#[123]⟩ : ByteArray).size = 1 := rfl
        omega
      have hB2 := hB1.trans (hb2.mono hB1.size)
      clear hb2 c1
      go_wp2
      go_ret
      exact ⟨rfl, hB2⟩
    · rw [recT_out hp n (by omega)]
      by_cases g1 : n < 0
      · have g1' : ¬ (0 ≤ n) := by omega
        have m2 : ∀ (v : Value) (W : World), (Go.method 314 166 v "loop.example/g00094/impl.text").run Tryz.prog W = .ok (159, v) W := fun _ _ => by kernel_rfl
        go_enter Tryz.func49, Tryz.ntmps49
        go_wp2_with fail
        refine (thingOf_any _ _ _ _).mono ?_
        rintro e w1 ⟨rfl, hb1⟩
        rw [show thing 4 n s = .iface 166 (.int .i64 n) by rfl]
        have hB1 := HB.out.trans (hb1.mono HB.out.size)
        clear hb1
        go_wp2
        go_ret
        exact ⟨rfl, hB1⟩
      · have g2 : (hp.length : Int) ≤ n := by omega
        have m2 : ∀ (v : Value) (W : World), (Go.method 314 166 v "loop.example/g00094/impl.text").run Tryz.prog W = .ok (159, v) W := fun _ _ => by kernel_rfl
        go_enter Tryz.func49, Tryz.ntmps49
        go_wp2_with fail
        refine (thingOf_any _ _ _ _).mono ?_
        rintro e w1 ⟨rfl, hb1⟩
        rw [show thing 4 n s = .iface 166 (.int .i64 n) by rfl]
        have hB1 := HB.out.trans (hb1.mono HB.out.size)
        clear hb1
        go_wp2
        go_ret
        exact ⟨rfl, hB1⟩
  rw [vT_z hp k n s h0 h1 h2 h3 h4 h5]
  have m2 : ∀ (v : Value) (W : World), (Go.method 314 168 v "loop.example/g00094/impl.text").run Tryz.prog W = .ok (165, v) W := fun _ _ => by kernel_rfl
  go_enter Tryz.func49, Tryz.ntmps49
  go_wp2_with fail
  refine (thingOf_any _ _ _ _).mono ?_
  rintro e w1 ⟨rfl, hb1⟩
  rw [show thing k n s = .iface 168 (.int .i64 k) by unfold thing; rw [if_neg h0, if_neg h1, if_neg h2, if_neg h3, if_neg h4, if_neg h5]]
  have hB1 := HB.out.trans (hb1.mono HB.out.size)
  clear hb1
  go_wp2
  go_ret
  exact ⟨rfl, hB1⟩
end Go.Proofs.YtfefbgemcakabaaGreatDoor
