/-
  Values: the document's model of sums, differences and products of numbers.
-/
import Derived.Test.YtlpbolchedngoaaDoorE6
namespace Go.Proofs.YtlpbolchedngoaaDoor
open Go.RowKit Go.Extern.Stop Go.Stop Go.Extern

theorem block_new_at (w : World) (C : Array Value) (t : TypeId) (g : Nat) (h : w.heap.size = g) : (w.alloc (.cells C t)).heap[g]? = some (.cells C t (0, 0)) := by
  subst h
  exact block_new w C t

set_option maxHeartbeats 400000 in
theorem sInt_any (n : Int) (w : World) : Calls Tryd.prog 36 #[.int .i64 n] w fun e w' => e = .returned (.agg #[.int .i64 1, .int .i64 n, .string ⟨#[]⟩]) ∧ Below w.heap.size w w' := by
  go_enter Tryd.func36, Tryd.ntmps36
  go_wp2
  refine bodyPost_ret (v := .agg #[.int .i64 1, .int .i64 n, .string ⟨#[]⟩]) (by simp [results, Tryd.results36, go_sem]) rfl ⟨rfl, ?_⟩
  repeat (first | exact Below.refl _ _ | refine Below.alloc ?_ (by first | exact Nat.le_refl _ | (simp <;> omega)) _ | refine Below.setCell ?_ (by first | exact Nat.le_refl _ | (simp <;> omega)) _)

set_option maxRecDepth 100000 in
set_option maxHeartbeats 1000000 in
theorem sArith_12 (a b : Int) (w : World) :
    Calls Tryd.prog 41 #[.int .i64 12, .int .i64 a, .int .i64 b] w fun e w' => e = .returned (.tuple #[.int .i64 (ak (rT a b (wrap64 (a - b))) (wrap64 (a - b))), .int .i64 (rT a b (wrap64 (a - b)))]) ∧ w' = w := by
  by_cases ha : num a = true
  · have na : (!num a) = false := by rw [ha]; rfl
    by_cases hb : num b = true
    · have nb : (!num b) = false := by rw [hb]; rfl
      by_cases hr : num (wrap64 (a - b)) = true
      · have nr : (!num (wrap64 (a - b))) = false := by rw [hr]; rfl
        have eT : rT a b (wrap64 (a - b)) = 0 := by simp [rT, ha, hb, hr]
        rw [eT]
        clear eT
        have ex : ak 0 (wrap64 (a - b)) = wrap64 (a - b) := rfl
        rw [ex]
        clear ex
        go_enter Tryd.func41, Tryd.ntmps41
        go_wp2_with fail
        refine (sNum_any _ _).mono ?_
        rintro e w1 ⟨rfl, rfl⟩
        go_wp2_with fail
        refine (sNum_any _ _).mono ?_
        rintro e w1 ⟨rfl, rfl⟩
        go_wp2_with fail
        refine (sNum_any _ _).mono ?_
        rintro e w1 ⟨rfl, rfl⟩
        go_wp2
        go_ret2
        exact ⟨rfl, rfl⟩
      · have hr' : num (wrap64 (a - b)) = false := by simpa using hr
        have nr : (!num (wrap64 (a - b))) = true := by rw [hr']; rfl
        have eT : rT a b (wrap64 (a - b)) = 2 := by simp [rT, hr']
        rw [eT]
        clear eT hr
        have ex : ak 2 (wrap64 (a - b)) = 0 := rfl
        rw [ex]
        clear ex
        go_enter Tryd.func41, Tryd.ntmps41
        go_wp2_with fail
        refine (sNum_any _ _).mono ?_
        rintro e w1 ⟨rfl, rfl⟩
        go_wp2_with fail
        refine (sNum_any _ _).mono ?_
        rintro e w1 ⟨rfl, rfl⟩
        go_wp2_with fail
        refine (sNum_any _ _).mono ?_
        rintro e w1 ⟨rfl, rfl⟩
        go_wp2
        go_ret2
        exact ⟨rfl, rfl⟩
    · have hb' : num b = false := by simpa using hb
      have nb : (!num b) = true := by rw [hb']; rfl
      have eT : rT a b (wrap64 (a - b)) = 2 := by simp [rT, hb']
      rw [eT]
      clear eT hb
      have ex : ak 2 (wrap64 (a - b)) = 0 := rfl
      rw [ex]
      clear ex
      go_enter Tryd.func41, Tryd.ntmps41
      go_wp2_with fail
      refine (sNum_any _ _).mono ?_
      rintro e w1 ⟨rfl, rfl⟩
      go_wp2_with fail
      refine (sNum_any _ _).mono ?_
      rintro e w1 ⟨rfl, rfl⟩
      go_wp2
      go_ret2
      exact ⟨rfl, rfl⟩
  · have ha' : num a = false := by simpa using ha
    have na : (!num a) = true := by rw [ha']; rfl
    have eT : rT a b (wrap64 (a - b)) = 2 := by simp [rT, ha']
    rw [eT]
    clear eT ha
    have ex : ak 2 (wrap64 (a - b)) = 0 := rfl
    rw [ex]
    clear ex
    go_enter Tryd.func41, Tryd.ntmps41
    go_wp2_with fail
    refine (sNum_any _ _).mono ?_
    rintro e w1 ⟨rfl, rfl⟩
    go_wp2
    go_ret2
    exact ⟨rfl, rfl⟩

set_option maxRecDepth 100000 in
set_option maxHeartbeats 1000000 in
theorem sArith_13 (a b : Int) (w : World) :
    Calls Tryd.prog 41 #[.int .i64 13, .int .i64 a, .int .i64 b] w fun e w' => e = .returned (.tuple #[.int .i64 (ak (rT a b (wrap64 (a * b))) (wrap64 (a * b))), .int .i64 (rT a b (wrap64 (a * b)))]) ∧ w' = w := by
  by_cases ha : num a = true
  · have na : (!num a) = false := by rw [ha]; rfl
    by_cases hb : num b = true
    · have nb : (!num b) = false := by rw [hb]; rfl
      by_cases hr : num (wrap64 (a * b)) = true
      · have nr : (!num (wrap64 (a * b))) = false := by rw [hr]; rfl
        have eT : rT a b (wrap64 (a * b)) = 0 := by simp [rT, ha, hb, hr]
        rw [eT]
        clear eT
        have ex : ak 0 (wrap64 (a * b)) = wrap64 (a * b) := rfl
        rw [ex]
        clear ex
        go_enter Tryd.func41, Tryd.ntmps41
        go_wp2_with fail
        refine (sNum_any _ _).mono ?_
        rintro e w1 ⟨rfl, rfl⟩
        go_wp2_with fail
        refine (sNum_any _ _).mono ?_
        rintro e w1 ⟨rfl, rfl⟩
        go_wp2_with fail
        refine (sNum_any _ _).mono ?_
        rintro e w1 ⟨rfl, rfl⟩
        go_wp2
        go_ret2
        exact ⟨rfl, rfl⟩
      · have hr' : num (wrap64 (a * b)) = false := by simpa using hr
        have nr : (!num (wrap64 (a * b))) = true := by rw [hr']; rfl
        have eT : rT a b (wrap64 (a * b)) = 2 := by simp [rT, hr']
        rw [eT]
        clear eT hr
        have ex : ak 2 (wrap64 (a * b)) = 0 := rfl
        rw [ex]
        clear ex
        go_enter Tryd.func41, Tryd.ntmps41
        go_wp2_with fail
        refine (sNum_any _ _).mono ?_
        rintro e w1 ⟨rfl, rfl⟩
        go_wp2_with fail
        refine (sNum_any _ _).mono ?_
        rintro e w1 ⟨rfl, rfl⟩
        go_wp2_with fail
        refine (sNum_any _ _).mono ?_
        rintro e w1 ⟨rfl, rfl⟩
        go_wp2
        go_ret2
        exact ⟨rfl, rfl⟩
    · have hb' : num b = false := by simpa using hb
      have nb : (!num b) = true := by rw [hb']; rfl
      have eT : rT a b (wrap64 (a * b)) = 2 := by simp [rT, hb']
      rw [eT]
      clear eT hb
      have ex : ak 2 (wrap64 (a * b)) = 0 := rfl
      rw [ex]
      clear ex
      go_enter Tryd.func41, Tryd.ntmps41
      go_wp2_with fail
      refine (sNum_any _ _).mono ?_
      rintro e w1 ⟨rfl, rfl⟩
      go_wp2_with fail
      refine (sNum_any _ _).mono ?_
      rintro e w1 ⟨rfl, rfl⟩
      go_wp2
      go_ret2
      exact ⟨rfl, rfl⟩
  · have ha' : num a = false := by simpa using ha
    have na : (!num a) = true := by rw [ha']; rfl
    have eT : rT a b (wrap64 (a * b)) = 2 := by simp [rT, ha']
    rw [eT]
    clear eT ha
    have ex : ak 2 (wrap64 (a * b)) = 0 := rfl
    rw [ex]
    clear ex
    go_enter Tryd.func41, Tryd.ntmps41
    go_wp2_with fail
    refine (sNum_any _ _).mono ?_
    rintro e w1 ⟨rfl, rfl⟩
    go_wp2
    go_ret2
    exact ⟨rfl, rfl⟩

set_option maxRecDepth 100000 in
set_option maxHeartbeats 1000000 in
theorem sArith_11 (a b : Int) (w : World) :
    Calls Tryd.prog 41 #[.int .i64 11, .int .i64 a, .int .i64 b] w fun e w' => e = .returned (.tuple #[.int .i64 (ak (rT a b (wrap64 (a + b))) (wrap64 (a + b))), .int .i64 (rT a b (wrap64 (a + b)))]) ∧ w' = w := by
  by_cases ha : num a = true
  · have na : (!num a) = false := by rw [ha]; rfl
    by_cases hb : num b = true
    · have nb : (!num b) = false := by rw [hb]; rfl
      by_cases hr : num (wrap64 (a + b)) = true
      · have nr : (!num (wrap64 (a + b))) = false := by rw [hr]; rfl
        have eT : rT a b (wrap64 (a + b)) = 0 := by simp [rT, ha, hb, hr]
        rw [eT]
        clear eT
        have ex : ak 0 (wrap64 (a + b)) = wrap64 (a + b) := rfl
        rw [ex]
        clear ex
        go_enter Tryd.func41, Tryd.ntmps41
        go_wp2_with fail
        refine (sNum_any _ _).mono ?_
        rintro e w1 ⟨rfl, rfl⟩
        go_wp2_with fail
        refine (sNum_any _ _).mono ?_
        rintro e w1 ⟨rfl, rfl⟩
        go_wp2_with fail
        refine (sNum_any _ _).mono ?_
        rintro e w1 ⟨rfl, rfl⟩
        go_wp2
        go_ret2
        exact ⟨rfl, rfl⟩
      · have hr' : num (wrap64 (a + b)) = false := by simpa using hr
        have nr : (!num (wrap64 (a + b))) = true := by rw [hr']; rfl
        have eT : rT a b (wrap64 (a + b)) = 2 := by simp [rT, hr']
        rw [eT]
        clear eT hr
        have ex : ak 2 (wrap64 (a + b)) = 0 := rfl
        rw [ex]
        clear ex
        go_enter Tryd.func41, Tryd.ntmps41
        go_wp2_with fail
        refine (sNum_any _ _).mono ?_
        rintro e w1 ⟨rfl, rfl⟩
        go_wp2_with fail
        refine (sNum_any _ _).mono ?_
        rintro e w1 ⟨rfl, rfl⟩
        go_wp2_with fail
        refine (sNum_any _ _).mono ?_
        rintro e w1 ⟨rfl, rfl⟩
        go_wp2
        go_ret2
        exact ⟨rfl, rfl⟩
    · have hb' : num b = false := by simpa using hb
      have nb : (!num b) = true := by rw [hb']; rfl
      have eT : rT a b (wrap64 (a + b)) = 2 := by simp [rT, hb']
      rw [eT]
      clear eT hb
      have ex : ak 2 (wrap64 (a + b)) = 0 := rfl
      rw [ex]
      clear ex
      go_enter Tryd.func41, Tryd.ntmps41
      go_wp2_with fail
      refine (sNum_any _ _).mono ?_
      rintro e w1 ⟨rfl, rfl⟩
      go_wp2_with fail
      refine (sNum_any _ _).mono ?_
      rintro e w1 ⟨rfl, rfl⟩
      go_wp2
      go_ret2
      exact ⟨rfl, rfl⟩
  · have ha' : num a = false := by simpa using ha
    have na : (!num a) = true := by rw [ha']; rfl
    have eT : rT a b (wrap64 (a + b)) = 2 := by simp [rT, ha']
    rw [eT]
    clear eT ha
    have ex : ak 2 (wrap64 (a + b)) = 0 := rfl
    rw [ex]
    clear ex
    go_enter Tryd.func41, Tryd.ntmps41
    go_wp2_with fail
    refine (sNum_any _ _).mono ?_
    rintro e w1 ⟨rfl, rfl⟩
    go_wp2
    go_ret2
    exact ⟨rfl, rfl⟩

set_option maxRecDepth 100000 in
set_option maxHeartbeats 1000000 in
theorem sNumbers_12 (k n k' n' : Int) (s s' : ByteArray) (w : World) :
    Calls Tryd.prog 30 #[.int .i64 12, .agg #[.int .i64 k, .int .i64 n, .string s], .agg #[.int .i64 k', .int .i64 n', .string s']] w fun e w' => e = .returned (.tuple #[.agg #[.int .i64 (ak (numT k k' n n' (wrap64 (n - n'))) 1), .int .i64 (ak (numT k k' n n' (wrap64 (n - n'))) (wrap64 (n - n'))), .string (sk (numT k k' n n' (wrap64 (n - n'))) ⟨#[]⟩)], .int .i64 (numT k k' n n' (wrap64 (n - n')))]) ∧ Below w.heap.size w w' := by
  by_cases h1 : k = 1
  · by_cases h2 : k' = 1
    · subst h1 h2
      have eN : numT 1 1 n n' (wrap64 (n - n')) = rT n n' (wrap64 (n - n')) := rfl
      rw [eN]
      clear eN
      have W3 : Below w.heap.size w (((w.alloc (.cells #[.int .i64 1, .int .i64 n, .string s] 25)).alloc (.cells #[.int .i64 1, .int .i64 n', .string s'] 25)).alloc (.cells #[.int .i64 0, .int .i64 0, .string ⟨#[]⟩] 25)) := (((Below.refl _ _).alloc (Nat.le_refl _) _).alloc (by simp) _).alloc (by simp; omega) _
      by_cases hT : rT n n' (wrap64 (n - n')) = 0
      · rw [hT]
        go_enter Tryd.func30, Tryd.ntmps30
        go_wp2_with fail
        refine (sArith_12 _ _ _).mono ?_
        rintro e w1 ⟨rfl, rfl⟩
        rw [hT]
        go_wp2_with fail
        refine (sInt_any _ _).mono ?_
        rintro e w1 ⟨rfl, hb⟩
        have hk := block_kept (block_new_at _ _ _ (w.heap.size + 1 + 1) (by simp)) hb
        have hc := block_cell hk
        have hf := block_free hk
        have hB := W3.trans (hb.mono W3.size)
        clear W3 hb
        go_wp2
        have zz := block_cell (stored3 (a := .int .i64 (1)) (b := .int .i64 (ak 0 (wrap64 (n - n')))) (c := .string (⟨#[]⟩)) hk)
        have z0 := zz 0
        have z1 := zz 1
        have z2 := zz 2
        refine bodyPost_ret (v := .tuple #[.agg #[.int .i64 (1), .int .i64 (ak 0 (wrap64 (n - n'))), .string (⟨#[]⟩)], .int .i64 (0)]) (by simp [results, Tryd.results30, go_sem, z0, z1, z2]) rfl ⟨rfl, ?_⟩
        exact ((hB.setCell (by simp; omega) _).setCell (by simp; omega) _).setCell (by simp; omega) _
      · have hT2 : rT n n' (wrap64 (n - n')) = 2 := by revert hT; unfold rT; split <;> simp
        rw [hT2]
        clear hT
        go_enter Tryd.func30, Tryd.ntmps30
        go_wp2_with fail
        refine (sArith_12 _ _ _).mono ?_
        rintro e w1 ⟨rfl, rfl⟩
        rw [hT2]
        go_wp2
        refine bodyPost_ret (v := .tuple #[.agg #[.int .i64 0, .int .i64 0, .string ⟨#[]⟩], .int .i64 2]) (by simp [results, Tryd.results30, go_sem]) rfl ⟨rfl, ?_⟩
        repeat (first | exact Below.refl _ _ | refine Below.alloc ?_ (by first | exact Nat.le_refl _ | (simp <;> omega)) _ | refine Below.setCell ?_ (by first | exact Nat.le_refl _ | (simp <;> omega)) _)
    · subst h1
      have eN : numT 1 k' n n' (wrap64 (n - n')) = 1 := by rw [numT, if_neg (by omega)]
      rw [eN]
      clear eN
      go_enter Tryd.func30, Tryd.ntmps30
      go_wp2
      refine bodyPost_ret (v := .tuple #[.agg #[.int .i64 0, .int .i64 0, .string ⟨#[]⟩], .int .i64 1]) (by simp [results, Tryd.results30, go_sem]) rfl ⟨rfl, ?_⟩
      repeat (first | exact Below.refl _ _ | refine Below.alloc ?_ (by first | exact Nat.le_refl _ | (simp <;> omega)) _ | refine Below.setCell ?_ (by first | exact Nat.le_refl _ | (simp <;> omega)) _)
  · by_cases h2 : k' = 1
    · subst h2
      have eN : numT k 1 n n' (wrap64 (n - n')) = 1 := by rw [numT, if_neg (by omega)]
      rw [eN]
      clear eN
      go_enter Tryd.func30, Tryd.ntmps30
      go_wp2
      refine bodyPost_ret (v := .tuple #[.agg #[.int .i64 0, .int .i64 0, .string ⟨#[]⟩], .int .i64 1]) (by simp [results, Tryd.results30, go_sem]) rfl ⟨rfl, ?_⟩
      repeat (first | exact Below.refl _ _ | refine Below.alloc ?_ (by first | exact Nat.le_refl _ | (simp <;> omega)) _ | refine Below.setCell ?_ (by first | exact Nat.le_refl _ | (simp <;> omega)) _)
    · have b1 : (k == 1) = false := by simpa using h1
      have eN : numT k k' n n' (wrap64 (n - n')) = 1 := by rw [numT, if_neg (by omega)]
      rw [eN]
      clear eN
      go_enter Tryd.func30, Tryd.ntmps30
      go_wp2
      refine bodyPost_ret (v := .tuple #[.agg #[.int .i64 0, .int .i64 0, .string ⟨#[]⟩], .int .i64 1]) (by simp [results, Tryd.results30, go_sem]) rfl ⟨rfl, ?_⟩
      repeat (first | exact Below.refl _ _ | refine Below.alloc ?_ (by first | exact Nat.le_refl _ | (simp <;> omega)) _ | refine Below.setCell ?_ (by first | exact Nat.le_refl _ | (simp <;> omega)) _)

set_option maxRecDepth 100000 in
set_option maxHeartbeats 1000000 in
theorem sNumbers_13 (k n k' n' : Int) (s s' : ByteArray) (w : World) :
    Calls Tryd.prog 30 #[.int .i64 13, .agg #[.int .i64 k, .int .i64 n, .string s], .agg #[.int .i64 k', .int .i64 n', .string s']] w fun e w' => e = .returned (.tuple #[.agg #[.int .i64 (ak (numT k k' n n' (wrap64 (n * n'))) 1), .int .i64 (ak (numT k k' n n' (wrap64 (n * n'))) (wrap64 (n * n'))), .string (sk (numT k k' n n' (wrap64 (n * n'))) ⟨#[]⟩)], .int .i64 (numT k k' n n' (wrap64 (n * n')))]) ∧ Below w.heap.size w w' := by
  by_cases h1 : k = 1
  · by_cases h2 : k' = 1
    · subst h1 h2
      have eN : numT 1 1 n n' (wrap64 (n * n')) = rT n n' (wrap64 (n * n')) := rfl
      rw [eN]
      clear eN
      have W3 : Below w.heap.size w (((w.alloc (.cells #[.int .i64 1, .int .i64 n, .string s] 25)).alloc (.cells #[.int .i64 1, .int .i64 n', .string s'] 25)).alloc (.cells #[.int .i64 0, .int .i64 0, .string ⟨#[]⟩] 25)) := (((Below.refl _ _).alloc (Nat.le_refl _) _).alloc (by simp) _).alloc (by simp; omega) _
      by_cases hT : rT n n' (wrap64 (n * n')) = 0
      · rw [hT]
        go_enter Tryd.func30, Tryd.ntmps30
        go_wp2_with fail
        refine (sArith_13 _ _ _).mono ?_
        rintro e w1 ⟨rfl, rfl⟩
        rw [hT]
        go_wp2_with fail
        refine (sInt_any _ _).mono ?_
        rintro e w1 ⟨rfl, hb⟩
        have hk := block_kept (block_new_at _ _ _ (w.heap.size + 1 + 1) (by simp)) hb
        have hc := block_cell hk
        have hf := block_free hk
        have hB := W3.trans (hb.mono W3.size)
        clear W3 hb
        go_wp2
        have zz := block_cell (stored3 (a := .int .i64 (1)) (b := .int .i64 (ak 0 (wrap64 (n * n')))) (c := .string (⟨#[]⟩)) hk)
        have z0 := zz 0
        have z1 := zz 1
        have z2 := zz 2
        refine bodyPost_ret (v := .tuple #[.agg #[.int .i64 (1), .int .i64 (ak 0 (wrap64 (n * n'))), .string (⟨#[]⟩)], .int .i64 (0)]) (by simp [results, Tryd.results30, go_sem, z0, z1, z2]) rfl ⟨rfl, ?_⟩
        exact ((hB.setCell (by simp; omega) _).setCell (by simp; omega) _).setCell (by simp; omega) _
      · have hT2 : rT n n' (wrap64 (n * n')) = 2 := by revert hT; unfold rT; split <;> simp
        rw [hT2]
        clear hT
        go_enter Tryd.func30, Tryd.ntmps30
        go_wp2_with fail
        refine (sArith_13 _ _ _).mono ?_
        rintro e w1 ⟨rfl, rfl⟩
        rw [hT2]
        go_wp2
        refine bodyPost_ret (v := .tuple #[.agg #[.int .i64 0, .int .i64 0, .string ⟨#[]⟩], .int .i64 2]) (by simp [results, Tryd.results30, go_sem]) rfl ⟨rfl, ?_⟩
        repeat (first | exact Below.refl _ _ | refine Below.alloc ?_ (by first | exact Nat.le_refl _ | (simp <;> omega)) _ | refine Below.setCell ?_ (by first | exact Nat.le_refl _ | (simp <;> omega)) _)
    · subst h1
      have eN : numT 1 k' n n' (wrap64 (n * n')) = 1 := by rw [numT, if_neg (by omega)]
      rw [eN]
      clear eN
      go_enter Tryd.func30, Tryd.ntmps30
      go_wp2
      refine bodyPost_ret (v := .tuple #[.agg #[.int .i64 0, .int .i64 0, .string ⟨#[]⟩], .int .i64 1]) (by simp [results, Tryd.results30, go_sem]) rfl ⟨rfl, ?_⟩
      repeat (first | exact Below.refl _ _ | refine Below.alloc ?_ (by first | exact Nat.le_refl _ | (simp <;> omega)) _ | refine Below.setCell ?_ (by first | exact Nat.le_refl _ | (simp <;> omega)) _)
  · by_cases h2 : k' = 1
    · subst h2
      have eN : numT k 1 n n' (wrap64 (n * n')) = 1 := by rw [numT, if_neg (by omega)]
      rw [eN]
      clear eN
      go_enter Tryd.func30, Tryd.ntmps30
      go_wp2
      refine bodyPost_ret (v := .tuple #[.agg #[.int .i64 0, .int .i64 0, .string ⟨#[]⟩], .int .i64 1]) (by simp [results, Tryd.results30, go_sem]) rfl ⟨rfl, ?_⟩
      repeat (first | exact Below.refl _ _ | refine Below.alloc ?_ (by first | exact Nat.le_refl _ | (simp <;> omega)) _ | refine Below.setCell ?_ (by first | exact Nat.le_refl _ | (simp <;> omega)) _)
    · have b1 : (k == 1) = false := by simpa using h1
      have eN : numT k k' n n' (wrap64 (n * n')) = 1 := by rw [numT, if_neg (by omega)]
      rw [eN]
      clear eN
      go_enter Tryd.func30, Tryd.ntmps30
      go_wp2
      refine bodyPost_ret (v := .tuple #[.agg #[.int .i64 0, .int .i64 0, .string ⟨#[]⟩], .int .i64 1]) (by simp [results, Tryd.results30, go_sem]) rfl ⟨rfl, ?_⟩
      repeat (first | exact Below.refl _ _ | refine Below.alloc ?_ (by first | exact Nat.le_refl _ | (simp <;> omega)) _ | refine Below.setCell ?_ (by first | exact Nat.le_refl _ | (simp <;> omega)) _)

set_option maxRecDepth 100000 in
set_option maxHeartbeats 1000000 in
theorem sNumbers_11 (k n k' n' : Int) (s s' : ByteArray) (w : World) :
    Calls Tryd.prog 30 #[.int .i64 11, .agg #[.int .i64 k, .int .i64 n, .string s], .agg #[.int .i64 k', .int .i64 n', .string s']] w fun e w' => e = .returned (.tuple #[.agg #[.int .i64 (ak (numT k k' n n' (wrap64 (n + n'))) 1), .int .i64 (ak (numT k k' n n' (wrap64 (n + n'))) (wrap64 (n + n'))), .string (sk (numT k k' n n' (wrap64 (n + n'))) ⟨#[]⟩)], .int .i64 (numT k k' n n' (wrap64 (n + n')))]) ∧ Below w.heap.size w w' := by
  by_cases h1 : k = 1
  · by_cases h2 : k' = 1
    · subst h1 h2
      have eN : numT 1 1 n n' (wrap64 (n + n')) = rT n n' (wrap64 (n + n')) := rfl
      rw [eN]
      clear eN
      have W3 : Below w.heap.size w (((w.alloc (.cells #[.int .i64 1, .int .i64 n, .string s] 25)).alloc (.cells #[.int .i64 1, .int .i64 n', .string s'] 25)).alloc (.cells #[.int .i64 0, .int .i64 0, .string ⟨#[]⟩] 25)) := (((Below.refl _ _).alloc (Nat.le_refl _) _).alloc (by simp) _).alloc (by simp; omega) _
      by_cases hT : rT n n' (wrap64 (n + n')) = 0
      · rw [hT]
        go_enter Tryd.func30, Tryd.ntmps30
        go_wp2_with fail
        refine (sArith_11 _ _ _).mono ?_
        rintro e w1 ⟨rfl, rfl⟩
        rw [hT]
        go_wp2_with fail
        refine (sInt_any _ _).mono ?_
        rintro e w1 ⟨rfl, hb⟩
        have hk := block_kept (block_new_at _ _ _ (w.heap.size + 1 + 1) (by simp)) hb
        have hc := block_cell hk
        have hf := block_free hk
        have hB := W3.trans (hb.mono W3.size)
        clear W3 hb
        go_wp2
        have zz := block_cell (stored3 (a := .int .i64 (1)) (b := .int .i64 (ak 0 (wrap64 (n + n')))) (c := .string (⟨#[]⟩)) hk)
        have z0 := zz 0
        have z1 := zz 1
        have z2 := zz 2
        refine bodyPost_ret (v := .tuple #[.agg #[.int .i64 (1), .int .i64 (ak 0 (wrap64 (n + n'))), .string (⟨#[]⟩)], .int .i64 (0)]) (by simp [results, Tryd.results30, go_sem, z0, z1, z2]) rfl ⟨rfl, ?_⟩
        exact ((hB.setCell (by simp; omega) _).setCell (by simp; omega) _).setCell (by simp; omega) _
      · have hT2 : rT n n' (wrap64 (n + n')) = 2 := by revert hT; unfold rT; split <;> simp
        rw [hT2]
        clear hT
        go_enter Tryd.func30, Tryd.ntmps30
        go_wp2_with fail
        refine (sArith_11 _ _ _).mono ?_
        rintro e w1 ⟨rfl, rfl⟩
        rw [hT2]
        go_wp2
        refine bodyPost_ret (v := .tuple #[.agg #[.int .i64 0, .int .i64 0, .string ⟨#[]⟩], .int .i64 2]) (by simp [results, Tryd.results30, go_sem]) rfl ⟨rfl, ?_⟩
        repeat (first | exact Below.refl _ _ | refine Below.alloc ?_ (by first | exact Nat.le_refl _ | (simp <;> omega)) _ | refine Below.setCell ?_ (by first | exact Nat.le_refl _ | (simp <;> omega)) _)
    · subst h1
      have eN : numT 1 k' n n' (wrap64 (n + n')) = 1 := by rw [numT, if_neg (by omega)]
      rw [eN]
      clear eN
      go_enter Tryd.func30, Tryd.ntmps30
      go_wp2
      refine bodyPost_ret (v := .tuple #[.agg #[.int .i64 0, .int .i64 0, .string ⟨#[]⟩], .int .i64 1]) (by simp [results, Tryd.results30, go_sem]) rfl ⟨rfl, ?_⟩
      repeat (first | exact Below.refl _ _ | refine Below.alloc ?_ (by first | exact Nat.le_refl _ | (simp <;> omega)) _ | refine Below.setCell ?_ (by first | exact Nat.le_refl _ | (simp <;> omega)) _)
  · by_cases h2 : k' = 1
    · subst h2
      have eN : numT k 1 n n' (wrap64 (n + n')) = 1 := by rw [numT, if_neg (by omega)]
      rw [eN]
      clear eN
      go_enter Tryd.func30, Tryd.ntmps30
      go_wp2
      refine bodyPost_ret (v := .tuple #[.agg #[.int .i64 0, .int .i64 0, .string ⟨#[]⟩], .int .i64 1]) (by simp [results, Tryd.results30, go_sem]) rfl ⟨rfl, ?_⟩
      repeat (first | exact Below.refl _ _ | refine Below.alloc ?_ (by first | exact Nat.le_refl _ | (simp <;> omega)) _ | refine Below.setCell ?_ (by first | exact Nat.le_refl _ | (simp <;> omega)) _)
    · have b1 : (k == 1) = false := by simpa using h1
      have eN : numT k k' n n' (wrap64 (n + n')) = 1 := by rw [numT, if_neg (by omega)]
      rw [eN]
      clear eN
      go_enter Tryd.func30, Tryd.ntmps30
      go_wp2
      refine bodyPost_ret (v := .tuple #[.agg #[.int .i64 0, .int .i64 0, .string ⟨#[]⟩], .int .i64 1]) (by simp [results, Tryd.results30, go_sem]) rfl ⟨rfl, ?_⟩
      repeat (first | exact Below.refl _ _ | refine Below.alloc ?_ (by first | exact Nat.le_refl _ | (simp <;> omega)) _ | refine Below.setCell ?_ (by first | exact Nat.le_refl _ | (simp <;> omega)) _)

set_option maxRecDepth 100000 in
set_option maxHeartbeats 1000000 in
theorem sSub_any (k n k' n' : Int) (s s' : ByteArray) (w : World) :
    Calls Tryd.prog 22 #[.agg #[.int .i64 k, .int .i64 n, .string s], .agg #[.int .i64 k', .int .i64 n', .string s']] w fun e w' => e = .returned (.tuple #[.agg #[.int .i64 (ak (numT k k' n n' (wrap64 (n - n'))) 1), .int .i64 (ak (numT k k' n n' (wrap64 (n - n'))) (wrap64 (n - n'))), .string (sk (numT k k' n n' (wrap64 (n - n'))) ⟨#[]⟩)], .int .i64 (numT k k' n n' (wrap64 (n - n')))]) ∧ Below w.heap.size w w' := by
  go_enter Tryd.func22, Tryd.ntmps22
  go_wp2_with fail
  refine (sNumbers_12 _ _ _ _ _ _ _).mono ?_
  rintro e w1 ⟨rfl, hb⟩
  have hk := block_kept (block_new_at _ _ _ (w.heap.size + 1 + 1) (by simp)) hb
  have hc := block_cell hk
  have hf := block_free hk
  have hB : Below w.heap.size w w1 := ((((Below.refl _ _).alloc (Nat.le_refl _) _).alloc (by simp) _).alloc (by simp; omega) _).trans (hb.mono (by simp; omega))
  go_wp2
  have zz := block_cell (stored3 (a := .int .i64 (ak (numT k k' n n' (wrap64 (n - n'))) 1)) (b := .int .i64 (ak (numT k k' n n' (wrap64 (n - n'))) (wrap64 (n - n')))) (c := .string (sk (numT k k' n n' (wrap64 (n - n'))) ⟨#[]⟩)) hk)
  have z0 := zz 0
  have z1 := zz 1
  have z2 := zz 2
  refine bodyPost_ret (v := .tuple #[.agg #[.int .i64 (ak (numT k k' n n' (wrap64 (n - n'))) 1), .int .i64 (ak (numT k k' n n' (wrap64 (n - n'))) (wrap64 (n - n'))), .string (sk (numT k k' n n' (wrap64 (n - n'))) ⟨#[]⟩)], .int .i64 (numT k k' n n' (wrap64 (n - n')))]) (by simp [results, Tryd.results22, go_sem, z0, z1, z2]) rfl ⟨rfl, ?_⟩
  exact ((hB.setCell (by simp; omega) _).setCell (by simp; omega) _).setCell (by simp; omega) _

set_option maxRecDepth 100000 in
set_option maxHeartbeats 1000000 in
theorem sMul_any (k n k' n' : Int) (s s' : ByteArray) (w : World) :
    Calls Tryd.prog 14 #[.agg #[.int .i64 k, .int .i64 n, .string s], .agg #[.int .i64 k', .int .i64 n', .string s']] w fun e w' => e = .returned (.tuple #[.agg #[.int .i64 (ak (numT k k' n n' (wrap64 (n * n'))) 1), .int .i64 (ak (numT k k' n n' (wrap64 (n * n'))) (wrap64 (n * n'))), .string (sk (numT k k' n n' (wrap64 (n * n'))) ⟨#[]⟩)], .int .i64 (numT k k' n n' (wrap64 (n * n')))]) ∧ Below w.heap.size w w' := by
  go_enter Tryd.func14, Tryd.ntmps14
  go_wp2_with fail
  refine (sNumbers_13 _ _ _ _ _ _ _).mono ?_
  rintro e w1 ⟨rfl, hb⟩
  have hk := block_kept (block_new_at _ _ _ (w.heap.size + 1 + 1) (by simp)) hb
  have hc := block_cell hk
  have hf := block_free hk
  have hB : Below w.heap.size w w1 := ((((Below.refl _ _).alloc (Nat.le_refl _) _).alloc (by simp) _).alloc (by simp; omega) _).trans (hb.mono (by simp; omega))
  go_wp2
  have zz := block_cell (stored3 (a := .int .i64 (ak (numT k k' n n' (wrap64 (n * n'))) 1)) (b := .int .i64 (ak (numT k k' n n' (wrap64 (n * n'))) (wrap64 (n * n')))) (c := .string (sk (numT k k' n n' (wrap64 (n * n'))) ⟨#[]⟩)) hk)
  have z0 := zz 0
  have z1 := zz 1
  have z2 := zz 2
  refine bodyPost_ret (v := .tuple #[.agg #[.int .i64 (ak (numT k k' n n' (wrap64 (n * n'))) 1), .int .i64 (ak (numT k k' n n' (wrap64 (n * n'))) (wrap64 (n * n'))), .string (sk (numT k k' n n' (wrap64 (n * n'))) ⟨#[]⟩)], .int .i64 (numT k k' n n' (wrap64 (n * n')))]) (by simp [results, Tryd.results14, go_sem, z0, z1, z2]) rfl ⟨rfl, ?_⟩
  exact ((hB.setCell (by simp; omega) _).setCell (by simp; omega) _).setCell (by simp; omega) _

end Go.Proofs.YtlpbolchedngoaaDoor
