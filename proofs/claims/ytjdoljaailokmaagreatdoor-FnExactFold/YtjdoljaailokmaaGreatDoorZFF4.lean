/-
  The constant that two constants and an instruction behind them come to: impl.workedOut.
-/
import Derived.Test.YtjdoljaailokmaaGreatDoorZFF1
import Derived.Test.YtjdoljaailokmaaGreatDoorZFQ17
import Derived.Test.YtjdoljaailokmaaGreatDoorZE7
import Derived.Deep.RegionHeld3
import Derived.Deep.CutRange
namespace Go.Proofs.YtjdoljaailokmaaGreatDoor
open Go.RowKit Go.Extern.Stop Go.Stop Go.Extern

/-- One constant comes of two and an instruction. -/
def Works (o1 x1 o2 x2 o3 v : Int) : Prop := o1 = 1 ∧ o2 = 1 ∧ (o3 = 11 ∨ o3 = 12 ∨ o3 = 13) ∧ v = wrap64 (arith o3 x1 x2) ∧ rT x1 x2 v = 0
def WorkPost (o1 x1 o2 x2 o3 : Int) (e : Ending) : Prop :=
  ∃ (p n : Int) (b : Bool), e = .returned (.tuple #[.agg #[.int .i64 p, .int .i64 n], .bool b]) ∧ Hid (b = true → p = 1 ∧ Works o1 x1 o2 x2 o3 n) ∧ Hid (b = false → ∀ v, ¬ Works o1 x1 o2 x2 o3 v)
theorem iWork79 (x1 x2 : Int) (a0 a1 a2 : Addr) (w : World) (h : Errs w a0 a1 a2) :
    Calls Tryz.prog 79 #[.agg #[.int .i64 1, .int .i64 x1, .string ⟨#[]⟩], .agg #[.int .i64 1, .int .i64 x2, .string ⟨#[]⟩]] w fun e w' => e = .returned (.tuple #[.agg #[.int .i64 (ak (rT x1 x2 (wrap64 (x1 + x2))) 1), .int .i64 (ak (rT x1 x2 (wrap64 (x1 + x2))) (wrap64 (x1 + x2))), .string (sk (rT x1 x2 (wrap64 (x1 + x2))) ⟨#[]⟩)], .int .i64 (rT x1 x2 (wrap64 (x1 + x2)))]) ∧ Below w.heap.size w w' := by
  have := iAdd_any 1 x1 1 x2 ⟨#[]⟩ ⟨#[]⟩ a0 a1 a2 w h (by decide) (by decide)
  have e1 : addT 1 x1 1 x2 ⟨#[]⟩ ⟨#[]⟩ = rT x1 x2 (wrap64 (x1 + x2)) := by unfold addT; rw [if_pos ⟨rfl, rfl⟩]
  rw [e1] at this
  exact this
theorem iWork80 (x1 x2 : Int) (a0 a1 a2 : Addr) (w : World) (h : Errs w a0 a1 a2) :
    Calls Tryz.prog 80 #[.agg #[.int .i64 1, .int .i64 x1, .string ⟨#[]⟩], .agg #[.int .i64 1, .int .i64 x2, .string ⟨#[]⟩]] w fun e w' => e = .returned (.tuple #[.agg #[.int .i64 (ak (rT x1 x2 (wrap64 (x1 - x2))) 1), .int .i64 (ak (rT x1 x2 (wrap64 (x1 - x2))) (wrap64 (x1 - x2))), .string (sk (rT x1 x2 (wrap64 (x1 - x2))) ⟨#[]⟩)], .int .i64 (rT x1 x2 (wrap64 (x1 - x2)))]) ∧ Below w.heap.size w w' := by
  have := iSub_any 1 x1 1 x2 ⟨#[]⟩ ⟨#[]⟩ a0 a1 a2 w h
  have e1 : numT 1 1 x1 x2 (wrap64 (x1 - x2)) = rT x1 x2 (wrap64 (x1 - x2)) := by unfold numT; rw [if_pos ⟨rfl, rfl⟩]
  rw [e1] at this
  exact this
theorem iWork81 (x1 x2 : Int) (a0 a1 a2 : Addr) (w : World) (h : Errs w a0 a1 a2) :
    Calls Tryz.prog 81 #[.agg #[.int .i64 1, .int .i64 x1, .string ⟨#[]⟩], .agg #[.int .i64 1, .int .i64 x2, .string ⟨#[]⟩]] w fun e w' => e = .returned (.tuple #[.agg #[.int .i64 (ak (rT x1 x2 (wrap64 (x1 * x2))) 1), .int .i64 (ak (rT x1 x2 (wrap64 (x1 * x2))) (wrap64 (x1 * x2))), .string (sk (rT x1 x2 (wrap64 (x1 * x2))) ⟨#[]⟩)], .int .i64 (rT x1 x2 (wrap64 (x1 * x2)))]) ∧ Below w.heap.size w w' := by
  have := iMul_any 1 x1 1 x2 ⟨#[]⟩ ⟨#[]⟩ a0 a1 a2 w h
  have e1 : numT 1 1 x1 x2 (wrap64 (x1 * x2)) = rT x1 x2 (wrap64 (x1 * x2)) := by unfold numT; rw [if_pos ⟨rfl, rfl⟩]
  rw [e1] at this
  exact this
theorem block_new_drew (w : World) (C : Array Value) (t : TypeId) : ((w.drew).alloc (.cells C t)).heap[w.heap.size]? = some (.cells C t (0, 0)) := block_new w.drew C t

set_option maxRecDepth 100000 in
set_option maxHeartbeats 8000000 in
theorem workedOut_any (o1 x1 o2 x2 o3 x3 : Int) (a0 a1 a2 : Addr) (w : World) (h : Errs w a0 a1 a2) :
    Calls Tryz.prog 45 #[.agg #[.int .i64 o1, .int .i64 x1], .agg #[.int .i64 o2, .int .i64 x2], .agg #[.int .i64 o3, .int .i64 x3]] w fun e w' => WorkPost o1 x1 o2 x2 o3 e ∧ Below w.heap.size w w' := by
  obtain ⟨W0, hW0⟩ : ∃ W0, W0 = (((w.alloc (.cells #[.int .i64 o1, .int .i64 x1] 44)).alloc (.cells #[.int .i64 o2, .int .i64 x2] 44)).alloc (.cells #[.int .i64 o3, .int .i64 x3] 44)).alloc (.cells #[.int .i64 0, .int .i64 0] 44) := ⟨_, rfl⟩
  have hz : W0.heap.size = w.heap.size + 4 := by rw [hW0]; simp
  have hB0 : Below w.heap.size w W0 := by rw [hW0]; exact ((((Below.refl _ _).alloc (Nat.le_refl _) _).alloc (by simp) _).alloc (by simp; omega) _).alloc (by simp; omega) _
  have hA : W0.heap[w.heap.size]? = some (.cells #[.int .i64 o1, .int .i64 x1] 44 (0, 0)) := by rw [hW0]; exact block_kept (block_kept (block_kept (block_new w _ _) ((Below.refl _ _).alloc (Nat.le_refl _) _)) ((Below.refl _ _).alloc (Nat.le_refl _) _)) ((Below.refl _ _).alloc (Nat.le_refl _) _)
  have hB : W0.heap[w.heap.size + 1]? = some (.cells #[.int .i64 o2, .int .i64 x2] 44 (0, 0)) := by rw [hW0]; exact block_kept (block_kept (block_new_at _ _ _ (w.heap.size + 1) (by simp)) ((Below.refl _ _).alloc (Nat.le_refl _) _)) ((Below.refl _ _).alloc (Nat.le_refl _) _)
  have hC : W0.heap[w.heap.size + 1 + 1]? = some (.cells #[.int .i64 o3, .int .i64 x3] 44 (0, 0)) := by rw [hW0]; exact block_kept (block_new_at _ _ _ (w.heap.size + 1 + 1) (by simp)) ((Below.refl _ _).alloc (Nat.le_refl _) _)
  have hR : W0.heap[w.heap.size + 1 + 1 + 1]? = some (.cells #[.int .i64 0, .int .i64 0] 44 (0, 0)) := by rw [hW0]; exact block_new_at _ _ _ (w.heap.size + 1 + 1 + 1) (by simp)
  have hE := h.later hB0
  have HB : Hid (Below w.heap.size w W0) := hB0
  have HZ : Hid (W0.heap.size = w.heap.size + 4) := hz
  have HR : Hid (W0.heap[w.heap.size + 1 + 1 + 1]? = some (.cells #[.int .i64 0, .int .i64 0] 44 (0, 0))) := hR
  have HS : Hid (∀ w', Below W0.heap.size W0 w' → w'.cell? ⟨w.heap.size, 1, none⟩ = some (.int .i64 x1) ∧ w'.cell? ⟨w.heap.size + 1, 1, none⟩ = some (.int .i64 x2)) := fun w' hb => ⟨by rw [block_cell (block_kept hA hb)]; rfl, by rw [block_cell (block_kept hB hb)]; rfl⟩
  have c0 := block_cell hA
  have c1 := block_cell hB
  have c2 := block_cell hC
  have c3 := block_cell hR
  have c4 := block_free hR
  clear hB0 hz hA hB hC hR h
  by_cases g1 : o1 = 1
  case neg =>
    have n1 : (o1 != 1) = true := by simpa using g1
    have HN : Hid (∀ v, ¬ Works o1 x1 o2 x2 o3 v) := fun v h => g1 h.1
    clear g1
    go_enter Tryz.func45, Tryz.ntmps45
    go_upto_region 1 with fail
    rw [← hW0]
    clear hW0
    go_wp2_with fail
    refine (work_any _ _).mono ?_
    rintro e wz ⟨rfl, hwz⟩
    rw [hwz]
    clear hwz wz
    go_wp2
    have rr := block_cell (block_set (i := 1) (block_set (i := 0) HR.out (.int .i64 0)) (.int .i64 0))
    refine bodyPost_ret (v := .tuple #[.agg #[.int .i64 0, .int .i64 0], .bool false]) (by simp [results, Tryz.results45, go_sem, rr]) rfl ⟨⟨0, 0, false, rfl, fun h => (by cases h), fun _ => HN.out⟩, (HB.out.setCell (p := ⟨w.heap.size + 1 + 1 + 1, 0, none⟩) (by show w.heap.size ≤ w.heap.size + 1 + 1 + 1; omega) _).setCell (p := ⟨w.heap.size + 1 + 1 + 1, 1, none⟩) (by show w.heap.size ≤ w.heap.size + 1 + 1 + 1; omega) _⟩
  by_cases g2 : o2 = 1
  case neg =>
    have n1 : (o1 != 1) = false := by rw [g1]; rfl
    have n2 : (o2 != 1) = true := by simpa using g2
    have HN : Hid (∀ v, ¬ Works o1 x1 o2 x2 o3 v) := fun v h => g2 h.2.1
    clear g1 g2
    go_enter Tryz.func45, Tryz.ntmps45
    go_upto_region 1 with fail
    rw [← hW0]
    clear hW0
    go_wp2_with fail
    refine (work_any _ _).mono ?_
    rintro e wz ⟨rfl, hwz⟩
    rw [hwz]
    clear hwz wz
    go_wp2
    have rr := block_cell (block_set (i := 1) (block_set (i := 0) HR.out (.int .i64 0)) (.int .i64 0))
    refine bodyPost_ret (v := .tuple #[.agg #[.int .i64 0, .int .i64 0], .bool false]) (by simp [results, Tryz.results45, go_sem, rr]) rfl ⟨⟨0, 0, false, rfl, fun h => (by cases h), fun _ => HN.out⟩, (HB.out.setCell (p := ⟨w.heap.size + 1 + 1 + 1, 0, none⟩) (by show w.heap.size ≤ w.heap.size + 1 + 1 + 1; omega) _).setCell (p := ⟨w.heap.size + 1 + 1 + 1, 1, none⟩) (by show w.heap.size ≤ w.heap.size + 1 + 1 + 1; omega) _⟩
  have n1 : (o1 != 1) = false := by rw [g1]; rfl
  have n2 : (o2 != 1) = false := by rw [g2]; rfl
  by_cases g3 : o3 = 11 ∨ o3 = 12 ∨ o3 = 13
  case neg =>
    have HN : Hid (∀ v, ¬ Works o1 x1 o2 x2 o3 v) := fun v h => g3 h.2.2.1
    have HV : Hid (workV o3 = .nilFunc) := by
      show _ = _
      unfold workV
      rw [if_neg (fun e => g3 (.inl e)), if_neg (fun e => g3 (.inr (.inl e))), if_neg (fun e => g3 (.inr (.inr e)))]
    clear g1 g2 g3
    go_enter Tryz.func45, Tryz.ntmps45
    go_upto_region 1 with fail
    rw [← hW0]
    clear hW0
    go_wp2_with fail
    refine (work_any _ _).mono ?_
    rintro e wz ⟨rfl, hwz⟩
    rw [hwz]
    clear hwz wz
    rw [HV.out]
    have hnil : (binOp .eql 104 .nilFunc .nilFunc).run Tryz.prog W0 = .ok (.bool true) W0 := by first | rfl | kernel_rfl | simp [binOp, go_sem, Tryz.underlying104]
    go_wp2
    have rr := block_cell (block_set (i := 1) (block_set (i := 0) HR.out (.int .i64 0)) (.int .i64 0))
    refine bodyPost_ret (v := .tuple #[.agg #[.int .i64 0, .int .i64 0], .bool false]) (by simp [results, Tryz.results45, go_sem, rr]) rfl ⟨⟨0, 0, false, rfl, fun h => (by cases h), fun _ => HN.out⟩, (HB.out.setCell (p := ⟨w.heap.size + 1 + 1 + 1, 0, none⟩) (by show w.heap.size ≤ w.heap.size + 1 + 1 + 1; omega) _).setCell (p := ⟨w.heap.size + 1 + 1 + 1, 1, none⟩) (by show w.heap.size ≤ w.heap.size + 1 + 1 + 1; omega) _⟩
  have HG := hid (And.intro g1 g2)
  clear g1 g2
  have q : Below W0.heap.size W0 W0.drew := (Below.refl _ _).drew
  obtain ⟨j0, j1⟩ := HS.out W0 (Below.refl _ _)
  rcases g3 with rfl | rfl | rfl
  · obtain ⟨v, hv⟩ : ∃ v, v = wrap64 (x1 + x2) := ⟨_, rfl⟩
    obtain ⟨T, hT⟩ : ∃ T, T = rT x1 x2 v := ⟨_, rfl⟩
    obtain ⟨p, hp⟩ : ∃ p, p = ak T 1 := ⟨_, rfl⟩
    obtain ⟨n, hn⟩ : ∃ n, n = ak T v := ⟨_, rfl⟩
    obtain ⟨s, hs⟩ : ∃ s, s = sk T ⟨#[]⟩ := ⟨_, rfl⟩
    have HW : Hid (∀ W, Errs W a0 a1 a2 → Calls Tryz.prog 79 #[.agg #[.int .i64 1, .int .i64 x1, .string ⟨#[]⟩], .agg #[.int .i64 1, .int .i64 x2, .string ⟨#[]⟩]] W fun e w' => e = .returned (.tuple #[.agg #[.int .i64 p, .int .i64 n, .string s], .int .i64 T]) ∧ Below W.heap.size W w') := fun W hW => by
      have := iWork79 x1 x2 a0 a1 a2 W hW
      rw [← hv, ← hT, ← hp, ← hn, ← hs] at this
      exact this
    have HT := hid (And.intro hv (And.intro hT hn))
    clear hv hT hp hn hs
    have hwv : workV 11 = .func (.func 79) #[] #[] := rfl
    go_enter Tryz.func45, Tryz.ntmps45
    go_upto_region 1 with fail
    rw [← hW0]
    clear hW0
    go_wp2_with fail
    refine (work_any _ _).mono ?_
    rintro e wz ⟨rfl, hwz⟩
    rw [hwz]
    clear hwz wz
    rw [hwv]
    clear hwv
    have hnil : (binOp .eql 104 (.func (.func 79) #[] #[]) .nilFunc).run Tryz.prog W0 = .ok (.bool false) W0 := by first | rfl | kernel_rfl | simp [binOp, go_sem, Tryz.underlying104]
    go_upto_region 4 with fail
    go_cut [9, 10] from 27 (fun s9 s10 wx => ∃ g, s9 = .pointer (some ⟨g, 0, none⟩) ∧ s10 = .int .i64 T ∧ wx.heap[g]? = some (.cells #[.int .i64 p, .int .i64 n, .string s] 107 (0, 0)) ∧ Below W0.heap.size W0 wx)
    case first =>
      go_region_held3 (fun w' => w'.cell? ⟨w.heap.size, 1, none⟩ = some (.int .i64 x1) ∧ w'.cell? ⟨w.heap.size + 1, 1, none⟩ = some (.int .i64 x2))
        (first
          | exact ⟨j0, j1⟩
          | exact HS.out _ q
          | exact HS.out _ (q.alloc q.size _)
          | exact HS.out _ (((q.setCell hg _).setCell hg _).setCell hg _)
          | exact HS.out _ ((((q.alloc q.size _).setCell q.size _).setCell q.size _).setCell q.size _))
        (first
          | (go_at_call 66; refine (intValue_any _ _).mono ?_; rintro e wa ⟨rfl, kd⟩; (first | (have hk := block_kept hk kd; have hc := block_cell hk; have hf := block_free hk) | (have hk := block_kept (block_new_drew _ _ _) kd; have hg := Nat.le_refl W0.heap.size; have hc := block_cell hk; have hf := block_free hk) | (have hk := block_kept (block_new _ _ _) kd; have hg := q.size; have hc := block_cell hk; have hf := block_free hk) | skip); (first | (have q := q.trans (kd.mono q.size)) | (have q := (q.alloc q.size _).trans (kd.mono (by have := q.size; simp <;> omega)))))
          | (go_at_call 79; refine (HW.out _ (by first | exact hE.later q | exact hE.later (q.alloc q.size _))).mono ?_; rintro e wb ⟨rfl, kd⟩; (first | (have hk := block_kept hk kd; have hc := block_cell hk; have hf := block_free hk) | (have hk := block_kept (block_new_drew _ _ _) kd; have hg := Nat.le_refl W0.heap.size; have hc := block_cell hk; have hf := block_free hk) | (have hk := block_kept (block_new _ _ _) kd; have hg := q.size; have hc := block_cell hk; have hf := block_free hk) | skip); (first | (have q := q.trans (kd.mono q.size)) | (have q := (q.alloc q.size _).trans (kd.mono (by have := q.size; simp <;> omega))))))
      all_goals
        go_wp2_with fail
        go_meet
        case rel =>
          first
            | exact ⟨_, rfl, rfl, stored3 hk, ((q.setCell hg _).setCell hg _).setCell hg _⟩
            | exact ⟨_, rfl, rfl, block_new _ _ _, q.alloc q.size _⟩
    case rest =>
      obtain ⟨g, rfl, rfl, hG, hq⟩ := hcut
      have hR := block_kept HR.out hq
      have d1 := block_cell hG
      have d2 := block_cell hR
      have d3 := block_free hR
      have rr := block_cell (block_set (i := 1) (block_set (i := 0) hR (.int .i64 1)) (.int .i64 n))
      have hbw := HB.out.trans (hq.mono HB.out.size)
      have HY : Hid ((T == 0) = true → (1 : Int) = 1 ∧ Works o1 x1 o2 x2 11 n) := fun h => by
        have hT : T = 0 := by simpa using h
        have e1 := HT.out.1
        have e2 := HT.out.2.1
        have e3 : n = v := by rw [HT.out.2.2, hT]; rfl
        exact ⟨rfl, HG.out.1, HG.out.2, by decide, by rw [e3, e1]; rfl, by rw [e3, ← e2]; exact hT⟩
      have HN : Hid ((T == 0) = false → ∀ u, ¬ Works o1 x1 o2 x2 11 u) := fun h u hu => by
        have hT : T ≠ 0 := by simpa using h
        have e1 := HT.out.1
        have e2 := HT.out.2.1
        have e4 : u = v := by rw [hu.2.2.2.1, e1]; rfl
        exact hT (by rw [e2, ← e4]; exact hu.2.2.2.2)
      clear c0 c1 c3 c4 hG hq hE q j0 j1 HS HR
      go_wp2
      refine bodyPost_ret (v := .tuple #[.agg #[.int .i64 1, .int .i64 n], .bool (T == 0)]) (by simp [results, Tryz.results45, go_sem, rr]) rfl ⟨⟨1, n, T == 0, rfl, fun h => ⟨rfl, (HY.out h).2⟩, HN.out⟩, (hbw.setCell (p := ⟨w.heap.size + 1 + 1 + 1, 0, none⟩) (by show w.heap.size ≤ w.heap.size + 1 + 1 + 1; omega) _).setCell (p := ⟨w.heap.size + 1 + 1 + 1, 1, none⟩) (by show w.heap.size ≤ w.heap.size + 1 + 1 + 1; omega) _⟩
  · obtain ⟨v, hv⟩ : ∃ v, v = wrap64 (x1 - x2) := ⟨_, rfl⟩
    obtain ⟨T, hT⟩ : ∃ T, T = rT x1 x2 v := ⟨_, rfl⟩
    obtain ⟨p, hp⟩ : ∃ p, p = ak T 1 := ⟨_, rfl⟩
    obtain ⟨n, hn⟩ : ∃ n, n = ak T v := ⟨_, rfl⟩
    obtain ⟨s, hs⟩ : ∃ s, s = sk T ⟨#[]⟩ := ⟨_, rfl⟩
    have HW : Hid (∀ W, Errs W a0 a1 a2 → Calls Tryz.prog 80 #[.agg #[.int .i64 1, .int .i64 x1, .string ⟨#[]⟩], .agg #[.int .i64 1, .int .i64 x2, .string ⟨#[]⟩]] W fun e w' => e = .returned (.tuple #[.agg #[.int .i64 p, .int .i64 n, .string s], .int .i64 T]) ∧ Below W.heap.size W w') := fun W hW => by
      have := iWork80 x1 x2 a0 a1 a2 W hW
      rw [← hv, ← hT, ← hp, ← hn, ← hs] at this
      exact this
    have HT := hid (And.intro hv (And.intro hT hn))
    clear hv hT hp hn hs
    have hwv : workV 12 = .func (.func 80) #[] #[] := rfl
    go_enter Tryz.func45, Tryz.ntmps45
    go_upto_region 1 with fail
    rw [← hW0]
    clear hW0
    go_wp2_with fail
    refine (work_any _ _).mono ?_
    rintro e wz ⟨rfl, hwz⟩
    rw [hwz]
    clear hwz wz
    rw [hwv]
    clear hwv
    have hnil : (binOp .eql 104 (.func (.func 80) #[] #[]) .nilFunc).run Tryz.prog W0 = .ok (.bool false) W0 := by first | rfl | kernel_rfl | simp [binOp, go_sem, Tryz.underlying104]
    go_upto_region 4 with fail
    go_cut [9, 10] from 27 (fun s9 s10 wx => ∃ g, s9 = .pointer (some ⟨g, 0, none⟩) ∧ s10 = .int .i64 T ∧ wx.heap[g]? = some (.cells #[.int .i64 p, .int .i64 n, .string s] 107 (0, 0)) ∧ Below W0.heap.size W0 wx)
    case first =>
      go_region_held3 (fun w' => w'.cell? ⟨w.heap.size, 1, none⟩ = some (.int .i64 x1) ∧ w'.cell? ⟨w.heap.size + 1, 1, none⟩ = some (.int .i64 x2))
        (first
          | exact ⟨j0, j1⟩
          | exact HS.out _ q
          | exact HS.out _ (q.alloc q.size _)
          | exact HS.out _ (((q.setCell hg _).setCell hg _).setCell hg _)
          | exact HS.out _ ((((q.alloc q.size _).setCell q.size _).setCell q.size _).setCell q.size _))
        (first
          | (go_at_call 66; refine (intValue_any _ _).mono ?_; rintro e wa ⟨rfl, kd⟩; (first | (have hk := block_kept hk kd; have hc := block_cell hk; have hf := block_free hk) | (have hk := block_kept (block_new_drew _ _ _) kd; have hg := Nat.le_refl W0.heap.size; have hc := block_cell hk; have hf := block_free hk) | (have hk := block_kept (block_new _ _ _) kd; have hg := q.size; have hc := block_cell hk; have hf := block_free hk) | skip); (first | (have q := q.trans (kd.mono q.size)) | (have q := (q.alloc q.size _).trans (kd.mono (by have := q.size; simp <;> omega)))))
          | (go_at_call 80; refine (HW.out _ (by first | exact hE.later q | exact hE.later (q.alloc q.size _))).mono ?_; rintro e wb ⟨rfl, kd⟩; (first | (have hk := block_kept hk kd; have hc := block_cell hk; have hf := block_free hk) | (have hk := block_kept (block_new_drew _ _ _) kd; have hg := Nat.le_refl W0.heap.size; have hc := block_cell hk; have hf := block_free hk) | (have hk := block_kept (block_new _ _ _) kd; have hg := q.size; have hc := block_cell hk; have hf := block_free hk) | skip); (first | (have q := q.trans (kd.mono q.size)) | (have q := (q.alloc q.size _).trans (kd.mono (by have := q.size; simp <;> omega))))))
      all_goals
        go_wp2_with fail
        go_meet
        case rel =>
          first
            | exact ⟨_, rfl, rfl, stored3 hk, ((q.setCell hg _).setCell hg _).setCell hg _⟩
            | exact ⟨_, rfl, rfl, block_new _ _ _, q.alloc q.size _⟩
    case rest =>
      obtain ⟨g, rfl, rfl, hG, hq⟩ := hcut
      have hR := block_kept HR.out hq
      have d1 := block_cell hG
      have d2 := block_cell hR
      have d3 := block_free hR
      have rr := block_cell (block_set (i := 1) (block_set (i := 0) hR (.int .i64 1)) (.int .i64 n))
      have hbw := HB.out.trans (hq.mono HB.out.size)
      have HY : Hid ((T == 0) = true → (1 : Int) = 1 ∧ Works o1 x1 o2 x2 12 n) := fun h => by
        have hT : T = 0 := by simpa using h
        have e1 := HT.out.1
        have e2 := HT.out.2.1
        have e3 : n = v := by rw [HT.out.2.2, hT]; rfl
        exact ⟨rfl, HG.out.1, HG.out.2, by decide, by rw [e3, e1]; rfl, by rw [e3, ← e2]; exact hT⟩
      have HN : Hid ((T == 0) = false → ∀ u, ¬ Works o1 x1 o2 x2 12 u) := fun h u hu => by
        have hT : T ≠ 0 := by simpa using h
        have e1 := HT.out.1
        have e2 := HT.out.2.1
        have e4 : u = v := by rw [hu.2.2.2.1, e1]; rfl
        exact hT (by rw [e2, ← e4]; exact hu.2.2.2.2)
      clear c0 c1 c3 c4 hG hq hE q j0 j1 HS HR
      go_wp2
      refine bodyPost_ret (v := .tuple #[.agg #[.int .i64 1, .int .i64 n], .bool (T == 0)]) (by simp [results, Tryz.results45, go_sem, rr]) rfl ⟨⟨1, n, T == 0, rfl, fun h => ⟨rfl, (HY.out h).2⟩, HN.out⟩, (hbw.setCell (p := ⟨w.heap.size + 1 + 1 + 1, 0, none⟩) (by show w.heap.size ≤ w.heap.size + 1 + 1 + 1; omega) _).setCell (p := ⟨w.heap.size + 1 + 1 + 1, 1, none⟩) (by show w.heap.size ≤ w.heap.size + 1 + 1 + 1; omega) _⟩
  · obtain ⟨v, hv⟩ : ∃ v, v = wrap64 (x1 * x2) := ⟨_, rfl⟩
    obtain ⟨T, hT⟩ : ∃ T, T = rT x1 x2 v := ⟨_, rfl⟩
    obtain ⟨p, hp⟩ : ∃ p, p = ak T 1 := ⟨_, rfl⟩
    obtain ⟨n, hn⟩ : ∃ n, n = ak T v := ⟨_, rfl⟩
    obtain ⟨s, hs⟩ : ∃ s, s = sk T ⟨#[]⟩ := ⟨_, rfl⟩
    have HW : Hid (∀ W, Errs W a0 a1 a2 → Calls Tryz.prog 81 #[.agg #[.int .i64 1, .int .i64 x1, .string ⟨#[]⟩], .agg #[.int .i64 1, .int .i64 x2, .string ⟨#[]⟩]] W fun e w' => e = .returned (.tuple #[.agg #[.int .i64 p, .int .i64 n, .string s], .int .i64 T]) ∧ Below W.heap.size W w') := fun W hW => by
      have := iWork81 x1 x2 a0 a1 a2 W hW
      rw [← hv, ← hT, ← hp, ← hn, ← hs] at this
      exact this
    have HT := hid (And.intro hv (And.intro hT hn))
    clear hv hT hp hn hs
    have hwv : workV 13 = .func (.func 81) #[] #[] := rfl
    go_enter Tryz.func45, Tryz.ntmps45
    go_upto_region 1 with fail
    rw [← hW0]
    clear hW0
    go_wp2_with fail
    refine (work_any _ _).mono ?_
    rintro e wz ⟨rfl, hwz⟩
    rw [hwz]
    clear hwz wz
    rw [hwv]
    clear hwv
    have hnil : (binOp .eql 104 (.func (.func 81) #[] #[]) .nilFunc).run Tryz.prog W0 = .ok (.bool false) W0 := by first | rfl | kernel_rfl | simp [binOp, go_sem, Tryz.underlying104]
    go_upto_region 4 with fail
    go_cut [9, 10] from 27 (fun s9 s10 wx => ∃ g, s9 = .pointer (some ⟨g, 0, none⟩) ∧ s10 = .int .i64 T ∧ wx.heap[g]? = some (.cells #[.int .i64 p, .int .i64 n, .string s] 107 (0, 0)) ∧ Below W0.heap.size W0 wx)
    case first =>
      go_region_held3 (fun w' => w'.cell? ⟨w.heap.size, 1, none⟩ = some (.int .i64 x1) ∧ w'.cell? ⟨w.heap.size + 1, 1, none⟩ = some (.int .i64 x2))
        (first
          | exact ⟨j0, j1⟩
          | exact HS.out _ q
          | exact HS.out _ (q.alloc q.size _)
          | exact HS.out _ (((q.setCell hg _).setCell hg _).setCell hg _)
          | exact HS.out _ ((((q.alloc q.size _).setCell q.size _).setCell q.size _).setCell q.size _))
        (first
          | (go_at_call 66; refine (intValue_any _ _).mono ?_; rintro e wa ⟨rfl, kd⟩; (first | (have hk := block_kept hk kd; have hc := block_cell hk; have hf := block_free hk) | (have hk := block_kept (block_new_drew _ _ _) kd; have hg := Nat.le_refl W0.heap.size; have hc := block_cell hk; have hf := block_free hk) | (have hk := block_kept (block_new _ _ _) kd; have hg := q.size; have hc := block_cell hk; have hf := block_free hk) | skip); (first | (have q := q.trans (kd.mono q.size)) | (have q := (q.alloc q.size _).trans (kd.mono (by have := q.size; simp <;> omega)))))
          | (go_at_call 81; refine (HW.out _ (by first | exact hE.later q | exact hE.later (q.alloc q.size _))).mono ?_; rintro e wb ⟨rfl, kd⟩; (first | (have hk := block_kept hk kd; have hc := block_cell hk; have hf := block_free hk) | (have hk := block_kept (block_new_drew _ _ _) kd; have hg := Nat.le_refl W0.heap.size; have hc := block_cell hk; have hf := block_free hk) | (have hk := block_kept (block_new _ _ _) kd; have hg := q.size; have hc := block_cell hk; have hf := block_free hk) | skip); (first | (have q := q.trans (kd.mono q.size)) | (have q := (q.alloc q.size _).trans (kd.mono (by have := q.size; simp <;> omega))))))
      all_goals
        go_wp2_with fail
        go_meet
        case rel =>
          first
            | exact ⟨_, rfl, rfl, stored3 hk, ((q.setCell hg _).setCell hg _).setCell hg _⟩
            | exact ⟨_, rfl, rfl, block_new _ _ _, q.alloc q.size _⟩
    case rest =>
      obtain ⟨g, rfl, rfl, hG, hq⟩ := hcut
      have hR := block_kept HR.out hq
      have d1 := block_cell hG
      have d2 := block_cell hR
      have d3 := block_free hR
      have rr := block_cell (block_set (i := 1) (block_set (i := 0) hR (.int .i64 1)) (.int .i64 n))
      have hbw := HB.out.trans (hq.mono HB.out.size)
      have HY : Hid ((T == 0) = true → (1 : Int) = 1 ∧ Works o1 x1 o2 x2 13 n) := fun h => by
        have hT : T = 0 := by simpa using h
        have e1 := HT.out.1
        have e2 := HT.out.2.1
        have e3 : n = v := by rw [HT.out.2.2, hT]; rfl
        exact ⟨rfl, HG.out.1, HG.out.2, by decide, by rw [e3, e1]; rfl, by rw [e3, ← e2]; exact hT⟩
      have HN : Hid ((T == 0) = false → ∀ u, ¬ Works o1 x1 o2 x2 13 u) := fun h u hu => by
        have hT : T ≠ 0 := by simpa using h
        have e1 := HT.out.1
        have e2 := HT.out.2.1
        have e4 : u = v := by rw [hu.2.2.2.1, e1]; rfl
        exact hT (by rw [e2, ← e4]; exact hu.2.2.2.2)
      clear c0 c1 c3 c4 hG hq hE q j0 j1 HS HR
      go_wp2
      refine bodyPost_ret (v := .tuple #[.agg #[.int .i64 1, .int .i64 n], .bool (T == 0)]) (by simp [results, Tryz.results45, go_sem, rr]) rfl ⟨⟨1, n, T == 0, rfl, fun h => ⟨rfl, (HY.out h).2⟩, HN.out⟩, (hbw.setCell (p := ⟨w.heap.size + 1 + 1 + 1, 0, none⟩) (by show w.heap.size ≤ w.heap.size + 1 + 1 + 1; omega) _).setCell (p := ⟨w.heap.size + 1 + 1 + 1, 1, none⟩) (by show w.heap.size ≤ w.heap.size + 1 + 1 + 1; omega) _⟩
end Go.Proofs.YtjdoljaailokmaaGreatDoor
