/-
  The law of Straight, walked.
-/
import Derived.Test.YtdbanpmidebjnaaL9
import Derived.Test.YtdbanpmidebjnaaW3
import Derived.Deep.CutRange
namespace Go.Proofs.Ytdbanpmidebjnaa
open Go.RowKit

set_option maxRecDepth 100000 in
set_option maxHeartbeats 4000000 in
theorem lawStraight (a a2 : Option Addr) (ts : List ByteArray) (fs : List Fn) (cap cap2 : Nat) (f : Int) (w : World) (hn : ts.length ≤ maxLen) (hc : ∀ s ∈ ts, s.size ≤ maxLen) (hm : StrsAt w 0 a ts)
    (hn2 : fs.length ≤ maxLen) (hc2 : ∀ f ∈ fs, f.code.length ≤ maxLen) (hm2 : FnsAt w 0 a2 fs) :
    Calls Try.prog 3 #[.agg #[.slice a ts.length cap, .slice a2 fs.length cap2], .int .i64 f] w fun e w' => e = .returned (.bool true) ∧ Below w.heap.size w w' := by
  have hA : Below w.heap.size w (w.alloc (.cells #[.slice a ts.length cap, .slice a2 fs.length cap2] 25)) := (Below.refl _ _).alloc (Nat.le_refl _) _
  have hM0 := block_new w #[.slice a ts.length cap, .slice a2 fs.length cap2] 25
  go_enter Try.func3, Try.ntmps3
  go_wp2_with fail
  refine (szModule_le a a2 ts fs cap cap2 _ hn hc (hm.mono hA) hn2 hc2 (hm2.mono hA)).mono ?_
  rintro e w1 ⟨l, rfl, hl, hsm, hb1⟩
  have hM1 := block_kept hM0 hb1
  have hB1 := hA.trans (hb1.mono hA.size)
  clear hM0 hA hb1 hn hc hn2 hc2
  by_cases hl0 : l < 0
  · go_wp2_with fail
    go_ret
    exact ⟨rfl, hB1⟩
  have hs := hsm (by omega)
  clear hsm
  obtain ⟨r, hr⟩ : ∃ r, r = pB (StrP ts fs f) := ⟨_, rfl⟩
  have HR : Hid (pB (StrP ts fs f) = r) := hr.symm
  clear hr
  have x2 := block_cell hM1
  go_wp2_with fail
  refine (toModule_any a a2 ts fs cap cap2 _ hs (hm.mono hB1) (hm2.mono hB1)).mono ?_
  rintro e w3 ⟨g, g2, -, -, rfl, hst, hfn, hb3⟩
  have hM3 := block_kept hM1 hb3
  have hB3 := hB1.trans (hb3.mono hB1.size)
  clear hM1 hB1 hb3 x2
  go_wp2_with fail
  refine (sStraight_any _ _ _ _ ts fs f w3 hs (hst.low (Nat.zero_le _)) (hfn.low (Nat.zero_le _))).mono ?_
  rintro e w5 ⟨he, hb5⟩
  rw [HR.out] at he
  subst he
  have hM5 := block_kept hM3 hb5
  have hB5 := hB3.trans (hb5.mono hB3.size)
  have x5 := block_cell hM5
  clear hM3 hB3 hst hfn hb5
  go_wp2_with fail
  refine (toModule_any a a2 ts fs cap cap2 _ hs (hm.mono hB5) (hm2.mono hB5)).mono ?_
  rintro e w6 ⟨p, p2, -, -, rfl, hst, hfn, hb6⟩
  have hM6 := block_kept hM5 hb6
  have hB6 := hB5.trans (hb6.mono hB5.size)
  clear hM5 hB5 hb6 x5
  have hX7 := block_new w6 #[.slice (some ⟨p, 0, none⟩) ts.length ts.length, .slice (some ⟨p2, 0, none⟩) fs.length fs.length] 30
  have hbq : Below w6.heap.size w6 (w6.alloc (.cells #[.slice (some ⟨p, 0, none⟩) ts.length ts.length, .slice (some ⟨p2, 0, none⟩) fs.length fs.length] 30)) := (Below.refl _ _).alloc (Nat.le_refl _) _
  have hM7 := block_kept hM6 hbq
  have hB7 := hB6.trans (hbq.mono hB6.size)
  have hst7 := (hst.low (Nat.zero_le _)).mono hbq
  have hfn7 := (hfn.low (Nat.zero_le _)).mono hbq
  clear hst hfn hbq hM6 hB6
  obtain ⟨w7, hw7⟩ : ∃ w7, w7 = w6.alloc (.cells #[.slice (some ⟨p, 0, none⟩) ts.length ts.length, .slice (some ⟨p2, 0, none⟩) fs.length fs.length] 30) := ⟨_, rfl⟩
  rw [← hw7] at hX7 hM7 hB7 hst7 hfn7
  go_wp2_with fail
  rw [← hw7]
  clear hw7
  refine (iStraight_any _ _ _ _ ts fs f w7 hs hst7 hfn7).mono ?_
  rintro e w9 ⟨he, hb9⟩
  rw [HR.out] at he
  subst he
  have hM9 := block_kept hM7 hb9
  have hX9 := block_kept hX7 hb9
  have hB9 := hB7.trans (hb9.mono hB7.size)
  have hst9 := hst7.mono hb9
  have hfn9 := hfn7.mono hb9
  clear hM7 hX7 hB7 hst7 hfn7 hb9
  have hrr : (r != r) = false := by cases r <;> rfl
  have HS : Hid (∀ w', Below w9.heap.size w9 w' → w'.cell? ⟨w.heap.size, 0, none⟩ = some (.slice a ts.length cap) ∧ w'.cell? ⟨w.heap.size, 1, none⟩ = some (.slice a2 fs.length cap2) ∧ w'.cell? ⟨w6.heap.size, 0, none⟩ = some (.slice (some ⟨p, 0, none⟩) ts.length ts.length) ∧ w'.cell? ⟨w6.heap.size, 1, none⟩ = some (.slice (some ⟨p2, 0, none⟩) fs.length fs.length)) := fun w' q =>
    ⟨by rw [block_cell (block_kept hM9 q)]; rfl, by rw [block_cell (block_kept hM9 q)]; rfl, by rw [block_cell (block_kept hX9 q)]; rfl, by rw [block_cell (block_kept hX9 q)]; rfl⟩
  go_upto_region 10 with fail
  obtain ⟨j0, j1, j2, j3⟩ := HS.out w9 (Below.refl _ _)
  have q : Below w9.heap.size w9 w9.drew := (Below.refl _ _).drew
  go_region_held3 (fun w' => w'.cell? ⟨w.heap.size, 0, none⟩ = some (.slice a ts.length cap) ∧ w'.cell? ⟨w.heap.size, 1, none⟩ = some (.slice a2 fs.length cap2) ∧ w'.cell? ⟨w6.heap.size, 0, none⟩ = some (.slice (some ⟨p, 0, none⟩) ts.length ts.length) ∧ w'.cell? ⟨w6.heap.size, 1, none⟩ = some (.slice (some ⟨p2, 0, none⟩) fs.length fs.length))
    (first | exact ⟨j0, j1, j2, j3⟩ | exact HS.out _ q)
    (first
      | (go_at_call 6; refine (toModule_any a a2 ts fs cap cap2 _ hs (by exact hm.mono (hB9.trans (q.mono hB9.size))) (by exact hm2.mono (hB9.trans (q.mono hB9.size)))).mono ?_; rintro e wa ⟨g, g2, -, -, rfl, hst, hfn, kd⟩; have q := q.trans (kd.mono q.size))
      | (go_at_call 8; refine (eqModule_any _ _ _ _ ts fs _ _ _ _ _ hs (by exact hst9.mono q) (by exact hst.low (Nat.zero_le _)) (by exact hfn9.mono q) (by exact hfn.low (Nat.zero_le _))).mono ?_; rintro e wb ⟨rfl, kd⟩; have q := q.trans (kd.mono q.size)))
  have HBb : Hid (Below w.heap.size w wb) := hB9.trans (q.mono hB9.size)
  clear j0 j1 j2 j3 HS hst hfn kd hM9 hX9 hst9 hfn9
  go_wp2
  go_ret
  exact ⟨rfl, HBb.out⟩
end Go.Proofs.Ytdbanpmidebjnaa
