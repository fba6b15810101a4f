/-
  The passes of Thread: impl.hops and its closure.
-/
import Derived.Test.YtffeejkghmpkkaaRTH1
import Derived.Test.YtffeejkghmpkkaaRCW
import Derived.Laws.EntriesVeiled
namespace Go.Proofs.Ytffeejkghmpkkaa
open Go.RowKit

/-- What a pass of Thread answers. -/
def HopRes (B : Nat) (at' : Nat) (code : List (Int × Int)) (w : World) (e : Ending) (w' : World) : Prop :=
  ∃ v b, e = .returned (.tuple #[v, .bool b]) ∧ CRow w' B v (hopC at' code) ∧ (b = false → hopC at' code = code) ∧ Keeps B [54] w w'
theorem crow_of {w : World} {B g n cap : Nat} {ys : List (Int × Int)} (hl : ys.length = n) (h : w.ownsRow B 54 2 (.slice (some ⟨g, 0, none⟩) n cap) n (codeVals ys)) : CRow w B (.slice (some ⟨g, 0, none⟩) n cap) ys := by
  subst hl
  exact ⟨_, _, rfl, h⟩

set_option maxRecDepth 100000 in
set_option maxHeartbeats 4000000 in
theorem hops1_any (B g n cap at' Xb nt nf c1 c2 : Nat) (a1 a2 : Option Addr) (code : List (Int × Int)) (w : World) (hn : n = code.length) (h120 : n ≤ 120) (hJ : JIn n code) (hBw : B ≤ w.heap.size) (hown : w.ownsRow B 54 2 (.slice (some ⟨g, 0, none⟩) n cap) n (codeVals code)) (hX : w.cell? ⟨Xb, 0, none⟩ = some (.int .i64 at')) :
    Calls Try.prog 49 #[.agg #[.slice a1 nt c1, .slice a2 nf c2], .slice (some ⟨g, 0, none⟩) n cap, .pointer (some ⟨Xb, 0, none⟩)] w fun e w' => HopRes B at' code w e w' := by
  have hbA : Below w.heap.size w (w.alloc (.cells #[.slice a1 nt c1, .slice a2 nf c2] 29)) := (Below.refl _ _).alloc (Nat.le_refl _) _
  have hbB : Below B w (w.alloc (.cells #[.slice a1 nt c1, .slice a2 nf c2] 29)) := hbA.mono hBw
  have hX1 := cell_later hbA hX
  have hownA := own_keeps (B := 0) (ts := []) hown (Keeps.below hbA) (by simp)
  have hl : (hopC at' code).length = n := by rw [hopC_len, hn]
  obtain ⟨wA, hwA⟩ : ∃ wA, wA = w.alloc (.cells #[.slice a1 nt c1, .slice a2 nf c2] 29) := ⟨_, rfl⟩
  rw [← hwA] at hbA hbB hX1 hownA
  have HB : Hid (Keeps B [54] w wA) := Keeps.below hbA
  have HL := hid hl
  have HO := hid hownA
  by_cases hlt : at' < n
  · have HC : Hid (∀ W, Below wA.heap.size wA W → Calls Try.prog 50 #[.slice (some ⟨g, 0, none⟩) n cap, .int .i64 at'] W fun e w' => HopEnd B g n cap at' code W e w') := fun W hW =>
      hop_any B g n cap at' code W hn h120 hlt hJ (Nat.le_trans (Nat.le_trans hBw hbA.size) hW.size) (own_keeps (B := 0) (ts := []) hownA (Keeps.below hW) (by simp))
    clear hn hJ hown hownA hbA hbB hl hX
    go_enter Try.func49, Try.ntmps49
    go_upto_region 1 with fail
    rw [← hwA]
    clear hwA
    go_wp2_with fail
    refine (HC.out _ (by repeat (first | exact Below.refl _ _ | apply Below.drew))).mono ?_
    rintro e w2 ⟨b, rfl, h1, h2, h3⟩
    have HF : Hid (CRow w2 B (.slice (some ⟨g, 0, none⟩) n cap) (hopC at' code) ∧ (b = false → hopC at' code = code) ∧ Keeps B [54] w w2) := ⟨crow_of HL.out h1, h2, HB.out.trans h3⟩
    clear h1 h2 h3
    go_wp2
    go_ret2
    exact ⟨_, b, rfl, HF.out⟩
  · have e : hopC at' code = code := hopC_out (by omega)
    have HF : Hid (CRow wA B (.slice (some ⟨g, 0, none⟩) n cap) (hopC at' code) ∧ (false = false → hopC at' code = code) ∧ Keeps B [54] w wA) := ⟨by rw [e]; exact crow_of hn.symm HO.out, fun _ => e, HB.out⟩
    clear hn hJ hown hownA hbA hbB hl hX e
    go_enter Try.func49, Try.ntmps49
    go_upto_region 1 with fail
    rw [← hwA]
    clear hwA
    go_wp2
    go_ret2
    exact ⟨_, false, rfl, HF.out.1, fun _ => HF.out.2.1 trivial, HF.out.2.2⟩

theorem info85 : (Try.prog.info? 85).map (fun i => (i.zero, i.size, i.bytes)) = some (some .nilFunc, 1, 8) := by kernel_rfl
/-- The passes of Thread in memory. -/
def HopsAt (w : World) (v : Value) (k : Nat) : Prop := ∃ pa pc, v = .slice pa k pc ∧ ∀ j, j < k → ∃ g x, pa = some ⟨g, 0, none⟩ ∧ w.cell? ⟨g, j, none⟩ = some (.func (.func 49) #[] #[.pointer (some ⟨x, 0, none⟩)]) ∧ w.cell? ⟨x, 0, none⟩ = some (.int .i64 (j : Int))

set_option maxRecDepth 100000 in
set_option maxHeartbeats 4000000 in
theorem hops_any (w : World) : Calls Try.prog 30 #[] w fun e w' => ∃ pa pc, e = .returned (.slice pa 120 pc) ∧ HopsAt w' (.slice pa 120 pc) 120 ∧ Below w.heap.size w w' := by
  obtain ⟨i0, hi, hz0, hz1, hz2⟩ := info_parts info85
  have hmf : ∀ (fn : Go.Fn) (first cap : Array Value) (w : World), (Instr.makeFunc fn first cap).run Try.prog w = .ok (.func fn first cap) w := fun _ _ _ _ => rfl
  have hrow0 : w.ownsRow w.heap.size 85 1 (.slice none 0 0) 0 [] := World.ownsRow_nil _ _ _ _
  go_enter Try.func30, Try.ntmps30
  go_wp2
  go_loopw [1, 3] (fun o i wr => ∃ (k : Nat) (pa : Option Addr) (pc : Nat) (vs : List Value), k ≤ 120 ∧ i = .int .i64 k ∧ o = .slice pa k pc ∧ wr.ownsRow w.heap.size 85 1 (.slice pa k pc) k vs ∧ Hid (∀ j, j < k → ∃ x, vs[j]? = some (.func (.func 49) #[] #[.pointer (some ⟨x, 0, none⟩)]) ∧ wr.heap[x]? = some (.cells #[.int .i64 (j : Int)] 3 (0, 0))) ∧ Below w.heap.size w wr) (fun _ i _ => 120 - (intOf i).toNat)
  case atStart => exact ⟨0, none, 0, [], by omega, rfl, rfl, hrow0, fun j h => by omega, Below.refl _ _⟩
  case round =>
    obtain ⟨k, pa, pc, vs, hk, rfl, rfl, hown, HV, hb⟩ := hrel
    clear hrow0
    by_cases hlt : k < 120
    · have hszr := hb.size
      have hvl : vs.length = k * 1 := hown.1
      have hX := block_new wr #[.int .i64 (k : Int)] 3
      have hownX : (wr.alloc (.cells #[.int .i64 (k : Int)] 3)).ownsRow w.heap.size 85 1 (.slice pa k pc) k vs := World.ownsRow.alloc hown _
      obtain ⟨wx, hwx⟩ : ∃ wx, wx = wr.alloc (.cells #[.int .i64 (k : Int)] 3) := ⟨_, rfl⟩
      have hbx : Below wr.heap.size wr wx := by rw [hwx]; exact (Below.refl _ _).alloc (Nat.le_refl _) _
      rw [← hwx] at hX hownX
      have HBX := hid (And.intro hbx (hb.trans (hbx.mono hszr)))
      have hszx : w.heap.size ≤ wx.heap.size := Nat.le_trans hszr hbx.size
      obtain ⟨x, hx⟩ : ∃ x, x = wr.heap.size := ⟨_, rfl⟩
      rw [← hx] at hX
      have HX := hid hX
      clear hX hbx hb hvl hown
      go_upto_region 5 with fail
      rw [← hwx, ← hx]
      clear hwx hx
      go_wp2_with (first | (at_builtin; refine wpList_append_lies _ rfl _ _ 49 rfl w.heap.size 85 i0 .nilFunc 1 8 Try.underlying49 hi hz0 hz1 hz2 rfl (by decide) _ _ _ rfl (World.ownsRow.alloc hownX _) ⟨wx.heap.size, 0, none⟩ 1 1 [.func (.func 49) #[] #[.pointer (some ⟨x, 0, none⟩)]] rfl rfl (cell_one_new _ _ _) (by intro u hu; simp at hu; subst hu; rfl) (by decide) (by unfold maxLen; omega) (by omega) (by simp; omega) _ rfl ?_; intro g1 cap w1 hown1 hgrow1 hat1 hlt1))
      have hk1 := Keeps.grown (ts := [85]) (World.ownsRow.alloc hownX _) hgrow1 (by simp)
      have hb1 : Below w.heap.size w w1 := (HBX.out.2.alloc hszx _).trans (hk1.toBelow (by simp; omega))
      have HV1 : Hid (∀ j, j < k + 1 → ∃ y, (vs ++ [.func (.func 49) #[] #[.pointer (some ⟨x, 0, none⟩)]])[j]? = some (.func (.func 49) #[] #[.pointer (some ⟨y, 0, none⟩)]) ∧ w1.heap[y]? = some (.cells #[.int .i64 (j : Int)] 3 (0, 0))) := fun j hj => by
        have hvl : vs.length = k := by have := hownX.1; omega
        by_cases e : j = k
        · subst e
          exact ⟨x, by rw [List.getElem?_append_right (by omega), hvl]; simp, hk1.cell (block_old HX.out _) (by simp)⟩
        · obtain ⟨y, h1, h2⟩ := HV.out j (by omega)
          exact ⟨y, by rw [List.getElem?_append_left (by omega)]; exact h1, hk1.cell (block_old (block_kept h2 HBX.out.1) _) (by simp)⟩
      clear hownX HV HX HBX hk1
      go_roundw
      case rel => exact ⟨k + 1, _, _, vs ++ [.func (.func 49) #[] #[.pointer (some ⟨x, 0, none⟩)]], by omega, by go_num, by go_num, by simpa using hown1, HV1, hb1⟩
      case measure => simp [intOf]; omega
    · have hke : k = 120 := by omega
      have HF : Hid (HopsAt wr (.slice pa k pc) k) := ⟨pa, pc, rfl, fun j hj => by
        obtain ⟨y, h1, h2⟩ := HV.out j hj
        obtain ⟨g, hg, -, hc⟩ := own_cell hown j (by omega)
        exact ⟨g, y, hg, by rw [hc, h1], by rw [block_cell h2]; rfl⟩⟩
      have HK := hid hke
      clear HV hown
      go_wp2
      go_ret
      have h2 := HF.out
      rw [HK.out] at h2 ⊢
      exact ⟨pa, pc, rfl, h2, hb⟩
end Go.Proofs.Ytffeejkghmpkkaa
