/-
  Copies of values and new frames: impl.ownValue, ownValues, newFrame.
  New frames: impl.newFrame.
-/
import Derived.Test.YtoabnejocbnflaaGreatZNQ1
import Derived.Test.YtoabnejocbnflaaGreatZM3
import Derived.Laws.CopyRow
namespace Go.Proofs.YtoabnejocbnflaaGreat
open Go.RowKit

/-- The cells of values, one behind the other. -/
def flat : List Vl → List Value
  | [] => []
  | v :: vs => .int .i64 v.k :: .int .i64 v.n :: .string v.s :: flat vs
theorem flat_len : ∀ vs : List Vl, (flat vs).length = vs.length * 3
  | [] => rfl
  | v :: vs => by simp only [flat, List.length_cons, flat_len vs]; omega
theorem flat_at : ∀ (vs : List Vl) (i : Nat) (h : i < vs.length), (flat vs)[i * 3]? = some (.int .i64 vs[i].k) ∧ (flat vs)[i * 3 + 1]? = some (.int .i64 vs[i].n) ∧ (flat vs)[i * 3 + 2]? = some (.string vs[i].s)
  | v :: vs, 0, _ => by simp [flat]
  | v :: vs, i + 1, h => by
    obtain ⟨h1, h2, h3⟩ := flat_at vs i (by simpa using h)
    rw [show (i + 1) * 3 = i * 3 + 1 + 1 + 1 by omega]
    simp only [flat, List.getElem?_cons_succ, List.getElem_cons_succ]
    exact ⟨h1, h2, h3⟩
theorem flat_one : ∀ (vs : List Vl) (v : Value), v ∈ flat vs → v.oneCell' = true
  | [], v, h => by simp [flat] at h
  | x :: vs, v, h => by
    simp only [flat, List.mem_cons] at h
    rcases h with rfl | rfl | rfl | h
    · rfl
    · rfl
    · rfl
    · exact flat_one vs v h

theorem ValsAt.src {w : World} {b off : Nat} {vs : List Vl} (h : ValsAt w 0 (some ⟨b, off, none⟩) vs) : ∀ (j : Nat) (v : Value), (flat vs)[j]? = some v → w.cell? ((⟨b, off, none⟩ : Addr).add j) = some v := by
  intro j v hj
  have hjl : j < vs.length * 3 := by
    rcases Nat.lt_or_ge j (vs.length * 3) with h | h
    · exact h
    · rw [List.getElem?_eq_none (by rw [flat_len]; exact h)] at hj; cases hj
  obtain ⟨i, r, hr, rfl⟩ : ∃ i r, r < 3 ∧ j = i * 3 + r := ⟨j / 3, j % 3, Nat.mod_lt _ (by omega), by omega⟩
  have hi : i < vs.length := by omega
  obtain ⟨b', off', e, -, k1, k2, k3⟩ := h i hi
  cases e
  obtain ⟨f1, f2, f3⟩ := flat_at vs i hi
  rw [Go.WideShapes.add_plain]
  match r, hr with
  | 0, _ => rw [Nat.add_zero] at hj ⊢; rw [f1] at hj; rw [← hj]; exact k1
  | 1, _ => rw [f2] at hj; rw [← hj, ← Nat.add_assoc]; exact k2
  | 2, _ => rw [f3] at hj; rw [← hj, ← Nat.add_assoc]; exact k3

theorem run_copy3 {P : Program} (w : World) (dT sT ty elem : TypeId) (g dLen dCap : Nat) (a : Addr) (sLen sCap : Nat) (cur : Array Value) (t : TypeId) (cs : List Value)
    (hu : P.underlying dT = some (.slice elem)) (hs : (P.info? elem).map (·.size) = some 3)
    (hg : w.heap[g]? = some (.cells cur t (0, 0))) (hle : sLen ≤ dLen) (hn : cs.length = sLen * 3)
    (hsrc : ∀ j v, cs[j]? = some v → w.cell? (a.add j) = some v) (hfit : cs.length ≤ cur.size) (h1 : ∀ v ∈ cs, v.oneCell' = true) :
    (Builtin.copy_ #[dT, sT] ty #[.slice (some ⟨g, 0, none⟩) dLen dCap, .slice (some a) sLen sCap]).run P w =
      .ok (goInt sLen) (w.setRow g (cs ++ cur.toList.drop cs.length).toArray) := by
  have hl := run_loadCells_list (P := P) w a cs hsrc
  have hst := run_storeCells_at P g 0 t cs 0 cur w hg (by simpa using hfit) h1
  have hmin : Nat.min sLen dLen = sLen := Nat.min_eq_left hle
  cases hq : P.info? elem with
  | none => simp [hq] at hs
  | some i =>
    have hi : i.size = 3 := by simpa [hq] using hs
    simp [Builtin.copy_, run_underlying hu, Builtin.lenOf, Builtin.firstCells, sizeOf, typeInfo, hq, hi, hmin, ← hn, hl, hst]

set_option maxHeartbeats 400000 in
theorem clone_any (s : ByteArray) (w : World) (hs : s.size ≤ 1048576) : Calls Tryz.prog 99 #[.string s] w fun e w' => e = .returned (.string s) ∧ Below w.heap.size w w' := by
  go_enter Tryz.func99, Tryz.ntmps99
  go_wp2_with (go_at_call 112; refine (Tryz.stringslite_Clone s _ (by omega)).mono ?_; rintro e w1 ⟨rfl, hb⟩)
  go_ret
  exact ⟨rfl, hb⟩

set_option maxHeartbeats 1000000 in
theorem ownValue_any (k n : Int) (s : ByteArray) (w : World) (hs : s.size ≤ 1048576) :
    Calls Tryz.prog 78 #[.agg #[.int .i64 k, .int .i64 n, .string s]] w fun e w' => e = .returned (.agg #[.int .i64 k, .int .i64 n, .string s]) ∧ Below w.heap.size w w' := by
  have hbA : Below w.heap.size w ((w.alloc (.cells #[.int .i64 k, .int .i64 n, .string s] 32)).alloc (.cells #[.int .i64 0, .int .i64 0, .string ⟨#[]⟩] 32)) := ((Below.refl _ _).alloc (Nat.le_refl _) _).alloc (by simp) _
  have hI0 := block_old (block_new w #[.int .i64 k, .int .i64 n, .string s] 32) (.cells #[.int .i64 0, .int .i64 0, .string ⟨#[]⟩] 32)
  have hR0 := block_new_at (w.alloc (.cells #[.int .i64 k, .int .i64 n, .string s] 32)) #[.int .i64 0, .int .i64 0, .string ⟨#[]⟩] 32 (w.heap.size + 1) (by simp)
  go_enter Tryz.func78, Tryz.ntmps78
  go_wp2_with fail
  refine (clone_any _ _ hs).mono ?_
  rintro e w1 ⟨rfl, hb⟩
  have hI1 := block_kept hI0 hb
  have hR1 := block_kept hR0 hb
  have hB := hbA.trans (hb.mono hbA.size)
  have i1 := block_cell hI1
  have i2 := block_free hI1
  have r1 := block_cell hR1
  have r2 := block_free hR1
  go_wp2
  refine bodyPost_ret (v := .agg #[.int .i64 k, .int .i64 n, .string s]) (by simp [results, Tryz.results78, go_sem, r1]) rfl ⟨rfl, ?_⟩
  exact (((hB.setCell (by simp) _).setCell (by simp) _).setCell (by simp) _).setCell (by simp) _

set_option maxHeartbeats 1000000 in
theorem eachV_any (a : Option Addr) (vs : List Vl) (cap : Nat) (w : World) (hs : ValsSmall vs) (hm : ValsAt w 0 a vs) :
    Calls Tryz.prog 77 #[.slice a vs.length cap, .func (.func 78) #[] #[]] w fun e w' => e = .returned (.slice (some ⟨w.heap.size, 0, none⟩) vs.length vs.length) ∧ ValsAt w' w.heap.size (some ⟨w.heap.size, 0, none⟩) vs ∧ Below w.heap.size w w' := by
  obtain ⟨hn, hc⟩ := hs
  obtain ⟨i0, hi, hz0, hz1, hz2⟩ := info_parts info32
  go_enter Tryz.func77, Tryz.ntmps77
  go_wp2_with (first | (at_make; refine wpList_make_full _ rfl _ _ 46 rfl w.heap.size 32 i0 (.agg #[.int .i64 0, .int .i64 0, .string ByteArray.empty]) 3 Tryz.underlying46 hi hz0 hz1 _ _ _ _ vs.length rfl rfl rfl rfl (by rw [hz2]; omega) (by unfold maxLen; omega) (Nat.le_refl _) ?_; intro w1 hown hgrow))
  obtain ⟨cur0, hblk, hsz⟩ := made_block hown
  have hb0 : Below w.heap.size w w1 := (Below.refl _ _).grown hgrow (Nat.le_refl _) (by intro k hk; cases hk)
  clear hown hgrow hi hz0 hz1 hz2
  go_loopw [13] (fun i wr => ∃ (k : Nat) (cur : Array Value), k ≤ vs.length ∧ i = .int .i64 k ∧ wr.heap[w.heap.size]? = some (.cells cur 32 (0, 0)) ∧ cur.size = vs.length * 3 ∧ (∀ j (hj : j < vs.length), j < k → cur[j * 3]? = some (.int .i64 vs[j].k) ∧ cur[j * 3 + 1]? = some (.int .i64 vs[j].n) ∧ cur[j * 3 + 2]? = some (.string vs[j].s)) ∧ Below w.heap.size w wr) (fun i _ => vs.length - (intOf i).toNat)
  case atStart => exact ⟨0, cur0, by omega, rfl, hblk, hsz, fun j _ h => by omega, hb0⟩
  case round =>
    obtain ⟨k, cur, hk, rfl, hblk, hsz, hdone, hb⟩ := hrel
    by_cases hlt : k < vs.length
    · obtain ⟨b, off, rfl, -, c1, c2, c3⟩ := hm k hlt
      have c1' := cell_later hb c1
      have c2' := cell_later hb c2
      have c3' := cell_later hb c3
      clear c1 c2 c3
      have hck := hc vs[k] (List.getElem_mem hlt)
      have hblkA := block_old hblk (.cells #[.int .i64 vs[k].k, .int .i64 vs[k].n, .string vs[k].s] 32)
      have hbA := hb.alloc hb.size (.cells #[.int .i64 vs[k].k, .int .i64 vs[k].n, .string vs[k].s] 32)
      go_wp2_with fail
      refine (ownValue_any _ _ _ _ hck).mono ?_
      rintro e w2 ⟨rfl, hb2⟩
      have hblk2 := block_kept hblkA hb2
      have hfz := block_free hblk2
      have hcl : w2.cell? ⟨w.heap.size, k * 3, none⟩ = some cur[k * 3] := by rw [block_cell hblk2]; simp
      have hcl2 : w2.cell? ⟨w.heap.size, k * 3 + 1, none⟩ = some cur[k * 3 + 1] := by rw [block_cell hblk2]; simp
      have hcl3 : w2.cell? ⟨w.heap.size, k * 3 + 2, none⟩ = some cur[k * 3 + 2] := by rw [block_cell hblk2]; simp
      have hb3 : Below w.heap.size w w2 := hbA.trans (hb2.mono hbA.size)
      go_wp2
      go_roundw
      case rel =>
        refine ⟨k + 1, ((cur.setIfInBounds (k * 3) (.int .i64 vs[k].k)).setIfInBounds (k * 3 + 1) (.int .i64 vs[k].n)).setIfInBounds (k * 3 + 2) (.string vs[k].s), by omega, by go_num, block_set (block_set (block_set hblk2 _) _) _, by simpa using hsz, ?_, ((hb3.setCell (Nat.le_refl _) _).setCell (Nat.le_refl _) _).setCell (Nat.le_refl _) _⟩
        intro j hj hjk
        by_cases e : j = k
        · subst e
          refine ⟨?_, ?_, ?_⟩
          · rw [set_else _ (by omega), set_else _ (by omega)]; exact set_self _ (by omega)
          · rw [set_else _ (by omega)]; exact set_self _ (by simp; omega)
          · exact set_self _ (by simp; omega)
        · obtain ⟨d1, d2, d3⟩ := hdone j hj (by omega)
          refine ⟨?_, ?_, ?_⟩
          · rw [set_else _ (by omega), set_else _ (by omega), set_else _ (by omega)]; exact d1
          · rw [set_else _ (by omega), set_else _ (by omega), set_else _ (by omega)]; exact d2
          · rw [set_else _ (by omega), set_else _ (by omega), set_else _ (by omega)]; exact d3
      case measure => simp [intOf]; omega
    · go_wp2
      go_ret
      refine ⟨rfl, fun j hj => ?_, hb⟩
      obtain ⟨d1, d2, d3⟩ := hdone j hj (by omega)
      exact ⟨w.heap.size, 0, rfl, Nat.le_refl _, by rw [block_cell hblk, Nat.zero_add]; exact d1, by rw [block_cell hblk, Nat.zero_add]; exact d2, by rw [block_cell hblk, Nat.zero_add]; exact d3⟩

set_option maxHeartbeats 1000000 in
theorem ownValues_any (a : Option Addr) (vs : List Vl) (cap : Nat) (w : World) (hs : ValsSmall vs) (hm : ValsAt w 0 a vs) :
    Calls Tryz.prog 50 #[.slice a vs.length cap] w fun e w' => e = .returned (.slice (some ⟨w.heap.size, 0, none⟩) vs.length vs.length) ∧ ValsAt w' w.heap.size (some ⟨w.heap.size, 0, none⟩) vs ∧ Below w.heap.size w w' := by
  go_enter Tryz.func50, Tryz.ntmps50
  go_wp2_with fail
  refine (eachV_any a vs cap w hs hm).mono ?_
  rintro e w1 ⟨rfl, h1, h2⟩
  have H : Hid (ValsAt w1 w.heap.size (some ⟨w.heap.size, 0, none⟩) vs ∧ Below w.heap.size w w1) := ⟨h1, h2⟩
  clear h1 h2
  go_wp2
  go_ret
  exact ⟨rfl, H.out.1, H.out.2⟩
end Go.Proofs.YtoabnejocbnflaaGreat
namespace Go.Proofs.YtoabnejocbnflaaGreat
open Go.RowKit

def nilV : Vl := ⟨0, 0, ⟨#[]⟩⟩
/-- Values, and nil behind them. -/
def padded (vs : List Vl) (n : Nat) : List Vl := vs ++ List.replicate (n - vs.length) nilV
theorem padded_len {vs : List Vl} {n : Nat} (h : vs.length ≤ n) : (padded vs n).length = n := by simp [padded]; omega
theorem padded_lo {vs : List Vl} {n i : Nat} (h : i < vs.length) (hp : i < (padded vs n).length) : (padded vs n)[i] = vs[i] := by simp [padded, List.getElem_append_left h]
theorem padded_hi {vs : List Vl} {n i : Nat} (h : vs.length ≤ i) (hp : i < (padded vs n).length) : (padded vs n)[i] = nilV := by simp [padded, List.getElem_append_right h]

theorem made_get {z : Array Value} {n j : Nat} (h : j < n) : (madeCells z n).toList[j]? = some (z[j % z.size]!) := by simp [madeCells, h]

theorem made3 {w1 : World} {base g n : Nat} (h : w1.ownsRow base 32 3 (.slice (some ⟨g, 0, none⟩) n n) n (madeCells #[.int .i64 0, .int .i64 0, .string ByteArray.empty] (n * 3)).toList) :
    ∃ cur, w1.heap[g]? = some (.cells cur 32 (0, 0)) ∧ cur.size = n * 3 ∧ ∀ i, i < n → cur[i * 3]? = some (.int .i64 0) ∧ cur[i * 3 + 1]? = some (.int .i64 0) ∧ cur[i * 3 + 2]? = some (.string ⟨#[]⟩) := by
  rcases h.2 with ⟨hv, -⟩ | ⟨g', cap, cur, hv, -, hh, -, -, hs, ht⟩
  · cases hv
  · cases hv
    refine ⟨cur, hh, hs, fun i hi => ?_⟩
    have get : ∀ j, j < n * 3 → cur[j]? = some ((#[.int .i64 0, .int .i64 0, .string ByteArray.empty] : Array Value)[j % 3]!) := fun j hj => by
      have e := made_get (z := #[.int .i64 0, .int .i64 0, .string ByteArray.empty]) hj
      rw [← ht, List.getElem?_take_of_lt hj] at e
      simpa using e
    refine ⟨?_, ?_, ?_⟩
    · rw [get _ (by omega), show i * 3 % 3 = 0 by omega]; rfl
    · rw [get _ (by omega), show (i * 3 + 1) % 3 = 1 by omega]; rfl
    · rw [get _ (by omega), show (i * 3 + 2) % 3 = 2 by omega]; rfl

theorem below_setRow3 {B g : Nat} {a w : World} (h : Below B a w) (hg : B ≤ g) (cs : Array Value) : Below B a (w.setRow g cs) := h.trans ⟨by simp, by simp, by simp, by simp, fun k hk => setRow_other w g k cs (by omega)⟩

theorem size32 : (Tryz.prog.info? 32).map (·.size) = some 3 := by kernel_rfl

theorem copy3_first {w0 w1 : World} {g b off n L cap B : Nat} {cur : Array Value} {vs : List Vl} (hn : vs.length ≤ L) (hg : w1.heap[g]? = some (.cells cur 32 (0, 0))) (hsz : cur.size = L * 3) (hz : ∀ i, i < L → cur[i * 3]? = some (.int .i64 0) ∧ cur[i * 3 + 1]? = some (.int .i64 0) ∧ cur[i * 3 + 2]? = some (.string ⟨#[]⟩))
    (hc : ValsAt w1 0 (some ⟨b, off, none⟩) vs) (hB : B ≤ g) (hb : Below B w0 w1) (hnn : vs.length = n) :
    ∃ w2, (Builtin.copy_ #[46, 46] 3 #[.slice (some ⟨g, 0, none⟩) L L, .slice (some ⟨b, off, none⟩) n cap]).run Tryz.prog w1 = .ok (.int .i64 n) w2 ∧ Hid (ValsAt w2 g (some ⟨g, 0, none⟩) (padded vs L)) ∧ Hid (ValsBlk w2 g L) ∧ Hid (∀ k, k ≠ g → w2.heap[k]? = w1.heap[k]?) ∧ Below B w0 w2 := by
  subst hnn
  have hrun := run_copy3 (P := Tryz.prog) w1 46 46 3 32 g L L ⟨b, off, none⟩ vs.length cap cur 32 (flat vs) Tryz.underlying46 size32 hg hn (flat_len vs) hc.src (by rw [flat_len, hsz]; omega) (flat_one vs)
  have hh := setRow_heap w1 g cur (flat vs ++ cur.toList.drop (flat vs).length).toArray 32 (0, 0) hg
  have hlen : ((flat vs ++ cur.toList.drop (flat vs).length).toArray).size = L * 3 := by simp [flat_len, hsz]; omega
  refine ⟨_, hrun, ?_, ?_, ?_, below_setRow3 hb hB _⟩
  · intro i hi
    have hpl := padded_len hn
    have hiL : i < L := by omega
    refine ⟨g, 0, rfl, Nat.le_refl _, ?_⟩
    rw [block_cell hh, block_cell hh, block_cell hh, Nat.zero_add]
    by_cases hiv : i < vs.length
    · rw [padded_lo hiv hi]
      obtain ⟨f1, f2, f3⟩ := flat_at vs i hiv
      have hfl := flat_len vs
      refine ⟨?_, ?_, ?_⟩
      · rw [List.getElem?_toArray, List.getElem?_append_left (by omega)]; exact f1
      · rw [List.getElem?_toArray, List.getElem?_append_left (by omega)]; exact f2
      · rw [List.getElem?_toArray, List.getElem?_append_left (by omega)]; exact f3
    · rw [padded_hi (by omega) hi]
      obtain ⟨f1, f2, f3⟩ := hz i hiL
      have hfl := flat_len vs
      have get : ∀ j, vs.length * 3 ≤ j → (flat vs ++ cur.toList.drop (flat vs).length)[j]? = cur[j]? := fun j hj => by
        rw [List.getElem?_append_right (by omega), List.getElem?_drop, show (flat vs).length + (j - (flat vs).length) = j by omega]
        simp
      refine ⟨?_, ?_, ?_⟩
      · rw [List.getElem?_toArray, get _ (by omega)]; exact f1
      · rw [List.getElem?_toArray, get _ (by omega)]; exact f2
      · rw [List.getElem?_toArray, get _ (by omega)]; exact f3
  · exact ⟨_, hh, hlen⟩
  · intro k hk
    exact setRow_other w1 g k _ hk

set_option maxRecDepth 100000 in
set_option maxHeartbeats 2000000 in
theorem newFrame_any (a1 a2 : Option Addr) (nt c1 c2 : Nat) (fs : List Fn) (vb vo vcap L : Nat) (vs : List Vl) (w : World) (h0 : 0 < fs.length) (hL : fs[0].locals = (L : Int)) (hL2 : L ≤ 12) (hn : vs.length ≤ L) (hm : FnsAt w 0 a2 fs) (hv : ValsAt w 0 (some ⟨vb, vo, none⟩) vs) :
    Calls Tryz.prog 49 #[.agg #[.slice a1 nt c1, .slice a2 fs.length c2], .int .i64 0, .slice (some ⟨vb, vo, none⟩) vs.length vcap] w fun e w' => ∃ g, w.heap.size ≤ g ∧ e = .returned (.agg #[.int .i64 0, .int .i64 0, .slice (some ⟨g, 0, none⟩) L L, .slice none 0 0]) ∧ ValsAt w' w.heap.size (some ⟨g, 0, none⟩) (padded vs L) ∧ ValsBlk w' g L ∧ Below w.heap.size w w' := by
  obtain ⟨i0, hi, hz0, hz1, hz2⟩ := info_parts info32
  obtain ⟨b, off, ca, cc, rfl, -, d1, d2, d3, d4⟩ := hm 0 h0
  have hbA : Below w.heap.size w ((w.alloc (.cells #[.slice a1 nt c1, .slice (some ⟨b, off, none⟩) fs.length c2] 44)).alloc (.cells #[.int .i64 0, .int .i64 0, .slice none 0 0, .slice none 0 0] 87)) := ((Below.refl _ _).alloc (Nat.le_refl _) _).alloc (by simp) _
  have hR0 := block_new_at (w.alloc (.cells #[.slice a1 nt c1, .slice (some ⟨b, off, none⟩) fs.length c2] 44)) #[.int .i64 0, .int .i64 0, .slice none 0 0, .slice none 0 0] 87 (w.heap.size + 1) (by simp)
  rw [hL] at d2
  simp only [Nat.zero_mul, Nat.add_zero] at d2
  have d2' := cell_later hbA d2
  clear d1 d3 d4 d2
  obtain ⟨wA, hwA⟩ : ∃ wA, wA = (w.alloc (.cells #[.slice a1 nt c1, .slice (some ⟨b, off, none⟩) fs.length c2] 44)).alloc (.cells #[.int .i64 0, .int .i64 0, .slice none 0 0, .slice none 0 0] 87) := ⟨_, rfl⟩
  have HA : Hid (wA = (w.alloc (.cells #[.slice a1 nt c1, .slice (some ⟨b, off, none⟩) fs.length c2] 44)).alloc (.cells #[.int .i64 0, .int .i64 0, .slice none 0 0, .slice none 0 0] 87)) := hwA
  have hszA : Hid (wA.heap.size = w.heap.size + 1 + 1) := by show wA.heap.size = w.heap.size + 1 + 1; rw [hwA]; simp
  go_enter Tryz.func49, Tryz.ntmps49
  go_wp2_with (first | (at_make; refine wpList_make_full _ rfl _ _ 46 rfl w.heap.size 32 i0 (.agg #[.int .i64 0, .int .i64 0, .string ByteArray.empty]) 3 Tryz.underlying46 hi hz0 hz1 _ _ _ _ L rfl rfl rfl rfl (by rw [hz2]; omega) (by unfold maxLen; omega) (by simp; omega) ?_; intro w1 hown hgrow; rw [← HA.out] at hown hgrow; obtain ⟨cur0, hblk, hsz, hzz⟩ := made3 hown; rw [hszA.out] at hblk; have hb1 : Below wA.heap.size wA w1 := (Below.refl _ _).grown hgrow (Nat.le_refl _) (by intro k hk; cases hk); obtain ⟨w2, hrun, hv2, hk2, ho2, hb2⟩ := copy3_first (n := vs.length) (cap := vcap) (B := w.heap.size) (w0 := w) hn hblk hsz hzz (hv.mono (by rw [← hwA] at hbA; exact hbA.trans (hb1.mono hbA.size))) (by omega) (by rw [← hwA] at hbA; exact hbA.trans (hb1.mono hbA.size)) rfl; have hR2 : w2.heap[w.heap.size + 1]? = some (.cells #[.int .i64 0, .int .i64 0, .slice none 0 0, .slice none 0 0] 87 (0, 0)) := (by rw [ho2.out _ (by omega)]; exact block_kept (by rw [hwA]; exact hR0) hb1); have r1 := block_cell hR2; have r2 := block_free hR2))
  refine bodyPost_ret (v := .agg #[.int .i64 0, .int .i64 0, .slice (some ⟨w.heap.size + 1 + 1, 0, none⟩) L L, .slice none 0 0]) (by simp [results, Tryz.results49, go_sem, r1]) rfl ⟨w.heap.size + 1 + 1, by omega, rfl, ?_, ?_, ?_⟩
  · exact (hv2.out.above (((((Above.refl _ _).setCell (by simp) _).setCell (by simp) _).setCell (by simp) _).setCell (by simp) _)).low (by omega)
  · obtain ⟨c, k1, k2⟩ := hk2.out
    refine ⟨c, ?_, k2⟩
    rw [Below.heap_setCell _ _ _ _ (by simp), Below.heap_setCell _ _ _ _ (by simp), Below.heap_setCell _ _ _ _ (by simp), Below.heap_setCell _ _ _ _ (by simp)]
    exact k1
  · exact (((hb2.setCell (by simp) _).setCell (by simp) _).setCell (by simp) _).setCell (by simp) _
end Go.Proofs.YtoabnejocbnflaaGreat
