/-
  The drawing functions of the document's model: a drawn module.
-/
import Derived.Test.YtpmkfdinkomaiaaGreatDoorD7
import Derived.Test.YtpmkfdinkomaiaaGreatDoorV3
import Derived.Deep.CutRange
namespace Go.Proofs.YtpmkfdinkomaiaaGreatDoor
open Go.RowKit

theorem info9 : (Tryz.prog.info? 9).map (fun i => (i.zero, i.size, i.bytes)) = some (some (.string ByteArray.empty), 1, 16) := by kernel_rfl

def isS : Value → Bool
  | .string s => decide (s.size ≤ 1000)
  | _ => false
/-- A cell of a list of texts that was written out, behind a number taken off the cursor. -/
theorem lit_str {w w' : World} {C k : Nat} {cs : Array Value} (hP : Px C (w.alloc (.cells cs 9)).drew w') (hne : w.heap.size ≠ C) (hall : cs.toList.all isS = true) (hk : k < cs.size) : ∃ s : ByteArray, w'.cell? ⟨w.heap.size, k, none⟩ = some (.string s) ∧ s.size ≤ 1000 := by
  have hb : w'.heap[w.heap.size]? = some (.cells cs 9 (0, 0)) := by rw [hP.block _ hne]; exact block_new _ _ _
  rw [block_cell hb, Array.getElem?_eq_getElem hk]
  have := List.all_eq_true.1 hall cs[k] (by simp)
  revert this
  cases cs[k] with
  | string s => intro h; exact ⟨s, rfl, by simpa [isS] using h⟩
  | _ => simp [isS]

theorem lit_str2 {w : World} {k : Nat} {cs : Array Value} (hall : cs.toList.all isS = true) (hk : k < cs.size) : ∃ s : ByteArray, (w.alloc (.cells cs 9)).cell? ⟨w.heap.size, k, none⟩ = some (.string s) ∧ s.size ≤ 1000 :=
  lit_str (C := w.heap.size + 1) (w' := (w.alloc (.cells cs 9)).drew) (Px.refl _ _) (by omega) hall hk

theorem CurAt.keeps {W w w' : World} {C xc M B : Nat} {ts : List Nat} {xa : Option Addr} {bs : List Int} (h : CurAt W w C xa bs xc M) (hk : Keeps B ts w w') (ht : 71 ∉ ts) (h1 : W.heap.size ≤ B) (h2 : B ≤ w.heap.size) : CurAt W w' C xa bs xc M := by
  obtain ⟨p, s, hc, q⟩ := h.blk
  exact { h with blk := ⟨p, s, hk.cell hc ht, q⟩, below := h.below.trans ((hk.toBelow h2).mono h1) }
theorem Fr.keeps {C A N B : Nat} {ts : List Nat} {w w' : World} (hk : Keeps B ts w w') (h1 : N ≤ B) (h2 : B ≤ w.heap.size) : Fr C A N w w' :=
  ⟨hk.os, hk.tape, hk.output, hk.size, fun k h _ _ => (hk.toBelow h2).block k (by omega)⟩

/-- What the module that is being drawn is in memory: the answer's block, the module's, its texts. -/
structure DM (W w wr : World) (C : Nat) (xa : Option Addr) (bs : List Int) (xc M : Nat) (ta : Option Addr) (n tc : Nat) : Prop where
  res : wr.heap[w.heap.size]? = some (.cells #[.slice none 0 0, .slice none 0 0] 27 (0, 0))
  mod : wr.heap[w.heap.size + 1]? = some (.cells #[.slice ta n tc, .slice none 0 0] 27 (0, 0))
  texts : RowT wr (w.heap.size + 2) (.slice ta n tc) n
  cur : CurAt W wr C xa bs xc M
  fr : Fr C C w.heap.size w wr
  lt : C < w.heap.size
  low : W.heap.size ≤ w.heap.size

section
variable {W w wr w' : World} {C : Nat} {xa : Option Addr} {bs : List Int} {xc M : Nat} {ta : Option Addr} {n tc : Nat}
theorem DM.px (h : DM W w wr C xa bs xc M ta n tc) {M' : Nat} (hC : CurAt W w' C xa bs xc M') (hP : Px C wr w') : DM W w w' C xa bs xc M' ta n tc := by
  have := h.lt
  exact ⟨by rw [hP.block _ (by omega)]; exact h.res, by rw [hP.block _ (by omega)]; exact h.mod, h.texts.same (h.cur.same hP), hC, h.fr.trans (Fr.px hP), h.lt, h.low⟩
theorem DM.later (h : DM W w wr C xa bs xc M ta n tc) (hb : Below wr.heap.size wr w') : DM W w w' C xa bs xc M ta n tc :=
  ⟨block_kept h.res hb, block_kept h.mod hb, h.texts.same (Same.below hb), h.cur.later hb, h.fr.trans (Fr.below hb h.fr.size), h.lt, h.low⟩
theorem Px.drew' {C : Nat} {w w' : World} (h : Px C w.drew w') : Px C w w' := ⟨h.os, h.tape, h.output, h.size, h.block⟩
theorem Fr.sameC {C N : Nat} {w w' : World} {cs : Array Value} (h : Fr C C N w w') (hN : w.heap.size ≤ N) (hC : w.heap[C]? = some (.cells cs 71 (0, 0))) : Same w w' := fun k es e fr he hk => by
  have hlt := lt_block hk
  have hne : k ≠ C := by
    rintro rfl
    rw [hC] at hk
    cases hk
    omega
  rw [h.block k (by omega) hne hne]
  exact hk
theorem CurAt.sameC {W w w' : World} {C xc M N : Nat} {xa : Option Addr} {bs : List Int} (h : CurAt W w C xa bs xc M) (hf : Fr C C N w w') (hN : w.heap.size ≤ N) : Same w w' := by
  obtain ⟨p, s, hc, -⟩ := h.blk
  exact hf.sameC hN hc
theorem Fr.low {C A N N' : Nat} {w w' : World} (h : Fr C A N w w') (hN : N' ≤ N) : Fr C A N' w w' := ⟨h.os, h.tape, h.output, h.size, fun k h1 h2 h3 => h.block k (by omega) h2 h3⟩
/-- Behind what leaves all that was there but the cursor. -/
theorem DM.fr' (h : DM W w wr C xa bs xc M ta n tc) {M' : Nat} (hC : CurAt W w' C xa bs xc M') (hf : Fr C C wr.heap.size wr w') : DM W w w' C xa bs xc M' ta n tc := by
  have h1 := h.lt
  have h2 := lt_block h.mod
  exact ⟨by rw [hf.block _ (by omega) (by omega) (by omega)]; exact h.res, by rw [hf.block _ (by omega) (by omega) (by omega)]; exact h.mod, h.texts.same (h.cur.sameC hf (Nat.le_refl _)), hC, h.fr.trans (hf.low h.fr.size), h.lt, h.low⟩
theorem DM.size (h : DM W w wr C xa bs xc M ta n tc) : w.heap.size + 2 ≤ wr.heap.size := lt_block h.mod
/-- Behind one text more. -/
theorem DM.text (h : DM W w wr C xa bs xc M ta n tc) {vs : List Value} {sx : ByteArray} {g cp : Nat} (hk : Keeps (w.heap.size + 2) [9] wr w') (hown : w'.ownsRow (w.heap.size + 2) 9 1 (.slice (some ⟨g, 0, none⟩) (n + 1) cp) (n + 1) (vs ++ [.string sx])) (hvs : ∀ u ∈ vs, ∃ s : ByteArray, u = .string s ∧ s.size ≤ 1000) (hs : sx.size ≤ 1000) :
    DM W w (w'.setCell ⟨w.heap.size + 1, 0, none⟩ (.slice (some ⟨g, 0, none⟩) (n + 1) cp)) C xa bs xc M (some ⟨g, 0, none⟩) (n + 1) cp := by
  have hsz := h.size
  have hlt := h.lt
  have hlow := h.low
  have hm := hk.cell h.mod (by simp)
  refine ⟨by rw [Below.heap_setCell _ _ _ _ (by simp)]; exact hk.cell h.res (by simp), by simpa using block_set (i := 0) hm (.slice (some ⟨g, 0, none⟩) (n + 1) cp), ?_, (h.cur.keeps hk (by simp) (by omega) hsz).set (by simp; omega) (by simp; omega) _, (h.fr.trans (Fr.keeps hk (by omega) hsz)).setFar (by simp) _, h.lt, h.low⟩
  refine RowT.same (w := w') ⟨_, hown, fun u hu => ?_⟩ (Same.set (Same.refl _) hm (by omega) _ _)
  rcases List.mem_append.1 hu with hu | hu
  · exact hvs u hu
  · simp at hu
    subst hu
    exact ⟨sx, rfl, hs⟩
end

theorem flatF_len (hs : List HF) : (flatF hs).length = hs.length * 3 := by
  induction hs with
  | nil => rfl
  | cons h t ih => show (_ ++ flatF t).length = _; rw [List.length_append, ih]; simp; omega
theorem flatF_at (hs : List HF) (i : Nat) (hi : i < hs.length) : (flatF hs)[i * 3]? = some (.int .i64 hs[i].p) ∧ (flatF hs)[i * 3 + 1]? = some (.int .i64 hs[i].l) ∧ (flatF hs)[i * 3 + 2]? = some (.slice hs[i].ca hs[i].n hs[i].cc) := by
  induction hs generalizing i with
  | nil => simp at hi
  | cons h t ih =>
    have e : flatF (h :: t) = .int .i64 h.p :: .int .i64 h.l :: .slice h.ca h.n h.cc :: flatF t := rfl
    rw [e]
    cases i with
    | zero => simp
    | succ i =>
      have := ih i (by simpa using hi)
      rw [show (i + 1) * 3 = i * 3 + 1 + 1 + 1 by omega]
      simpa using this
theorem flatF_one (hs : List HF) : ∀ u ∈ flatF hs, u.oneCell' = true := by
  intro u hu
  unfold flatF at hu
  rw [List.mem_flatMap] at hu
  obtain ⟨h, -, hu⟩ := hu
  simp at hu
  rcases hu with rfl | rfl | rfl <;> rfl

/-- The cells of a row of the call's own that is not empty. -/
theorem own_cells {w : World} {B e size n : Nat} {ca : Option Addr} {cc : Nat} {vs : List Value} (h : w.ownsRow B e size (.slice ca n cc) n vs) (hn : 0 < n) : ∃ g, ca = some ⟨g, 0, none⟩ ∧ B ≤ g ∧ g < w.heap.size ∧ (∃ cur, w.heap[g]? = some (.cells cur e (0, 0))) ∧ ∀ (j : Nat) (u : Value), vs[j]? = some u → w.cell? ⟨g, j, none⟩ = some u := by
  rcases h.2 with ⟨-, h0⟩ | ⟨g, cap, cur, hv, hg, hh, h1, h2, h3, h4⟩
  · omega
  · cases hv
    refine ⟨g, rfl, hg, lt_block hh, ⟨cur, hh⟩, fun j u hj => ?_⟩
    rw [block_cell hh]
    rw [← h4] at hj
    have hlt : j < n * size := by
      rcases Nat.lt_or_ge j (n * size) with h | h
      · exact h
      · rw [List.getElem?_eq_none (by rw [List.length_take]; omega)] at hj; cases hj
    rw [List.getElem?_take_of_lt hlt] at hj
    simpa using hj

theorem asm_start {W w0 w : World} {C A N N' : Nat} {xa : Option Addr} {bs : List Int} {xc : Nat} {fa : Option Addr} {fc : Nat} {ps : List Int} {tx lc : Int} {mb : Bool} {M L K : Nat} (h : AsmAt W w0 w C A N xa bs xc fa fc ps tx lc mb M L K) (hN : N = N') : AsmAt W w w C A N' xa bs xc fa fc ps tx lc mb M L K := by
  subst hN
  exact { h with fr := Fr.refl _ _ _ _ }

theorem RowI.keeps {w w' : World} {N B n : Nat} {ts : List Nat} {v : Value} (h : RowI w N v n) (hk : Keeps B ts w w') (ht : 51 ∉ ts) : RowI w' N v n := by
  obtain ⟨vs, h1, h2⟩ := h
  exact ⟨vs, own_same h1 fun k cs fr _ hb => hk.cell hb ht, h2⟩
theorem RowT.keeps {w w' : World} {N B n : Nat} {ts : List Nat} {v : Value} (h : RowT w N v n) (hk : Keeps B ts w w') (ht : 9 ∉ ts) : RowT w' N v n := by
  obtain ⟨vs, h1, h2⟩ := h
  exact ⟨vs, own_same h1 fun k cs fr _ hb => hk.cell hb ht, h2⟩
theorem DM.keeps {W w wr w' : World} {C : Nat} {xa : Option Addr} {bs : List Int} {xc M : Nat} {ta : Option Addr} {n tc : Nat} (h : DM W w wr C xa bs xc M ta n tc) (hk : Keeps (w.heap.size + 2) [48] wr w') : DM W w w' C xa bs xc M ta n tc := by
  have h1 := h.size
  have h2 := h.low
  exact ⟨hk.cell h.res (by simp), hk.cell h.mod (by simp), h.texts.keeps hk (by simp), h.cur.keeps hk (by simp) (by omega) h1, h.fr.trans (Fr.keeps hk (by omega) h1), h.lt, h.low⟩
theorem DM.grow {W w wr : World} {C : Nat} {xa : Option Addr} {bs : List Int} {xc M M' : Nat} {ta : Option Addr} {n tc : Nat} (h : DM W w wr C xa bs xc M ta n tc) (hM : M ≤ M') : DM W w wr C xa bs xc M' ta n tc := { h with cur := h.cur.grow hM }
theorem flatF_add (hs : List HF) (h : HF) : flatF (hs ++ [h]) = flatF hs ++ [.int .i64 h.p, .int .i64 h.l, .slice h.ca h.n h.cc] := by
  unfold flatF
  rw [List.flatMap_append]
  simp
/-- One function more. -/
theorem RowF.add {w w' : World} {B : Nat} {v v' : Value} {hs : List HF} (h : RowF w B v hs) (f : HF) (hf : RowI w B (.slice f.ca f.n f.cc) f.n) (h1 : 1 ≤ f.n) (h2 : f.n ≤ 60000) (hk : Keeps B [48] w w') (hown : w'.ownsRow B 48 3 v' (hs.length + 1) (flatF hs ++ [.int .i64 f.p, .int .i64 f.l, .slice f.ca f.n f.cc])) : RowF w' B v' (hs ++ [f]) := by
  refine ⟨by rw [List.length_append, flatF_add]; exact hown, fun x hx => ?_⟩
  rcases List.mem_append.1 hx with hx | hx
  · exact ⟨(h.code x hx).1.keeps hk (by simp), (h.code x hx).2⟩
  · simp at hx
    subst hx
    exact ⟨hf.keeps hk (by simp), h1, h2⟩

theorem info48 : (Tryz.prog.info? 48).map (fun i => (i.zero, i.size, i.bytes)) = some (some (.agg #[.int .i64 0, .int .i64 0, .slice none 0 0]), 3, 40) := by kernel_rfl

/-- A piece of code that begins: nothing is put yet. -/
theorem asm_new {W w : World} {C : Nat} {xa : Option Addr} {bs : List Int} {xc : Nat} {fa : Option Addr} {fc : Nat} {ps : List Int} {tx lc : Int} {mb : Bool} {M : Nat} (hC : CurAt W w C xa bs xc M)
    (hp : ∀ i (h : i < ps.length), ∃ b, fa = some ⟨b, 0, none⟩ ∧ b < w.heap.size ∧ b ≠ C ∧ w.cell? ⟨b, i * 3, none⟩ = some (.int .i64 ps[i])) (pok : ∀ p ∈ ps, 0 ≤ p ∧ p ≤ 2) (psl : ps.length ≤ 100) (l0 : 1 ≤ lc) (l1 : lc ≤ 100) (t0 : 0 ≤ tx) (t1 : tx ≤ 100) :
    AsmAt W (w.alloc (.cells #[.pointer (some ⟨C, 0, none⟩), .slice none 0 0, .slice fa ps.length fc, .int .i64 tx, .int .i64 lc, .bool mb] 82)) (w.alloc (.cells #[.pointer (some ⟨C, 0, none⟩), .slice none 0 0, .slice fa ps.length fc, .int .i64 tx, .int .i64 lc, .bool mb] 82)) C w.heap.size (w.heap.size + 1) xa bs xc fa fc ps tx lc mb M 0 0 := by
  have hb : Below w.heap.size w (w.alloc (.cells #[.pointer (some ⟨C, 0, none⟩), .slice none 0 0, .slice fa ps.length fc, .int .i64 tx, .int .i64 lc, .bool mb] 82)) := (Below.refl _ _).alloc (Nat.le_refl _) _
  obtain ⟨p, s, hc, -⟩ := hC.blk
  have hlt := lt_block hc
  refine ⟨hC.later hb, ⟨none, 0, 0, block_new _ _ _, ⟨[], ⟨rfl, .inl ⟨rfl, rfl⟩⟩, by simp⟩, Nat.le_refl _, Nat.le_refl _⟩, fun i hi => ?_, pok, psl, by omega, by omega, by omega, hC.below.size, by simp, l0, l1, t0, t1, Fr.refl _ _ _ _⟩
  obtain ⟨b, e, h1, h2, h3⟩ := hp i hi
  exact ⟨b, 0, e, by omega, h2, by omega, by rw [Nat.zero_add]; exact cell_later hb h3⟩

/-- The module is laid into the answer's block. -/
theorem DM.done {W w wr : World} {C : Nat} {xa : Option Addr} {bs : List Int} {xc M : Nat} {ta : Option Addr} {n tc : Nat} (h : DM W w wr C xa bs xc M ta n tc) {fv : Value} {hs : List HF} (hF : RowF wr (w.heap.size + 2) fv hs) :
    ∃ wf, wf = ((wr.setCell ⟨w.heap.size + 1, 1, none⟩ fv).setCell ⟨w.heap.size, 0, none⟩ (.slice ta n tc)).setCell ⟨w.heap.size, 1, none⟩ fv ∧ wf.heap[w.heap.size]? = some (.cells #[.slice ta n tc, fv] 27 (0, 0)) ∧ RowT wf w.heap.size (.slice ta n tc) n ∧ RowF wf w.heap.size fv hs ∧ CurAt W wf C xa bs xc M ∧ Fr C C w.heap.size w wf := by
  have h1 := h.lt
  have h2 := h.low
  have hm := h.mod
  have hr1 : (wr.setCell ⟨w.heap.size + 1, 1, none⟩ fv).heap[w.heap.size]? = some (.cells #[.slice none 0 0, .slice none 0 0] 27 (0, 0)) := by rw [Below.heap_setCell _ _ _ _ (by simp)]; exact h.res
  have hr2 := block_set (i := 0) hr1 (.slice ta n tc)
  have hr3 := block_set (i := 1) hr2 fv
  have hsame : Same wr (((wr.setCell ⟨w.heap.size + 1, 1, none⟩ fv).setCell ⟨w.heap.size, 0, none⟩ (.slice ta n tc)).setCell ⟨w.heap.size, 1, none⟩ fv) := Same.set (Same.set (Same.set (Same.refl _) hm (by omega) _ _) hr1 (by omega) _ _) hr2 (by omega) _ _
  refine ⟨_, rfl, by simpa using hr3, ?_, ?_, ((h.cur.set (by simp; omega) (by simp; omega) _).set (by simp; omega) (by simp; omega) _).set (by simp; omega) (by simp; omega) _, ((h.fr.setFar (by simp) _).setFar (by simp) _).setFar (by simp) _⟩
  · obtain ⟨vs, a1, a2⟩ := h.texts.same hsame
    exact ⟨vs, own_low a1 (by omega), a2⟩
  · have a := hF.same hsame
    exact ⟨own_low a.own (by omega), fun x hx => ⟨(a.code x hx).1.low (by omega), (a.code x hx).2⟩⟩

set_option maxRecDepth 100000 in
set_option maxHeartbeats 8000000 in
theorem drawModule_any (W : World) (C xc M : Nat) (xa : Option Addr) (bs : List Int) (w : World) (hC : CurAt W w C xa bs xc M) (hM : M ≤ 100000) :
    Calls Tryz.prog 34 #[.pointer (some ⟨C, 0, none⟩)] w fun e w' => ∃ ta nt tc fa fc hs, e = .returned (.agg #[.slice ta nt tc, .slice fa (List.length hs) fc]) ∧ RowT w' w.heap.size (.slice ta nt tc) nt ∧ nt ≤ 2 ∧ RowF w' w.heap.size (.slice fa hs.length fc) hs ∧ 1 ≤ hs.length ∧ hs.length ≤ 4 ∧ CurAt W w' C xa bs xc (M + 40000) ∧ Fr C C w.heap.size w w' := by
  obtain ⟨i9, hi9, hz90, hz91, hz92⟩ := info_parts info9
  have hlow := hC.low
  obtain ⟨p0, s0, hcb, -⟩ := hC.blk
  have hClt := lt_block hcb
  have hW := hC.below.size
  clear hcb p0 s0
  have hbA : Below w.heap.size w ((w.alloc (.cells #[.slice none 0 0, .slice none 0 0] 27)).alloc (.cells #[.slice none 0 0, .slice none 0 0] 27)) := ((Below.refl _ _).alloc (Nat.le_refl _) _).alloc (by simp) _
  have hR0 := block_old (block_new w #[.slice none 0 0, .slice none 0 0] 27) (.cells #[.slice none 0 0, .slice none 0 0] 27)
  have hm0 := block_new (w.alloc (.cells #[.slice none 0 0, .slice none 0 0] 27)) #[.slice none 0 0, .slice none 0 0] 27
  rw [World.size_alloc] at hm0
  have hCA := hC.later hbA
  go_enter Tryz.func34, Tryz.ntmps34
  go_wp2_with fail
  refine (pick_any W C xc M xa bs _ _ hCA (by omega)).mono ?_
  rintro e w1 ⟨r, rfl, r0, r1, hC1, hP⟩
  have hD1 : DM W w w1 C xa bs xc (M + 1) none 0 0 := DM.px (wr := (w.alloc (.cells #[.slice none 0 0, .slice none 0 0] 27)).alloc (.cells #[.slice none 0 0, .slice none 0 0] 27)) ⟨hR0, hm0, ⟨[], ⟨rfl, .inl ⟨rfl, rfl⟩⟩, by simp⟩, hCA, Fr.below hbA (Nat.le_refl _), hClt, by omega⟩ hC1 hP
  obtain ⟨k0, rfl⟩ : ∃ k0 : Nat, r = k0 := ⟨r.toNat, by omega⟩
  have hk0 : k0 ≤ 2 := by omega
  clear hCA hbA hR0 hm0 hP
  go_wp2
  go_loopw [4] (fun i wr => ∃ (k n : Nat) (ta : Option Addr) (tc : Nat), k + n = k0 ∧ i = .int .i64 k ∧ DM W w wr C xa bs xc (M + 1 + n) ta n tc) (fun i _ => (intOf i).toNat)
  case atStart => exact ⟨k0, 0, none, 0, by omega, rfl, hD1⟩
  case round =>
    obtain ⟨k, n, ta, tc, hkn, rfl, hD⟩ := hrel
    clear hD1 hC1
    by_cases hk : 0 < k
    · have hk' : (0 : Int) < (k : Int) := by omega
      have m1 := block_cell hD.mod
      have f1 := block_free hD.mod
      have hsz := hD.size
      have hne : wr.heap.size ≠ C := by omega
      have hDl := hD.later (((Below.refl wr.heap.size wr).alloc (Nat.le_refl _) (.cells #[.string ⟨#[]⟩, .string ⟨#[97]⟩, .string ⟨#[98, 99]⟩, .string ⟨#[104, 101, 108, 108, 111, 32, 119, 111, 114, 108, 100]⟩, .string ⟨#[120, 32, 121]⟩] 9)).drew)
      have hDd := hD.later (Below.refl wr.heap.size wr).drew
      have m1l := block_cell hDl.mod
      have m1d := block_cell hDd.mod
      go_wp2
      go_region_law (first
        | (refine step_append_lies _ (by rfl) _ _ _ (by rfl) (w.heap.size + 2) 9 i9 (.string ByteArray.empty) 1 16 Tryz.underlying24 hi9 hz90 hz91 hz92 rfl (by decide) _ _ _ (by rfl) (World.ownsRow.alloc hown2 _) ⟨w2.heap.size, 0, none⟩ 1 1 [.string sx] (by rfl) (by rfl) (World.news_of_block (cs := #[.string sx]) (t := 9) (fr := (0, 0)) (heap_alloc_new w2 _)) (by simp [Value.oneCell']) (by decide) (by unfold maxLen; omega) (by omega) (by simp; omega) (w2.heap.size + 1) (by simp) ?_; intro g cp w4 hown4 hgrow4 hat4 hlt4; have hk4 : Keeps (w.heap.size + 2) [9] (w2.alloc (.cells #[.string sx] 9)) w4 := Keeps.grown (World.ownsRow.alloc hown2 _) hgrow4 (by simp); have hD4 := (hD2.later ((Below.refl _ _).alloc (Nat.le_refl _) _)).text hk4 (by simpa using hown4) hvs hss; have c4 := block_cell (hk4.cell (block_old hD2.mod _) (by simp)); have f4 := block_free (hk4.cell (block_old hD2.mod _) (by simp)))
        | (refine step_append_lies _ (by rfl) _ _ _ (by rfl) (w.heap.size + 2) 9 i9 (.string ByteArray.empty) 1 16 Tryz.underlying24 hi9 hz90 hz91 hz92 rfl (by decide) _ _ _ (by rfl) (World.ownsRow.alloc hown3 _) ⟨w2.heap.size + 1, 0, none⟩ 1 1 [.string sx] (by rfl) (by rfl) (one_new _ _ (by simp) _ _) (by simp [Value.oneCell']) (by decide) (by unfold maxLen; omega) (by omega) (by simp; omega) (w2.heap.size + 1 + 1) (by simp) ?_; intro g cp w4 hown4 hgrow4 hat4 hlt4; have hk4 := Keeps.grown (ts := [9]) (World.ownsRow.alloc hown3 _) hgrow4 (by simp); have hD4 := (hD3.later ((Below.refl _ _).alloc (Nat.le_refl _) _)).text hk4 (by simpa using hown4) hvs hss; have c4 := block_cell (hk4.cell (block_old hD3.mod _) (by simp)); have f4 := block_free (hk4.cell (block_old hD3.mod _) (by simp)))
        | (go_simp; go_at_call 30; refine (pick_any W C xc _ xa bs _ _ hDl.cur (by omega)).mono ?_; rintro e w2 ⟨r2, rfl, r20, r21, hC2, hP2⟩; obtain ⟨q2, rfl⟩ : ∃ q2 : Nat, r2 = q2 := ⟨r2.toNat, by omega⟩; have hq5 : (q2 : Int) < 5 := (by omega); obtain ⟨sx, hsx, hss⟩ := lit_str (k := q2) hP2 hne (by decide) (by simp; omega); have hD2 := hDl.px hC2 hP2; obtain ⟨vs, hown2, hvs⟩ := hD2.texts; have hz3 := hD2.size; have c2 := block_cell hD2.mod; have c2b := block_cell (block_old hD2.mod (.cells #[.string sx] 9)))
        | (go_simp; go_at_call 30; refine (pick_any W C xc _ xa bs _ _ hDd.cur (by omega)).mono ?_; rintro e w2 ⟨r2, rfl, r20, r21, hC2, hP2⟩; obtain ⟨q2, rfl⟩ : ∃ q2 : Nat, r2 = q2 := ⟨r2.toNat, by omega⟩; have hq5 : (q2 : Int) < 5 := (by omega); have hD3 := (hDd.px hC2 hP2).later ((Below.refl w2.heap.size w2).alloc (Nat.le_refl _) (.cells #[.string ⟨#[]⟩, .string ⟨#[97]⟩, .string ⟨#[98, 99]⟩, .string ⟨#[104, 101, 108, 108, 111, 32, 119, 111, 114, 108, 100]⟩, .string ⟨#[120, 32, 121]⟩] 9)); obtain ⟨sx, hsx, hss⟩ := lit_str2 (w := w2) (k := q2) (cs := #[.string ⟨#[]⟩, .string ⟨#[97]⟩, .string ⟨#[98, 99]⟩, .string ⟨#[104, 101, 108, 108, 111, 32, 119, 111, 114, 108, 100]⟩, .string ⟨#[120, 32, 121]⟩]) (by decide) (by simp; omega); obtain ⟨vs, hown3, hvs⟩ := hD3.texts; have hz3 := (hDd.px hC2 hP2).size; have c3 := block_cell hD3.mod; have c3b := block_cell (block_old hD3.mod (.cells #[.string sx] 9)); have c2 := block_cell (hDd.px hC2 hP2).mod))
      all_goals
        generalize (w4.setCell ⟨w.heap.size + 1, 0, none⟩ (.slice (some ⟨g, 0, none⟩) (n + 1) cp)) = w5 at hD4 ⊢
        clear hD hDl hDd m1 f1 m1l m1d
        go_simp
        go_wp2
        go_roundw
        case rel => exact ⟨k - 1, n + 1, _, _, by omega, by congr 1; omega, hD4⟩
        case measure => simp [intOf]; omega
    · have hn2 : n ≤ 2 := by omega
      have hk' : (k : Int) ≤ 0 := by omega
      have hDh := hD.later ((Below.refl wr.heap.size wr).alloc (Nat.le_refl _) (.cells #[] 48))
      have hE0 : (wr.alloc (.cells #[] 48)).ownsRow (w.heap.size + 2) 48 3 (.slice (some ⟨wr.heap.size, 0, none⟩) 0 0) 0 [] := World.ownsRow_made (base := w.heap.size + 2) (e := 48) (size := 3) wr #[] 0 hD.size (by unfold maxLen; omega) rfl
      go_wp2_with fail
      refine (pick_any W C xc _ xa bs _ _ hDh.cur (by omega)).mono ?_
      rintro e u1 ⟨r, rfl, r0, r1, hC1, hP⟩
      have hD1 := hDh.px hC1 hP
      have hRF : RowF u1 (w.heap.size + 2) (.slice (some ⟨wr.heap.size, 0, none⟩) 0 0) [] := RowF.same (w := wr.alloc (.cells #[] 48)) ⟨hE0, by simp⟩ (hDh.cur.same hP)
      obtain ⟨j0, rfl⟩ : ∃ j0 : Nat, r = j0 := ⟨r.toNat, by omega⟩
      have hj0 : j0 ≤ 3 := by omega
      obtain ⟨wq, rfl⟩ : ∃ wq, wq = wr := ⟨_, rfl⟩
      clear hD hDh hE0 hC1 hP
      go_wp2
      go_loopw [5, 6] (fun hv i wr => ∃ (k : Nat) (hs : List HF) (ha : Option Addr) (hc : Nat), k + hs.length = j0 ∧ i = .int .i64 k ∧ hv = .slice ha hs.length hc ∧ RowF wr (w.heap.size + 2) (.slice ha hs.length hc) hs ∧ (∀ h ∈ hs, 0 ≤ h.p ∧ h.p ≤ 2) ∧ DM W w wr C xa bs xc (M + 4 + 3000 * hs.length) ta n tc) (fun _ i _ => (intOf i).toNat)
      case atStart =>
        refine ⟨j0, [], _, _, by simp, rfl, rfl, hRF, by simp, ?_⟩
        obtain ⟨a1, a2, a3, a4, a5, a6, a7⟩ := hD1
        exact ⟨a1, a2, a3, a4.grow (by simp; omega), a5, a6, a7⟩
      case round =>
        obtain ⟨k, hs, ha, hc, hkh, rfl, rfl, hRFr, hps, hD⟩ := hrel
        clear hRF hD1
        by_cases hk2 : 0 < k
        · have hk2' : (0 : Int) < (k : Int) := by omega
          go_wp2_with fail
          refine (pick_any W C xc _ xa bs _ _ hD.cur (by omega)).mono ?_
          rintro e u2 ⟨rp, rfl, rp0, rp1, hC2, hP2⟩
          have hD2 := hD.px hC2 hP2
          have hRF2 := hRFr.same (hD.cur.same hP2)
          obtain ⟨F, hFe⟩ : ∃ F, F = u2.heap.size := ⟨_, rfl⟩
          obtain ⟨u3, hu3⟩ : ∃ u3, u3 = u2.alloc (.cells #[.int .i64 rp, .int .i64 0, .slice none 0 0] 48) := ⟨_, rfl⟩
          have hfb : u3.heap[F]? = some (.cells #[.int .i64 rp, .int .i64 0, .slice none 0 0] 48 (0, 0)) := by rw [hu3, hFe]; exact block_new _ _ _
          have hb3 : Below u2.heap.size u2 u3 := by rw [hu3]; exact (Below.refl _ _).alloc (Nat.le_refl _) _
          have hf3 : Fr C C F u2 u3 := Fr.below hb3 (by omega)
          have hC3 := hD2.cur.later hb3
          have hFC : F ≠ C := by have := hD2.size; omega
          have hWF : W.heap.size ≤ F := by have := hD2.size; omega
          have HFe : Hid (F = u2.heap.size) := hFe
          have HU : Hid (u3 = u2.alloc (.cells #[.int .i64 rp, .int .i64 0, .slice none 0 0] 48)) := hu3
          have hfb' := block_cell hfb
          have hfbd : u3.drew.heap[F]? = some (.cells #[.int .i64 rp, .int .i64 0, .slice none 0 0] 48 (0, 0)) := hfb
          have hfd' := block_cell hfbd
          have hC3d := hC3.later (Below.refl u3.heap.size u3).drew
          clear hD hRFr hC2 hP2 hu3 hFe hb3
          go_wp2
          rw [← HU.out, ← HFe.out]
          go_cut [44] from 31 to 72 (fun _ wx => ∃ lv : Int, 1 ≤ lv ∧ lv ≤ 4 ∧ wx.heap[F]? = some (.cells #[.int .i64 rp, .int .i64 lv, .slice none 0 0] 48 (0, 0)) ∧ CurAt W wx C xa bs xc (M + 4 + 3000 * hs.length + 1 + 1) ∧ Fr C C F u2 wx)
          case first =>
            go_region_law (first
              | (go_simp; go_at_call 30; refine (pick_any W C xc _ xa bs _ _ hC3d (by omega)).mono ?_; rintro e w4 ⟨r4, rfl, r40, r41, hC4, hP4⟩; have hfb4 : w4.heap[F]? = some (.cells #[.int .i64 rp, .int .i64 0, .slice none 0 0] 48 (0, 0)) := (by rw [hP4.block _ hFC]; exact hfb); have c4 := block_cell hfb4; have f4 := block_free hfb4))
            all_goals
              have wv : IntKind.i64.wrap (IntKind.i64.wrap (1 + rp) + r4) = 1 + rp + r4 := by rw [IntKind.wrap_i64, IntKind.wrap_i64]; omega
              rw [wv]
              go_simp
              go_wp2_with fail
              go_meet
              case rel => exact ⟨1 + rp + r4, by omega, by omega, by simpa using block_set (i := 1) hfb4 (.int .i64 (1 + rp + r4)), hC4.set (by simpa using hFC) (by simpa using hWF) _, (hf3.trans (Fr.px hP4.drew')).setFar (by simp) _⟩
          case rest =>
            obtain ⟨lv, lv1, lv4, hfc, hCc, hfr⟩ := hcut
            clear hfb hf3 hC3 hfb' hfbd hfd' hC3d HU
            have hDc := hD2.fr' hCc (hfr.low (by have := HFe.out; omega))
            have hRFc := hRF2.same (hD2.cur.sameC hfr (by have := HFe.out; omega))
            have hFlt := lt_block hfc
            go_wp2_with fail
            go_cut [8] from 31 to 72 (fun s8 wx => ∃ A fa fc, s8 = .pointer (some ⟨A, 0, none⟩) ∧ AsmAt W wx wx C A wx.heap.size xa bs xc fa fc (hs.map HF.p) n lv false (M + 4 + 3000 * hs.length + 1 + 1) 0 0 ∧ F < A ∧ wx.heap[F]? = some (.cells #[.int .i64 rp, .int .i64 lv, .slice none 0 0] 48 (0, 0)) ∧ Fr C C F u2 wx)
            case first =>
              have y0 := block_cell hDc.mod
              have y1 := block_cell hfc
              have hba := ((Below.refl wc.heap.size wc).alloc (Nat.le_refl _) (.cells #[] 48)).drew
              have y2 := block_cell (block_kept hDc.mod hba)
              have y3 := block_cell (block_kept hfc hba)
              by_cases hne0 : hs = []
              · subst hne0
                have HA : Hid (∀ (wx : World) (fa : Option Addr) (fc : Nat), Below wc.heap.size wc wx → AsmAt W (wx.alloc (.cells #[.pointer (some ⟨C, 0, none⟩), .slice none 0 0, .slice fa 0 fc, .int .i64 n, .int .i64 lv, .bool false] 82)) (wx.alloc (.cells #[.pointer (some ⟨C, 0, none⟩), .slice none 0 0, .slice fa 0 fc, .int .i64 n, .int .i64 lv, .bool false] 82)) C wx.heap.size (wx.heap.size + 1) xa bs xc fa fc [] n lv false (M + 4 + 3000 * 0 + 1 + 1) 0 0) := fun wx fa fc hb => asm_new (ps := []) (hCc.later hb) (fun i hi => absurd hi (by simp)) (by simp) (by simp) (by omega) (by omega) (by omega) (by omega)
                rcases ha with _ | ad
                all_goals
                  go_region
                  all_goals
                    go_simp
                    go_wp2_with fail
                    have hbe : Below wc.heap.size wc (wc.alloc (.cells #[] 48)) := (Below.refl wc.heap.size wc).alloc (Nat.le_refl _) _
                    have hAe := HA.out (wc.alloc (.cells #[] 48)) (some ⟨wc.heap.size, 0, none⟩) 0 hbe
                    have hbf := (hbe.alloc (by simp) (.cells #[.pointer (some ⟨C, 0, none⟩), .slice none 0 0, .slice (some ⟨wc.heap.size, 0, none⟩) 0 0, .int .i64 n, .int .i64 lv, .bool false] 82)).drew
                    simp only [World.size_alloc] at hAe
                    go_meet
                    case rel => exact ⟨wc.heap.size + 1, some ⟨wc.heap.size, 0, none⟩, 0, rfl, asm_start hAe.drew (by simp), by omega, block_kept hfc hbf, hfr.trans (Fr.below hbf (by omega))⟩
              · have hpos : 0 < hs.length := List.length_pos_iff.2 hne0
                have hs3 : hs.length ≤ 3 := by omega
                obtain ⟨gh, rfl, hgB, hglt, -, hcells⟩ := own_cells hRFc.own hpos
                have hE : (wc.alloc (.cells #[] 48)).drew.ownsRow wc.heap.size 48 3 (.slice (some ⟨wc.heap.size, 0, none⟩) 0 0) 0 [] := World.ownsRow_made (base := wc.heap.size) (e := 48) (size := 3) wc #[] 0 (Nat.le_refl _) (by unfold maxLen; omega) rfl
                have hnews : ∀ (j : Nat) (u : Value), (flatF hs)[j]? = some u → (wc.alloc (.cells #[] 48)).drew.cell? ((⟨gh, 0, none⟩ : Addr).add j) = some u := fun j u hj => by rw [Go.WideShapes.add_plain, Nat.zero_add]; exact cell_later hba (hcells j u hj)
                have HN : Hid (∀ (j : Nat) (u : Value), (flatF hs)[j]? = some u → (wc.alloc (.cells #[] 48)).drew.cell? ((⟨gh, 0, none⟩ : Addr).add j) = some u) := hnews
                have HS : Hid (∀ (g cp : Nat) (w4 : World), Below wc.heap.size wc w4 → w4.ownsRow wc.heap.size 48 3 (.slice (some ⟨g, 0, none⟩) (0 + hs.length) cp) (0 + hs.length) ([] ++ flatF hs) → AsmAt W (w4.alloc (.cells #[.pointer (some ⟨C, 0, none⟩), .slice none 0 0, .slice (some ⟨g, 0, none⟩) hs.length cp, .int .i64 n, .int .i64 lv, .bool false] 82)) (w4.alloc (.cells #[.pointer (some ⟨C, 0, none⟩), .slice none 0 0, .slice (some ⟨g, 0, none⟩) hs.length cp, .int .i64 n, .int .i64 lv, .bool false] 82)) C w4.heap.size (w4.heap.size + 1) xa bs xc (some ⟨g, 0, none⟩) cp (hs.map HF.p) n lv false (M + 4 + 3000 * hs.length + 1 + 1) 0 0) := by
                  intro g cp w4 hb4 hown4
                  rw [Nat.zero_add, List.nil_append] at hown4
                  obtain ⟨g', e', hg', hgl', -, hc4⟩ := own_cells hown4 hpos
                  cases e'
                  have hx := asm_new (W := W) (w := w4) (C := C) (xa := xa) (bs := bs) (xc := xc) (fa := some ⟨g, 0, none⟩) (fc := cp) (ps := hs.map HF.p) (tx := n) (lc := lv) (mb := false) (M := M + 4 + 3000 * hs.length + 1 + 1) (hCc.later hb4) (fun i hi => ⟨g, rfl, hgl', by omega, by
                    rw [List.length_map] at hi
                    rw [List.getElem_map]
                    exact hc4 _ _ (flatF_at hs i hi).1⟩) (by
                    intro p hp
                    obtain ⟨h, hh, rfl⟩ := List.mem_map.1 hp
                    exact hps h hh) (by rw [List.length_map]; omega) (by omega) (by omega) (by omega) (by omega)
                  rw [List.length_map] at hx
                  exact hx
                obtain ⟨i36, hi36, hz0, hz1, hz2⟩ := info_parts info48
                clear hnews
                go_region_law (refine step_append_lies _ (by rfl) _ _ _ (by rfl) wc.heap.size 48 i36 (.agg #[.int .i64 0, .int .i64 0, .slice none 0 0]) 3 40 Tryz.underlying25 hi36 hz0 hz1 hz2 rfl (by decide) _ _ _ (by rfl) hE ⟨gh, 0, none⟩ hs.length hc (flatF hs) (by rfl) (flatF_len hs) HN.out (flatF_one hs) hpos (by unfold maxLen; omega) (by omega) (by simp) _ (by rfl) ?_; intro g cp w4 hown4 hgrow4 hat4 hlt4; have hk4 := Keeps.grown (ts := [48]) hE hgrow4 (by simp); have hb4 : Below wc.heap.size wc w4 := hba.trans (hk4.toBelow (by simp)); have y4 := block_cell (block_kept hDc.mod hb4); have y5 := block_cell (block_kept hfc hb4))
                all_goals
                  go_simp
                  go_wp2_with fail
                  have hbf : Below wc.heap.size wc (w4.alloc (.cells #[.pointer (some ⟨C, 0, none⟩), .slice none 0 0, .slice (some ⟨g, 0, none⟩) hs.length cp, .int .i64 n, .int .i64 lv, .bool false] 82)) := hb4.alloc hb4.size _
                  have hsz4 := hb4.size
                  have hAe := HS.out g cp w4 hb4 hown4
                  go_meet
                  case rel => exact ⟨w4.heap.size, some ⟨g, 0, none⟩, cp, rfl, asm_start hAe (by simp), by omega, block_kept hfc hbf, hfr.trans (Fr.below hbf (by omega))⟩
            case rest =>
              obtain ⟨A, fa, fc, rfl, hA, hFA, hfx, hfr2⟩ := hcut
              obtain ⟨wd, rfl⟩ : ∃ wd, wd = wc := ⟨_, rfl⟩
              have b1 : SM 1 ≤ 5000 := by simp [SM]
              have b2 : SK 1 ≤ 2000 := by simp [SK]
              have hL1 : Hid (∀ w', AsmAt W wd w' C A wd.heap.size xa bs xc fa fc (hs.map HF.p) n lv false (M + 4 + 3000 * hs.length + 1 + 1 + 1) 0 0 → Calls Tryz.prog 48 #[.pointer (some ⟨A, 0, none⟩), .int .i64 1, .int .i64 2] w' fun e w'' => e = .returned (.tuple #[]) ∧ AsmAt W wd w'' C A wd.heap.size xa bs xc fa fc (hs.map HF.p) n lv false (M + 4 + 3000 * hs.length + 2604) 0 1000) := by
                intro w' h
                refine (list_any 1 stmt_one b1 b2 1 (by omega) (by omega) 2 (by omega) (by omega) h (by omega) (by omega)).mono ?_
                rintro e w'' ⟨rfl, h2⟩
                exact ⟨rfl, h2.mono (by simp [SM]) (by omega) (by simp [SK])⟩
              have hV : Hid ValOk := val_ok
              clear b1 b2 hDc hRFc hfc hCc hfr hFlt
              go_wp2_with fail
              refine (onceA hA _ (by omega) (by omega) (by omega)).mono ?_
              rintro e u4 ⟨ro, rfl, hA4⟩
              cases ro with
              | true =>
                go_wp2_with fail
                refine (hL1.out _ hA4).mono ?_
                rintro e u5 ⟨rfl, hA5⟩
                go_wp2_with fail
                refine (hV.out _ (by omega) hA5 (by omega) (by omega)).mono ?_
                rintro e u6 ⟨rfl, hA6⟩
                go_wp2_with fail
                refine (putA hA6 _ _ (by omega)).mono ?_
                rintro e u7 ⟨rfl, hA7⟩
                obtain ⟨ca, cc, nc, hb7, hr7, hn7, hm7⟩ := hA7.code
                have hFw := lt_block hfx
                have hAF : F ≠ A := by omega
                have hf7 : u7.heap[F]? = some (.cells #[.int .i64 rp, .int .i64 lv, .slice none 0 0] 48 (0, 0)) := by rw [hA7.fr.block F hFw hFC hAF]; exact hfx
                have x7 := block_cell hb7
                have y7 := block_cell hf7
                have z7 := block_free hf7
                have hFr7 : Fr C C F u2 u7 := hfr2.trans ⟨hA7.fr.os, hA7.fr.tape, hA7.fr.output, hA7.fr.size, fun k h1 h2 _ => hA7.fr.block k (by omega) h2 (by omega)⟩
                have hFr8 : Fr C C F u2 (u7.setCell ⟨F, 2, none⟩ (.slice ca nc cc)) := hFr7.setFar (by simp) _
                have hRF8 := hRF2.same (hD2.cur.sameC hFr8 (by have := HFe.out; omega))
                have hC8 := hA7.cur.set (p := ⟨F, 2, none⟩) (by simpa using hFC) (by simpa using hWF) (.slice ca nc cc)
                have hD8 := hD2.fr' hC8 (hFr8.low (by have := HFe.out; omega))
                have hr8 : RowI (u7.setCell ⟨F, 2, none⟩ (.slice ca nc cc)) (w.heap.size + 2) (.slice ca nc cc) nc := (hr7.keep (fun k hk _ => Below.heap_setCell _ _ _ _ (by simp; omega))).low (by have := hD2.size; have := hfr2.size; omega)
                have hf8 : (u7.setCell ⟨F, 2, none⟩ (.slice ca nc cc)).heap[F]? = some (.cells #[.int .i64 rp, .int .i64 lv, .slice ca nc cc] 48 (0, 0)) := by simpa using block_set (i := 2) hf7 (.slice ca nc cc)
                have y8 := block_cell hf8
                obtain ⟨i36, hi36, hz0, hz1, hz2⟩ := info_parts info48
                have hs3 : hs.length ≤ 3 := by omega
                have hsz8 := hD8.size
                have hnw : ((u7.setCell ⟨F, 2, none⟩ (.slice ca nc cc)).alloc (.cells #[.int .i64 rp, .int .i64 lv, .slice ca nc cc] 48)).heap[u7.heap.size]? = some (.cells #[.int .i64 rp, .int .i64 lv, .slice ca nc cc] 48 (0, 0)) := by simpa using block_new (u7.setCell ⟨F, 2, none⟩ (.slice ca nc cc)) #[.int .i64 rp, .int .i64 lv, .slice ca nc cc] 48
                go_wp2_with (at_builtin; (refine wpList_append_lies _ rfl _ _ 25 rfl (w.heap.size + 2) 48 i36 (.agg #[.int .i64 0, .int .i64 0, .slice none 0 0]) 3 40 Tryz.underlying25 hi36 hz0 hz1 hz2 rfl (by decide) _ _ _ rfl (World.ownsRow.alloc hRF8.own _) ⟨u7.heap.size, 0, none⟩ 1 1 [.int .i64 rp, .int .i64 lv, .slice ca nc cc] rfl rfl (World.news_of_block (cs := #[.int .i64 rp, .int .i64 lv, .slice ca nc cc]) (t := 48) (fr := (0, 0)) hnw) (by simp [Value.oneCell']) (by decide) (by unfold maxLen; omega) (by omega) (by simp at hsz8 ⊢; omega) _ rfl ?_); intro g9 cap9 w9 hown9 hgrow9 hat9 hlt9)
                have hb8 : Below (u7.setCell ⟨F, 2, none⟩ (.slice ca nc cc)).heap.size (u7.setCell ⟨F, 2, none⟩ (.slice ca nc cc)) ((u7.setCell ⟨F, 2, none⟩ (.slice ca nc cc)).alloc (.cells #[.int .i64 rp, .int .i64 lv, .slice ca nc cc] 48)) := (Below.refl _ _).alloc (Nat.le_refl _) _
                have hk9 := Keeps.grown (ts := [48]) (World.ownsRow.alloc hRF8.own (.cells #[.int .i64 rp, .int .i64 lv, .slice ca nc cc] 48)) hgrow9 (by simp)
                have hle9 : (hs ++ [(⟨rp, lv, ca, nc, cc⟩ : HF)]).length = hs.length + 1 := by simp
                have hD9 := ((hD8.later hb8).keeps hk9).grow (M' := M + 4 + 3000 * (hs ++ [(⟨rp, lv, ca, nc, cc⟩ : HF)]).length) (by rw [hle9]; omega)
                have hRF9 := (hRF8.same (Same.below hb8)).add ⟨rp, lv, ca, nc, cc⟩ (hr8.same (Same.below hb8)) (by simp; omega) (by simp; omega) hk9 hown9
                go_roundw
                case rel => exact ⟨k - 1, hs ++ [⟨rp, lv, ca, nc, cc⟩], some ⟨g9, 0, none⟩, cap9, by rw [hle9]; omega, by congr 1; omega, by rw [hle9], by rw [hle9]; exact hRF9, fun h hh => (by
                  rcases List.mem_append.1 hh with hh | hh
                  · exact hps h hh
                  · simp at hh
                    subst hh
                    exact ⟨rp0, show rp ≤ 2 by omega⟩), hD9⟩
                case measure => simp [intOf]; omega
              | false =>
                have hA5 := hA4.mono (M' := M + 4 + 3000 * hs.length + 2604) (L' := 0) (K' := 1000) (by omega) (by omega) (by omega)
                obtain ⟨u5, rfl⟩ : ∃ u5, u5 = u4 := ⟨_, rfl⟩
                clear hA4
                go_wp2_with fail
                refine (hV.out _ (by omega) hA5 (by omega) (by omega)).mono ?_
                rintro e u6 ⟨rfl, hA6⟩
                go_wp2_with fail
                refine (putA hA6 _ _ (by omega)).mono ?_
                rintro e u7 ⟨rfl, hA7⟩
                obtain ⟨ca, cc, nc, hb7, hr7, hn7, hm7⟩ := hA7.code
                have hFw := lt_block hfx
                have hAF : F ≠ A := by omega
                have hf7 : u7.heap[F]? = some (.cells #[.int .i64 rp, .int .i64 lv, .slice none 0 0] 48 (0, 0)) := by rw [hA7.fr.block F hFw hFC hAF]; exact hfx
                have x7 := block_cell hb7
                have y7 := block_cell hf7
                have z7 := block_free hf7
                have hFr7 : Fr C C F u2 u7 := hfr2.trans ⟨hA7.fr.os, hA7.fr.tape, hA7.fr.output, hA7.fr.size, fun k h1 h2 _ => hA7.fr.block k (by omega) h2 (by omega)⟩
                have hFr8 : Fr C C F u2 (u7.setCell ⟨F, 2, none⟩ (.slice ca nc cc)) := hFr7.setFar (by simp) _
                have hRF8 := hRF2.same (hD2.cur.sameC hFr8 (by have := HFe.out; omega))
                have hC8 := hA7.cur.set (p := ⟨F, 2, none⟩) (by simpa using hFC) (by simpa using hWF) (.slice ca nc cc)
                have hD8 := hD2.fr' hC8 (hFr8.low (by have := HFe.out; omega))
                have hr8 : RowI (u7.setCell ⟨F, 2, none⟩ (.slice ca nc cc)) (w.heap.size + 2) (.slice ca nc cc) nc := (hr7.keep (fun k hk _ => Below.heap_setCell _ _ _ _ (by simp; omega))).low (by have := hD2.size; have := hfr2.size; omega)
                have hf8 : (u7.setCell ⟨F, 2, none⟩ (.slice ca nc cc)).heap[F]? = some (.cells #[.int .i64 rp, .int .i64 lv, .slice ca nc cc] 48 (0, 0)) := by simpa using block_set (i := 2) hf7 (.slice ca nc cc)
                have y8 := block_cell hf8
                obtain ⟨i36, hi36, hz0, hz1, hz2⟩ := info_parts info48
                have hs3 : hs.length ≤ 3 := by omega
                have hsz8 := hD8.size
                have hnw : ((u7.setCell ⟨F, 2, none⟩ (.slice ca nc cc)).alloc (.cells #[.int .i64 rp, .int .i64 lv, .slice ca nc cc] 48)).heap[u7.heap.size]? = some (.cells #[.int .i64 rp, .int .i64 lv, .slice ca nc cc] 48 (0, 0)) := by simpa using block_new (u7.setCell ⟨F, 2, none⟩ (.slice ca nc cc)) #[.int .i64 rp, .int .i64 lv, .slice ca nc cc] 48
                go_wp2_with (at_builtin; (refine wpList_append_lies _ rfl _ _ 25 rfl (w.heap.size + 2) 48 i36 (.agg #[.int .i64 0, .int .i64 0, .slice none 0 0]) 3 40 Tryz.underlying25 hi36 hz0 hz1 hz2 rfl (by decide) _ _ _ rfl (World.ownsRow.alloc hRF8.own _) ⟨u7.heap.size, 0, none⟩ 1 1 [.int .i64 rp, .int .i64 lv, .slice ca nc cc] rfl rfl (World.news_of_block (cs := #[.int .i64 rp, .int .i64 lv, .slice ca nc cc]) (t := 48) (fr := (0, 0)) hnw) (by simp [Value.oneCell']) (by decide) (by unfold maxLen; omega) (by omega) (by simp at hsz8 ⊢; omega) _ rfl ?_); intro g9 cap9 w9 hown9 hgrow9 hat9 hlt9)
                have hb8 : Below (u7.setCell ⟨F, 2, none⟩ (.slice ca nc cc)).heap.size (u7.setCell ⟨F, 2, none⟩ (.slice ca nc cc)) ((u7.setCell ⟨F, 2, none⟩ (.slice ca nc cc)).alloc (.cells #[.int .i64 rp, .int .i64 lv, .slice ca nc cc] 48)) := (Below.refl _ _).alloc (Nat.le_refl _) _
                have hk9 := Keeps.grown (ts := [48]) (World.ownsRow.alloc hRF8.own (.cells #[.int .i64 rp, .int .i64 lv, .slice ca nc cc] 48)) hgrow9 (by simp)
                have hle9 : (hs ++ [(⟨rp, lv, ca, nc, cc⟩ : HF)]).length = hs.length + 1 := by simp
                have hD9 := ((hD8.later hb8).keeps hk9).grow (M' := M + 4 + 3000 * (hs ++ [(⟨rp, lv, ca, nc, cc⟩ : HF)]).length) (by rw [hle9]; omega)
                have hRF9 := (hRF8.same (Same.below hb8)).add ⟨rp, lv, ca, nc, cc⟩ (hr8.same (Same.below hb8)) (by simp; omega) (by simp; omega) hk9 hown9
                go_roundw
                case rel => exact ⟨k - 1, hs ++ [⟨rp, lv, ca, nc, cc⟩], some ⟨g9, 0, none⟩, cap9, by rw [hle9]; omega, by congr 1; omega, by rw [hle9], by rw [hle9]; exact hRF9, fun h hh => (by
                  rcases List.mem_append.1 hh with hh | hh
                  · exact hps h hh
                  · simp at hh
                    subst hh
                    exact ⟨rp0, show rp ≤ 2 by omega⟩), hD9⟩
                case measure => simp [intOf]; omega
        · have hk2' : (k : Int) ≤ 0 := by omega
          have hs3 : hs.length ≤ 3 := by omega
          go_wp2_with fail
          refine (pick_any W C xc _ xa bs _ _ hD.cur (by omega)).mono ?_
          rintro e u2 ⟨rp, rfl, rp0, rp1, hC2, hP2⟩
          have hD2 := hD.px hC2 hP2
          have hRF2 := hRFr.same (hD.cur.same hP2)
          go_wp2_with fail
          refine (pick_any W C xc _ xa bs _ _ hC2 (by omega)).mono ?_
          rintro e u3 ⟨rq, rfl, rq0, rq1, hC3, hP3⟩
          have hD3 := hD2.px hC3 hP3
          have hRF3 := hRF2.same (hC2.same hP3)
          clear hD hRFr hC2 hP2 hD2 hRF2 hP3
          obtain ⟨F, hFe⟩ : ∃ F, F = u3.heap.size := ⟨_, rfl⟩
          have hb3 : Below u3.heap.size u3 (u3.alloc (.cells #[.int .i64 rp, .int .i64 (3 + rq), .slice none 0 0] 48)) := (Below.refl _ _).alloc (Nat.le_refl _) _
          have hf3 := block_new u3 #[.int .i64 rp, .int .i64 (3 + rq), .slice none 0 0] 48
          have y0 := block_cell (block_kept hD3.mod hb3)
          have y1 := block_cell hf3
          have hsz3 := hD3.size
          have hlt3 := hD3.lt
          have hA0 := asm_new (W := W) (w := u3.alloc (.cells #[.int .i64 rp, .int .i64 (3 + rq), .slice none 0 0] 48)) (C := C) (xa := xa) (bs := bs) (xc := xc) (fa := ha) (fc := hc) (ps := hs.map HF.p) (tx := n) (lc := 3 + rq) (mb := true) (hC3.later hb3) (fun i hi => by
            rw [List.length_map] at hi
            obtain ⟨g, e1, e2, e3, -, e4⟩ := own_cells hRF3.own (by omega)
            refine ⟨g, e1, by simp; omega, by omega, ?_⟩
            rw [List.getElem_map]
            exact cell_later hb3 (e4 _ _ (flatF_at hs i hi).1)) (by
            intro p hp
            obtain ⟨h, hh, rfl⟩ := List.mem_map.1 hp
            exact hps h hh) (by rw [List.length_map]; omega) (by omega) (by omega) (by omega) (by omega)
          rw [List.length_map] at hA0
          simp only [World.size_alloc] at hA0
          go_wp2_with fail
          refine (size_any W C xc _ xa bs 5 _ hA0.cur (by omega) (by omega) (by omega)).mono ?_
          rintro e u4 ⟨rs, rfl, rs0, rs1, hC4, hP4⟩
          have hA4 := hA0.px hC4 hP4
          obtain ⟨mo, hmo⟩ : ∃ mo : Nat, 1 + rs = mo := ⟨(1 + rs).toNat, by omega⟩
          have hmo1 : 1 ≤ mo := by omega
          have hmo6 : mo ≤ 6 := by omega
          have b1 : SM 2 = 3300 := by simp [SM]
          have b2 : SK 2 = 1300 := by simp [SK]
          have hV : Hid ValOk := val_ok
          have B1 : Hid (SM 2 = 3300) := b1
          have B2 : Hid (SK 2 = 1300) := b2
          clear hA0 hC4 hP4 b1 b2
          go_wp2_with fail
          refine (list_any 2 stmt_two (by rw [B1.out]; omega) (by rw [B2.out]; omega) 2 (by omega) (by omega) mo hmo1 hmo6 hA4 (by omega) (by omega)).mono ?_
          rintro e u5 ⟨rfl, hA5'⟩
          have mm1 : mo * SM 2 ≤ 6 * 3300 := by rw [B1.out]; exact Nat.mul_le_mul_right _ hmo6
          have mm2 : mo * SK 2 ≤ 6 * 1300 := by rw [B2.out]; exact Nat.mul_le_mul_right _ hmo6
          have hA5 := hA5'.mono (M' := M + 9010 + 19810) (L' := 0) (K' := 7800) (by omega) (by omega) (by omega)
          clear hA5' hA4 mm1 mm2
          go_wp2_with fail
          refine (hV.out _ (by omega) hA5 (by omega) (by omega)).mono ?_
          rintro e u6 ⟨rfl, hA6⟩
          go_wp2_with fail
          refine (putA hA6 _ _ (by omega)).mono ?_
          rintro e u7 ⟨rfl, hA7⟩
          obtain ⟨ca, cc, nc, hb7, hr7, hn7, hm7⟩ := hA7.code
          have hf7 : u7.heap[u3.heap.size]? = some (.cells #[.int .i64 rp, .int .i64 (3 + rq), .slice none 0 0] 48 (0, 0)) := by rw [hA7.fr.block _ (by omega) (by omega) (by omega)]; exact block_old hf3 _
          have x7 := block_cell hb7
          have y7 := block_cell hf7
          have z7 := block_free hf7
          have hFr7 : Fr C C u3.heap.size u3 u7 := (Fr.below (hb3.alloc (by simp) _) (Nat.le_refl _)).trans ⟨hA7.fr.os, hA7.fr.tape, hA7.fr.output, hA7.fr.size, fun k h1 h2 _ => hA7.fr.block k (by omega) h2 (by omega)⟩
          have hFr8 : Fr C C u3.heap.size u3 (u7.setCell ⟨u3.heap.size, 2, none⟩ (.slice ca nc cc)) := hFr7.setFar (by simp) _
          have hRF8 := hRF3.same (hC3.sameC hFr8 (Nat.le_refl _))
          have hC8 := hA7.cur.set (p := ⟨u3.heap.size, 2, none⟩) (by simp; omega) (by simp; omega) (.slice ca nc cc)
          have hD8 := hD3.fr' hC8 hFr8
          have hr8 : RowI (u7.setCell ⟨u3.heap.size, 2, none⟩ (.slice ca nc cc)) (w.heap.size + 2) (.slice ca nc cc) nc := (hr7.keep (fun k hk _ => Below.heap_setCell _ _ _ _ (by simp; omega))).low (by omega)
          have hf8 : (u7.setCell ⟨u3.heap.size, 2, none⟩ (.slice ca nc cc)).heap[u3.heap.size]? = some (.cells #[.int .i64 rp, .int .i64 (3 + rq), .slice ca nc cc] 48 (0, 0)) := by simpa using block_set (i := 2) hf7 (.slice ca nc cc)
          have y8 := block_cell hf8
          have hsz8 := hD8.size
          have hb8 : Below (u7.setCell ⟨u3.heap.size, 2, none⟩ (.slice ca nc cc)).heap.size (u7.setCell ⟨u3.heap.size, 2, none⟩ (.slice ca nc cc)) ((u7.setCell ⟨u3.heap.size, 2, none⟩ (.slice ca nc cc)).alloc (.cells #[.int .i64 rp, .int .i64 (3 + rq), .slice ca nc cc] 48)) := (Below.refl _ _).alloc (Nat.le_refl _) _
          have hnw : ((u7.setCell ⟨u3.heap.size, 2, none⟩ (.slice ca nc cc)).alloc (.cells #[.int .i64 rp, .int .i64 (3 + rq), .slice ca nc cc] 48)).heap[u7.heap.size]? = some (.cells #[.int .i64 rp, .int .i64 (3 + rq), .slice ca nc cc] 48 (0, 0)) := by simpa using block_new (u7.setCell ⟨u3.heap.size, 2, none⟩ (.slice ca nc cc)) #[.int .i64 rp, .int .i64 (3 + rq), .slice ca nc cc] 48
          have hsz7 : w.heap.size + 2 ≤ u7.heap.size := by simpa using hsz8
          have hown0 : ((u7.setCell ⟨u3.heap.size, 2, none⟩ (.slice ca nc cc)).alloc (.cells #[.int .i64 rp, .int .i64 (3 + rq), .slice ca nc cc] 48)).ownsRow (w.heap.size + 2) 48 3 (.slice (some ⟨u7.heap.size, 0, none⟩) 1 1) 1 [.int .i64 rp, .int .i64 (3 + rq), .slice ca nc cc] := ⟨rfl, .inr ⟨u7.heap.size, 1, #[.int .i64 rp, .int .i64 (3 + rq), .slice ca nc cc], rfl, hsz7, hnw, by omega, by unfold maxLen; omega, rfl, rfl⟩⟩
          have hD8a := hD8.later hb8
          have hRF8a := hRF8.same (Same.below hb8)
          have hr8a := hr8.same (Same.below hb8)
          clear hA7 hA6 hA5 hD8 hRF8 hr8 hC8 hr7
          by_cases hne0 : hs = []
          · subst hne0
            have hRF9 : RowF ((u7.setCell ⟨u3.heap.size, 2, none⟩ (.slice ca nc cc)).alloc (.cells #[.int .i64 rp, .int .i64 (3 + rq), .slice ca nc cc] 48)) (w.heap.size + 2) (.slice (some ⟨u7.heap.size, 0, none⟩) 1 1) [⟨rp, 3 + rq, ca, nc, cc⟩] := ⟨hown0, fun x hx => by
              simp at hx
              subst hx
              exact ⟨hr8a, by simp; omega, by simp; omega⟩⟩
            have m9 := block_cell hD8a.mod
            have f9 := block_free hD8a.mod
            have r9 := block_cell hD8a.res
            have s9 := block_free hD8a.res
            obtain ⟨wf, hwf, hRf, hTf, hFf, hCf, hFrf⟩ := hD8a.done hRF9
            have rr := block_cell hRf
            have Hwf : Hid (wf = _) := hwf
            clear hwf
            rcases ha with _ | ad
            all_goals
              go_wp2
              rw [← Hwf.out]
              refine bodyPost_ret (v := .agg #[.slice ta n tc, .slice (some ⟨u7.heap.size, 0, none⟩) 1 1]) (by simp [results, Tryz.results34, go_sem, rr]) rfl ⟨ta, n, tc, some ⟨u7.heap.size, 0, none⟩, 1, ⟨rp, 3 + rq, ca, nc, cc⟩ :: [], rfl, hTf, hn2, hFf, by simp, by simp, hCf.grow (by omega), hFrf⟩
          · have hpos : 0 < hs.length := List.length_pos_iff.2 hne0
            obtain ⟨gh, rfl, hgB, hglt, -, hcells⟩ := own_cells hRF8a.own hpos
            have HN : Hid (∀ (j : Nat) (u : Value), (flatF hs)[j]? = some u → ((u7.setCell ⟨u3.heap.size, 2, none⟩ (.slice ca nc cc)).alloc (.cells #[.int .i64 rp, .int .i64 (3 + rq), .slice ca nc cc] 48)).cell? ((⟨gh, 0, none⟩ : Addr).add j) = some u) := fun j u hj => by rw [Go.WideShapes.add_plain, Nat.zero_add]; exact hcells j u hj
            obtain ⟨i36, hi36, hz0, hz1, hz2⟩ := info_parts info48
            go_wp2_with (at_builtin; (refine wpList_append_lies _ rfl _ _ 25 rfl (w.heap.size + 2) 48 i36 (.agg #[.int .i64 0, .int .i64 0, .slice none 0 0]) 3 40 Tryz.underlying25 hi36 hz0 hz1 hz2 rfl (by decide) _ _ _ rfl hown0 ⟨gh, 0, none⟩ hs.length hc (flatF hs) rfl (flatF_len hs) HN.out (flatF_one hs) hpos (by unfold maxLen; omega) (by omega) (by simp at hsz8 ⊢; omega) _ rfl ?_); intro g9 cap9 w9 hown9 hgrow9 hat9 hlt9; have hk9 := Keeps.grown (ts := [48]) hown0 hgrow9 (by simp); have hD9 := hD8a.keeps hk9; have m9 := block_cell hD9.mod; have f9 := block_free hD9.mod; have r9 := block_cell hD9.res; have s9 := block_free hD9.res)
            have e1 : 1 + hs.length = hs.length + 1 := Nat.add_comm _ _
            rw [e1] at hown9 ⊢
            have hRF9 : RowF w9 (w.heap.size + 2) (.slice (some ⟨g9, 0, none⟩) (hs.length + 1) cap9) (⟨rp, 3 + rq, ca, nc, cc⟩ :: hs) := ⟨hown9, fun x hx => by
              rcases List.mem_cons.1 hx with rfl | hx
              · exact ⟨hr8a.keeps hk9 (by simp), by simp; omega, by simp; omega⟩
              · exact ⟨(hRF8a.code x hx).1.keeps hk9 (by simp), (hRF8a.code x hx).2⟩⟩
            obtain ⟨wf, hwf, hRf, hTf, hFf, hCf, hFrf⟩ := hD9.done hRF9
            have rr := block_cell hRf
            rw [← hwf]
            refine bodyPost_ret (v := .agg #[.slice ta n tc, .slice (some ⟨g9, 0, none⟩) (hs.length + 1) cap9]) (by simp [results, Tryz.results34, go_sem, rr]) rfl ⟨ta, n, tc, some ⟨g9, 0, none⟩, cap9, ⟨rp, 3 + rq, ca, nc, cc⟩ :: hs, rfl, hTf, hn2, hFf, by simp, by simp; omega, hCf.grow (by omega), hFrf⟩
end Go.Proofs.YtpmkfdinkomaiaaGreatDoor
