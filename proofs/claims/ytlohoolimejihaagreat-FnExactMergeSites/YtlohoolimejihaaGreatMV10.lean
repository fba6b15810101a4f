/-
  The places of a profile in order: slices.Collect, slices.SortedFunc of maps.Keys.
  The places of a profile in order: slices.SortFunc, slices.SortedFunc.
-/
import Derived.Test.YtlohoolimejihaaGreatMV9
namespace Go.Proofs.YtlohoolimejihaaGreat
open Go.RowKit Go.Sort Go.Lib Go.Shelf

theorem keys_any (b : Nat) (w : World) : Calls Tryz.prog 78 #[.map (some b)] w fun e w' => e = .returned (.func (.func 113) #[] #[.pointer (some ⟨w.heap.size, 0, none⟩)]) ∧ w' = w.alloc (.cells #[.map (some b)] 75) := by
  go_enter Tryz.func78, Tryz.ntmps78
  go_wp2
  go_ret
  exact ⟨rfl, rfl⟩

set_option maxRecDepth 100000 in
set_option maxHeartbeats 1000000 in
theorem collect_any (Bm b : Nat) (ws : List Wt) (w : World) (hm : w.cell? ⟨Bm, 0, none⟩ = some (.map (some b))) (hown : MapW w b ws) (hl : ws.length ≤ 1000) :
    Calls Tryz.prog 111 #[.func (.func 113) #[] #[.pointer (some ⟨Bm, 0, none⟩)]] w (CollPost ws w) := by
  refine (callsIn_wide (n := 5)).1 ?_
  refine callsIn_of_wp Tryz.func111 rfl trivial ?_ rfl
  simp only [Tryz.ntmps111, List.size_toArray, List.length_cons, List.length_nil, Nat.reduceAdd, Nat.reduceSub, Array.replicate_succ, Array.replicate_zero, List.push_toArray, List.append_toArray, List.nil_append, List.cons_append]
  gi_wp2
  refine ⟨trivial, ?_⟩
  refine (appendSeq_in 4 (by omega) Bm b ws w hm hown hl).mono ?_
  rintro e w2 ⟨v, ss, rfl, h1, h2, h3⟩
  have HR : Hid (CollPost ws w (.returned v) w2) := ⟨v, ss, rfl, h1, h2, h3⟩
  clear h1 h2 h3
  gi_wp2
  go_ret
  exact HR.out

/-- A row of places that can be read. -/
def PlAt (w : World) (a : Option Addr) (S : List (Int × Int)) : Prop := ∀ i (h : i < S.length), ∃ g, a = some ⟨g, 0, none⟩ ∧ w.cell? ⟨g, i * 2, none⟩ = some (.int .i64 S[i].1) ∧ w.cell? ⟨g, i * 2 + 1, none⟩ = some (.int .i64 S[i].2)
theorem PlAt.mono {w w' : World} {a : Option Addr} {S : List (Int × Int)} (h : PlAt w a S) (hb : Below w.heap.size w w') : PlAt w' a S := fun i hi => by
  obtain ⟨g, h1, h2, h3⟩ := h i hi
  exact ⟨g, h1, cell_later hb h2, cell_later hb h3⟩
theorem places_nodup {ws : List Wt} (h : Places ws) : (ws.map fun W => (W.f, W.p)).Nodup := by
  unfold List.Nodup
  rw [List.pairwise_map]
  exact h.imp (fun {V W} q e => q ⟨congrArg Prod.fst e, congrArg Prod.snd e⟩)
def SortPost (ws : List Wt) (w : World) : Ending → World → Prop := fun e w' => ∃ a S cap, e = .returned (.slice a S.length cap) ∧ S.Pairwise PLt ∧ S.Perm (ws.map fun W => (W.f, W.p)) ∧ PlAt w' a S ∧ Below w.heap.size w w'

end Go.Proofs.YtlohoolimejihaaGreat

namespace Go.Proofs.YtlohoolimejihaaGreat
open Go.RowKit Go.Sort Go.Lib Go.Shelf

/-- What sorting a row of places leaves. -/
theorem sorted_row {g cap n' : Nat} {os : Array Obj} {ss : List (Int × Int)} {d' : Array (Int × Int)} {w1 : World} (hS : Sp w1 g cap ss.toArray) (hnd : ss.Nodup) (hpi : PermIn 0 ss.toArray.size ss.toArray d') (hsd : SortedIn (ltOf cmpP) 0 ss.length d') :
    d'.toList.length = ss.length ∧ d'.toList.Pairwise PLt ∧ d'.toList.Perm ss ∧ PlAt (sortWorldK encPl 2 w1 g 0 n' d' os) (some ⟨g, 0, none⟩) d'.toList ∧ w1.grownBy (sortWorldK encPl 2 w1 g 0 n' d' os) (some g) := by
  have hsz : d'.size = ss.length := by have := hpi.1; simpa using this
  have hS1 : Sp (sortWorldK encPl 2 w1 g 0 n' d' os) g cap d' := hS.sorted (by simp [hsz])
  have hpl : d'.toList.Perm ss := by simpa using perm_list hpi
  have hnd2 : d'.toList.Nodup := hpl.nodup_iff.2 hnd
  refine ⟨by simp [hsz], ?_, hpl, ?_, grownBy_sorted' id (flatK encPl 2 d')⟩
  · rw [List.pairwise_iff_getElem]
    intro i j hi hj hij
    have hi' : i < d'.size := by simpa using hi
    have hj' : j < d'.size := by simpa using hj
    have h1 := hsd i j (Nat.zero_le _) hij (by omega)
    rw [getElem!_pos d' i hi', getElem!_pos d' j hj', ltP] at h1
    have h2 := of_decide_eq_false h1
    have h3 := (List.pairwise_iff_getElem.1 hnd2) i j hi hj hij
    simp only [Array.getElem_toList] at h3 ⊢
    unfold PLt at h2 ⊢
    by_cases e1 : d'[i].1 = d'[j].1
    · by_cases e2 : d'[i].2 = d'[j].2
      · exact absurd (Prod.ext e1 e2) h3
      · omega
    · omega
  · intro i hi
    obtain ⟨cur, k1, -, -, k4⟩ := hS1
    have hi' : i < d'.size := by simpa using hi
    have := k4 i hi'
    rw [getElem!_pos d' i hi'] at this
    refine ⟨g, rfl, ?_, ?_⟩
    · rw [block_cell k1]; simpa using this.1
    · rw [block_cell k1]; simpa using this.2

/-- slices.SortFunc at a row of places. -/
def SortedP (g : Nat) (ss : List (Int × Int)) (w1 : World) : Ending → World → Prop := fun e w' => e = .returned (.tuple #[]) ∧ ∃ S : List (Int × Int), S.length = ss.length ∧ S.Pairwise PLt ∧ S.Perm ss ∧ PlAt w' (some ⟨g, 0, none⟩) S ∧ w1.grownBy w' (some g)
theorem sortFunc_any (g cap : Nat) (ss : List (Int × Int)) (w1 : World) (hS : Sp w1 g cap ss.toArray) (hnd : ss.Nodup) (hl : ss.length ≤ 1000) :
    Calls Tryz.prog 112 #[.slice (some ⟨g, 0, none⟩) ss.length cap, .func (.func 79) #[] #[]] w1 (SortedP g ss w1) := by
  have eg : ∀ args w, (callFunc 79 args).run Tryz.prog w = .ok (.enter 79 args) w := enters_of Tryz.func79 (by kernel_rfl) rfl
  have hcon := AnyQ.slices_SortFunc Tryz.sortPlace 2 Tryz.isAgg134 Tryz.sizeOf134 encPl (fun _ => rfl) (fun x v hv => by simp [encPl] at hv; rcases hv with rfl | rfl <;> rfl) cmpP swoP 79 #[] g 0 cap ss.toArray w1 eg (cmpLaysP g 0 _ w1) hS.holds hS.lt (by simp; omega)
  change Calls Tryz.prog 112 _ _ _ at hcon
  have e : ss.toArray.size = ss.length := by simp
  refine (show Calls Tryz.prog 112 #[.slice (some ⟨g, 0, none⟩) ss.toArray.size cap, .func (.func 79) #[] #[]] w1 (SortedP g ss w1) → Calls Tryz.prog 112 #[.slice (some ⟨g, 0, none⟩) ss.length cap, .func (.func 79) #[] #[]] w1 (SortedP g ss w1) from fun h => by rw [e] at h; exact h) (hcon.mono ?_)
  rintro e2 w2 ⟨h1, d', n', os, hpi, hsd, rfl⟩
  obtain ⟨k1, k2, k3, k4, k5⟩ := sorted_row (n' := n') (os := os) hS hnd hpi (by rw [e] at hsd; exact hsd)
  exact ⟨h1, d'.toList, k1, k2, k3, k4, k5⟩

set_option maxRecDepth 100000 in
set_option maxHeartbeats 400000 in
theorem sortedFunc_any (Bm b : Nat) (ws : List Wt) (w : World) (hm : w.cell? ⟨Bm, 0, none⟩ = some (.map (some b))) (hown : MapW w b ws) (hp : Places ws) (hl : ws.length ≤ 1000) :
    Calls Tryz.prog 77 #[.func (.func 113) #[] #[.pointer (some ⟨Bm, 0, none⟩)], .func (.func 79) #[] #[]] w (SortPost ws w) := by
  have hcol := collect_any Bm b ws w hm hown hl
  have HL := hidz hl
  have HPL := hidz hp
  clear hm hown hl hp
  go_enter Tryz.func77, Tryz.ntmps77
  go_wp2_with fail
  refine hcol.mono ?_
  clear hcol
  rintro e w1 ⟨v, ss, rfl, hperm, hrow, hb1⟩
  have HLN : Hid (ss.length = ws.length) := by simpa [Hid] using hperm.length_eq
  have HP := hidz hperm
  have HB := hidz hb1
  have HROW := hidz hrow
  clear hperm hb1
  obtain ⟨a, cap, rfl⟩ := own_formz hrow
  clear hrow
  by_cases h0 : ss = []
  · subst h0
    have hcon : Calls Tryz.prog 112 #[.slice a 0 cap, .func (.func 79) #[] #[]] w1 fun e w' => e = .returned (.tuple #[]) ∧ w' = w1 := AnyF.slices_SortFunc_none { Tryz.sortPlace with } a cap (.func (.func 79) #[] #[]) w1
    have HR : Hid (SortPost ws w (.returned (.slice a 0 cap)) w1) := ⟨a, [], cap, rfl, List.Pairwise.nil, HP.out, fun i h => absurd h (by simp), HB.out⟩
    clear HP HB HROW HLN
    go_wp2_with fail
    refine hcon.mono ?_
    clear hcon
    rintro e w2 ⟨rfl, rfl⟩
    go_wp2
    go_ret
    exact HR.out
  have hl0 : ss.length ≠ 0 := fun q => h0 (List.eq_nil_of_length_eq_zero q)
  obtain ⟨g, hxa⟩ : ∃ g, a = some ⟨g, 0, none⟩ := by
    rcases HROW.out.2 with ⟨-, q⟩ | ⟨g, cap', cur, e, -⟩
    · exact absurd q hl0
    · cases e; exact ⟨g, rfl⟩
  subst hxa
  obtain ⟨hS, hg⟩ := own_Sp HROW.out
  have hcon := sortFunc_any g cap ss w1 hS (HP.out.nodup_iff.2 (places_nodup HPL.out)) (by rw [HLN.out]; exact HL.out)
  have HG := hidz hg
  clear hS hg HROW h0 hl0
  go_wp2_with fail
  refine hcon.mono ?_
  clear hcon
  rintro e w2 ⟨rfl, S, k1, k2, k3, k4, k5⟩
  have HR : Hid (SortPost ws w (.returned (.slice (some ⟨g, 0, none⟩) ss.length cap)) w2) :=
    ⟨_, S, cap, by rw [k1], k2, k3.trans HP.out, k4, HB.out.grown k5 HB.out.size (fun k e => by cases e; exact HG.out)⟩
  clear k1 k2 k3 k4 k5
  go_wp2
  go_ret
  exact HR.out

end Go.Proofs.YtlohoolimejihaaGreat
