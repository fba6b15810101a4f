/-
  States ahead of the first step: they are compared, and what their blocks hold.
-/
import Derived.Test.YtoabnejocbnflaaGreatZN1
import Derived.Test.YtoabnejocbnflaaGreatZM5
namespace Go.Proofs.YtoabnejocbnflaaGreat
open Go.RowKit

def zeroD : VmD := ⟨[], [], 0, [], 0, 0, nilV, 0⟩
def oneD (vs : List Vl) (L : Nat) : VmD := ⟨[⟨0, 0, padded vs L, []⟩], [], 0, [], 0, 0, nilV, 0⟩

/-- A block of values, and nil behind them. -/
def PadCur (cur : Array Value) (vs : List Vl) (L : Nat) : Prop := cur.size = L * 3 ∧ ∀ j (hj : j < (padded vs L).length), cur[j * 3]? = some (.int .i64 (padded vs L)[j].k) ∧ cur[j * 3 + 1]? = some (.int .i64 (padded vs L)[j].n) ∧ cur[j * 3 + 2]? = some (.string (padded vs L)[j].s)
theorem pad_of {w : World} {g L lo : Nat} {vs : List Vl} (hv : ValsAt w lo (some ⟨g, 0, none⟩) (padded vs L)) (hb : ValsBlk w g L) : ∃ cur, w.heap[g]? = some (.cells cur 32 (0, 0)) ∧ PadCur cur vs L := by
  obtain ⟨cur, h1, h2⟩ := hb
  refine ⟨cur, h1, h2, fun j hj => ?_⟩
  obtain ⟨b, off, e, -, k1, k2, k3⟩ := hv j hj
  cases e
  rw [block_cell h1, Nat.zero_add] at k1 k2 k3
  exact ⟨k1, k2, k3⟩
theorem PadCur.vals {w : World} {g L : Nat} {vs : List Vl} {cur : Array Value} (h : PadCur cur vs L) (hc : w.heap[g]? = some (.cells cur 32 (0, 0))) : ValsAt w 0 (some ⟨g, 0, none⟩) (padded vs L) := fun j hj => by
  obtain ⟨k1, k2, k3⟩ := h.2 j hj
  exact ⟨g, 0, rfl, Nat.zero_le _, by rw [block_cell hc, Nat.zero_add]; exact k1, by rw [block_cell hc, Nat.zero_add]; exact k2, by rw [block_cell hc, Nat.zero_add]; exact k3⟩
theorem PadCur.blk {w : World} {g L : Nat} {vs : List Vl} {cur : Array Value} (h : PadCur cur vs L) (hc : w.heap[g]? = some (.cells cur 32 (0, 0))) : ValsBlk w g L := ⟨cur, hc, h.1⟩

theorem padded_small {vs : List Vl} {L : Nat} (hs : ValsSmall vs) (hn : vs.length ≤ L) (hL : L ≤ 12) : ValsSmall (padded vs L) := by
  refine ⟨by rw [padded_len hn]; omega, ?_⟩
  intro v hv
  unfold padded at hv
  rcases List.mem_append.1 hv with h | h
  · exact hs.2 v h
  · rw [(List.mem_replicate.1 h).2]; show (0 : Nat) ≤ _; omega

theorem one_at {w : World} {G g L : Nat} {vs : List Vl} {cur : Array Value} (hG : w.heap[G]? = some (.cells #[.int .i64 0, .int .i64 0, .slice (some ⟨g, 0, none⟩) L L, .slice none 0 0] 87 (0, 0))) (hc : w.heap[g]? = some (.cells cur 32 (0, 0))) (hp : PadCur cur vs L) (hn : vs.length ≤ L) : VmAt w 0 (some ⟨G, 0, none⟩) none none (oneD vs L) := by
  refine ⟨fun i hi => ?_, fun i hi => absurd hi (Nat.not_lt_zero _), fun i hi => absurd hi (Nat.not_lt_zero _)⟩
  have hi0 : i = 0 := by simp [oneD] at hi; omega
  subst hi0
  refine ⟨G, 0, some ⟨g, 0, none⟩, L, none, 0, rfl, Nat.zero_le _, by rw [block_cell hG]; rfl, by rw [block_cell hG]; rfl, ?_, by rw [block_cell hG]; rfl, ?_, fun i hi => absurd hi (Nat.not_lt_zero _)⟩
  · rw [block_cell hG]
    show some (Value.slice (some ⟨g, 0, none⟩) L L) = some (.slice (some ⟨g, 0, none⟩) (padded vs L).length L)
    rw [padded_len hn]
  · exact hp.vals hc

theorem one_small {vs : List Vl} {L : Nat} (hs : ValsSmall vs) (hn : vs.length ≤ L) (hL : L ≤ 12) : VmSmall (oneD vs L) := by
  refine ⟨by simp [oneD], ?_, ?_, by simp [oneD], by simp [oneD], by simp [oneD], by simp [oneD], by show (0 : Nat) ≤ _; omega⟩
  · intro f hf
    rw [show f = ⟨0, 0, padded vs L, []⟩ by simpa [oneD] using hf]
    exact padded_small hs hn hL
  · intro f hf
    rw [show f = ⟨0, 0, padded vs L, []⟩ by simpa [oneD] using hf]
    exact ⟨by simp, by simp⟩

theorem eq_one {w : World} {G g G' g' L : Nat} {vs : List Vl} {cur cur' : Array Value} (hs : ValsSmall vs) (hn : vs.length ≤ L) (hL : L ≤ 12) (hG : w.heap[G]? = some (.cells #[.int .i64 0, .int .i64 0, .slice (some ⟨g, 0, none⟩) L L, .slice none 0 0] 87 (0, 0))) (hc : w.heap[g]? = some (.cells cur 32 (0, 0))) (hp : PadCur cur vs L) (hG' : w.heap[G']? = some (.cells #[.int .i64 0, .int .i64 0, .slice (some ⟨g', 0, none⟩) L L, .slice none 0 0] 87 (0, 0))) (hc' : w.heap[g']? = some (.cells cur' 32 (0, 0))) (hp' : PadCur cur' vs L) :
    Calls Tryz.prog 25 #[.agg #[.slice (some ⟨G, 0, none⟩) 1 1, .slice none 0 0, .int .i64 0, .slice none 0 0, .int .i64 0, .int .i64 0, .int .i64 0, .int .i64 0, .string ⟨#[]⟩, .int .i64 0], .agg #[.slice (some ⟨G', 0, none⟩) 1 1, .slice none 0 0, .int .i64 0, .slice none 0 0, .int .i64 0, .int .i64 0, .int .i64 0, .int .i64 0, .string ⟨#[]⟩, .int .i64 0]] w fun e w' => e = .returned (.bool true) ∧ Below w.heap.size w w' :=
  eqVm_any (some ⟨G, 0, none⟩) none none (some ⟨G', 0, none⟩) none none 1 0 0 1 0 0 (oneD vs L) w (one_small hs hn hL) (one_at hG hc hp hn) (one_at hG' hc' hp' hn)

theorem eq_zero (w : World) : Calls Tryz.prog 25 #[.agg #[.slice none 0 0, .slice none 0 0, .int .i64 0, .slice none 0 0, .int .i64 0, .int .i64 0, .int .i64 0, .int .i64 0, .string ⟨#[]⟩, .int .i64 0], .agg #[.slice none 0 0, .slice none 0 0, .int .i64 0, .slice none 0 0, .int .i64 0, .int .i64 0, .int .i64 0, .int .i64 0, .string ⟨#[]⟩, .int .i64 0]] w fun e w' => e = .returned (.bool true) ∧ Below w.heap.size w w' :=
  eqVm_any none none none none none none 0 0 0 0 0 0 zeroD w ⟨by simp [zeroD], by simp [zeroD], by simp [zeroD], by simp [zeroD], by simp [zeroD], by simp [zeroD], by simp [zeroD], by show (0 : Nat) ≤ _; omega⟩
    ⟨fun i hi => absurd hi (Nat.not_lt_zero _), fun i hi => absurd hi (Nat.not_lt_zero _), fun i hi => absurd hi (Nat.not_lt_zero _)⟩ ⟨fun i hi => absurd hi (Nat.not_lt_zero _), fun i hi => absurd hi (Nat.not_lt_zero _), fun i hi => absurd hi (Nat.not_lt_zero _)⟩
end Go.Proofs.YtoabnejocbnflaaGreat
