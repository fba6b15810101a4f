/-
  The program's line reader: what takeLine does.
-/
import Derived.Test.YtkclkgonihkhlaaDoorR10
namespace Go.Proofs.YtkclkgonihkhlaaDoor
open Go.RowKit

def startT : ByteArray := ⟨#[116, 101, 120, 116, 32, 34]⟩
def indentT : ByteArray := ⟨#[32, 32]⟩
def cutOff (s p : ByteArray) : ByteArray := ⟨(Lib.trimPrefix s.data.toList p.data.toList).toArray⟩
theorem cutOff_size (s p : ByteArray) : (cutOff s p).size ≤ s.size := by
  show (Lib.trimPrefix s.data.toList p.data.toList).toArray.size ≤ s.data.size
  rw [List.size_toArray]
  unfold Lib.trimPrefix
  split
  · rw [List.length_drop, Array.length_toList]; omega
  · rw [Array.length_toList]; exact Nat.le_refl _
def LinePost (R base K : Nat) (a1 : Option Addr) (c1 : Nat) (a2 : Option Addr) (c2 : Nat) (ts : List ByteArray) (fs : List Fn) (cs : List (Option Addr × Nat)) (line : ByteArray) (w : World) (e : Ending) (w' : World) : Prop :=
  (Lib.hasPrefix line.data.toList startT.data.toList = true ∧ TextPost R base (.map (some K)) a2 c2 ts fs cs (cutOff line startT) w e w' ∧ (e = .returned (.bool false) → LineAt w R (.map (some K)) a1 ts.length c1 a2 fs.length c2)) ∨
  (Lib.hasPrefix line.data.toList startT.data.toList = false ∧ Lib.hasPrefix line.data.toList indentT.data.toList = true ∧ InsPost R base K a1 c1 a2 c2 ts fs cs (cutOff line indentT) w e w') ∨
  (Lib.hasPrefix line.data.toList startT.data.toList = false ∧ Lib.hasPrefix line.data.toList indentT.data.toList = false ∧ FuncPost R base (.map (some K)) a1 c1 a2 c2 ts fs cs line w e w')

set_option maxRecDepth 100000 in
set_option maxHeartbeats 1600000 in
theorem takeLine_any (R base K : Nat) (a1 a2 : Option Addr) (c1 c2 : Nat) (ts : List ByteArray) (fs : List Fn) (cs : List (Option Addr × Nat)) (line : ByteArray) (w : World)
    (hR : LineAt w R (.map (some K)) a1 ts.length c1 a2 fs.length c2) (hm : ModOwn w base a1 c1 a2 c2 ts fs cs) (hK : OpsAt w K) (hRb : R < base) (hKb : K < base) (hbw : base ≤ w.heap.size) (hts : ts.length ≤ 1048576) (hfs : fs.length ≤ 1048576) (hcd : ∀ f ∈ fs, f.code.length ≤ 1048576) (hls : line.size ≤ 1048576) (hv : Vars w) :
    Calls Tryd.prog 38 #[.pointer (some ⟨R, 0, none⟩), .string line] w (LinePost R base K a1 c1 a2 c2 ts fs cs line w) := by
  have ht := takeText_any R base (.map (some K)) a1 a2 c1 c2 ts fs cs (cutOff line startT) w hR hm hRb hbw hts (Nat.le_trans (cutOff_size _ _) hls)
  have hi := takeIns_any R base K a1 a2 c1 c2 ts fs cs (cutOff line indentT) w hR hm hK hRb hKb hbw hfs hcd (Nat.le_trans (cutOff_size _ _) hls) hv
  have hf := takeFunc_any R base (.map (some K)) a1 a2 c1 c2 ts fs cs line w hR hm hRb hbw hfs hls hv
  go_enter Tryd.func38, Tryd.ntmps38
  go_wp2_with fail
  refine (Tryd.strings_HasPrefix line startT w).mono ?_
  rintro e w1 ⟨rfl, rfl⟩
  cases h1 : Lib.hasPrefix line.data.toList startT.data.toList
  · go_wp2_with fail
    refine (Tryd.strings_HasPrefix line indentT w1).mono ?_
    rintro e w2 ⟨rfl, rfl⟩
    cases h2 : Lib.hasPrefix line.data.toList indentT.data.toList
    · go_wp2_with fail
      refine hf.mono ?_
      intro e w3 hp
      obtain ⟨b, rfl⟩ : ∃ b, e = .returned (.bool b) := by
        obtain ⟨ws, -, -, ⟨_, _, _, _, h, -⟩ | ⟨h, -⟩⟩ := hp
        · exact ⟨_, h⟩
        · exact ⟨_, h⟩
      have HP : Hid (FuncPost R base (.map (some K)) a1 c1 a2 c2 ts fs cs line w2 (.returned (.bool b)) w3) := hp
      clear hp
      go_wp2
      go_ret
      exact Or.inr (Or.inr ⟨h1, h2, HP.out⟩)
    · go_wp2_with fail
      refine (Tryd.strings_TrimPrefix line indentT w2).mono ?_
      rintro e w3 ⟨rfl, rfl⟩
      go_wp2_with fail
      refine hi.mono ?_
      intro e w4 hp
      obtain ⟨b, rfl⟩ : ∃ b, e = .returned (.bool b) := by
        obtain ⟨ws, -, -, -, ⟨_, _, _, _, _, _, _, h, -⟩ | ⟨h, -⟩⟩ := hp
        · exact ⟨_, h⟩
        · exact ⟨_, h⟩
      have HP : Hid (InsPost R base K a1 c1 a2 c2 ts fs cs (cutOff line indentT) w3 (.returned (.bool b)) w4) := hp
      clear hp
      go_wp2
      go_ret
      exact Or.inr (Or.inl ⟨h1, h2, HP.out⟩)
  · go_wp2_with fail
    refine (Tryd.strings_TrimPrefix line startT w1).mono ?_
    rintro e w3 ⟨rfl, rfl⟩
    go_wp2_with fail
    refine ht.mono ?_
    intro e w4 hp
    obtain ⟨b, rfl⟩ : ∃ b, e = .returned (.bool b) := by
      rcases hp with ⟨-, h, -⟩ | ⟨-, h, -⟩
      · exact ⟨_, h⟩
      · exact ⟨_, h⟩
    have HP : Hid (TextPost R base (.map (some K)) a2 c2 ts fs cs (cutOff line startT) w3 (.returned (.bool b)) w4) := hp
    clear hp
    go_wp2
    go_ret
    exact Or.inl ⟨h1, HP.out, fun _ => hR⟩
end Go.Proofs.YtkclkgonihkhlaaDoor
