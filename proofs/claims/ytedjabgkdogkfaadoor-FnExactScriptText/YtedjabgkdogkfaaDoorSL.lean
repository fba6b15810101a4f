/-
  The law laws.FnExactScriptText, walked.
-/
import Derived.Test.YtedjabgkdogkfaaDoorSP2
import Derived.Test.YtedjabgkdogkfaaDoorST5
namespace Go.Proofs.YtedjabgkdogkfaaDoor
open Go.RowKit

set_option maxRecDepth 100000 in
set_option maxHeartbeats 8000000 in
theorem lawScript (a : Option Addr) (xs : List Ac) (cap : Nat) (w : World) (hn : xs.length ≤ maxLen) (hx : ActsMax xs) (hr : ∀ x ∈ xs, ∀ y ∈ x.ss, siR y) (hm : ActsAt w a xs) (hL : LimAt w) (htab : TabP w) :
    Calls Tryd.prog 3 #[.slice a xs.length cap] w fun e w' => e = .returned (.bool true) ∧ Below w.heap.size w w' := by
  have HS := hid (szActS_any a xs cap 1048576 w (by decide) (by decide) hn hx hm)
  have HM := hid hm
  have HR := hid hr
  have HL := hid hL
  have HT := hid htab
  clear hn hx hm hr hL htab
  go_enter Tryd.func3, Tryd.ntmps3
  go_wp2_with fail
  refine HS.out.mono ?_
  rintro e w1 ⟨r, rfl, hr, hsm, hb1⟩
  clear HS
  by_cases h0 : r < 0
  · go_wp2
    go_ret
    exact ⟨rfl, hb1⟩
  obtain ⟨hn, hc⟩ := hsm (by omega)
  have HC := hid hc
  have HM1 := hid (HM.out.mono hb1)
  have HE1 := hid (toActS_any a xs cap w1 hn HC.out HM1.out)
  clear hsm hr hc
  go_wp2_with fail
  refine HE1.out.mono ?_
  rintro e w2 ⟨rfl, hm2, hb2⟩
  have hB2 := hb1.trans (hb2.mono hb1.size)
  have HE2 := hid (sScript_any (some ⟨w1.heap.size, 0, none⟩) xs xs.length w2 hn HC.out HR.out hm2)
  clear hb1 hb2 hm2 HE1
  go_wp2_with fail
  refine HE2.out.mono ?_
  rintro e w3 ⟨s, rfl, hs, hb3⟩
  have hB3 := hB2.trans (hb3.mono hB2.size)
  have HTS := hid hs
  have HE3 := hid (toActS_any a xs cap w3 hn HC.out (HM.out.mono hB3))
  clear hB2 hb3 hs HE2
  go_wp2_with fail
  refine HE3.out.mono ?_
  rintro e w4 ⟨rfl, hm4, hb4⟩
  have hB4 := hB3.trans (hb4.mono hB3.size)
  obtain ⟨g, hg⟩ : ∃ g, g = w3.heap.size := ⟨_, rfl⟩
  rw [← hg] at hm4 ⊢
  have HM4 := hid hm4
  have HE4 := hid (iScript_any (some ⟨g, 0, none⟩) xs xs.length w4 hn HC.out HR.out hm4 (HL.out.mono hB4) (HT.out.below hB4))
  clear hg hB3 hb4 hm4 HE3
  go_wp2_with fail
  refine HE4.out.mono ?_
  rintro e w5 ⟨s', rfl, hs', hb5⟩
  obtain rfl := TextIs.one HTS.out hs'
  have hB5 := hB4.trans (hb5.mono hB4.size)
  have HM5 := hid (HM4.out.mono hb5)
  have HE5 := hid (toActS_any a xs cap w5 hn HC.out (HM.out.mono hB5))
  clear hs' hB4 hb5 HE4
  go_wp2_with fail
  refine HE5.out.mono ?_
  rintro e w6 ⟨rfl, hm6, hb6⟩
  have hB6 := hB5.trans (hb6.mono hB5.size)
  have HE6 := hid (eqActS_any (some ⟨g, 0, none⟩) (some ⟨w5.heap.size, 0, none⟩) xs xs.length xs.length w6 hn HC.out (HM5.out.mono hb6) hm6)
  clear hm6 hB5 hb6 HE5
  go_wp2_with fail
  refine HE6.out.mono ?_
  rintro e w7 ⟨rfl, hb7⟩
  have hB7 := hB6.trans (hb7.mono hB6.size)
  clear HE6
  go_wp2
  go_ret
  exact ⟨rfl, hB7⟩
end Go.Proofs.YtedjabgkdogkfaaDoor
