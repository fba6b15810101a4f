/-
  The words of an act that forges: impl.actLine; the words of any act.
-/
import Derived.Test.YtedjabgkdogkfaaDoorST3
namespace Go.Proofs.YtedjabgkdogkfaaDoor
open Go.RowKit

set_option maxRecDepth 100000 in
set_option maxHeartbeats 4000000 in
theorem line_forge (x : Ac) (sa : Option Addr) (cap : Nat) (w : World) (hk : x.k = 5) (hl : x.ss.length ≤ 150) (hr : ∀ y ∈ x.ss, siR y) (hss : SitesAt w 0 sa x.ss) (htab : TabP w) :
    Calls Tryd.prog 18 #[.agg #[.int .i64 x.k, .int .i64 x.a, .int .i64 x.b, .int .i64 x.l, .bool x.s, .slice sa x.ss.length cap]] w fun e w' => LineP w x e w' := by
  obtain ⟨i9, hi9, hy0, hy1, hy2⟩ := info_parts infoS9
  have HW : Hid (actW x = ⟨#[102, 111, 114, 103, 101]⟩ :: sitesW x.ss) := by
    show _ = _
    unfold actW
    rw [if_neg (by omega), if_neg (by omega), if_neg (by omega), if_neg (by omega)]
  obtain ⟨W, hW⟩ : ∃ W, W = w.alloc (.cells #[.int .i64 x.k, .int .i64 x.a, .int .i64 x.b, .int .i64 x.l, .bool x.s, .slice sa x.ss.length cap] 37) := ⟨_, rfl⟩
  have hb : Below w.heap.size w W := by rw [hW]; exact (Below.refl _ _).alloc (Nat.le_refl _) _
  have hA : W.heap[w.heap.size]? = some (.cells #[.int .i64 x.k, .int .i64 x.a, .int .i64 x.b, .int .i64 x.l, .bool x.s, .slice sa x.ss.length cap] 37 (0, 0)) := by rw [hW]; exact block_new _ _ _
  have m0 := block_cell hA
  obtain ⟨W1, hW1⟩ : ∃ W1, W1 = W.alloc (.cells #[.string ⟨#[102, 111, 114, 103, 101]⟩] 9) := ⟨_, rfl⟩
  have hb1 : Below w.heap.size w W1 := by rw [hW1]; exact hb.alloc hb.size _
  have hs1 : W1.heap[W.heap.size]? = some (.cells #[.string ⟨#[102, 111, 114, 103, 101]⟩] 9 (0, 0)) := by rw [hW1]; exact block_new _ _ _
  have hA1 : W1.heap[w.heap.size]? = some (.cells #[.int .i64 x.k, .int .i64 x.a, .int .i64 x.b, .int .i64 x.l, .bool x.s, .slice sa x.ss.length cap] 37 (0, 0)) := by rw [hW1]; exact block_old hA _
  have m1 := block_cell hA1
  have hle : w.heap.size ≤ W.heap.size := hb.size
  have hown0 : W1.ownsRow w.heap.size 9 1 (.slice (some ⟨W.heap.size, 0, none⟩) 1 1) 1 [.string ⟨#[102, 111, 114, 103, 101]⟩] := own_row hle hs1 rfl (by decide)
  have HK := hid hk
  have HB := hid hb1
  have HSS := hid hss
  have HT := hid htab
  have HR := hid hr
  have HWW := hid hW1
  clear hk hb hb1 hs1 hA hA1 hle hss htab hr hW1
  go_enter Tryd.func18, Tryd.ntmps18
  go_upto_region 1 with fail
  rw [← hW]
  clear hW
  have hk := HK.out
  go_upto_region 11 with fail
  rw [← HWW.out]
  clear HWW m0 hk
  go_wp2_with fail
  clear m1
  obtain ⟨va0, hva0⟩ : ∃ v, v = Value.slice (some ⟨W.heap.size, 0, none⟩) 1 1 := ⟨_, rfl⟩
  rw [← hva0] at hown0 ⊢
  clear hva0
  go_loopw [3, 54] (fun v i wr => ∃ (k : Nat), k ≤ x.ss.length ∧ i = .int .i64 k ∧ wr.ownsRow w.heap.size 9 1 v (1 + 4 * k) (.string ⟨#[102, 111, 114, 103, 101]⟩ :: (sitesW (x.ss.take k)).map Value.string) ∧ Below w.heap.size w wr) (fun _ i _ => x.ss.length - (intOf i).toNat)
  case atStart => exact ⟨0, by omega, rfl, hown0, HB.out⟩
  case round =>
    clear hown0
    obtain ⟨k, hk', rfl, hown, hbr⟩ := hrel
    by_cases hlt : k < x.ss.length
    · obtain ⟨b, off, rfl, -, c0, c1, c2, c3⟩ := (HSS.out.mono hbr) k hlt
      obtain ⟨r0, r1, r2, r3⟩ := HR.out _ (List.getElem_mem hlt)
      have HSU : Hid ((sitesW (x.ss.take (k + 1))).map Value.string = (sitesW (x.ss.take k)).map Value.string ++ ([x.ss[k].f, x.ss[k].pc, x.ss[k].seen, x.ss[k].target].map numText).map Value.string) := by
        show _ = _
        rw [sitesW_succ _ _ hlt, List.map_append]
        rfl
      obtain ⟨s, hs⟩ : ∃ s, s = x.ss[k] := ⟨_, rfl⟩
      rw [← hs] at c0 c1 c2 c3 r0 r1 r2 r3 HSU
      clear hs
      obtain ⟨L, hL⟩ : ∃ L, L = (sitesW (x.ss.take k)).map Value.string := ⟨_, rfl⟩
      rw [← hL] at hown HSU
      clear hL
      obtain ⟨U1, hU1⟩ : ∃ U1, U1 = wr.alloc (.cells #[.int .i64 s.f, .int .i64 s.pc, .int .i64 s.seen, .int .i64 s.target] 51) := ⟨_, rfl⟩
      obtain ⟨U2, hU2⟩ : ∃ U2, U2 = U1.alloc (.cells #[.int .i64 s.f, .int .i64 s.pc, .int .i64 s.seen, .int .i64 s.target] 3) := ⟨_, rfl⟩
      have hz1 : U1.heap.size = wr.heap.size + 1 := by rw [hU1]; simp
      have hn2 : U2.heap[wr.heap.size + 1]? = some (.cells #[.int .i64 s.f, .int .i64 s.pc, .int .i64 s.seen, .int .i64 s.target] 3 (0, 0)) := by rw [hU2, ← hz1]; exact block_new _ _ _
      have hbU : Below w.heap.size w U2 := by rw [hU2]; exact (by rw [hU1]; exact hbr.alloc hbr.size _ : Below w.heap.size w U1).alloc (by rw [hz1]; have := hbr.size; omega) _
      have hownU : U2.ownsRow w.heap.size 9 1 u3 (1 + 4 * k) (.string ⟨#[102, 111, 114, 103, 101]⟩ :: L) := by rw [hU2, hU1]; exact World.ownsRow.alloc (World.ownsRow.alloc hown _) _
      have n2 := block_cell hn2
      have HN := hid (numW_any (wr.heap.size + 1) [s.f, s.pc, s.seen, s.target] 4 U2 (by simp) (by simp only [List.mem_cons, List.not_mem_nil, or_false]; rintro n (rfl | rfl | rfl | rfl) <;> assumption) (by
        intro j hj
        rw [n2]
        match j, hj with
        | 0, _ => rfl
        | 1, _ => rfl
        | 2, _ => rfl
        | 3, _ => rfl) (HT.out.below hbU))
      have HBU := hid hbU
      have HOU := hid hownU
      have HU := hid (And.intro hU1 hU2)
      clear hU1 hU2 hz1 hn2 hbU hownU n2 hown r0 r1 r2 r3
      go_wp2_with fail
      rw [← HU.out.1, ← HU.out.2]
      clear HU c0 c1 c2 c3 hbr
      refine HN.out.mono ?_
      rintro e w3 ⟨cur, rfl, hg, hsz, hcur, hb3⟩
      have hB3 := HBU.out.trans (hb3.mono HBU.out.size)
      have hown3 := own_below HOU.out hb3
      have h1 : ∀ u ∈ cur.toList, u.oneCell' = true := by rw [hcur]; exact one_strs _
      have hs' : cur.toList.length = 4 * 1 := by simp [hsz]
      have HX : Hid (.string ⟨#[102, 111, 114, 103, 101]⟩ :: (sitesW (x.ss.take (k + 1))).map Value.string = (.string ⟨#[102, 111, 114, 103, 101]⟩ :: L) ++ cur.toList) := by
        show _ = _
        rw [HSU.out, hcur]
        rfl
      clear hcur HN HBU HOU hb3 hsz HSU
      go_upto_block 0 with (first | (at_builtin; refine wpList_append_own _ rfl _ _ 44 rfl w.heap.size 9 i9 (.string ByteArray.empty) 1 16 Tryd.underlying44 hi9 hy0 hy1 hy2 rfl (by decide) _ _ _ rfl hown3 ⟨U2.heap.size, 0, none⟩ _ _ cur.toList rfl hs' (World.news_of_block hg) h1 (by unfold maxLen; omega) (by omega) hB3.size ?_; intro va wa hownA hgrowA hnilA))
      have qA := hB3.trans ((Keeps.grown (ts := [9]) hown3 hgrowA (by decide)).toBelow hB3.size)
      clear hown3 hgrowA hnilA hg h1 hs' hB3
      go_wp2
      go_roundw
      case rel =>
        refine ⟨k + 1, by omega, by go_num, ?_, qA⟩
        rw [HX.out, show 1 + 4 * (k + 1) = 1 + 4 * k + 4 by omega]
        exact hownA
      case measure => simp [intOf]; omega
    · have hkl : k = x.ss.length := by omega
      subst hkl
      rw [List.take_length] at hown
      have HD : Hid (wr.ownsRow w.heap.size 9 1 u3 (actW x).length ((actW x).map Value.string) ∧ Below w.heap.size w wr) := by
        refine ⟨?_, hbr⟩
        rw [HW.out, List.length_cons, sitesW_len, List.map_cons, Nat.add_comm]
        exact hown
      clear hown hbr
      go_wp2
      go_ret
      exact ⟨_, rfl, HD.out.1, HD.out.2⟩
theorem line_any (x : Ac) (sa : Option Addr) (cap : Nat) (w : World) (hok : AcOk x) (hr : ∀ y ∈ x.ss, siR y) (hss : SitesAt w 0 sa x.ss) (htab : TabP w) :
    Calls Tryd.prog 18 #[.agg #[.int .i64 x.k, .int .i64 x.a, .int .i64 x.b, .int .i64 x.l, .bool x.s, .slice sa x.ss.length cap]] w fun e w' => LineP w x e w' := by
  have h := hok
  unfold AcOk AOK at h
  have ha : inR x.a := by unfold inR; omega
  have hb : inR x.b := by unfold inR; omega
  have hl : inR x.l := by unfold inR; omega
  by_cases h1 : x.k = 1
  · exact line_run x sa cap w h1 ha htab
  by_cases h2 : x.k = 2
  · exact line_tier x sa cap w h2 ha hl htab
  by_cases h3 : x.k = 3
  · exact line_loop x sa cap w h3 ha hb hl htab
  by_cases h4 : x.k = 4
  · exact line_drop x sa cap w h4 ha htab
  · exact line_forge x sa cap w (by omega) (by omega) hr hss htab
end Go.Proofs.YtedjabgkdogkfaaDoor
