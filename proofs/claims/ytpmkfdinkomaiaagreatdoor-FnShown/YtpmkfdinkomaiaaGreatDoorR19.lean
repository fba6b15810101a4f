/-
  spec.ReadModule: it answers the ok module that has this text, or that none has.
-/
import Derived.Test.YtpmkfdinkomaiaaGreatDoorR19r
namespace Go.Proofs.YtpmkfdinkomaiaaGreatDoor
open Go.RowKit Go.Maps

set_option maxRecDepth 100000 in
set_option maxHeartbeats 100000000 in
theorem sRead_any (text : ByteArray) (w : World) (ht : text.size ≤ 1048576) :
    Calls Tryz.prog 12 #[.string text] w (ReadPost text w) := by
  obtain ⟨wA, hwA⟩ : ∃ wA, wA = (w.alloc (.cells #[.slice none 0 0, .slice none 0 0] 27)).alloc (.cells #[.slice none 0 0, .slice none 0 0] 27) := ⟨_, rfl⟩
  have hbA : Below w.heap.size w wA := by rw [hwA]; exact ((Below.refl _ _).alloc (Nat.le_refl _) _).alloc (by simp) _
  have hZA : wA.heap[w.heap.size]? = some (.cells #[.slice none 0 0, .slice none 0 0] 27 (0, 0)) := by rw [hwA]; exact block_old (block_new _ _ _) _
  have hMA : ModAt wA (w.heap.size + 1) none 0 0 none 0 0 := by
    have := block_new (w.alloc (.cells #[.slice none 0 0, .slice none 0 0] 27)) #[.slice none 0 0, .slice none 0 0] 27
    rw [World.size_alloc] at this
    rw [hwA]
    exact this
  have hzA : wA.heap.size = w.heap.size + 2 := by rw [hwA]; simp
  obtain ⟨i9, hi9, hz90, hz91, hz92⟩ := info_parts info9c
  obtain ⟨i5, hi5, hz50, hz51, hz52⟩ := info_parts info55c
  obtain ⟨i2, hi2, hz20, hz21, hz22⟩ := info_parts info25c
  go_enter Tryz.func12, Tryz.ntmps12
  go_wp2_with fail
  rw [← hwA]
  clear hwA
  refine (sCut_any text 10 wA ht).mono ?_
  rintro e w1 ⟨al, cl, rfl, hL1, hb1⟩
  have hZ1 := block_kept hZA hb1
  have hM1 : ModAt w1 (w.heap.size + 1) none 0 0 none 0 0 := block_kept hMA hb1
  have hB1 : Below w.heap.size w w1 := hbA.trans (hb1.mono (by omega))
  have hll := cutsB_len 10 text
  have HL1 : Hid (w1.ownsRow wA.heap.size 9 1 (.slice al (cutsB 10 text).length cl) (cutsB 10 text).length ((cutsB 10 text).map .string)) := hL1
  have hz1 : w.heap.size + 2 ≤ w1.heap.size := by rw [← hzA]; exact hb1.size
  clear hL1 hZA hMA hbA hb1
  obtain ⟨nl, hnl⟩ : ∃ nl, nl = (cutsB 10 text).length := ⟨_, rfl⟩
  rw [← hnl] at hll ⊢
  have HNL : Hid (nl = (cutsB 10 text).length) := hnl
  clear hnl
  go_wp2_with fail
  refine (sWords_any w1).mono ?_
  rintro e w2 ⟨rfl, hw2⟩
  have hb2 : Below w1.heap.size w1 w2 := by rw [hw2]; exact (Below.refl _ _).alloc (Nat.le_refl _) _
  have hW2 : w2.heap[w1.heap.size]? = some (.cells (words.map Value.string).toArray 9 (0, 0)) := by rw [hw2]; exact block_new _ _ _
  have hZ2 := block_kept hZ1 hb2
  have hM2 : ModAt w2 (w.heap.size + 1) none 0 0 none 0 0 := block_kept hM1 hb2
  have hB2 : Below w.heap.size w w2 := hB1.trans (hb2.mono (by omega))
  have HL2 : Hid (w2.ownsRow wA.heap.size 9 1 (.slice al (cutsB 10 text).length cl) (cutsB 10 text).length ((cutsB 10 text).map .string)) := own_far HL1.out (fun g hg => (own_lt HL1.out hg).2) hb2
  have hz2 : w2.heap.size = w1.heap.size + 1 := by rw [hw2]; simp
  have HLT : Hid (∀ g, al = some ⟨g, 0, none⟩ → g < w1.heap.size) := fun g hg => (own_lt HL1.out hg).2
  clear hw2 HL1 hZ1 hM1 hB1
  have hm2 : ModOwn w2 (w1.heap.size + 1) none 0 none 0 [] [] [] := ⟨World.ownsRow_nil _ _ _ _, World.ownsRow_nil _ _ _ _, CodesOwn.nil _ _⟩
  have HC2 : Hid (∀ T F, modB T F = true → text = showB T F → ([], []) = ((items T F).take 0).foldl ap ([], [])) := fun _ _ _ _ => rfl
  go_wp2
  go_loopw [7] (fun v wr => ∃ (i : Nat) (ts : List ByteArray) (fs : List Fn) (cs : List (Option Addr × Nat)) (a1 : Option Addr) (c1 : Nat) (a2 : Option Addr) (c2 : Nat), v = .int .i64 i ∧ i ≤ nl ∧ ModAt wr (w.heap.size + 1) a1 ts.length c1 a2 fs.length c2 ∧ ModOwn wr (w1.heap.size + 1) a1 c1 a2 c2 ts fs cs ∧ Hid (∀ T F, modB T F = true → text = showB T F → (ts, fs) = ((items T F).take i).foldl ap ([], [])) ∧ ts.length ≤ 20 ∧ fs.length ≤ 12 ∧ (∀ f ∈ fs, f.code.length ≤ 120) ∧ (∀ s ∈ ts, s.size ≤ 1048576) ∧ (wr.heap[w.heap.size]? = some (.cells #[.slice none 0 0, .slice none 0 0] 27 (0, 0)) ∧ wr.heap[w1.heap.size]? = some (.cells (words.map Value.string).toArray 9 (0, 0)) ∧ wr.ownsRow wA.heap.size 9 1 (.slice al (cutsB 10 text).length cl) (cutsB 10 text).length ((cutsB 10 text).map .string)) ∧ Below w.heap.size w wr) (fun v _ => nl - (intOf v).toNat)
  case atStart => exact ⟨0, [], [], [], none, 0, none, 0, rfl, by omega, hM2, hm2, HC2, by simp, by simp, by simp, by simp, ⟨hZ2, hW2, HL2.out⟩, hB2⟩
  case round =>
    obtain ⟨i, ts, fs, cs, a1, c1, a2, c2, rfl, hi, hMr, hmr, HCR, h20, h12, h120, hsz, ⟨hZr, hWr, hLr⟩, hBr⟩ := hrel
    by_cases hlt : i + 1 < nl
    · obtain ⟨g, rfl, hcs⟩ := own_strs hLr (by rw [← HNL.out]; omega)
      have c0 := hcs i (by rw [← HNL.out]; omega)
      obtain ⟨s, hs⟩ : ∃ s, s = (cutsB 10 text)[i]'(by rw [← HNL.out]; omega) := ⟨_, rfl⟩
      rw [← hs] at c0
      have HSI : Hid ((cutsB 10 text)[i]? = some s) := by rw [hs]; exact List.getElem?_eq_getElem _
      clear hs hcs
      have hw1 : IntKind.i64.wrap ((nl : Int) - 1) = (nl : Int) - 1 := by rw [IntKind.wrap_i64]; omega
      have hli : (i : Int) < (nl : Int) - 1 := by omega
      have hsz6 : s.size ≤ 1048576 := Nat.le_trans (cutsB_size (List.mem_of_getElem? HSI.out)) ht
      have HZr := hid hZr
      have HWr := hid hWr
      have HLr := hid hLr
      have HBr := hid hBr
      have HMr := hid hMr
      have Hmr := hid hmr
      have HSZ := hid hsz
      have H120 := hid h120
      clear hZr hWr hLr hBr hMr hmr hsz h120 HL2 hW2 hZ2 hM2 hB2 hm2 HC2 hb2
      go_wp2_with fail
      refine (sCut_any s 32 wr hsz6).mono ?_
      rintro e w3 ⟨aw, cw, rfl, hown3, hb3⟩
      have hwl := cutsB_len 32 s
      obtain ⟨ws, hws⟩ : ∃ ws, ws = cutsB 32 s := ⟨_, rfl⟩
      rw [← hws] at hown3 hwl ⊢
      have HWS : Hid (cutsB 32 s = ws) := hws.symm
      have hw0 : 0 < ws.length := by rw [hws]; exact cutsB_some 32 s
      have HWZ : Hid (∀ x ∈ ws, x.size ≤ 1048576) := fun x hx => by rw [hws] at hx; exact Nat.le_trans (cutsB_size hx) hsz6
      obtain ⟨g3, rfl, hcs3⟩ := own_strs hown3 hw0
      have HCS3 := hid hcs3
      have hM3 : ModAt w3 (w.heap.size + 1) a1 ts.length c1 a2 fs.length c2 := block_kept HMr.out hb3
      have Hm3 := hid (Hmr.out.below hb3)
      have HZ3 := hid (block_kept HZr.out hb3)
      have HW3 := hid (block_kept HWr.out hb3)
      have HL3 := hid (own_far HLr.out (fun g hg => (own_lt HLr.out hg).2) hb3)
      have HB3 := hid (HBr.out.trans (hb3.mono HBr.out.size))
      have hz3 : w1.heap.size + 1 ≤ w3.heap.size := lt_block HW3.out
      have HM3 := hid hM3
      have HWM : Hid (w.heap.size + 2 ≤ w1.heap.size) := hz1
      have HGL : Hid (g < w1.heap.size + 1) := by have h2 := HLT.out g rfl; show _ < _; omega
      clear hws hown3 hb3 hcs3 HZr HWr HLr HBr HMr Hmr c0 hw1 hli hM3
      go_upto_block 2 with fail
      go_cut [] (fun wx => Hid (Came s ts fs (w1.heap.size + 1) w1.heap.size wA.heap.size (.slice (some ⟨g, 0, none⟩) (cutsB 10 text).length cl) (cutsB 10 text).length ((cutsB 10 text).map .string) w wx))
      case first =>
        go_upto_region 9 with fail
        go_cut [36] from 37 to 45 (fun s36 wx => s36 = .bool (opensB s) ∧ wx = w3)
        case first =>
          by_cases h6 : 6 < s.size
          case neg =>
            have h6' : ¬ (6 : Int) < (s.size : Int) := by omega
            have HX : Hid (opensB s = false) := by show _ = _; unfold opensB; simp [h6]
            clear h6
            go_wp2_with fail
            go_meet
            case rel => exact ⟨by rw [HX.out], rfl⟩
          case pos =>
            have h6' : (6 : Int) < (s.size : Int) := by omega
            by_cases h7 : s.data.toList.take 6 = [116, 101, 120, 116, 32, 34]
            · have HX : Hid (opensB s = true) := (opensB_iff s).2 ⟨h6, h7⟩
              have k7 : ((s.extract 0 6).toList == [116, 101, 120, 116, 32, 34]) = true := by rw [ext6, h7]; rfl
              clear h7
              go_wp2_with fail
              go_meet
              case rel => exact ⟨by rw [HX.out], rfl⟩
            · have HX : Hid (opensB s = false) := by show _ = _; unfold opensB; simp [h7]
              have k7 : ((s.extract 0 6).toList == [116, 101, 120, 116, 32, 34]) = false := by rw [ext6]; simpa using h7
              clear h7
              go_wp2_with fail
              go_meet
              case rel => exact ⟨by rw [HX.out], rfl⟩
        case rest =>
          obtain ⟨rfl, hwc⟩ := hcut
          rw [hwc]
          clear hwc
          cases hO : opensB s
          case' true =>
            have hOp := (opensB_iff s).1 hO
            have h6 := hOp.1
            have HOP := hid hOp
            have hwx : IntKind.i64.wrap ((s.size : Int) - 1) = (s.size : Int) - 1 := by rw [IntKind.wrap_i64]; omega
            have hx1 : (6 : Int) ≤ (s.size : Int) - 1 := by omega
            have hx2 : (s.size : Int) - 1 ≤ (s.size : Int) := by omega
            have hx3 : ((s.size : Int) - 1).toNat = s.size - 1 := by omega
            have hmd := Hm3.out.below ((Below.refl _ _).drew)
            have hRd : w3.drew.heap[w.heap.size + 1]? = some (Obj.cells #[.slice a1 ts.length c1, .slice a2 fs.length c2] 27 (0, 0)) := HM3.out
            have rc3 := block_cell HM3.out
            have rcA := block_cell (block_old HM3.out (.cells #[.string (s.extract 6 (s.size - 1))] 9))
            have htl := Hm3.out.texts
            clear hO hOp
            go_upto_region 10 with fail
            go_region_law (first
              | (refine step_append_lies _ (by rfl) _ _ _ (by rfl) (w1.heap.size + 1) 9 i9 (.string ByteArray.empty) 1 16 Tryz.underlying24 hi9 hz90 hz91 hz92 rfl (by decide) _ _ _ (by rfl) (World.ownsRow.drew (World.ownsRow.alloc Hm3.out.texts _)) ⟨w3.heap.size, 0, none⟩ 1 1 [.string (s.extract 6 (s.size - 1))] (by rfl) (by rfl) (World.news_of_block (cs := #[.string (s.extract 6 (s.size - 1))]) (t := 9) (fr := (0, 0)) (by exact heap_alloc_new w3 _)) (by simp [Value.oneCell']) (by decide) (by unfold maxLen; omega) (by omega) (by simp; omega) (w3.heap.size + 1) (by simp) ?_; intro g4 cp w4 hown4 hgrow4' hat4 hlt4; have hgrow4 : (w3.alloc (.cells #[.string (s.extract 6 (s.size - 1))] 9)).grownBy w4 (Value.slice a1 ts.length c1).ownBlock := ⟨hgrow4'.os, hgrow4'.tape, hgrow4'.output, hgrow4'.size, hgrow4'.block⟩; clear hgrow4'; have hM4 := grown_kept (World.ownsRow.alloc Hm3.out.texts (.cells #[.string (s.extract 6 (s.size - 1))] 9)) (show w.heap.size + 1 < w1.heap.size + 1 by omega) (block_old HM3.out (.cells #[.string (s.extract 6 (s.size - 1))] 9)) hgrow4; have rc4 := block_cell hM4; have rf4 := block_free hM4)
              | (refine step_append_lies _ (by rfl) _ _ _ (by rfl) (w1.heap.size + 1) 9 i9 (.string ByteArray.empty) 1 16 Tryz.underlying24 hi9 hz90 hz91 hz92 rfl (by decide) _ _ _ (by rfl) (World.ownsRow.alloc (World.ownsRow.drew Hm3.out.texts) _) ⟨w3.heap.size, 0, none⟩ 1 1 [.string (s.extract 6 (s.size - 1))] (by rfl) (by rfl) (World.news_of_block (cs := #[.string (s.extract 6 (s.size - 1))]) (t := 9) (fr := (0, 0)) (by exact heap_alloc_new w3 _)) (by simp [Value.oneCell']) (by decide) (by unfold maxLen; omega) (by omega) (by simp; omega) (w3.heap.size + 1) (by simp) ?_; intro g4 cp w4 hown4 hgrow4' hat4 hlt4; have hgrow4 : (w3.alloc (.cells #[.string (s.extract 6 (s.size - 1))] 9)).grownBy w4 (Value.slice a1 ts.length c1).ownBlock := ⟨hgrow4'.os, hgrow4'.tape, hgrow4'.output, hgrow4'.size, hgrow4'.block⟩; clear hgrow4'; have hM4 := grown_kept (World.ownsRow.alloc Hm3.out.texts (.cells #[.string (s.extract 6 (s.size - 1))] 9)) (show w.heap.size + 1 < w1.heap.size + 1 by omega) (block_old HM3.out (.cells #[.string (s.extract 6 (s.size - 1))] 9)) hgrow4; have rc4 := block_cell hM4; have rf4 := block_free hM4))
            all_goals
              have hbA : Below w3.heap.size w3 (w3.alloc (.cells #[.string (s.extract 6 (s.size - 1))] 9)) := (Below.refl _ _).alloc (Nat.le_refl _) _
              have hk4 : Keeps (w1.heap.size + 1) [9] (w3.alloc (.cells #[.string (s.extract 6 (s.size - 1))] 9)) w4 := Keeps.grown (World.ownsRow.alloc Hm3.out.texts _) hgrow4 (by simp)
              have hb4 : Below (w1.heap.size + 1) w3 w4 := (hbA.mono hz3).trans (hk4.toBelow (by simp; omega))
              have hm4 : ModOwn w4 (w1.heap.size + 1) (some ⟨g4, 0, none⟩) cp a2 c2 (ts ++ [(s.extract 6 (s.size - 1))]) fs cs := ⟨by simpa using hown4, own_keeps (World.ownsRow.alloc Hm3.out.funcs _) hk4 (by simp), (Hm3.out.codes.below hbA).keeps hk4 (by simp)⟩
              have hm5 := hm4.set (p := ⟨w.heap.size + 1, 0, none⟩) (show w.heap.size + 1 < w1.heap.size + 1 by omega) (.slice (some ⟨g4, 0, none⟩) (ts.length + 1) cp)
              have hk5 := three_set (j := 0) (v := (.slice (some ⟨g4, 0, none⟩) (ts.length + 1) cp)) (three_kept HZ3.out HW3.out HL3.out HGL.out HB3.out (show w.heap.size + 1 < w1.heap.size + 1 by omega) (Nat.lt_succ_self _) hb4) (by omega) (by omega)
              have hM5 : (w4.setCell ⟨w.heap.size + 1, 0, none⟩ (.slice (some ⟨g4, 0, none⟩) (ts.length + 1) cp)).heap[w.heap.size + 1]? = some (Obj.cells #[.slice (some ⟨g4, 0, none⟩) (List.length (ts ++ [(s.extract 6 (s.size - 1))])) cp, .slice a2 fs.length c2] 27 (0, 0)) := by
                simpa using block_set (i := 0) hM4 (.slice (some ⟨g4, 0, none⟩) (ts.length + 1) cp)
              have HEND : Hid (Came s ts fs (w1.heap.size + 1) w1.heap.size wA.heap.size (.slice (some ⟨g, 0, none⟩) (cutsB 10 text).length cl) (cutsB 10 text).length ((cutsB 10 text).map .string) w (w4.setCell ⟨w.heap.size + 1, 0, none⟩ (.slice (some ⟨g4, 0, none⟩) (ts.length + 1) cp))) :=
                ⟨_, fs, cs, _, _, _, _, hM5, hm5, step_text HOP.out (by rw [ext_list, List.drop_take]), fun t ht' => by
                  rcases List.mem_append.1 ht' with h | h
                  · exact HSZ.out t h
                  · rw [List.mem_singleton.1 h, size_list, ext_list]; simp only [List.length_take, List.length_drop]; have := size_list s; omega, fun j hj _ => H120.out _ (List.getElem_mem hj), by simp; omega, by omega, hk5.1, hk5.2.1, hk5.2.2.1, hk5.2.2.2⟩
              clear hbA hk4 hb4 hm4 hm5 hk5 hM5 hM4 rc4 rf4 hown4 hgrow4 hat4 hlt4 rc3 rcA htl hmd hRd
              generalize (w4.setCell ⟨w.heap.size + 1, 0, none⟩ (.slice (some ⟨g4, 0, none⟩) (ts.length + 1) cp)) = w5 at HEND ⊢
              clear HZ3 HW3 HL3 HB3 Hm3 HM3 HCS3 hwx hx1 hx2 hx3 h6 HOP
              go_wp2_with fail
              go_meet
              case rel => exact HEND
          case' false =>
            have HNA : Hid (¬ Opens s) := fun h => by rw [(opensB_iff s).2 h] at hO; cases hO
            clear hO
            go_upto_region 11 with fail
            go_cut [55] from 56 to 65 (fun s55 wx => s55 = .bool (funcB ws) ∧ wx = w3)
            case first =>
              by_cases h3 : ws.length = 3
              case neg =>
                have h3' : ((ws.length : Int) == 3) = false := by simp; omega
                have HX : Hid (funcB ws = false) := by
                  show _ = _
                  cases hb : funcB ws with
                  | false => rfl
                  | true => obtain ⟨x1, x2, e⟩ := (funcB_iff ws).1 hb; exact absurd (by rw [e]; rfl) h3
                clear h3
                go_wp2_with fail
                go_meet
                case rel => exact ⟨by rw [HX.out], rfl⟩
              case pos =>
                have h3' : ((ws.length : Int) == 3) = true := by rw [h3]; rfl
                have hll0 : (0 : Int) < (ws.length : Int) := by omega
                obtain ⟨x0, hx0⟩ : ∃ x0, ws[0]? = some x0 := ⟨_, List.getElem?_eq_getElem hw0⟩
                have k0 : w3.cell? ⟨g3, 0, none⟩ = some (.string x0) := by
                  have := HCS3.out 0 hw0
                  rw [List.getElem?_eq_getElem hw0] at hx0
                  rw [this, Option.some.inj hx0]
                by_cases hq : x0.data.toList = [102, 117, 110, 99]
                · have kq : (x0.toList == [102, 117, 110, 99]) = true := by rw [ByteArray.toList_eq, hq]; rfl
                  have HX : Hid (funcB ws = true) := by
                    show _ = _
                    match ws, h3, hx0 with
                    | [y0, y1, y2], _, hx0 => simp at hx0; subst hx0; simp [funcB, hq]
                  clear hq h3 hx0
                  go_wp2_with fail
                  go_meet
                  case rel => exact ⟨by rw [HX.out], rfl⟩
                · have kq : (x0.toList == [102, 117, 110, 99]) = false := by rw [ByteArray.toList_eq]; simpa using hq
                  have HX : Hid (funcB ws = false) := by
                    show _ = _
                    match ws, h3, hx0 with
                    | [y0, y1, y2], _, hx0 => simp at hx0; subst hx0; simp [funcB, hq]
                  clear hq h3 hx0
                  go_wp2_with fail
                  go_meet
                  case rel => exact ⟨by rw [HX.out], rfl⟩
            case rest =>
            obtain ⟨rfl, hwc⟩ := hcut
            rw [hwc]
            clear hwc
            cases hF : funcB ws
            case' true =>
              obtain ⟨x1, x2, hw3⟩ := (funcB_iff ws).1 hF
              have k1 : w3.cell? ⟨g3, 1, none⟩ = some (.string x1) := by have := HCS3.out 1 (by rw [hw3]; simp); rw [this]; simp [hw3]
              have k2 : w3.cell? ⟨g3, 2, none⟩ = some (.string x2) := by have := HCS3.out 2 (by rw [hw3]; simp); rw [this]; simp [hw3]
              have s1 := HWZ.out x1 (by rw [hw3]; simp)
              have s2 := HWZ.out x2 (by rw [hw3]; simp)
              have hl3 : (ws.length : Int) = 3 := by rw [hw3]; rfl
              have HW3E := hid (HWS.out.trans hw3)
              clear hw3 hF
              have hll1 : (1 : Int) < (ws.length : Int) := by omega
              have hll2 : (2 : Int) < (ws.length : Int) := by omega
              clear hl3
              go_wp2_with fail
              refine (sInt_any x1 _ s1).mono ?_
              rintro e w4 ⟨v1, bb1, rfl, hN1, hw4⟩
              rw [hw4]
              clear hw4
              have HN1 := hid hN1
              clear hN1
              go_wp2_with fail
              refine (sInt_any x2 _ s2).mono ?_
              rintro e w4 ⟨v2, bb2, rfl, hN2, hw4⟩
              rw [hw4]
              clear hw4
              have HN2 := hid hN2
              clear hN2
              have rc := block_cell HM3.out
              have rf := block_free HM3.out
              have hlen : Hid (fs.length = cs.length) := Hm3.out.codes.len
              go_upto_region 27 with (at_builtin; refine wpList_append_lies _ rfl _ _ 25 rfl (w1.heap.size + 1) 48 i5 (.agg #[.int .i64 0, .int .i64 0, .slice none 0 0]) 3 40 Tryz.underlying25 hi5 hz50 hz51 hz52 rfl (by decide) _ _ _ rfl (World.ownsRow.alloc Hm3.out.funcs _) ⟨w3.heap.size, 0, none⟩ 1 1 [.int .i64 v1, .int .i64 v2, .slice none 0 0] rfl rfl (cell_three_new _ _ _ _ _) (by intro u hu; simp at hu; rcases hu with rfl | rfl | rfl <;> rfl) (by decide) (by unfold maxLen; omega) (by omega) (by simp; omega) _ rfl ?_; intro g4 cp w4 hown4 hgrow4 hat4 hlt4; have hM4 := grown_kept (World.ownsRow.alloc Hm3.out.funcs _) (show w.heap.size + 1 < w1.heap.size + 1 by omega) (block_old HM3.out _) hgrow4; have rc4 := block_cell hM4; have rf4 := block_free hM4)
              have hbA : Below w3.heap.size w3 (w3.alloc (.cells #[.int .i64 v1, .int .i64 v2, .slice none 0 0] 48)) := (Below.refl _ _).alloc (Nat.le_refl _) _
              have hk4 : Keeps (w1.heap.size + 1) [48] (w3.alloc (.cells #[.int .i64 v1, .int .i64 v2, .slice none 0 0] 48)) w4 := Keeps.grown (World.ownsRow.alloc Hm3.out.funcs _) hgrow4 (by simp)
              have hb4 : Below (w1.heap.size + 1) w3 w4 := (hbA.mono hz3).trans (hk4.toBelow (by simp; omega))
              have hcodes : CodesOwn w4 (w1.heap.size + 1) (fs ++ [⟨v1, v2, []⟩]) (cs ++ [(none, 0)]) := CodesOwn.snoc2 ((Hm3.out.codes.below hbA).keeps hk4 (by simp)) (X := w3.heap.size) (X' := w3.heap.size) Hm3.out.lt.codes (Nat.le_refl _) hz3 (World.ownsRow_nil _ _ _ _)
              have hm4 : ModOwn w4 (w1.heap.size + 1) a1 c1 (some ⟨g4, 0, none⟩) cp ts (fs ++ [⟨v1, v2, []⟩]) (cs ++ [(none, 0)]) := ⟨own_keeps (World.ownsRow.alloc Hm3.out.texts _) hk4 (by simp), by rw [fnVals_snoc hlen.out]; simpa using hown4, hcodes⟩
              have hm5 := hm4.set (p := ⟨w.heap.size + 1, 1, none⟩) (show w.heap.size + 1 < w1.heap.size + 1 by omega) (.slice (some ⟨g4, 0, none⟩) (fs.length + 1) cp)
              have hk5 := three_set (j := 1) (v := (.slice (some ⟨g4, 0, none⟩) (fs.length + 1) cp)) (three_kept HZ3.out HW3.out HL3.out HGL.out HB3.out (show w.heap.size + 1 < w1.heap.size + 1 by omega) (Nat.lt_succ_self _) hb4) (by omega) (by omega)
              have hM5 : (w4.setCell ⟨w.heap.size + 1, 1, none⟩ (.slice (some ⟨g4, 0, none⟩) (fs.length + 1) cp)).heap[w.heap.size + 1]? = some (Obj.cells #[.slice a1 ts.length c1, .slice (some ⟨g4, 0, none⟩) (List.length (fs ++ [(⟨v1, v2, []⟩ : Fn)])) cp] 27 (0, 0)) := by
                simpa using block_set (i := 1) hM4 (.slice (some ⟨g4, 0, none⟩) (fs.length + 1) cp)
              have HEND : Hid (Came s ts fs (w1.heap.size + 1) w1.heap.size wA.heap.size (.slice (some ⟨g, 0, none⟩) (cutsB 10 text).length cl) (cutsB 10 text).length ((cutsB 10 text).map .string) w (w4.setCell ⟨w.heap.size + 1, 1, none⟩ (.slice (some ⟨g4, 0, none⟩) (fs.length + 1) cp))) :=
                ⟨ts, _, _, _, _, _, _, hM5, hm5, step_func HNA.out HW3E.out HN1.out HN2.out, HSZ.out, fun j hj hj2 => by
                  have hjf : j < fs.length := by simp at hj2; omega
                  rw [List.getElem_append_left hjf]; exact H120.out _ (List.getElem_mem hjf), by omega, by simp; omega, hk5.1, hk5.2.1, hk5.2.2.1, hk5.2.2.2⟩
              clear hbA hk4 hb4 hm4 hm5 hk5 hM5 hM4 rc4 rf4 hown4 hgrow4 hat4 hlt4 rc rf hcodes hlen k1 k2 s1 s2 hll1 hll2
              generalize (w4.setCell ⟨w.heap.size + 1, 1, none⟩ (.slice (some ⟨g4, 0, none⟩) (fs.length + 1) cp)) = w5 at HEND ⊢
              clear HZ3 HW3 HL3 HB3 Hm3 HM3 HCS3 HN1 HN2 HW3E
              go_wp2_with fail
              go_meet
              case rel => exact HEND

            case' false =>
              have HNF : Hid (∀ x1 x2, cutsB 32 s ≠ [funcT, x1, x2]) := fun x1 x2 e => by
                rw [HWS.out] at e
                rw [(funcB_iff ws).2 ⟨x1, x2, e⟩] at hF
                cases hF
              clear hF
              have rc3 := block_cell HM3.out
              go_upto_region 15 with fail
              go_cut [87] from 88 to 97 (fun s87 wx => s87 = .bool (decide (0 < fs.length) && decide (2 < ws.length)) ∧ wx = w3)
              case first =>
                by_cases h1 : 0 < fs.length
                case neg =>
                  have h1' : ¬ (0 : Int) < (fs.length : Int) := by omega
                  have HX : Hid ((decide (0 < fs.length) && decide (2 < ws.length)) = false) := by show _ = _; simp [h1]
                  clear h1
                  go_wp2_with fail
                  go_meet
                  case rel => exact ⟨by rw [HX.out], rfl⟩
                case pos =>
                  have h1' : (0 : Int) < (fs.length : Int) := by omega
                  by_cases h2 : 2 < ws.length
                  · have h2' : (2 : Int) < (ws.length : Int) := by omega
                    have HX : Hid ((decide (0 < fs.length) && decide (2 < ws.length)) = true) := by show _ = _; simp [h1, h2]
                    clear h1 h2
                    go_wp2_with fail
                    go_meet
                    case rel => exact ⟨by rw [HX.out], rfl⟩
                  · have h2' : ¬ (2 : Int) < (ws.length : Int) := by omega
                    have HX : Hid ((decide (0 < fs.length) && decide (2 < ws.length)) = false) := by show _ = _; simp [h2]
                    clear h1 h2
                    go_wp2_with fail
                    go_meet
                    case rel => exact ⟨by rw [HX.out], rfl⟩
              case rest =>
              obtain ⟨rfl, hwc⟩ := hcut
              rw [hwc]
              clear hwc
              cases hC : (decide (0 < fs.length) && decide (2 < ws.length))
              case' false =>
                have HEND : Hid (Came s ts fs (w1.heap.size + 1) w1.heap.size wA.heap.size (.slice (some ⟨g, 0, none⟩) (cutsB 10 text).length cl) (cutsB 10 text).length ((cutsB 10 text).map .string) w w3) :=
                  ⟨ts, fs, cs, _, _, _, _, HM3.out, Hm3.out, step_none HNA.out HNF.out (by
                    rw [HWS.out]
                    by_cases h : fs = []
                    · exact .inl h
                    · refine .inr ?_
                      have h0 : 0 < fs.length := List.length_pos_iff.2 h
                      simp [h0] at hC
                      omega), HSZ.out, fun j hj _ => H120.out _ (List.getElem_mem hj), by omega, by omega, HZ3.out, HW3.out, HL3.out, HB3.out⟩
                clear hC rc3
                go_upto_region 27 with fail
                generalize w3 = w5 at HEND ⊢
                clear HZ3 HW3 HL3 HB3 Hm3 HM3 HCS3
                go_wp2_with fail
                go_meet
                case rel => exact HEND
              case' true =>
                have hC1 : 0 < fs.length ∧ 2 < ws.length := by simpa using hC
                clear hC rc3
                obtain ⟨fs0, f, hfs⟩ : ∃ fs0 f, fs = fs0 ++ [f] := by
                  rcases List.eq_nil_or_concat fs with h | ⟨a, b, h⟩
                  · have := hC1.1; rw [h] at this; simp at this
                  · exact ⟨a, b, by rw [h, List.concat_eq_append]⟩
                subst hfs
                obtain ⟨cs0, cz, hcs⟩ : ∃ cs0 cz, cs = cs0 ++ [cz] := by
                  rcases List.eq_nil_or_concat cs with h | ⟨a, b, h⟩
                  · have := Hm3.out.codes.len; rw [h] at this; simp at this
                  · exact ⟨a, b, by rw [h, List.concat_eq_append]⟩
                subst hcs
                have hC2 := hC1.2
                clear hC1
                have hfl : (fs0 ++ [f]).length = fs0.length + 1 := by simp
                have HFL := hid hfl
                have h12' : fs0.length + 1 ≤ 12 := by rw [← hfl]; exact h12
                obtain ⟨g2, e2', hbg, -⟩ := own_put Hm3.out.funcs (fs0.length * 3 + 2) (by simp; omega)
                cases e2'
                have HMM : Hid (w3.heap[w.heap.size + 1]? = some (Obj.cells #[.slice a1 ts.length c1, .slice (some ⟨g2, 0, none⟩) (fs0.length + 1) c2] 27 (0, 0))) := by rw [← hfl]; exact HM3.out
                have hfc : f.code.length ≤ 120 := H120.out f (by simp)
                obtain ⟨w2s, hw2s⟩ : ∃ w2s, ws[2]? = some w2s := ⟨_, List.getElem?_eq_getElem hC2⟩
                have HW2S := hid hw2s
                have k2 : w3.cell? ⟨g3, 2, none⟩ = some (.string w2s) := by
                  have := HCS3.out 2 hC2
                  rw [List.getElem?_eq_getElem hC2] at hw2s
                  rw [this, Option.some.inj hw2s]
                have hll2 : (2 : Int) < (ws.length : Int) := by omega
                have hX4 := block_new w3 #[.int .i64 0, .int .i64 0] 51
                have hb4 : Below w3.heap.size w3 (w3.alloc (.cells #[.int .i64 0, .int .i64 0] 51)) := (Below.refl _ _).alloc (Nat.le_refl _) _
                obtain ⟨w4, hw4⟩ : ∃ w4, w4 = w3.alloc (.cells #[.int .i64 0, .int .i64 0] 51) := ⟨_, rfl⟩
                rw [← hw4] at hX4 hb4
                clear hfl HM3 hw2s
                go_wp2
                rw [← hw4]
                clear hw4
                go_loopw [15] (fun v wr => ∃ (k : Nat) (op : Int), 1 ≤ k ∧ k ≤ 27 ∧ v = .int .i64 k ∧ wr.heap[w3.heap.size]? = some (.cells #[.int .i64 op, .int .i64 0] 51 (0, 0)) ∧ Hid (∀ j : Nat, 1 ≤ j → j < k → words[j]? = some w2s → op = j) ∧ Hid (Below w3.heap.size w3 wr)) (fun v _ => 27 - (intOf v).toNat)
                case atStart => exact ⟨1, 0, by omega, by omega, rfl, hX4, fun j h1 h2 => absurd h1 (by omega), hb4⟩
                case round =>
                  obtain ⟨k, op, hk1, hk2, rfl, hX, HOPS, HQ⟩ := hrel
                  by_cases hk : k < 27
                  case pos =>
                    obtain ⟨t, ht1, -, -⟩ := words_at k hk
                    have kw : wr.cell? ⟨w1.heap.size, k, none⟩ = some (.string t) := by
                      rw [block_cell (block_kept HW3.out HQ.out)]
                      simp [ht1]
                    have k2' := cell_later HQ.out k2
                    have hk27 : (k : Int) < 27 := by omega
                    have x0 := block_cell hX
                    have x1 := block_free hX
                    by_cases hq : t = w2s
                    case pos =>
                      have kq : (t.toList == w2s.toList) = true := by rw [hq]; simp
                      have HT := hid (show words[k]? = some w2s by rw [← hq]; exact ht1)
                      clear hq ht1
                      go_wp2_with fail
                      go_big_quiet (fail)
                      go_wp2
                      go_roundw
                      case rel =>
                        refine ⟨k + 1, k, by omega, by omega, by go_num, by simpa using block_set (i := 0) (block_kept hX (below_draws (Below.refl _ _) nq)) (.int .i64 k), fun j h1 h2 h3 => ?_, (HQ.out.trans (below_draws (Below.refl _ _) nq)).setCell (Nat.le_refl _) _⟩
                        rw [words_one h3 HT.out]
                      case measure => simp [intOf]; omega
                    case neg =>
                      have kq : (t.toList == w2s.toList) = false := by
                        rw [ByteArray.toList_eq, ByteArray.toList_eq, beq_eq_false_iff_ne]
                        intro e
                        exact hq (ByteArray.ext (by rw [← Array.toList_inj]; exact e))
                      have HT := hid (fun e : words[k]? = some w2s => hq (Option.some.inj (ht1.symm.trans e)))
                      clear hq ht1
                      go_wp2_with fail
                      go_big_quiet (fail)
                      go_wp2
                      go_roundw
                      case rel =>
                        refine ⟨k + 1, op, by omega, by omega, by go_num, block_kept hX (below_draws (Below.refl _ _) nq), fun j h1 h2 h3 => ?_, HQ.out.trans (below_draws (Below.refl _ _) nq)⟩
                        by_cases e : j = k
                        · subst e; exact absurd h3 HT.out
                        · exact HOPS.out j h1 (by omega) h3
                      case measure => simp [intOf]; omega
                  have HOPF : Hid (∀ j : Nat, 1 ≤ j → words[j]? = some w2s → op = j) := fun j h1 h3 => HOPS.out j h1 (by
                    have := (List.getElem?_eq_some_iff.1 h3).1
                    have hl : words.length = 27 := by decide
                    omega) h3
                  have hkk : ¬ (k : Int) < 27 := by omega
                  have hwr1 : IntKind.i64.wrap ((fs0.length : Int) + 1 - 1) = (fs0.length : Int) := by rw [IntKind.wrap_i64]; omega
                  have hwr2 : IntKind.i64.wrap (fs0.length : Int) = (fs0.length : Int) := by rw [IntKind.wrap_i64]; omega
                  have x0 := block_cell hX
                  have x1 := block_free hX
                  have rcq := block_cell (block_kept HMM.out HQ.out)
                  by_cases h4 : 3 < ws.length
                  case' neg =>
                    have h4' : ¬ (3 : Int) < (ws.length : Int) := by omega
                    have HSTEP : Hid (Step s ts (fs0 ++ [f]) ts (fs0 ++ [⟨f.params, f.locals, f.code ++ [(op, 0)]⟩])) := step_ins HNA.out HNF.out HWS.out HW2S.out HOPF.out (fun w3 h => by rw [List.getElem?_eq_none (by omega)] at h; cases h) (fun _ => rfl)
                    obtain ⟨av, hav⟩ : ∃ av : Int, av = 0 := ⟨_, rfl⟩
                    obtain ⟨w6, hw6⟩ : ∃ w6, w6 = wr := ⟨_, rfl⟩
                    rw [← hav] at HSTEP
                    have HX6 : Hid (w6.heap[w3.heap.size]? = some (.cells #[.int .i64 op, .int .i64 av] 51 (0, 0))) := by rw [hw6, hav]; exact hX
                    have HQ6 : Hid (Below w3.heap.size w3 w6) := by rw [hw6]; exact HQ.out
                    go_upto_region 26 with fail
                    rw [← hw6]
                    clear hw6 hav h4'
                  case' pos =>
                    have h4' : (3 : Int) < (ws.length : Int) := by omega
                    obtain ⟨w3s, hw3s⟩ : ∃ w3s, ws[3]? = some w3s := ⟨_, List.getElem?_eq_getElem h4⟩
                    have k3 : w3.cell? ⟨g3, 3, none⟩ = some (.string w3s) := by
                      have := HCS3.out 3 h4
                      rw [List.getElem?_eq_getElem h4] at hw3s
                      rw [this, Option.some.inj hw3s]
                    have k3' := cell_later HQ.out k3
                    have sz3 := HWZ.out w3s (List.mem_of_getElem? hw3s)
                    have HW3S := hid hw3s
                    clear hw3s k3
                    go_wp2_with fail
                    refine (sInt_any w3s _ sz3).mono ?_
                    rintro e wq ⟨av, bb, rfl, hN, hwq⟩
                    rw [hwq]
                    clear hwq
                    have HSTEP : Hid (Step s ts (fs0 ++ [f]) ts (fs0 ++ [⟨f.params, f.locals, f.code ++ [(op, av)]⟩])) := step_ins HNA.out HNF.out HWS.out HW2S.out HOPF.out (fun w3' h => by rw [HW3S.out] at h; cases h; exact hN) (fun h => by rw [HW3S.out] at h; cases h)
                    clear hN
                    obtain ⟨w6, hw6⟩ : ∃ w6, w6 = wr.setCell ⟨w3.heap.size, 1, none⟩ (.int .i64 av) := ⟨_, rfl⟩
                    have HX6 : Hid (w6.heap[w3.heap.size]? = some (.cells #[.int .i64 op, .int .i64 av] 51 (0, 0))) := by rw [hw6]; show _ = _; simpa using block_set (i := 1) hX (.int .i64 av)
                    have HQ6 : Hid (Below w3.heap.size w3 w6) := by rw [hw6]; exact HQ.out.setCell (Nat.le_refl _) _
                    have rcs := block_cell (block_kept HMM.out HQ6.out)
                    rw [hw6] at rcs
                    go_upto_region 26 with fail
                    rw [← hw6]
                    clear hw6 h4' k3' rcs
                  all_goals
                    clear x0 x1 rcq hkk hX HOPS HQ hwr1
                    refine reg26_any _ _ _ _ _ _ _ _ _ _ _ _ _ _ _ _ _ _ _ _ _ _ _ _ _ _ _ _ _ _ _ _ _ _ _ _ _ _ _ _ _ _ _ _ _ _ _ _ _ _ _ _ _ _ _ _ _ _ _ _ _ _ _ _ _ _ _ _ _ _ _ _ _ _ _ _ _ _ _ _ _ _ _ _ _ _ _ _ _ _ _ _ _ _ _ _ _ _ _ _ _ _ _ _ _ _ _ _ _ _ _ _ _ _ _ _ _ _ _ _ _ _ _ _ _ _ _ _ _ _ _ _ _ _ _ _ _ _ _ _ _ _ _ _ _ _ _ _ _ _ _ _ _ _ _ _ _ _ _ _ _ _ _ _ _ _ _ _ _ _ _ _ _ _ _ _ _ _ _ _ _ s ts fs0 f cs0 cz a1 c1 g2 c2 op av g cl (cutsB 10 text).length ((cutsB 10 text).map .string) w w1 wA w3 w6 HSTEP HX6 HQ6 Hm3 HMM hbg hfc h12' h20 HSZ H120 HWM.out HZ3 HW3 HL3 HGL HB3 hz3 (fun _ _ _ _ _ h => h) (fun _ _ _ _ _ _ _ _ _ _ _ _ _ _ w5 HE => ?_)
                    have HEND := hid HE
                    clear HE HZ3 HW3 HL3 HB3 Hm3 HMM HCS3 hX4 hb4 k2 hll2 hC2 hbg HX6 HQ6
                    go_wp2_with fail
                    go_meet
                    case rel => exact HEND
      case rest =>
        have HEND := hcut
        clear hcut HZ3 HW3 HL3 HB3 Hm3 HM3 HCS3
        generalize wc = w5 at HEND ⊢
        obtain ⟨ts', fs', cs', b1, d1, b2, d2, hM5, hm5, hST, hS5, hC5, hl1, hl2, hZ5, hW5, hL5, hB5⟩ := HEND.out
        have HNX : Hid (∀ T F, modB T F = true → text = showB T F → (ts', fs') = ((items T F).take (i + 1)).foldl ap ([], [])) := hST.next (by rw [← HNL.out]; exact hlt) HSI.out HCR.out
        clear hST HEND
        have rc5 := block_cell hM5
        by_cases t1 : 12 < fs'.length
        case pos =>
          have t1' : (12 : Int) < (fs'.length : Int) := by omega
          have HNO : Hid (∀ T F, modB T F = true → text ≠ showB T F) := fun T F h1 h2 => by have := (fold_bounds h1 (HNX.out T F h1 h2)).2.1; omega
          have zc := block_cell hZ5
          have zf := block_free hZ5
          have z4 := block_cell (twoR_cells (x := .slice none 0 0) (y := .slice none 0 0) hZ5)
          have HF : Hid (ReadPost text w (.returned (.tuple #[.agg #[.slice none 0 0, .slice none 0 0], .bool false])) _) := read_no hB5 HNO.out
          clear hm5 hC5 hS5 hL5 hW5 hZ5
          go_wp2
          exact bodyPost_ret (v := .tuple #[.agg #[.slice none 0 0, .slice none 0 0], .bool false]) (by simp [results, Tryz.results12, go_sem, z4]) rfl HF.out
        have t1' : ¬ (12 : Int) < (fs'.length : Int) := by omega
        by_cases t2 : 20 < ts'.length
        case pos =>
          have t2' : (20 : Int) < (ts'.length : Int) := by omega
          have HNO : Hid (∀ T F, modB T F = true → text ≠ showB T F) := fun T F h1 h2 => by have := (fold_bounds h1 (HNX.out T F h1 h2)).1; omega
          have zc := block_cell hZ5
          have zf := block_free hZ5
          have z4 := block_cell (twoR_cells (x := .slice none 0 0) (y := .slice none 0 0) hZ5)
          have HF : Hid (ReadPost text w (.returned (.tuple #[.agg #[.slice none 0 0, .slice none 0 0], .bool false])) _) := read_no hB5 HNO.out
          clear hm5 hC5 hS5 hL5 hW5 hZ5
          go_wp2
          exact bodyPost_ret (v := .tuple #[.agg #[.slice none 0 0, .slice none 0 0], .bool false]) (by simp [results, Tryz.results12, go_sem, z4]) rfl HF.out
        have t2' : ¬ (20 : Int) < (ts'.length : Int) := by omega
        by_cases t3 : fs'.length = 0
        case pos =>
          have t3' : ¬ (0 : Int) < (fs'.length : Int) := by omega
          have HRELF := hid (show ∀ f ∈ fs', f.code.length ≤ 120 from fun f hf => by obtain ⟨j, hj, -⟩ := List.getElem_of_mem hf; omega)
          have Hm5 := hid hm5
          have HM5 := hid hM5
          have HREST := hid (And.intro hS5 (And.intro hZ5 (And.intro hW5 (And.intro hL5 hB5))))
          clear hm5 hC5 hS5 hL5 hW5 hZ5 hB5
          go_wp2
          go_roundw
          case rel => exact ⟨i + 1, ts', fs', cs', b1, d1, _, d2, by go_num, by omega, HM5.out, Hm5.out, HNX.out, by omega, by omega, HRELF.out, HREST.out.1, ⟨HREST.out.2.1, HREST.out.2.2.1, HREST.out.2.2.2.1⟩, HREST.out.2.2.2.2⟩
          case measure => simp [intOf]; omega
        have t3' : (0 : Int) < (fs'.length : Int) := by omega
        have t4' : IntKind.i64.wrap ((fs'.length : Int) - 1) = ((fs'.length - 1 : Nat) : Int) := by rw [IntKind.wrap_i64]; omega
        have t5' : ((fs'.length - 1 : Nat) : Int) < (fs'.length : Int) := by omega
        obtain ⟨bq, oq, caq, ccq, hbq, -, -, -, cq, -⟩ := hm5.fns (fs'.length - 1) (by omega)
        obtain ⟨lc, hlc⟩ : ∃ lc, lc = (fs'[fs'.length - 1]'(by omega)).code.length := ⟨_, rfl⟩
        rw [← hlc] at cq
        have HLC := hid hlc
        clear hlc
        subst hbq
        obtain ⟨lx, hlx⟩ : ∃ lx, lx = fs'.length - 1 := ⟨_, rfl⟩
        rw [← hlx] at cq t4' t5'
        have HLX := hid hlx
        clear hlx
        by_cases t6 : 120 < lc
        case pos =>
          have t6' : (120 : Int) < (lc : Int) := by omega
          have HNO : Hid (∀ T F, modB T F = true → text ≠ showB T F) := fun T F h1 h2 => by have := (fold_bounds h1 (HNX.out T F h1 h2)).2.2 (fs'.length - 1) (by omega); have h3 := HLC.out; omega
          have zc := block_cell hZ5
          have zf := block_free hZ5
          have z4 := block_cell (twoR_cells (x := .slice none 0 0) (y := .slice none 0 0) hZ5)
          have HF : Hid (ReadPost text w (.returned (.tuple #[.agg #[.slice none 0 0, .slice none 0 0], .bool false])) _) := read_no hB5 HNO.out
          clear hm5 hC5 hS5 hL5 hW5 hZ5
          go_wp2
          exact bodyPost_ret (v := .tuple #[.agg #[.slice none 0 0, .slice none 0 0], .bool false]) (by simp [results, Tryz.results12, go_sem, z4]) rfl HF.out
        have t6' : ¬ (120 : Int) < (lc : Int) := by omega
        have HRELF := hid (show ∀ f ∈ fs', f.code.length ≤ 120 from codes_all t3 hC5 HLC.out t6)
        have Hm5 := hid hm5
        have HM5 := hid hM5
        have HREST := hid (And.intro hS5 (And.intro hZ5 (And.intro hW5 (And.intro hL5 hB5))))
        clear hm5 hC5 hS5 hL5 hW5 hZ5 hB5
        go_wp2
        go_roundw
        case rel => exact ⟨i + 1, ts', fs', cs', b1, d1, _, d2, by go_num, by omega, HM5.out, Hm5.out, HNX.out, by omega, by omega, HRELF.out, HREST.out.1, ⟨HREST.out.2.1, HREST.out.2.2.1, HREST.out.2.2.2.1⟩, HREST.out.2.2.2.2⟩
        case measure => simp [intOf]; omega
    · have HD : Hid (∀ T F, modB T F = true → text = showB T F → ts = T ∧ fs = F) := fun T F h1 h2 => by
        have q := HCR.out T F h1 h2
        have e : (cutsB 10 text).length = (items T F).length + 1 := by rw [h2, cutsB_show h1]; simp
        have hn := HNL.out
        rw [List.take_of_length_le (by omega), ap_all] at q
        exact ⟨congrArg Prod.fst q, congrArg Prod.snd q⟩
      have hsm : Small ts fs := ⟨by omega, hsz, by omega, fun f hf => Nat.le_trans (h120 f hf) (by omega)⟩
      have hw1 : IntKind.i64.wrap ((nl : Int) - 1) = (nl : Int) - 1 := by rw [IntKind.wrap_i64]; omega
      have hli : ¬ (i : Int) < (nl : Int) - 1 := by omega
      have hst := hmr.strs.low (Nat.zero_le _)
      have hfn := hmr.fns.low (Nat.zero_le _)
      have rc := block_cell hMr
      clear HCR hsz h120 hWr hLr
      by_cases ht0 : text.data.toList = []
      · have ht1 : (text.toList == []) = true := by rw [ByteArray.toList_eq, ht0]; rfl
        have HNO : Hid (∀ T F, modB T F = true → text ≠ showB T F) := fun T F h1 h2 => show_some h1 (by rw [← h2]; exact ht0)
        have zc := block_cell hZr
        have zf := block_free hZr
        have z4 := block_cell (twoR_cells (x := .slice none 0 0) (y := .slice none 0 0) hZr)
        have HF : Hid (ReadPost text w (.returned (.tuple #[.agg #[.slice none 0 0, .slice none 0 0], .bool false])) _) := read_no hBr HNO.out
        go_wp2
        exact bodyPost_ret (v := .tuple #[.agg #[.slice none 0 0, .slice none 0 0], .bool false]) (by simp [results, Tryz.results12, go_sem, z4]) rfl HF.out
      have ht1 : (text.toList == []) = false := by rw [ByteArray.toList_eq]; simpa using ht0
      go_wp2_with fail
      refine (sShow_any a1 a2 ts fs c1 c2 wr hsm hst hfn).mono ?_
      rintro e w6 ⟨rfl, hb6⟩
      have hZ6 := block_kept hZr hb6
      have hR6 : ModAt w6 (w.heap.size + 1) a1 ts.length c1 a2 fs.length c2 := block_kept hMr hb6
      have hB6 : Below w.heap.size w w6 := hBr.trans (hb6.mono hBr.size)
      have hm6 := hmr.below hb6
      have rc6 := block_cell hR6
      clear rc hmr hst hfn
      by_cases heq : shown ts fs = text
      · have hmod : modB ts fs = true := by
          cases h : modB ts fs
          · exfalso
            apply ht0
            rw [← heq]
            unfold shown
            rw [h]
            rfl
          · rfl
        have hsh : showB ts fs = text := by rw [← heq]; unfold shown; rw [if_pos hmod]
        have hq : ((shown ts fs).toList == text.toList) = true := by rw [heq]; simp
        have HP : Hid (ReadPost text w (.returned (.tuple #[.agg #[.slice a1 ts.length c1, .slice a2 fs.length c2], .bool true])) ((w6.setCell ⟨w.heap.size, 0, none⟩ (.slice a1 ts.length c1)).setCell ⟨w.heap.size, 1, none⟩ (.slice a2 fs.length c2))) :=
          ⟨(hB6.setCell (p := ⟨w.heap.size, 0, none⟩) (Nat.le_refl _) _).setCell (p := ⟨w.heap.size, 1, none⟩) (Nat.le_refl _) _, .inl ⟨ts, fs, a1, c1, a2, c2, cs, rfl, hmod, hsh.symm, ((hm6.set (p := ⟨w.heap.size, 0, none⟩) (by show w.heap.size < w1.heap.size + 1; omega) _).set (p := ⟨w.heap.size, 1, none⟩) (by show w.heap.size < w1.heap.size + 1; omega) _).low (by omega)⟩⟩
        have zc := block_cell hZ6
        have zf := block_free hZ6
        have z4 := block_cell (twoR_cells (x := .slice a1 ts.length c1) (y := .slice a2 fs.length c2) hZ6)
        clear hm6 hsh heq
        generalize shown ts fs = sh at hq
        go_wp2
        exact bodyPost_ret (v := .tuple #[.agg #[.slice a1 ts.length c1, .slice a2 fs.length c2], .bool true]) (by simp [results, Tryz.results12, go_sem, z4]) rfl HP.out
      · have hq : ((shown ts fs).toList == text.toList) = false := by
          rw [ByteArray.toList_eq, ByteArray.toList_eq, beq_eq_false_iff_ne]
          intro e
          exact heq (ByteArray.ext (by rw [← Array.toList_inj]; exact e))
        have HNO : Hid (∀ T F, modB T F = true → text ≠ showB T F) := fun T F h1 h2 => by
          obtain ⟨rfl, rfl⟩ := HD.out T F h1 h2
          exact heq (by unfold shown; rw [if_pos h1]; exact h2.symm)
        clear hm6 rc6
        generalize shown ts fs = sh at hq
        have zc := block_cell hZ6
        have zf := block_free hZ6
        have z4 := block_cell (twoR_cells (x := .slice none 0 0) (y := .slice none 0 0) hZ6)
        have HF : Hid (ReadPost text w (.returned (.tuple #[.agg #[.slice none 0 0, .slice none 0 0], .bool false])) _) := read_no hB6 HNO.out
        go_wp2
        exact bodyPost_ret (v := .tuple #[.agg #[.slice none 0 0, .slice none 0 0], .bool false]) (by simp [results, Tryz.results12, go_sem, z4]) rfl HF.out
end Go.Proofs.YtpmkfdinkomaiaaGreatDoor
