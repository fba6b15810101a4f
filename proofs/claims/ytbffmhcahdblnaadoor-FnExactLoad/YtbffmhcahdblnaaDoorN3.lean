/-
  What the document's Load answers: the module whose bytes these are, if one that is ok has them.
-/
import Derived.Test.YtbffmhcahdblnaaDoorN2b
import Derived.Deep.RegionHeld3
import Derived.Deep.RegionLaw
namespace Go.Proofs.YtbffmhcahdblnaaDoor
open Go.RowKit

set_option maxRecDepth 100000 in
set_option maxHeartbeats 8000000 in
theorem sLoad_any (ab : Option Addr) (bs : List Int) (cap : Nat) (w : World) (hn : bs.length ≤ 1048576) (hby : Byte bs) (hb : BytesAt w 0 ab bs) (hcap : bs.length ≤ cap) :
    Calls Tryd.prog 14 #[.slice ab bs.length cap] w fun e w' =>
      (∃ (ts : List ByteArray) (fs : List Fn) (cs : List (Option Addr × Nat)) (a1 : Option Addr) (c1 : Nat) (a2 : Option Addr) (c2 : Nat), modB ts fs = true ∧ bs = modBytes ts fs ∧ e = .returned (.tuple #[.agg #[.slice a1 ts.length c1, .slice a2 fs.length c2], .bool true]) ∧ ModOwn w' w.heap.size a1 c1 a2 c2 ts fs cs ∧ Below w.heap.size w w') ∨
      ((¬ ∃ ts fs, modB ts fs = true ∧ bs = modBytes ts fs) ∧ e = .returned (.tuple #[.agg #[.slice none 0 0, .slice none 0 0], .bool false]) ∧ Below w.heap.size w w') := by
  obtain ⟨i0, hi, hz0, hz1, hz2⟩ := info_parts info9
  obtain ⟨i1', ji, jz0, jz1, jz2⟩ := info_parts info47
  obtain ⟨i2', li, lz0, lz1, lz2⟩ := info_parts info44
  by_cases hbig : 20000 < bs.length
  · have hbig' : (20000 : Int) < (bs.length : Int) := by omega
    have hno : ¬ ∃ ts fs, modB ts fs = true ∧ bs = modBytes ts fs := by
      rintro ⟨ts, fs, h1, h2⟩
      have := modBytes_len h1
      rw [← h2] at this
      omega
    go_enter Tryd.func14, Tryd.ntmps14
    go_wp2
    refine bodyPost_ret (v := .tuple #[.agg #[.slice none 0 0, .slice none 0 0], .bool false]) (by simp [results, Tryd.results14, go_sem]) rfl (Or.inr ⟨hno, rfl, ?_⟩)
    exact ((Below.refl _ _).alloc (Nat.le_refl _) _).alloc (by simp) _
  · have hbig' : (bs.length : Int) ≤ 20000 := by omega
    go_enter Tryd.func14, Tryd.ntmps14
    go_wp2_with fail
    have hA := LdAt.start w ab bs.length cap
    have hzA : w.heap.size + 3 = (((w.alloc (.cells #[.slice none 0 0, .slice none 0 0] 27)).alloc (.cells #[.slice none 0 0, .slice none 0 0] 27)).alloc (.cells #[.slice ab bs.length cap, .int .i64 0, .bool false] 69)).heap.size := by simp
    generalize (((w.alloc (.cells #[.slice none 0 0, .slice none 0 0] 27)).alloc (.cells #[.slice none 0 0, .slice none 0 0] 27)).alloc (.cells #[.slice ab bs.length cap, .int .i64 0, .bool false] 69)) = wA at hA hzA ⊢
    obtain ⟨M, eM⟩ : ∃ M, Hid (M = w.heap.size + 1) := ⟨_, rfl⟩
    rw [← eM.out] at hA ⊢
    obtain ⟨R, eR⟩ : ∃ R, Hid (R = M + 1) := ⟨_, rfl⟩
    rw [← eR.out] at hA ⊢
    have IR : In w R ab bs cap := ⟨hn, hby, hb, by have := eM.out; have := eR.out; omega, hcap⟩
    refine (sCount_pos R ab bs cap 0 false 20 _ w IR hA.take (Nat.zero_le _) hA.below).mono ?_
    rintro e w1 ⟨tn, q1, bd1, ht20, hq1, rfl, hT1, ho1, hx1, hps1⟩
    have h1 := hA.only ho1 hT1
    have HT : Hid (PT bs bd1 [] tn (bs.drop q1)) := PT.start hx1
    clear hx1 ho1 hT1 hA hzA
    go_wp2_with fail
    go_loopw [6] (fun kv wr => ∃ (k q : Nat) (bd : Bool) (dn : List ByteArray) (a : Option Addr) (c : Nat), kv = .int .i64 k ∧ (k = 0 ∨ 0 < bs.length) ∧ dn.length + k ≤ 20 ∧ q ≤ bs.length ∧ (∀ t ∈ dn, t.size ≤ 60) ∧ Hid (PT bs bd dn k (bs.drop q)) ∧ LdAt w wr M R ab bs.length cap q bd (.slice a dn.length c) (.slice none 0 0) ∧ wr.ownsRow (w.heap.size + 3) 9 1 (.slice a dn.length c) dn.length (dn.map .string)) (fun kv _ => (intOf kv).toNat)
    case atStart => exact ⟨tn, q1, bd1, [], none, 0, rfl, hps1, by simpa using ht20, hq1, by simp, HT, h1, World.ownsRow_nil _ _ _ _⟩
    case round =>
      obtain ⟨k, q, bd, dn, a, c, rfl, hps, hk20, hq, hsz, HP, hL, hown⟩ := hrel
      clear HT h1 ht20
      by_cases hpos0 : 0 < k
      · have hpos : (0 : Int) < (k : Int) := by omega
        obtain ⟨k1, hk1⟩ : ∃ k1, k = k1 + 1 := ⟨k - 1, by omega⟩
        rw [hk1] at HP
        go_wp2_with fail
        refine (sCount_any R ab bs cap q bd 60 _ w IR hL.take hq hL.below).mono ?_
        rintro e w2 ⟨n, q2, bd2, hn60, hq2, rfl, hT2, ho2, hx2⟩
        have hL2 := hL.only ho2 hT2
        have hown2 := own_only hown (by have := hL.eR; omega) ho2
        have HX : Hid (∀ v r, pCount 60 (bs.drop q) = some (v, r) → n = v ∧ bs.drop q2 = r ∧ bd2 = bd) := hx2
        clear hx2 hT2 ho2 hown hL
        have rc := block_cell hL2.take
        have mc := block_cell hL2.mod
        have mf := block_free hL2.mod
        have rf := block_free hL2.take
        by_cases hov : bs.length < q2 + n
        · have hov' : (bs.length : Int) < (q2 : Int) + (n : Int) := by omega
          have hno := PT.out HP.out HX.out hq2 hov
          have nc := block_cell hL2.res
          have nf := block_free hL2.res
          have hbe := hL2.below
          clear hL2
          go_wp2
          refine bodyPost_ret (v := .tuple #[.agg #[.slice none 0 0, .slice none 0 0], .bool false]) (by simp [results, Tryd.results14, go_sem, nc]) rfl (Or.inr ⟨hno, rfl, ?_⟩)
          exact (hbe.setCell (Nat.le_refl _) _).setCell (Nat.le_refl _) _
        · have hov' : (q2 : Int) + (n : Int) ≤ (bs.length : Int) := by omega
          have HP2 : Hid (PT bs bd2 (dn ++ [strOfNums ((bs.drop q2).take n)]) k1 (bs.drop (q2 + n))) := PT.step HP.out HX.out
          have h0 : 0 < bs.length := by omega
          clear HP HX hps
          obtain ⟨v, hsl, hsa, hcv⟩ := cut_text ab bs cap q2 n w h0 hn hb hcap (by omega)
          have hwr : IntKind.i64.wrap ((q2 : Int) + (n : Int)) = (q2 : Int) + (n : Int) := wrap_small _ (by omega) (by omega)
          have z0 : (0 : Int) ≤ (q2 : Int) := by omega
          have z1 : (q2 : Int) ≤ (q2 : Int) + (n : Int) := by omega
          have z2 : (q2 : Int) + (n : Int) ≤ (cap : Int) := by omega
          have hts : (strOfNums ((bs.drop q2).take n)).size ≤ 60 := by simp [strOfNums, ByteArray.size]; omega
          generalize strOfNums ((bs.drop q2).take n) = t at *
          have hbe := hL2.below
          go_wp2
          have hcv1 := hcv w2.drew hbe.drew
          have mcA := block_cell (block_old hL2.mod (.cells #[.string t] 9))
          clear hcv
          go_region_law ((refine step_append_lies _ (by rfl) _ _ _ (by rfl) (w.heap.size + 3) 9 i0 (.string ByteArray.empty) 1 16 Tryd.underlying24 hi hz0 hz1 hz2 rfl (by decide) _ _ _ (by rfl) ((hown2.alloc _).drew) ⟨w2.heap.size, 0, none⟩ 1 1 [.string t] (by rfl) (by rfl) (World.news_of_block (cs := #[.string t]) (t := 9) (fr := (0, 0)) (heap_alloc_new w2 _)) (by simp [Value.oneCell']) (by decide) (by unfold maxLen; omega) (by omega) (by have := hL2.size; simp; omega) (w2.heap.size + 1) (by simp) ?_; intro g cp w4 hown4 hgrow4 hat4 hlt4; have hb4 := (((Below.refl (w.heap.size + 3) w2).alloc hL2.size (.cells #[.string t] 9)).drew).trans (far_grown ((hown2.alloc _).drew) hgrow4 (by have := hL2.size; simp; omega)); have hL4 := hL2.far hb4; have mc4 := block_cell hL4.mod; have mf4 := block_free hL4.mod))
          all_goals clear hsl hsa hcv1 mcA rc mc mf rf hL2 hown2 hgrow4 hat4 hb4
          all_goals
            have hL5 := hL4.set0 (.slice (some ⟨g, 0, none⟩) (dn.length + 1) cp)
            have hown5 := ownsRow_setCell_below hown4 (a := ⟨M, 0, none⟩) (by have := eM.out; show M < _; omega) (.slice (some ⟨g, 0, none⟩) (dn.length + 1) cp)
            generalize (w4.setCell ⟨M, 0, none⟩ (.slice (some ⟨g, 0, none⟩) (dn.length + 1) cp)) = w5 at hL5 hown5 ⊢
            have rc5 := block_cell hL5.take
            have rf5 := block_free hL5.take
            clear hL4 hown4 mc4 mf4 hlt4
            go_wp2
            go_roundw
            case rel => exact ⟨k1, q2 + n, bd2, dn ++ [t], some ⟨g, 0, none⟩, cp, by go_num, Or.inr h0, by simp; omega, by omega, fun x hx => by
              rcases List.mem_append.1 hx with hx | hx
              · exact hsz x hx
              · rw [List.mem_singleton.1 hx]; exact hts, HP2, by simpa using hL5.go _ (q2 + n) (by omega), by simpa using ownsRow_setCell_below hown5 (a := ⟨R, 1, none⟩) (by have := eM.out; have := eR.out; show R < _; omega) _⟩
            case measure => simp [intOf]; omega
      · have hk0 : k = 0 := by omega
        subst hk0
        have hsz0 := hL.size
        go_wp2_with fail
        refine (sCount_any R ab bs cap q bd 12 _ w IR hL.take hq hL.below).mono ?_
        rintro e w2 ⟨fn, q2, bd2, hf12, hq2, rfl, hT2, ho2, hx2⟩
        have hL2 := hL.only ho2 hT2
        have hown2 := own_only hown (by have := eM.out; have := eR.out; omega) ho2
        have HF : Hid (PF bs bd2 dn [] fn (bs.drop q2)) := PF.start HP.out hx2
        have hdn : dn.length ≤ 20 := by omega
        clear hx2 hT2 ho2 hown hL HP hps hpos0 hk20 hsz0 hq hps1 hq1
        go_wp2_with fail
        go_loopw [8] (fun kv wr => ∃ (k q : Nat) (bd : Bool) (fs : List Fn) (cs : List (Option Addr × Nat)) (a2 : Option Addr) (c2 : Nat), kv = .int .i64 k ∧ fs.length + k ≤ 12 ∧ q ≤ bs.length ∧ (∀ f ∈ fs, f.code.length ≤ 120) ∧ Hid (PF bs bd dn fs k (bs.drop q)) ∧ LdAt w wr M R ab bs.length cap q bd (.slice a dn.length c) (.slice a2 fs.length c2) ∧ ModOwn wr (w.heap.size + 3) a c a2 c2 dn fs cs) (fun kv _ => (intOf kv).toNat)
        case atStart => exact ⟨fn, q2, bd2, [], [], none, 0, rfl, by simpa using hf12, hq2, by simp, HF, hL2, hown2, World.ownsRow_nil _ _ _ _, CodesOwn.nil _ _⟩
        case round =>
          obtain ⟨k, q, bd, fs, cs, a2, c2, rfl, hk12, hq, hcl, HP, hL, hmo⟩ := hrel
          clear HF hL2 hf12 hown2 hq2
          by_cases hpos0 : 0 < k
          · have hpos : (0 : Int) < (k : Int) := by omega
            obtain ⟨k1, hk1⟩ : ∃ k1, k = k1 + 1 := ⟨k - 1, by omega⟩
            rw [hk1] at HP
            have hlt := hmo.lt
            have hZ : Below wr.heap.size wr (wr.alloc (.cells #[.int .i64 0, .int .i64 0, .slice none 0 0] 44)) := (Below.refl _ _).alloc (Nat.le_refl _) _
            have hX0 := block_new wr #[.int .i64 0, .int .i64 0, .slice none 0 0] 44
            have hLx := hL.far (hZ.mono hL.size)
            have hmx := hmo.far hlt hZ
            have hsz3 := hL.size
            go_wp2_with fail
            obtain ⟨X, eX⟩ : ∃ X, Hid (X = wr.heap.size) := ⟨_, rfl⟩
            rw [← eX.out] at hX0 hlt ⊢
            have hXN : w.heap.size + 3 ≤ X := by rw [eX.out]; exact hsz3
            have hRX : R < X := by have := eM.out; have := eR.out; omega
            generalize (wr.alloc (.cells #[.int .i64 0, .int .i64 0, .slice none 0 0] 44)) = wx at hLx hX0 hmx ⊢
            clear hZ hL hmo hsz3
            refine (sCount_any R ab bs cap q bd 6 _ w IR hLx.take hq hLx.below).mono ?_
            rintro e w3 ⟨n1, q3, bd3, h6, hq3, rfl, hT3, ho3, hx3⟩
            have HX3 : Hid (∀ v r, pCount (6 : Nat) (bs.drop q) = some (v, r) → n1 = v ∧ bs.drop q3 = r ∧ bd3 = bd) := hx3
            have hL3 := hLx.only ho3 hT3
            have hX3 := ho3.blk hX0 (by omega)
            have hm3 := hmx.only (by have := eM.out; have := eR.out; omega) ho3
            have xc3 := block_cell hX3
            have xf3 := block_free hX3
            clear hLx hX0 hmx hT3 ho3 hx3
            go_wp2_with fail
            have hS3 : Below X w3 (w3.setCell ⟨X, 0, none⟩ (.int .i64 n1)) := (Below.refl X w3).setCell (p := ⟨X, 0, none⟩) (Nat.le_refl X) _
            have hL3' := hL3.far (hS3.mono hXN)
            have hX3' := block_set (i := 0) hX3 (.int .i64 n1)
            have hm3' := hm3.far hlt hS3
            generalize (w3.setCell ⟨X, 0, none⟩ (.int .i64 n1)) = w3' at hL3' hX3' hm3' ⊢
            clear hS3 hL3 hX3 hm3 xc3 xf3
            refine (sCount_any R ab bs cap q3 bd3 12 _ w IR hL3'.take hq3 hL3'.below).mono ?_
            rintro e w4 ⟨n2, q4, bd4, h12, hq4, rfl, hT4, ho4, hx4⟩
            have HX4 : Hid (∀ v r, pCount (12 : Nat) (bs.drop q3) = some (v, r) → n2 = v ∧ bs.drop q4 = r ∧ bd4 = bd3) := hx4
            have hL4 := hL3'.only ho4 hT4
            have hX4 := ho4.blk hX3' (by omega)
            have hm4 := hm3'.only (by have := eM.out; have := eR.out; omega) ho4
            have xc4 := block_cell hX4
            have xf4 := block_free hX4
            clear hL3' hX3' hm3' hT4 ho4 hx4
            go_wp2_with fail
            have hS4 : Below X w4 (w4.setCell ⟨X, 1, none⟩ (.int .i64 n2)) := (Below.refl X w4).setCell (p := ⟨X, 1, none⟩) (Nat.le_refl X) _
            have hL4' := hL4.far (hS4.mono hXN)
            have hX4' := block_set (i := 1) hX4 (.int .i64 n2)
            have hm4' := hm4.far hlt hS4
            generalize (w4.setCell ⟨X, 1, none⟩ (.int .i64 n2)) = w4' at hL4' hX4' hm4' ⊢
            clear hS4 hL4 hX4 hm4 xc4 xf4
            refine (sCount_any R ab bs cap q4 bd4 120 _ w IR hL4'.take hq4 hL4'.below).mono ?_
            rintro e w5 ⟨n3, q5, bd5, h120, hq5, rfl, hT5, ho5, hx5⟩
            have HC : Hid (PC bs bd5 dn fs k1 n1 n2 [] n3 (bs.drop q5)) := PC.start HP.out HX3.out HX4.out hx5
            have hL5 := hL4'.only ho5 hT5
            have hX5 : w5.heap[X]? = some (Obj.cells #[.int .i64 n1, .int .i64 n2, .slice none 0 0] 44 (0, 0)) := by simpa using ho5.blk hX4' (by omega)
            have hm5 := hm4'.only (by have := eM.out; have := eR.out; omega) ho5
            clear hL4' hX4' hm4' hT5 ho5 hx5 HX3 HX4 HP
            obtain ⟨wo, hwo⟩ : ∃ wo, wo = wr := ⟨_, rfl⟩
            rw [← hwo] at eX
            clear hwo
            go_wp2_with fail
            go_loopw [10] (fun iv wr => ∃ (i q : Nat) (bd : Bool) (xs : List (Int × Int)) (a3 : Option Addr) (c3 : Nat), iv = .int .i64 i ∧ xs.length + i ≤ 120 ∧ q ≤ bs.length ∧ Hid (PC bs bd dn fs k1 n1 n2 xs i (bs.drop q)) ∧ LdAt w wr M R ab bs.length cap q bd (.slice a dn.length c) (.slice a2 fs.length c2) ∧ wr.heap[X]? = some (Obj.cells #[.int .i64 n1, .int .i64 n2, .slice a3 xs.length c3] 44 (0, 0)) ∧ ModOwn wr (w.heap.size + 3) a c a2 c2 dn fs cs ∧ wr.ownsRow (X + 1) 47 2 (.slice a3 xs.length c3) xs.length (codeVals xs)) (fun iv _ => (intOf iv).toNat)
            case atStart => exact ⟨n3, q5, bd5, [], none, 0, rfl, by simpa using h120, hq5, HC, hL5, hX5, hm5, World.ownsRow_nil _ _ _ _⟩
            case round =>
              obtain ⟨i, q, bd, xs, a3, c3, rfl, hi120, hq, HC, hL, hX, hmo, hown⟩ := hrel
              clear hL5 hX5 hm5 h120
              by_cases hip : 0 < i
              · have hip' : (0 : Int) < (i : Int) := by omega
                obtain ⟨i1, hi1⟩ : ∃ i1, i = i1 + 1 := ⟨i - 1, by omega⟩
                rw [hi1] at HC
                go_wp2_with fail
                refine (sNumber_any R ab bs cap q bd _ w hL.take hq hn hby hb hL.below IR.old hL.below.size).mono ?_
                rintro e w6 ⟨op, q6, bd6, -, -, hq6, rfl, hT6, ho6, hx6⟩
                have HX6 : Hid (∀ v r, pNum (bs.drop q) = some (v, r) → op = v ∧ bs.drop q6 = r ∧ bd6 = bd) := hx6
                have hL6 := hL.only ho6 hT6
                have hX6 := ho6.blk hX (by omega)
                have hm6 := hmo.only (by have := eM.out; have := eR.out; omega) ho6
                have own6 := own_only hown (by omega) ho6
                have xc6 := block_cell hX6
                have hD6 : Below w6.heap.size w6 w6.drew := (Below.refl _ _).drew
                have hLd := hL6.far (hD6.mono hL6.size)
                have hXd : w6.drew.heap[X]? = some (Obj.cells #[.int .i64 n1, .int .i64 n2, .slice a3 xs.length c3] 44 (0, 0)) := hX6
                have hmd := hm6.below hD6
                have ownd : w6.drew.ownsRow (X + 1) 47 2 (.slice a3 xs.length c3) xs.length (codeVals xs) := own6.drew
                clear hL hX hmo hown hT6 ho6 hx6 hL6 hX6 hm6 own6 hD6
                have hnum : Calls Tryd.prog 39 #[.pointer (some ⟨R, 0, none⟩)] w6.drew fun e w7 => ∃ (av : Int) (q7 : Nat) (bd7 : Bool), q7 ≤ bs.length ∧ e = .returned (.int .i64 av) ∧ Hid (∀ v r, pNum (bs.drop q6) = some (v, r) → av = v ∧ bs.drop q7 = r ∧ bd7 = bd6) ∧
                    LdAt w w7 M R ab bs.length cap q7 bd7 (.slice a dn.length c) (.slice a2 fs.length c2) ∧ w7.heap[X]? = some (Obj.cells #[.int .i64 n1, .int .i64 n2, .slice a3 xs.length c3] 44 (0, 0)) ∧ ModOwn w7 (w.heap.size + 3) a c a2 c2 dn fs cs ∧ w7.ownsRow (X + 1) 47 2 (.slice a3 xs.length c3) xs.length (codeVals xs) := by
                  refine (sNumber_any R ab bs cap q6 bd6 _ w hLd.take hq6 hn hby hb hLd.below IR.old hLd.below.size).mono ?_
                  rintro e w7 ⟨av, q7, bd7, -, -, hq7, rfl, hT7, ho7, hx7⟩
                  exact ⟨av, q7, bd7, hq7, rfl, hx7, hLd.only ho7 hT7, ho7.blk hXd (by omega), hmd.only (by have := eM.out; have := eR.out; omega) ho7, own_only ownd (by omega) ho7⟩
                clear hLd hXd hmd ownd
                go_wp2
                go_region_law (first
                  | (refine step_append_lies _ (by rfl) _ _ _ (by rfl) (X + 1) 47 i1' (.agg #[.int .i64 0, .int .i64 0]) 2 16 Tryd.underlying42 ji jz0 jz1 jz2 rfl (by decide) _ _ _ (by rfl) (own7.alloc _) ⟨w7.heap.size, 0, none⟩ 1 1 [.int .i64 op, .int .i64 av] (by rfl) (by rfl) (World.news_of_block (cs := #[.int .i64 op, .int .i64 av]) (t := 47) (fr := (0, 0)) (heap_alloc_new w7 _)) (by simp [Value.oneCell']) (by decide) (by unfold maxLen; omega) (by omega) (by have := lt_block hX7; simp; omega) (w7.heap.size + 1) (by simp) ?_; intro g cp w8 hown8 hgrow8 hat8 hlt8; have hb8 := ((Below.refl (X + 1) w7).alloc (by have := lt_block hX7; omega) (.cells #[.int .i64 op, .int .i64 av] 47)).trans (far_grown (own7.alloc _) hgrow8 (by have := lt_block hX7; simp; omega)); have hL8 := hL7.far (hb8.mono (by omega)); have hX8 : w8.heap[X]? = some (Obj.cells #[.int .i64 n1, .int .i64 n2, .slice a3 xs.length c3] 44 (0, 0)) := (by rw [hb8.block X (by omega)]; exact hX7); have hm8 := hm7.far hlt (hb8.mono (by omega)); have xc8 := block_cell hX8; have xf8 := block_free hX8; clear hgrow8 hat8 hlt8 hb8)
                  | (go_simp; go_at_call 39; refine hnum.mono ?_; rintro e w7 ⟨av, q7, bd7, hq7, rfl, HX7, hL7, hX7, hm7, own7⟩; have xc7 := block_cell hX7; have xcA := block_cell (block_old hX7 (.cells #[.int .i64 op, .int .i64 av] 47))))
                all_goals
                  have hS : Below X w8 (w8.setCell ⟨X, 2, none⟩ (.slice (some ⟨g, 0, none⟩) (xs.length + 1) cp)) := (Below.refl X w8).setCell (p := ⟨X, 2, none⟩) (Nat.le_refl X) _
                  have hL9 := hL8.far (hS.mono hXN)
                  have hX9 := block_set (i := 2) hX8 (.slice (some ⟨g, 0, none⟩) (xs.length + 1) cp)
                  have hm9 := hm8.far hlt hS
                  have own9 := ownsRow_setCell_below hown8 (a := ⟨X, 2, none⟩) (by show X < X + 1; omega) (.slice (some ⟨g, 0, none⟩) (xs.length + 1) cp)
                  generalize (w8.setCell ⟨X, 2, none⟩ (.slice (some ⟨g, 0, none⟩) (xs.length + 1) cp)) = w9 at hL9 hX9 hm9 own9 ⊢
                  have HC2 : Hid (PC bs bd7 dn fs k1 n1 n2 (xs ++ [(op, av)]) i1 (bs.drop q7)) := PC.step HC.out HX6.out HX7.out
                  clear hS hL8 hX8 hm8 hown8 xc8 xf8 hnum hL7 hX7 hm7 own7 xc7 xcA HX6 HX7 HC xc6
                  go_wp2
                  go_roundw
                  case rel => exact ⟨i1, q7, bd7, xs ++ [(op, av)], some ⟨g, 0, none⟩, cp, by go_num, by simp; omega, hq7, HC2, hL9, by simpa using hX9, hm9, by simpa [codeVals] using own9⟩
                  case measure => simp [intOf]; omega
              · have hi0 : i = 0 := by omega
                subst hi0
                have HF2 : Hid (PF bs bd dn (fs ++ [⟨n1, n2, xs⟩]) k1 (bs.drop q)) := PC.fin HC.out
                have hxl : xs.length ≤ 120 := by omega
                have mc := block_cell hL.mod
                have mf := block_free hL.mod
                have xc := block_cell hX
                have hszr := hL.size
                have hZ2 : Below wr.heap.size wr (wr.alloc (.cells #[.int .i64 n1, .int .i64 n2, .slice a3 xs.length c3] 44)) := (Below.refl _ _).alloc (Nat.le_refl _) _
                have hLz := hL.far (hZ2.mono hszr)
                have mcz := block_cell hLz.mod
                clear HC hip hi120 hX
                go_wp2_with (first | (at_builtin; refine wpList_append_lies _ rfl _ _ 25 rfl (w.heap.size + 3) 44 i2' (.agg #[.int .i64 0, .int .i64 0, .slice none 0 0]) 3 40 Tryd.underlying25 li lz0 lz1 lz2 rfl (by decide) _ _ _ rfl (World.ownsRow.alloc hmo.funcs _) ⟨wr.heap.size, 0, none⟩ 1 1 [.int .i64 n1, .int .i64 n2, .slice a3 xs.length c3] rfl rfl (cell_three_new _ _ _ _ _) (by intro u hu; simp at hu; rcases hu with rfl | rfl | rfl <;> rfl) (by decide) (by unfold maxLen; omega) (by omega) (by simp; omega) _ rfl ?_; intro g cp w6 hown6 hgrow6 hat6 hlt6; have hk6 : Keeps (w.heap.size + 3) [44] (wr.alloc (.cells #[.int .i64 n1, .int .i64 n2, .slice a3 xs.length c3] 44)) w6 := Keeps.grown (World.ownsRow.alloc hmo.funcs _) hgrow6 (by simp); have hL6 := hLz.far (hk6.toBelow (by simp; omega)); have mc6 := block_cell hL6.mod; have mf6 := block_free hL6.mod))
                have hMb : M < w.heap.size + 3 := by have := eM.out; omega
                have hfun : w6.ownsRow (w.heap.size + 3) 44 3 (.slice (some ⟨g, 0, none⟩) (fs ++ [⟨n1, n2, xs⟩] : List Fn).length cp) (fs ++ [⟨n1, n2, xs⟩] : List Fn).length (fnVals (fs ++ [⟨n1, n2, xs⟩]) (cs ++ [(a3, c3)])) := by
                  rw [fnVals_snoc hmo.codes.len]
                  simpa using hown6
                have hcod : CodesOwn w6 (w.heap.size + 3) (fs ++ [⟨n1, n2, xs⟩]) (cs ++ [(a3, c3)]) := CodesOwn.snoc2 (X := X) (X' := X + 1) ((hmo.codes.below hZ2).keeps hk6 (by simp)) hlt.codes (by omega) (by omega) (own_keeps (World.ownsRow.alloc hown _) hk6 (by simp))
                have htex := own_keeps (World.ownsRow.alloc hmo.texts (.cells #[.int .i64 n1, .int .i64 n2, .slice a3 xs.length c3] 44)) hk6 (by simp)
                refine ⟨⟨k1, q, bd, fs ++ [⟨n1, n2, xs⟩], cs ++ [(a3, c3)], some ⟨g, 0, none⟩, cp, rfl, by simp; omega, hq, ?_, HF2, by simpa using hL6.set1 _, ⟨ownsRow_setCell_below htex hMb _, ownsRow_setCell_below hfun hMb _, hcod.set hMb _⟩⟩, by simp [intOf]; omega⟩
                intro f hf
                rcases List.mem_append.1 hf with hf | hf
                · exact hcl f hf
                · rw [List.mem_singleton.1 hf]; exact hxl
          · have hk0 : k = 0 := by omega
            subst hk0
            have HE : Hid (∀ ts fs', modB ts fs' = true → bs = modBytes ts fs' → bd = false ∧ ts = dn ∧ fs' = fs) := fun ts fs' h1 h2 => PF.fin HP.out h1 h2
            have rc := block_cell hL.take
            have mc := block_cell hL.mod
            have nc := block_cell hL.res
            have nf := block_free hL.res
            have hbe := hL.below
            have hsm : Small dn fs := ⟨by omega, fun s hs => by have := hsz s hs; omega, by omega, fun f hf => by have := hcl f hf; omega⟩
            cases bd with
            | true =>
              have hno : ¬ ∃ ts fs, modB ts fs = true ∧ bs = modBytes ts fs := by
                rintro ⟨ts, fs', h1, h2⟩
                have := (HE.out ts fs' h1 h2).1
                cases this
              clear HP HE hL
              go_wp2
              refine bodyPost_ret (v := .tuple #[.agg #[.slice none 0 0, .slice none 0 0], .bool false]) (by simp [results, Tryd.results14, go_sem, nc]) rfl (Or.inr ⟨hno, rfl, ?_⟩)
              exact (hbe.setCell (Nat.le_refl _) _).setCell (Nat.le_refl _) _
            | false =>
              by_cases h0 : bs.length = 0
              · have h0' : ((bs.length : Int) == 0) = true := by rw [h0]; rfl
                have hno : ¬ ∃ ts fs, modB ts fs = true ∧ bs = modBytes ts fs := by
                  rintro ⟨ts, fs', h1, h2⟩
                  have := modBytes_pos ts fs'
                  rw [← h2] at this
                  omega
                clear HP HE hL
                go_wp2
                refine bodyPost_ret (v := .tuple #[.agg #[.slice none 0 0, .slice none 0 0], .bool false]) (by simp [results, Tryd.results14, go_sem, nc]) rfl (Or.inr ⟨hno, rfl, ?_⟩)
                exact (hbe.setCell (Nat.le_refl _) _).setCell (Nat.le_refl _) _
              · have h0' : ((bs.length : Int) == 0) = false := by rw [beq_eq_false_iff_ne]; omega
                go_wp2_with fail
                refine (sSave_any a a2 dn fs c c2 wr hsm (hmo.low (Nat.zero_le _)).strs (hmo.low (Nat.zero_le _)).fns).mono ?_
                rintro e w2 ⟨v', rfl, hbuf, hb2⟩
                obtain ⟨av, cv, rfl, hbytes⟩ := hbuf.form
                have hby2 : BytesAt w2 0 av (saved dn fs) := fun i hi => by
                  obtain ⟨b, off, k1, _, k3⟩ := hbytes i hi
                  exact ⟨b, off, k1, Nat.zero_le _, k3⟩
                have hbw2 : Below w.heap.size w w2 := hbe.trans (hb2.mono hbe.size)
                have hsl : (saved dn fs).length ≤ 1048576 := by
                  unfold saved
                  split
                  · rename_i hh
                    have := hh.2
                    omega
                  · simp
                have hr2 := block_kept hL.res hb2
                have hd2 := block_kept hL.mod hb2
                have hm2 := hmo.below hb2
                clear hbuf hbytes hb2 hL hmo rc mc nc nf
                go_wp2_with fail
                refine (sSame_any av ab (saved dn fs) bs cv cap w2 hsl hby2 (hb.mono hbw2)).mono ?_
                rintro e w3 ⟨rfl, hb3⟩
                have hbw3 : Below w.heap.size w w3 := hbw2.trans (hb3.mono hbw2.size)
                have nc := block_cell (block_kept hr2 hb3)
                have nf := block_free (block_kept hr2 hb3)
                have mc := block_cell (block_kept hd2 hb3)
                have hm3 := hm2.below hb3
                clear hr2 hd2 hm2 hb3 hbw2 hby2
                by_cases hs : saved dn fs = bs
                · obtain ⟨g1, g2⟩ := saved_is hs (by omega)
                  rw [decide_eq_true hs]
                  clear hs HE HP hsl
                  go_wp2
                  refine bodyPost_ret (v := .tuple #[.agg #[.slice a dn.length c, .slice a2 fs.length c2], .bool true]) (by simp [results, Tryd.results14, go_sem, nc]) rfl (Or.inl ⟨dn, fs, cs, a, c, a2, c2, g1, g2, rfl, ?_, ?_⟩)
                  · exact ((hm3.set (p := ⟨w.heap.size, 0, none⟩) (by simp) _).set (p := ⟨w.heap.size, 1, none⟩) (by simp) _).low (by omega)
                  · exact (hbw3.setCell (Nat.le_refl _) _).setCell (Nat.le_refl _) _
                · have hno : ¬ ∃ ts fs, modB ts fs = true ∧ bs = modBytes ts fs := by
                    rintro ⟨ts, fs', h1, h2⟩
                    obtain ⟨-, rfl, rfl⟩ := HE.out ts fs' h1 h2
                    exact hs (by rw [saved_mod h1, h2])
                  rw [decide_eq_false hs]
                  clear hs HE HP hsl
                  go_wp2
                  refine bodyPost_ret (v := .tuple #[.agg #[.slice none 0 0, .slice none 0 0], .bool false]) (by simp [results, Tryd.results14, go_sem, nc]) rfl (Or.inr ⟨hno, rfl, ?_⟩)
                  exact (hbw3.setCell (Nat.le_refl _) _).setCell (Nat.le_refl _) _
end Go.Proofs.YtbffmhcahdblnaaDoor
