/-
  A site is laid into a profile: the document's l07Lay.
-/
import Derived.Test.YtmmcockkbhnopaaGreatOV39
import Derived.Test.YtmmcockkbhnopaaGreatOV21
import Derived.Test.YtmmcockkbhnopaaGreatOV11
import Derived.Test.YtmmcockkbhnopaaGreatOV29
import Derived.Deep.DeepCutAuto
import Derived.Deep.CutBlock
import Derived.Deep.CutRange
namespace Go.Proofs.YtmmcockkbhnopaaGreat
open Go.RowKit

/-- A site is laid among the rest of a profile; whether it lies there already. -/
def layR (op : Int) (s : Si) : Bool → List Si → List Si
  | dn, [] => if dn = true then [] else [s]
  | dn, x :: l => if x.f = s.f ∧ x.pc = s.pc then bothS op x s :: layR op s true l else if dn = false ∧ decide (SiteLess s x) = true then s :: x :: layR op s true l else x :: layR op s dn l
theorem layR_same {op : Int} {s x : Si} {l : List Si} {dn : Bool} (h : x.f = s.f ∧ x.pc = s.pc) : layR op s dn (x :: l) = bothS op x s :: layR op s true l := by
  rw [layR, if_pos h]
theorem layR_ahead {op : Int} {s x : Si} {l : List Si} (h : ¬ (x.f = s.f ∧ x.pc = s.pc)) (h2 : SiteLess s x) : layR op s false (x :: l) = s :: x :: layR op s true l := by
  rw [layR, if_neg h, if_pos ⟨rfl, decide_eq_true h2⟩]
theorem layR_on {op : Int} {s x : Si} {l : List Si} {dn : Bool} (h : ¬ (x.f = s.f ∧ x.pc = s.pc)) (h2 : ¬ (dn = false ∧ SiteLess s x)) : layR op s dn (x :: l) = x :: layR op s dn l := by
  rw [layR, if_neg h, if_neg (fun h3 => h2 ⟨h3.1, of_decide_eq_true h3.2⟩)]
theorem own_below {w w' : World} {base e size n : Nat} {v : Value} {xs : List Value} (h : w.ownsRow base e size v n xs) (hb : Below w.heap.size w w') : w'.ownsRow base e size v n xs := by
  refine ⟨h.1, ?_⟩
  rcases h.2 with hn | ⟨g, cap, cur, hv, hbb, hg, r⟩
  · exact .inl hn
  · exact .inr ⟨g, cap, cur, hv, hbb, block_kept hg hb, r⟩
def flatS (l : List Si) : List Value := (l.map fun s => s.cells.toList).flatten
theorem flatS_app (a b : List Si) : flatS (a ++ b) = flatS a ++ flatS b := by simp [flatS]
theorem flatS_len (l : List Si) : (flatS l).length = l.length * 4 := by
  induction l with
  | nil => rfl
  | cons s l ih => simp only [flatS, List.map_cons, List.flatten_cons, List.length_append, List.length_cons] at *; rw [ih]; simp [Si.cells]; omega
theorem drop_at {p : List Si} {k : Nat} (h : k < p.length) : p.drop k = p[k] :: p.drop (k + 1) := List.drop_eq_getElem_cons h
theorem infoSi : (Tryz.prog.info? 68).map (fun i => (i.zero, i.size, i.bytes)) = some (some (.agg #[.int .i64 0, .int .i64 0, .int .i64 0, .int .i64 0]), 4, 32) := by kernel_rfl

set_option maxRecDepth 100000 in
set_option maxHeartbeats 8000000 in
theorem sLay_any (a1 a2 : Option Addr) (nt c1 c2 : Nat) (fs : List Fn) (pa : Option Addr) (p : List Si) (cap sf sp : Nat) (sn tg : Int) (w : World) (hf : sf < fs.length) (hp : sp < fs[sf].code.length) (hfn : FnsAt w 0 a2 fs) (hn : p.length ≤ 1000) (hseen : ∀ x ∈ p, 1 ≤ x.seen ∧ x.seen ≤ 3) (hsn : 1 ≤ sn ∧ sn ≤ 3) (hm : SitesAt w 0 pa p) :
    Calls Tryz.prog 51 #[.agg #[.slice a1 nt c1, .slice a2 fs.length c2], .slice pa p.length cap, .agg #[.int .i64 (sf : Int), .int .i64 (sp : Int), .int .i64 sn, .int .i64 tg]] w fun e w' => ∃ v, e = .returned v ∧ w'.ownsRow (w.heap.size + 2) 68 4 v (layR fs[sf].code[sp].1 ⟨sf, sp, sn, tg⟩ false p).length (flatS (layR fs[sf].code[sp].1 ⟨sf, sp, sn, tg⟩ false p)) ∧ Below w.heap.size w w' := by
  obtain ⟨i0, hi0, hz0, hz1, hz2⟩ := info_parts infoSi
  obtain ⟨L, hLd⟩ : ∃ L, L = layR fs[sf].code[sp].1 ⟨sf, sp, sn, tg⟩ false p := ⟨_, rfl⟩
  rw [← hLd]
  have HLD : Hid (L = layR fs[sf].code[sp].1 ⟨sf, sp, sn, tg⟩ false p) := hLd
  clear hLd
  have hbI : Below w.heap.size w (((w.alloc (.cells #[.slice a1 nt c1, .slice a2 fs.length c2] 40)).alloc (.cells #[.int .i64 (sf : Int), .int .i64 (sp : Int), .int .i64 sn, .int .i64 tg] 68)).alloc (.cells #[] 68)) := (((Below.refl _ _).alloc (Nat.le_refl _) _).alloc (by simp) _).alloc (by simp; omega) _
  have hMb := block_old (block_old (block_new w #[.slice a1 nt c1, .slice a2 fs.length c2] 40) (.cells #[.int .i64 (sf : Int), .int .i64 (sp : Int), .int .i64 sn, .int .i64 tg] 68)) (.cells #[] 68)
  have hSb := block_old (block_new_at (w.alloc (.cells #[.slice a1 nt c1, .slice a2 fs.length c2] 40)) #[.int .i64 (sf : Int), .int .i64 (sp : Int), .int .i64 sn, .int .i64 tg] 68 (w.heap.size + 1) (by simp)) (.cells #[] 68)
  have hown : (((w.alloc (.cells #[.slice a1 nt c1, .slice a2 fs.length c2] 40)).alloc (.cells #[.int .i64 (sf : Int), .int .i64 (sp : Int), .int .i64 sn, .int .i64 tg] 68)).alloc (.cells #[] 68)).ownsRow (w.heap.size + 2) 68 4 (.slice (some ⟨w.heap.size + 2, 0, none⟩) 0 0) 0 [] := by
    have h := World.ownsRow_lit (base := w.heap.size + 2) (e := 68) (size := 4) ((w.alloc (.cells #[.slice a1 nt c1, .slice a2 fs.length c2] 40)).alloc (.cells #[.int .i64 (sf : Int), .int .i64 (sp : Int), .int .i64 sn, .int .i64 tg] 68)) #[] 0 (by simp) (by decide) rfl
    simpa using h
  obtain ⟨wI, hwI⟩ : ∃ wI, wI = ((w.alloc (.cells #[.slice a1 nt c1, .slice a2 fs.length c2] 40)).alloc (.cells #[.int .i64 (sf : Int), .int .i64 (sp : Int), .int .i64 sn, .int .i64 tg] 68)).alloc (.cells #[] 68) := ⟨_, rfl⟩
  rw [← hwI] at hbI hMb hSb hown
  obtain ⟨B, HBE⟩ : ∃ B, Hid (B = w.heap.size + 2) := ⟨_, rfl⟩
  have hBsz : B ≤ wI.heap.size := by rw [HBE.out, hwI]; simp
  have HC : Hid (∀ w', Below B wI w' → w'.cell? ⟨w.heap.size, 1, none⟩ = some (.slice a2 fs.length c2) ∧ w'.cell? ⟨w.heap.size + 1, 0, none⟩ = some (.int .i64 (sf : Int)) ∧ w'.cell? ⟨w.heap.size + 1, 1, none⟩ = some (.int .i64 (sp : Int)) ∧ w'.cell? ⟨w.heap.size + 1, 2, none⟩ = some (.int .i64 sn) ∧ w'.cell? ⟨w.heap.size + 1, 3, none⟩ = some (.int .i64 tg)) := by
    intro w' hb
    rw [HBE.out] at hb
    exact ⟨by rw [hb.cell (by simp), block_cell hMb]; rfl, by rw [hb.cell (by simp), block_cell hSb]; rfl, by rw [hb.cell (by simp), block_cell hSb]; rfl, by rw [hb.cell (by simp), block_cell hSb]; rfl, by rw [hb.cell (by simp), block_cell hSb]; rfl⟩
  have HBW : Hid (∀ w', Below B wI w' → Below w.heap.size w w') := fun w' hb => hbI.trans (hb.mono (by rw [HBE.out]; omega))
  have HFN : Hid (FnsAt w 0 a2 fs) := hfn
  have HSI : Hid (SitesAt w 0 pa p) := hm
  have HSEEN : Hid (∀ x ∈ p, 1 ≤ x.seen ∧ x.seen ≤ 3) := hseen
  clear hfn hm hseen hbI hMb hSb
  go_enter Tryz.func51, Tryz.ntmps51
  go_wp2_with fail
  rw [← hwI]
  rw [← HBE.out] at hown ⊢
  clear hwI
  have HST : Hid (wI.ownsRow B 68 4 (.slice (some ⟨B, 0, none⟩) 0 0) 0 (flatS [])) := hown
  clear hown
  go_loopw [7, 8, 9] (fun v dv i wr => ∃ (k : Nat) (dn : Bool) (out : List Si), k ≤ p.length ∧ i = .int .i64 k ∧ dv = .bool dn ∧ wr.ownsRow B 68 4 v out.length (flatS out) ∧ Below B wI wr ∧ Hid (out ++ layR fs[sf].code[sp].1 ⟨sf, sp, sn, tg⟩ dn (p.drop k) = L) ∧ out.length ≤ k + 1 ∧ Hid (dn = false → out.length ≤ k)) (fun _ _ i _ => p.length - (intOf i).toNat)
  case atStart => exact ⟨0, false, [], by omega, rfl, rfl, HST.out, Below.refl _ _, HLD.out.symm, by simp, fun _ => by simp⟩
  case round =>
    clear HST
    obtain ⟨k, dn, out, hk, rfl, rfl, hown, hbr, hL, hol, hdl⟩ := hrel
    by_cases hlt : k < p.length
    · obtain ⟨b, off, rfl, -, g0, g1, g2, g3⟩ := HSI.out k hlt
      have hxs := HSEEN.out _ (List.getElem_mem hlt)
      rw [drop_at hlt] at hL
      generalize p[k] = x at *
      obtain ⟨xf, xp, xs, xt⟩ := x
      simp only at g0 g1 g2 g3 hxs
      have hBr : B ≤ wr.heap.size := Nat.le_trans hBsz hbr.size
      have HXB : Hid (∀ w', Below B wI w' → w'.cell? ⟨b, off + k * 4, none⟩ = some (.int .i64 xf) ∧ w'.cell? ⟨b, off + k * 4 + 1, none⟩ = some (.int .i64 xp) ∧ w'.cell? ⟨b, off + k * 4 + 2, none⟩ = some (.int .i64 xs) ∧ w'.cell? ⟨b, off + k * 4 + 3, none⟩ = some (.int .i64 xt) ∧ w'.cell? ⟨w.heap.size, 1, none⟩ = some (.slice a2 fs.length c2) ∧ w'.cell? ⟨w.heap.size + 1, 0, none⟩ = some (.int .i64 (sf : Int)) ∧ w'.cell? ⟨w.heap.size + 1, 1, none⟩ = some (.int .i64 (sp : Int)) ∧ w'.cell? ⟨w.heap.size + 1, 2, none⟩ = some (.int .i64 sn) ∧ w'.cell? ⟨w.heap.size + 1, 3, none⟩ = some (.int .i64 tg)) := fun w' hb => by
        have hw := HBW.out w' hb
        obtain ⟨m0, s0, s1, s2, s3⟩ := HC.out w' hb
        exact ⟨cell_later hw g0, cell_later hw g1, cell_later hw g2, cell_later hw g3, m0, s0, s1, s2, s3⟩
      have HX : Hid (∀ w', Below wr.heap.size wr w' → w'.cell? ⟨b, off + k * 4, none⟩ = some (.int .i64 xf) ∧ w'.cell? ⟨b, off + k * 4 + 1, none⟩ = some (.int .i64 xp) ∧ w'.cell? ⟨b, off + k * 4 + 2, none⟩ = some (.int .i64 xs) ∧ w'.cell? ⟨b, off + k * 4 + 3, none⟩ = some (.int .i64 xt) ∧ w'.cell? ⟨w.heap.size, 1, none⟩ = some (.slice a2 fs.length c2) ∧ w'.cell? ⟨w.heap.size + 1, 0, none⟩ = some (.int .i64 (sf : Int)) ∧ w'.cell? ⟨w.heap.size + 1, 1, none⟩ = some (.int .i64 (sp : Int)) ∧ w'.cell? ⟨w.heap.size + 1, 2, none⟩ = some (.int .i64 sn) ∧ w'.cell? ⟨w.heap.size + 1, 3, none⟩ = some (.int .i64 tg)) := fun w' hb => HXB.out w' (hbr.trans (hb.mono hBr))
      clear g0 g1 g2 g3
      go_upto_region 6 with fail
      go_cut [17] (fun s17 wx => s17 = .bool (decide (xf = (sf : Int)) && decide (xp = (sp : Int))) ∧ Below wr.heap.size wr wx)
      case first =>
        by_cases e1 : xf = (sf : Int)
        · have e1' : (xf == (sf : Int)) = true := by simpa using e1
          have HE1 : Hid (xf = (sf : Int)) := e1
          clear e1
          by_cases e2 : xp = (sp : Int)
          · have e2' : (xp == (sp : Int)) = true := by simpa using e2
            have HE2 : Hid (xp = (sp : Int)) := e2
            clear e2
            refine wp_below (by kernel_rfl) (by kernel_rfl) ?_
            iterate 19
              refine q_want (v := ?_) (by kernel_rfl) ?_ ?_
              rotate_left
              · intro w' hC
                obtain ⟨j0, j1, j2, j3, j4, j5, j6, j7, j8⟩ := HX.out w' hC
                go_simp
                try with_reducible rfl
              try simp only [Act.put, List.setIfInBounds_toArray, List.set_cons_zero, List.set_cons_succ]
            refine wpQuiet_nil ?_
            intro w2 q2
            clear e1' e2'
            go_wp2_with fail
            go_meet
            case rel => exact ⟨by rw [decide_eq_true HE1.out, decide_eq_true HE2.out]; rfl, q2⟩
          · have e2' : (xp == (sp : Int)) = false := by simpa using e2
            have HE2 : Hid (¬ xp = (sp : Int)) := e2
            clear e2
            refine wp_below (by kernel_rfl) (by kernel_rfl) ?_
            iterate 19
              refine q_want (v := ?_) (by kernel_rfl) ?_ ?_
              rotate_left
              · intro w' hC
                obtain ⟨j0, j1, j2, j3, j4, j5, j6, j7, j8⟩ := HX.out w' hC
                go_simp
                try with_reducible rfl
              try simp only [Act.put, List.setIfInBounds_toArray, List.set_cons_zero, List.set_cons_succ]
            refine wpQuiet_nil ?_
            intro w2 q2
            clear e1' e2'
            go_wp2_with fail
            go_meet
            case rel => exact ⟨by rw [decide_eq_true HE1.out, decide_eq_false HE2.out]; rfl, q2⟩
        · have e1' : (xf == (sf : Int)) = false := by simpa using e1
          have HE1 : Hid (¬ xf = (sf : Int)) := e1
          clear e1
          refine wp_below (by kernel_rfl) (by kernel_rfl) ?_
          iterate 9
            refine q_want (v := ?_) (by kernel_rfl) ?_ ?_
            rotate_left
            · intro w' hC
              obtain ⟨j0, j1, j2, j3, j4, j5, j6, j7, j8⟩ := HX.out w' hC
              go_simp
              try with_reducible rfl
            try simp only [Act.put, List.setIfInBounds_toArray, List.set_cons_zero, List.set_cons_succ]
          iterate 8 go_big_quiet_skip
          iterate 2
            refine q_want (v := ?_) (by kernel_rfl) ?_ ?_
            rotate_left
            · intro w' hC
              obtain ⟨j0, j1, j2, j3, j4, j5, j6, j7, j8⟩ := HX.out w' hC
              go_simp
              try with_reducible rfl
            try simp only [Act.put, List.setIfInBounds_toArray, List.set_cons_zero, List.set_cons_succ]
          refine wpQuiet_nil ?_
          intro w2 q2
          clear e1'
          go_wp2_with fail
          go_meet
          case rel => exact ⟨by rw [decide_eq_false HE1.out]; rfl, q2⟩
      case rest =>
        obtain ⟨rfl, q6⟩ := hcut
        have qc : Below B wI wc := hbr.trans (q6.mono hBr)
        have hBc : B ≤ wc.heap.size := Nat.le_trans hBsz qc.size
        have hownC := own_below hown q6
        clear HX hown hbr hBr q6
        by_cases hsame : xf = (sf : Int) ∧ xp = (sp : Int)
        · rw [show (decide (xf = (sf : Int)) && decide (xp = (sp : Int))) = true by simp [hsame.1, hsame.2]]
          obtain ⟨b2, off2, ca, cc, rfl, -, -, -, f2, hcode⟩ := HFN.out sf hf
          obtain ⟨b3, off3, rfl, -, d0, -⟩ := hcode sp hp
          rw [layR_same hsame] at hL
          obtain ⟨op, hop⟩ : ∃ op, op = fs[sf].code[sp].1 := ⟨_, rfl⟩
          rw [← hop] at d0 hL
          obtain ⟨y, Hy⟩ : ∃ y, y = bothS op ⟨xf, xp, xs, xt⟩ ⟨sf, sp, sn, tg⟩ := ⟨_, rfl⟩
          rw [← Hy] at hL
          have HBO : Hid (∀ w', Calls Tryz.prog 86 #[.int .i64 op, .agg #[.int .i64 xf, .int .i64 xp, .int .i64 xs, .int .i64 xt], .agg #[.int .i64 (sf : Int), .int .i64 (sp : Int), .int .i64 sn, .int .i64 tg]] w' fun e w'' => e = .returned (.agg #[.int .i64 y.f, .int .i64 y.pc, .int .i64 y.seen, .int .i64 y.target]) ∧ Below w'.heap.size w' w'') := fun w' => by rw [Hy]; exact sBoth_any op ⟨xf, xp, xs, xt⟩ ⟨sf, sp, sn, tg⟩ w' hxs hsn
          have HOP : Hid (op = fs[sf].code[sp].1) := hop
          have HSM : Hid (xf = (sf : Int) ∧ xp = (sp : Int)) := hsame
          have HS7 : Hid (∀ w', Below B wI w' → w'.cell? ⟨b, off + k * 4, none⟩ = some (.int .i64 xf) ∧ w'.cell? ⟨b, off + k * 4 + 1, none⟩ = some (.int .i64 xp) ∧ w'.cell? ⟨b, off + k * 4 + 2, none⟩ = some (.int .i64 xs) ∧ w'.cell? ⟨b, off + k * 4 + 3, none⟩ = some (.int .i64 xt) ∧ w'.cell? ⟨w.heap.size, 1, none⟩ = some (.slice (some ⟨b2, off2, none⟩) fs.length c2) ∧ w'.cell? ⟨w.heap.size + 1, 0, none⟩ = some (.int .i64 (sf : Int)) ∧ w'.cell? ⟨w.heap.size + 1, 1, none⟩ = some (.int .i64 (sp : Int)) ∧ w'.cell? ⟨w.heap.size + 1, 2, none⟩ = some (.int .i64 sn) ∧ w'.cell? ⟨w.heap.size + 1, 3, none⟩ = some (.int .i64 tg) ∧ w'.cell? ⟨b2, off2 + sf * 3 + 2, none⟩ = some (.slice (some ⟨b3, off3, none⟩) fs[sf].code.length cc) ∧ w'.cell? ⟨b3, off3 + sp * 2, none⟩ = some (.int .i64 op)) := fun w' hb => by
            have hw := HBW.out w' hb
            obtain ⟨x0, x1, x2, x3, m0, s0, s1, s2, s3⟩ := HXB.out w' hb
            exact ⟨x0, x1, x2, x3, m0, s0, s1, s2, s3, cell_later hw f2, cell_later hw d0⟩
          clear hop Hy hcode f2 d0 hsame
          have hbyt : (out.length + 1) * 32 ≤ 140737488355328 := by omega
          have hcLen : (sp : Int) < (fs[sf].code.length : Int) := by omega
          go_upto_region 7 with fail
          have hh : (fun w' : World => w'.cell? ⟨b, off + k * 4, none⟩ = some (.int .i64 xf) ∧ w'.cell? ⟨b, off + k * 4 + 1, none⟩ = some (.int .i64 xp) ∧ w'.cell? ⟨b, off + k * 4 + 2, none⟩ = some (.int .i64 xs) ∧ w'.cell? ⟨b, off + k * 4 + 3, none⟩ = some (.int .i64 xt) ∧ w'.cell? ⟨w.heap.size, 1, none⟩ = some (.slice (some ⟨b2, off2, none⟩) fs.length c2) ∧ w'.cell? ⟨w.heap.size + 1, 0, none⟩ = some (.int .i64 (sf : Int)) ∧ w'.cell? ⟨w.heap.size + 1, 1, none⟩ = some (.int .i64 (sp : Int)) ∧ w'.cell? ⟨w.heap.size + 1, 2, none⟩ = some (.int .i64 sn) ∧ w'.cell? ⟨w.heap.size + 1, 3, none⟩ = some (.int .i64 tg) ∧ w'.cell? ⟨b2, off2 + sf * 3 + 2, none⟩ = some (.slice (some ⟨b3, off3, none⟩) fs[sf].code.length cc) ∧ w'.cell? ⟨b3, off3 + sp * 2, none⟩ = some (.int .i64 op)) _ := HS7.out _ qc.drew
          refine h_begin (fun w' : World => w'.cell? ⟨b, off + k * 4, none⟩ = some (.int .i64 xf) ∧ w'.cell? ⟨b, off + k * 4 + 1, none⟩ = some (.int .i64 xp) ∧ w'.cell? ⟨b, off + k * 4 + 2, none⟩ = some (.int .i64 xs) ∧ w'.cell? ⟨b, off + k * 4 + 3, none⟩ = some (.int .i64 xt) ∧ w'.cell? ⟨w.heap.size, 1, none⟩ = some (.slice (some ⟨b2, off2, none⟩) fs.length c2) ∧ w'.cell? ⟨w.heap.size + 1, 0, none⟩ = some (.int .i64 (sf : Int)) ∧ w'.cell? ⟨w.heap.size + 1, 1, none⟩ = some (.int .i64 (sp : Int)) ∧ w'.cell? ⟨w.heap.size + 1, 2, none⟩ = some (.int .i64 sn) ∧ w'.cell? ⟨w.heap.size + 1, 3, none⟩ = some (.int .i64 tg) ∧ w'.cell? ⟨b2, off2 + sf * 3 + 2, none⟩ = some (.slice (some ⟨b3, off3, none⟩) fs[sf].code.length cc) ∧ w'.cell? ⟨b3, off3 + sp * 2, none⟩ = some (.int .i64 op)) (by kernel_rfl) ?_
          refine h_take (i := 0) (oi := _) (v := ?_) rfl (by kernel_rfl) (by kernel_rfl) (by kernel_rfl) (fun _ _ _ h => h) (by kernel_rfl) ?_ hh ?_
          rotate_left
          · intro w' hSw
            obtain ⟨j0, j1, j2, j3, j4, j5, j6, j7, j8, j9, j10⟩ := hSw
            go_simp
            try with_reducible rfl
          simp only [Act.put, List.setIfInBounds_toArray]
          refine h_take (i := 1) (oi := _) (v := ?_) rfl (by kernel_rfl) (by kernel_rfl) (by kernel_rfl) (fun _ _ _ h => h) (by kernel_rfl) ?_ hh ?_
          rotate_left
          · intro w' hSw
            obtain ⟨j0, j1, j2, j3, j4, j5, j6, j7, j8, j9, j10⟩ := hSw
            go_simp
            try with_reducible rfl
          simp only [Act.put]
          refine h_take (i := 2) (oi := _) (v := ?_) rfl (by kernel_rfl) (by kernel_rfl) (by kernel_rfl) (fun _ _ _ h => h) (by kernel_rfl) ?_ hh ?_
          rotate_left
          · intro w' hSw
            obtain ⟨j0, j1, j2, j3, j4, j5, j6, j7, j8, j9, j10⟩ := hSw
            go_simp
            try with_reducible rfl
          simp only [Act.put]
          refine h_take (i := 3) (oi := _) (v := ?_) rfl (by kernel_rfl) (by kernel_rfl) (by kernel_rfl) (fun _ _ _ h => h) (by kernel_rfl) ?_ hh ?_
          rotate_left
          · intro w' hSw
            obtain ⟨j0, j1, j2, j3, j4, j5, j6, j7, j8, j9, j10⟩ := hSw
            go_simp
            try with_reducible rfl
          simp only [Act.put]
          refine h_take (i := 4) (oi := _) (v := ?_) rfl (by kernel_rfl) (by kernel_rfl) (by kernel_rfl) (fun _ _ _ h => h) (by kernel_rfl) ?_ hh ?_
          rotate_left
          · intro w' hSw
            obtain ⟨j0, j1, j2, j3, j4, j5, j6, j7, j8, j9, j10⟩ := hSw
            go_simp
            try with_reducible rfl
          simp only [Act.put]
          refine h_take (i := 5) (oi := _) (v := ?_) rfl (by kernel_rfl) (by kernel_rfl) (by kernel_rfl) (fun _ _ _ h => h) (by kernel_rfl) ?_ hh ?_
          rotate_left
          · intro w' hSw
            obtain ⟨j0, j1, j2, j3, j4, j5, j6, j7, j8, j9, j10⟩ := hSw
            go_simp
            try with_reducible rfl
          simp only [Act.put]
          refine h_take (i := 6) (oi := _) (v := ?_) rfl (by kernel_rfl) (by kernel_rfl) (by kernel_rfl) (fun _ _ _ h => h) (by kernel_rfl) ?_ hh ?_
          rotate_left
          · intro w' hSw
            obtain ⟨j0, j1, j2, j3, j4, j5, j6, j7, j8, j9, j10⟩ := hSw
            go_simp
            try with_reducible rfl
          simp only [Act.put]
          refine h_take (i := 7) (oi := _) (v := ?_) rfl (by kernel_rfl) (by kernel_rfl) (by kernel_rfl) (fun _ _ _ h => h) (by kernel_rfl) ?_ hh ?_
          rotate_left
          · intro w' hSw
            obtain ⟨j0, j1, j2, j3, j4, j5, j6, j7, j8, j9, j10⟩ := hSw
            go_simp
            try with_reducible rfl
          simp only [Act.put]
          refine h_take (i := 8) (oi := _) (v := ?_) rfl (by kernel_rfl) (by kernel_rfl) (by kernel_rfl) (fun _ _ _ h => h) (by kernel_rfl) ?_ hh ?_
          rotate_left
          · intro w' hSw
            obtain ⟨j0, j1, j2, j3, j4, j5, j6, j7, j8, j9, j10⟩ := hSw
            go_simp
            try with_reducible rfl
          simp only [Act.put]
          refine h_take (i := 9) (oi := _) (v := ?_) rfl (by kernel_rfl) (by kernel_rfl) (by kernel_rfl) (fun _ _ _ h => h) (by kernel_rfl) ?_ hh ?_
          rotate_left
          · intro w' hSw
            obtain ⟨j0, j1, j2, j3, j4, j5, j6, j7, j8, j9, j10⟩ := hSw
            go_simp
            try with_reducible rfl
          simp only [Act.put]
          refine h_take (i := 10) (oi := _) (v := ?_) rfl (by kernel_rfl) (by kernel_rfl) (by kernel_rfl) (fun _ _ _ h => h) (by kernel_rfl) ?_ hh ?_
          rotate_left
          · intro w' hSw
            obtain ⟨j0, j1, j2, j3, j4, j5, j6, j7, j8, j9, j10⟩ := hSw
            go_simp
            try with_reducible rfl
          simp only [Act.put]
          refine h_take (i := 11) (oi := _) (v := ?_) rfl (by kernel_rfl) (by kernel_rfl) (by kernel_rfl) (fun _ _ _ h => h) (by kernel_rfl) ?_ hh ?_
          rotate_left
          · intro w' hSw
            obtain ⟨j0, j1, j2, j3, j4, j5, j6, j7, j8, j9, j10⟩ := hSw
            go_simp
            try with_reducible rfl
          simp only [Act.put]
          refine h_take (i := 12) (oi := _) (v := ?_) rfl (by kernel_rfl) (by kernel_rfl) (by kernel_rfl) (fun _ _ _ h => h) (by kernel_rfl) ?_ hh ?_
          rotate_left
          · intro w' hSw
            obtain ⟨j0, j1, j2, j3, j4, j5, j6, j7, j8, j9, j10⟩ := hSw
            go_simp
            try with_reducible rfl
          simp only [Act.put]
          refine h_take (i := 13) (oi := _) (v := ?_) rfl (by kernel_rfl) (by kernel_rfl) (by kernel_rfl) (fun _ _ _ h => h) (by kernel_rfl) ?_ hh ?_
          rotate_left
          · intro w' hSw
            obtain ⟨j0, j1, j2, j3, j4, j5, j6, j7, j8, j9, j10⟩ := hSw
            go_simp
            try with_reducible rfl
          simp only [Act.put]
          refine h_take (i := 14) (oi := _) (v := ?_) rfl (by kernel_rfl) (by kernel_rfl) (by kernel_rfl) (fun _ _ _ h => h) (by kernel_rfl) ?_ hh ?_
          rotate_left
          · intro w' hSw
            obtain ⟨j0, j1, j2, j3, j4, j5, j6, j7, j8, j9, j10⟩ := hSw
            go_simp
            try with_reducible rfl
          simp only [Act.put]
          refine h_take (i := 15) (oi := _) (v := ?_) rfl (by kernel_rfl) (by kernel_rfl) (by kernel_rfl) (fun _ _ _ h => h) (by kernel_rfl) ?_ hh ?_
          rotate_left
          · intro w' hSw
            obtain ⟨j0, j1, j2, j3, j4, j5, j6, j7, j8, j9, j10⟩ := hSw
            go_simp
            try with_reducible rfl
          simp only [Act.put]
          refine h_take (i := 16) (oi := _) (v := ?_) rfl (by kernel_rfl) (by kernel_rfl) (by kernel_rfl) (fun _ _ _ h => h) (by kernel_rfl) ?_ hh ?_
          rotate_left
          · intro w' hSw
            obtain ⟨j0, j1, j2, j3, j4, j5, j6, j7, j8, j9, j10⟩ := hSw
            go_simp
            try with_reducible rfl
          simp only [Act.put]
          refine h_take (i := 17) (oi := _) (v := ?_) rfl (by kernel_rfl) (by kernel_rfl) (by kernel_rfl) (fun _ _ _ h => h) (by kernel_rfl) ?_ hh ?_
          rotate_left
          · intro w' hSw
            obtain ⟨j0, j1, j2, j3, j4, j5, j6, j7, j8, j9, j10⟩ := hSw
            go_simp
            try with_reducible rfl
          simp only [Act.put]
          refine h_one (i := 18) (o := _) (by kernel_rfl) rfl (fun K hK => ?_)
          go_simp
          go_at_call 86
          refine (HBO.out _).mono ?_
          rintro e wB ⟨rfl, hbB⟩
          have qB := qc.drew.trans (hbB.mono hBc)
          have hownB := own_below hownC ((Below.refl _ _).drew.trans hbB)
          have hBB : B ≤ wB.heap.size := Nat.le_trans hBsz qB.size
          have hh : (fun w' : World => w'.cell? ⟨b, off + k * 4, none⟩ = some (.int .i64 xf) ∧ w'.cell? ⟨b, off + k * 4 + 1, none⟩ = some (.int .i64 xp) ∧ w'.cell? ⟨b, off + k * 4 + 2, none⟩ = some (.int .i64 xs) ∧ w'.cell? ⟨b, off + k * 4 + 3, none⟩ = some (.int .i64 xt) ∧ w'.cell? ⟨w.heap.size, 1, none⟩ = some (.slice (some ⟨b2, off2, none⟩) fs.length c2) ∧ w'.cell? ⟨w.heap.size + 1, 0, none⟩ = some (.int .i64 (sf : Int)) ∧ w'.cell? ⟨w.heap.size + 1, 1, none⟩ = some (.int .i64 (sp : Int)) ∧ w'.cell? ⟨w.heap.size + 1, 2, none⟩ = some (.int .i64 sn) ∧ w'.cell? ⟨w.heap.size + 1, 3, none⟩ = some (.int .i64 tg) ∧ w'.cell? ⟨b2, off2 + sf * 3 + 2, none⟩ = some (.slice (some ⟨b3, off3, none⟩) fs[sf].code.length cc) ∧ w'.cell? ⟨b3, off3 + sp * 2, none⟩ = some (.int .i64 op)) _ := HS7.out wB qB
          refine hK.out _ _ hh ?_
          clear hK K
          try simp only [Act.put]
          refine h_one (i := 19) (o := _) (by kernel_rfl) rfl (fun K hK => ?_)
          go_simp
          have hh : (fun w' : World => w'.cell? ⟨b, off + k * 4, none⟩ = some (.int .i64 xf) ∧ w'.cell? ⟨b, off + k * 4 + 1, none⟩ = some (.int .i64 xp) ∧ w'.cell? ⟨b, off + k * 4 + 2, none⟩ = some (.int .i64 xs) ∧ w'.cell? ⟨b, off + k * 4 + 3, none⟩ = some (.int .i64 xt) ∧ w'.cell? ⟨w.heap.size, 1, none⟩ = some (.slice (some ⟨b2, off2, none⟩) fs.length c2) ∧ w'.cell? ⟨w.heap.size + 1, 0, none⟩ = some (.int .i64 (sf : Int)) ∧ w'.cell? ⟨w.heap.size + 1, 1, none⟩ = some (.int .i64 (sp : Int)) ∧ w'.cell? ⟨w.heap.size + 1, 2, none⟩ = some (.int .i64 sn) ∧ w'.cell? ⟨w.heap.size + 1, 3, none⟩ = some (.int .i64 tg) ∧ w'.cell? ⟨b2, off2 + sf * 3 + 2, none⟩ = some (.slice (some ⟨b3, off3, none⟩) fs[sf].code.length cc) ∧ w'.cell? ⟨b3, off3 + sp * 2, none⟩ = some (.int .i64 op)) _ := HS7.out _ (qB.alloc hBB (.cells #[.int .i64 y.f, .int .i64 y.pc, .int .i64 y.seen, .int .i64 y.target] 68))
          refine hK.out _ _ hh ?_
          clear hK K
          try simp only [Act.put]
          refine h_one (i := 20) (o := _) (by kernel_rfl) rfl (fun K hK => ?_)
          refine step_append_lies _ (by rfl) _ _ _ (by rfl) B 68 i0 (.agg #[.int .i64 0, .int .i64 0, .int .i64 0, .int .i64 0]) 4 32 Tryz.underlying36 hi0 hz0 hz1 hz2 rfl (by decide) _ _ _ (by rfl) (World.ownsRow.alloc hownB _) ⟨wB.heap.size, 0, none⟩ 1 1 [.int .i64 y.f, .int .i64 y.pc, .int .i64 y.seen, .int .i64 y.target] (by rfl) (by rfl) (World.news_of_block (block_new wB _ 68)) (by simp [Value.oneCell']) (by decide) (by unfold maxLen; omega) hbyt (by rw [World.size_alloc]; omega) _ (by rfl) ?_
          intro gz capz wz hownZ hgrowZ hatZ hltZ
          have qZ := (qB.alloc hBB (.cells #[.int .i64 y.f, .int .i64 y.pc, .int .i64 y.seen, .int .i64 y.target] 68)).trans ((Keeps.grown (ts := [68]) (World.ownsRow.alloc hownB _) hgrowZ (by decide)).toBelow (by rw [World.size_alloc]; omega))
          have hh : (fun w' : World => w'.cell? ⟨b, off + k * 4, none⟩ = some (.int .i64 xf) ∧ w'.cell? ⟨b, off + k * 4 + 1, none⟩ = some (.int .i64 xp) ∧ w'.cell? ⟨b, off + k * 4 + 2, none⟩ = some (.int .i64 xs) ∧ w'.cell? ⟨b, off + k * 4 + 3, none⟩ = some (.int .i64 xt) ∧ w'.cell? ⟨w.heap.size, 1, none⟩ = some (.slice (some ⟨b2, off2, none⟩) fs.length c2) ∧ w'.cell? ⟨w.heap.size + 1, 0, none⟩ = some (.int .i64 (sf : Int)) ∧ w'.cell? ⟨w.heap.size + 1, 1, none⟩ = some (.int .i64 (sp : Int)) ∧ w'.cell? ⟨w.heap.size + 1, 2, none⟩ = some (.int .i64 sn) ∧ w'.cell? ⟨w.heap.size + 1, 3, none⟩ = some (.int .i64 tg) ∧ w'.cell? ⟨b2, off2 + sf * 3 + 2, none⟩ = some (.slice (some ⟨b3, off3, none⟩) fs[sf].code.length cc) ∧ w'.cell? ⟨b3, off3 + sp * 2, none⟩ = some (.int .i64 op)) _ := HS7.out wz qZ
          refine hK.out _ _ hh ?_
          clear hK K
          try simp only [Act.put]
          refine h_take (i := 21) (oi := _) (v := ?_) rfl (by kernel_rfl) (by kernel_rfl) (by kernel_rfl) (fun _ _ _ h => h) (by kernel_rfl) ?_ hh ?_
          rotate_left
          · intro w' hSw
            obtain ⟨j0, j1, j2, j3, j4, j5, j6, j7, j8, j9, j10⟩ := hSw
            go_simp
            try with_reducible rfl
          simp only [Act.put]
          refine wpAnyH_done (by kernel_rfl) ?_ _
          have HZ : Hid (wz.ownsRow B 68 4 (.slice (some ⟨gz, 0, none⟩) (out.length + 1) capz) (out ++ [y]).length (flatS (out ++ [y]))) := by
            rw [flatS_app, List.length_append]
            exact hownZ
          clear hownZ hgrowZ hatZ hltZ hownB
          go_simp
          go_wp2
          exact ⟨⟨k + 1, true, out ++ [y], by omega, by go_num, rfl, HZ.out, qZ, by rw [← HOP.out, List.append_assoc]; exact hL.out, by simp; omega, fun h => by cases h⟩, by simp [intOf]; omega⟩
        · rw [show (decide (xf = (sf : Int)) && decide (xp = (sp : Int))) = false by
            rw [Bool.and_eq_false_iff]
            by_cases e : xf = (sf : Int)
            · exact .inr (decide_eq_false (fun h => hsame ⟨e, h⟩))
            · exact .inl (decide_eq_false e)]
          have HN : Hid (¬ (xf = (sf : Int) ∧ xp = (sp : Int))) := hsame
          clear hsame
          obtain ⟨ls, hls⟩ : ∃ ls, ls = decide (SiteLess ⟨sf, sp, sn, tg⟩ ⟨xf, xp, xs, xt⟩) := ⟨_, rfl⟩
          have HLS : Hid (∀ w', Calls Tryz.prog 87 #[.agg #[.int .i64 (sf : Int), .int .i64 (sp : Int), .int .i64 sn, .int .i64 tg], .agg #[.int .i64 xf, .int .i64 xp, .int .i64 xs, .int .i64 xt]] w' fun e w'' => e = .returned (.bool ls) ∧ Below w'.heap.size w' w'') := fun w' => by rw [hls]; exact less_any ⟨sf, sp, sn, tg⟩ ⟨xf, xp, xs, xt⟩ w'
          have HLE : Hid (ls = decide (SiteLess ⟨sf, sp, sn, tg⟩ ⟨xf, xp, xs, xt⟩)) := hls
          clear hls
          have HX2 : Hid (∀ w', Below wc.heap.size wc w' → w'.cell? ⟨b, off + k * 4, none⟩ = some (.int .i64 xf) ∧ w'.cell? ⟨b, off + k * 4 + 1, none⟩ = some (.int .i64 xp) ∧ w'.cell? ⟨b, off + k * 4 + 2, none⟩ = some (.int .i64 xs) ∧ w'.cell? ⟨b, off + k * 4 + 3, none⟩ = some (.int .i64 xt) ∧ w'.cell? ⟨w.heap.size, 1, none⟩ = some (.slice a2 fs.length c2) ∧ w'.cell? ⟨w.heap.size + 1, 0, none⟩ = some (.int .i64 (sf : Int)) ∧ w'.cell? ⟨w.heap.size + 1, 1, none⟩ = some (.int .i64 (sp : Int)) ∧ w'.cell? ⟨w.heap.size + 1, 2, none⟩ = some (.int .i64 sn) ∧ w'.cell? ⟨w.heap.size + 1, 3, none⟩ = some (.int .i64 tg)) := fun w' hb => HXB.out w' (qc.trans (hb.mono hBc))
          go_upto_region 9 with fail
          rcases (show dn = true ∨ (dn = false ∧ ls = true) ∨ (dn = false ∧ ls = false) by cases dn <;> cases ls <;> simp) with rfl | ⟨rfl, rfl⟩ | ⟨rfl, rfl⟩
          · rw [layR_on HN.out (by rintro ⟨h, -⟩; cases h)] at hL
            refine wp_below (by kernel_rfl) (by kernel_rfl) ?_
            iterate 3
              refine q_want (v := ?_) (by kernel_rfl) ?_ ?_
              rotate_left
              · intro w' hC
                obtain ⟨j0, j1, j2, j3, j4, j5, j6, j7, j8⟩ := HX2.out w' hC
                go_simp
                try with_reducible rfl
              try simp only [Act.put, List.setIfInBounds_toArray, List.set_cons_zero, List.set_cons_succ]
            iterate 6 go_big_quiet_skip
            iterate 2
              refine q_want (v := ?_) (by kernel_rfl) ?_ ?_
              rotate_left
              · intro w' hC
                obtain ⟨j0, j1, j2, j3, j4, j5, j6, j7, j8⟩ := HX2.out w' hC
                go_simp
                try with_reducible rfl
              try simp only [Act.put, List.setIfInBounds_toArray, List.set_cons_zero, List.set_cons_succ]
            refine wpQuiet_nil ?_
            intro w2 q2
            have qd := qc.trans (q2.mono hBc)
            have hownD := own_below hownC q2
            have hBd : B ≤ w2.heap.size := Nat.le_trans hBsz qd.size
            have hbyt : (out.length + 1) * 32 ≤ 140737488355328 := by omega
            have hbyt2 : (out.length + 1 + 1) * 32 ≤ 140737488355328 := Nat.le_trans (Nat.mul_le_mul_right 32 (show out.length + 1 + 1 ≤ 2000 by omega)) (by decide)
            clear qc hownC hBc HX2 q2 HLS
            obtain ⟨x0, x1, x2, x3, m0, s0, s1, s2, s3⟩ := HXB.out w2 qd
            go_simp
            go_upto_region 5 with (first | (at_builtin; refine wpList_append_lies _ rfl _ _ 36 rfl B 68 i0 (.agg #[.int .i64 0, .int .i64 0, .int .i64 0, .int .i64 0]) 4 32 Tryz.underlying36 hi0 hz0 hz1 hz2 rfl (by decide) _ _ _ rfl (World.ownsRow.alloc hownD _) ⟨w2.heap.size, 0, none⟩ 1 1 [.int .i64 xf, .int .i64 xp, .int .i64 xs, .int .i64 xt] rfl rfl (World.news_of_block (block_new w2 _ 68)) (by simp [Value.oneCell']) (by decide) (by unfold maxLen; omega) hbyt (by rw [World.size_alloc]; omega) _ rfl ?_; intro gz capz wz hownz hgrowz hatz hltz))
            have qz := (qd.alloc hBd (.cells #[.int .i64 xf, .int .i64 xp, .int .i64 xs, .int .i64 xt] 68)).trans ((Keeps.grown (ts := [68]) (World.ownsRow.alloc hownD _) hgrowz (by decide)).toBelow (by rw [World.size_alloc]; omega))
            have hBz : B ≤ wz.heap.size := Nat.le_trans hBsz qz.size
            clear hgrowz hatz hltz
            have HZ : Hid (wz.ownsRow B 68 4 (.slice (some ⟨gz, 0, none⟩) (out.length + 1) capz) (out ++ [(⟨xf, xp, xs, xt⟩ : Si)]).length (flatS (out ++ [⟨xf, xp, xs, xt⟩]))) := by
              rw [flatS_app, List.length_append]
              exact hownz
            clear x0 x1 x2 x3 m0 s0 s1 s2 s3 hownz
            go_wp2
            exact ⟨⟨k + 1, true, out ++ [⟨xf, xp, xs, xt⟩], by omega, by go_num, rfl, HZ.out, qz, by rw [List.append_assoc]; exact hL.out, by simp; omega, fun h => by cases h⟩, by simp [intOf]; omega⟩
          · have hlt2 : SiteLess ⟨sf, sp, sn, tg⟩ ⟨xf, xp, xs, xt⟩ := of_decide_eq_true HLE.out.symm
            rw [layR_ahead HN.out hlt2] at hL
            clear hlt2
            refine wp_below (by kernel_rfl) (by kernel_rfl) ?_
            iterate 8
              refine q_want (v := ?_) (by kernel_rfl) ?_ ?_
              rotate_left
              · intro w' hC
                obtain ⟨j0, j1, j2, j3, j4, j5, j6, j7, j8⟩ := HX2.out w' hC
                go_simp
                try with_reducible rfl
              try simp only [Act.put, List.setIfInBounds_toArray, List.set_cons_zero, List.set_cons_succ]
            refine q_want (v := .bool true) (by kernel_rfl) ?_ ?_
            · intro w' hC
              go_simp
              refine (HLS.out _).mono ?_
              rintro e w'' ⟨rfl, hb2⟩
              exact ⟨rfl, hC.trans (hb2.mono hC.size)⟩
            try simp only [Act.put, List.setIfInBounds_toArray, List.set_cons_zero, List.set_cons_succ]
            iterate 2
              refine q_want (v := ?_) (by kernel_rfl) ?_ ?_
              rotate_left
              · intro w' hC
                obtain ⟨j0, j1, j2, j3, j4, j5, j6, j7, j8⟩ := HX2.out w' hC
                go_simp
                try with_reducible rfl
              try simp only [Act.put, List.setIfInBounds_toArray, List.set_cons_zero, List.set_cons_succ]
            refine wpQuiet_nil ?_
            intro w2 q2
            have qd := qc.trans (q2.mono hBc)
            have hownD := own_below hownC q2
            have hBd : B ≤ w2.heap.size := Nat.le_trans hBsz qd.size
            have hbyt : (out.length + 1) * 32 ≤ 140737488355328 := by omega
            have hbyt2 : (out.length + 1 + 1) * 32 ≤ 140737488355328 := Nat.le_trans (Nat.mul_le_mul_right 32 (show out.length + 1 + 1 ≤ 2000 by omega)) (by decide)
            clear qc hownC hBc HX2 q2 HLS
            obtain ⟨x0, x1, x2, x3, m0, s0, s1, s2, s3⟩ := HXB.out w2 qd
            go_simp
            go_upto_region 11 with (first | (at_builtin; refine wpList_append_lies _ rfl _ _ 36 rfl B 68 i0 (.agg #[.int .i64 0, .int .i64 0, .int .i64 0, .int .i64 0]) 4 32 Tryz.underlying36 hi0 hz0 hz1 hz2 rfl (by decide) _ _ _ rfl (World.ownsRow.alloc hownD _) ⟨w2.heap.size, 0, none⟩ 1 1 [.int .i64 (sf : Int), .int .i64 (sp : Int), .int .i64 sn, .int .i64 tg] rfl rfl (World.news_of_block (block_new w2 _ 68)) (by simp [Value.oneCell']) (by decide) (by unfold maxLen; omega) hbyt (by rw [World.size_alloc]; omega) _ rfl ?_; intro gp capp wp hownp hgrowp hatp hltp))
            have qp := (qd.alloc hBd (.cells #[.int .i64 (sf : Int), .int .i64 (sp : Int), .int .i64 sn, .int .i64 tg] 68)).trans ((Keeps.grown (ts := [68]) (World.ownsRow.alloc hownD _) hgrowp (by decide)).toBelow (by rw [World.size_alloc]; omega))
            have hBp : B ≤ wp.heap.size := Nat.le_trans hBsz qp.size
            clear hgrowp hatp hltp
            clear x0 x1 x2 x3 m0 s0 s1 s2 s3
            obtain ⟨x0, x1, x2, x3, m0, s0, s1, s2, s3⟩ := HXB.out wp qp
            have hownP : wp.ownsRow B 68 4 (.slice (some ⟨gp, 0, none⟩) (out.length + 1) capp) (out.length + 1) (flatS (out ++ [⟨sf, sp, sn, tg⟩])) := by rw [flatS_app]; exact hownp
            go_upto_region 5 with (first | (at_builtin; refine wpList_append_lies _ rfl _ _ 36 rfl B 68 i0 (.agg #[.int .i64 0, .int .i64 0, .int .i64 0, .int .i64 0]) 4 32 Tryz.underlying36 hi0 hz0 hz1 hz2 rfl (by decide) _ _ _ rfl (World.ownsRow.alloc hownP _) ⟨wp.heap.size, 0, none⟩ 1 1 [.int .i64 xf, .int .i64 xp, .int .i64 xs, .int .i64 xt] rfl rfl (World.news_of_block (block_new wp _ 68)) (by simp [Value.oneCell']) (by decide) (by unfold maxLen; omega) hbyt2 (by rw [World.size_alloc]; omega) _ rfl ?_; intro gz capz wz hownz hgrowz hatz hltz))
            have qz := (qp.alloc hBp (.cells #[.int .i64 xf, .int .i64 xp, .int .i64 xs, .int .i64 xt] 68)).trans ((Keeps.grown (ts := [68]) (World.ownsRow.alloc hownP _) hgrowz (by decide)).toBelow (by rw [World.size_alloc]; omega))
            have hBz : B ≤ wz.heap.size := Nat.le_trans hBsz qz.size
            clear hgrowz hatz hltz
            have HZ : Hid (wz.ownsRow B 68 4 (.slice (some ⟨gz, 0, none⟩) (out.length + 1 + 1) capz) (out ++ [(⟨sf, sp, sn, tg⟩ : Si)] ++ [(⟨xf, xp, xs, xt⟩ : Si)]).length (flatS (out ++ [⟨sf, sp, sn, tg⟩] ++ [⟨xf, xp, xs, xt⟩]))) := by
              rw [flatS_app, List.length_append, List.length_append]
              exact hownz
            clear x0 x1 x2 x3 m0 s0 s1 s2 s3 hownz hownP hownp
            go_wp2
            exact ⟨⟨k + 1, true, out ++ [⟨sf, sp, sn, tg⟩] ++ [⟨xf, xp, xs, xt⟩], by omega, by go_num, rfl, HZ.out, qz, by rw [List.append_assoc, List.append_assoc]; exact hL.out, by have := hdl.out rfl; simp; omega, fun h => by cases h⟩, by simp [intOf]; omega⟩
          · rw [layR_on HN.out (by rintro ⟨-, h⟩; rw [decide_eq_true h] at HLE; cases HLE.out)] at hL
            refine wp_below (by kernel_rfl) (by kernel_rfl) ?_
            iterate 8
              refine q_want (v := ?_) (by kernel_rfl) ?_ ?_
              rotate_left
              · intro w' hC
                obtain ⟨j0, j1, j2, j3, j4, j5, j6, j7, j8⟩ := HX2.out w' hC
                go_simp
                try with_reducible rfl
              try simp only [Act.put, List.setIfInBounds_toArray, List.set_cons_zero, List.set_cons_succ]
            refine q_want (v := .bool false) (by kernel_rfl) ?_ ?_
            · intro w' hC
              go_simp
              refine (HLS.out _).mono ?_
              rintro e w'' ⟨rfl, hb2⟩
              exact ⟨rfl, hC.trans (hb2.mono hC.size)⟩
            try simp only [Act.put, List.setIfInBounds_toArray, List.set_cons_zero, List.set_cons_succ]
            iterate 2
              refine q_want (v := ?_) (by kernel_rfl) ?_ ?_
              rotate_left
              · intro w' hC
                obtain ⟨j0, j1, j2, j3, j4, j5, j6, j7, j8⟩ := HX2.out w' hC
                go_simp
                try with_reducible rfl
              try simp only [Act.put, List.setIfInBounds_toArray, List.set_cons_zero, List.set_cons_succ]
            refine wpQuiet_nil ?_
            intro w2 q2
            have qd := qc.trans (q2.mono hBc)
            have hownD := own_below hownC q2
            have hBd : B ≤ w2.heap.size := Nat.le_trans hBsz qd.size
            have hbyt : (out.length + 1) * 32 ≤ 140737488355328 := by omega
            have hbyt2 : (out.length + 1 + 1) * 32 ≤ 140737488355328 := Nat.le_trans (Nat.mul_le_mul_right 32 (show out.length + 1 + 1 ≤ 2000 by omega)) (by decide)
            clear qc hownC hBc HX2 q2 HLS
            obtain ⟨x0, x1, x2, x3, m0, s0, s1, s2, s3⟩ := HXB.out w2 qd
            go_simp
            go_upto_region 5 with (first | (at_builtin; refine wpList_append_lies _ rfl _ _ 36 rfl B 68 i0 (.agg #[.int .i64 0, .int .i64 0, .int .i64 0, .int .i64 0]) 4 32 Tryz.underlying36 hi0 hz0 hz1 hz2 rfl (by decide) _ _ _ rfl (World.ownsRow.alloc hownD _) ⟨w2.heap.size, 0, none⟩ 1 1 [.int .i64 xf, .int .i64 xp, .int .i64 xs, .int .i64 xt] rfl rfl (World.news_of_block (block_new w2 _ 68)) (by simp [Value.oneCell']) (by decide) (by unfold maxLen; omega) hbyt (by rw [World.size_alloc]; omega) _ rfl ?_; intro gz capz wz hownz hgrowz hatz hltz))
            have qz := (qd.alloc hBd (.cells #[.int .i64 xf, .int .i64 xp, .int .i64 xs, .int .i64 xt] 68)).trans ((Keeps.grown (ts := [68]) (World.ownsRow.alloc hownD _) hgrowz (by decide)).toBelow (by rw [World.size_alloc]; omega))
            have hBz : B ≤ wz.heap.size := Nat.le_trans hBsz qz.size
            clear hgrowz hatz hltz
            have HZ : Hid (wz.ownsRow B 68 4 (.slice (some ⟨gz, 0, none⟩) (out.length + 1) capz) (out ++ [(⟨xf, xp, xs, xt⟩ : Si)]).length (flatS (out ++ [⟨xf, xp, xs, xt⟩]))) := by
              rw [flatS_app, List.length_append]
              exact hownz
            clear x0 x1 x2 x3 m0 s0 s1 s2 s3 hownz
            go_wp2
            exact ⟨⟨k + 1, false, out ++ [⟨xf, xp, xs, xt⟩], by omega, by go_num, rfl, HZ.out, qz, by rw [List.append_assoc]; exact hL.out, by simp; omega, fun _ => by have := hdl.out rfl; simp; omega⟩, by simp [intOf]; omega⟩
    · have hke : k = p.length := by omega
      rw [hke, List.drop_length] at hL
      have hBr : B ≤ wr.heap.size := Nat.le_trans hBsz hbr.size
      have hbyt : (out.length + 1) * 32 ≤ 140737488355328 := by omega
      clear hke
      cases dn with
      | true =>
        have HZ : Hid (out = L) := by have := hL.out; rw [layR, if_pos rfl, List.append_nil] at this; exact this
        have HW : Hid (wr.ownsRow B 68 4 u7 L.length (flatS L) ∧ Below w.heap.size w wr) := ⟨by rw [← HZ.out]; exact hown, HBW.out wr hbr⟩
        clear hown hbyt
        go_wp2
        go_ret
        exact ⟨u7, rfl, by rw [← HBE.out]; exact HW.out.1, HW.out.2⟩
      | false =>
        have HZ : Hid (out ++ [⟨sf, sp, sn, tg⟩] = L) := by have := hL.out; rw [layR, if_neg (by decide)] at this; exact this
        obtain ⟨m0, s0, s1, s2, s3⟩ := HC.out wr hbr
        go_wp2_with (first | (at_builtin; refine wpList_append_lies _ rfl _ _ 36 rfl B 68 i0 (.agg #[.int .i64 0, .int .i64 0, .int .i64 0, .int .i64 0]) 4 32 Tryz.underlying36 hi0 hz0 hz1 hz2 rfl (by decide) _ _ _ rfl (World.ownsRow.alloc hown _) ⟨wr.heap.size, 0, none⟩ 1 1 [.int .i64 (sf : Int), .int .i64 (sp : Int), .int .i64 sn, .int .i64 tg] rfl rfl (World.news_of_block (block_new wr _ 68)) (by simp [Value.oneCell']) (by decide) (by unfold maxLen; omega) hbyt (by rw [World.size_alloc]; omega) _ rfl ?_; intro gz capz wz hownz hgrowz hatz hltz))
        have qz := (hbr.alloc hBr (.cells #[.int .i64 (sf : Int), .int .i64 (sp : Int), .int .i64 sn, .int .i64 tg] 68)).trans ((Keeps.grown (ts := [68]) (World.ownsRow.alloc hown _) hgrowz (by decide)).toBelow (by rw [World.size_alloc]; omega))
        have HW : Hid (wz.ownsRow B 68 4 (.slice (some ⟨gz, 0, none⟩) (out.length + 1) capz) L.length (flatS L) ∧ Below w.heap.size w wz) := ⟨by rw [← HZ.out, flatS_app, List.length_append]; exact hownz, HBW.out wz qz⟩
        clear hownz hgrowz hatz hltz hown hbyt s0 s1 s2 s3 m0 qz
        try go_wp2
        go_ret
        exact ⟨_, rfl, by rw [← HBE.out]; exact HW.out.1, HW.out.2⟩
end Go.Proofs.YtmmcockkbhnopaaGreat
