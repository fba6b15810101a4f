/-
  What the program's reader of functions answers: a slice of the call's own with the functions, the code of each in a block of its own.
-/
import Derived.Test.YtbffmhcahdblnaaDoorL4
namespace Go.Proofs.YtbffmhcahdblnaaDoor
open Go.RowKit

theorem info44 : (Tryd.prog.info? 44).map (fun i => (i.zero, i.size, i.bytes)) = some (some (.agg #[.int .i64 0, .int .i64 0, .slice none 0 0]), 3, 40) := by kernel_rfl
theorem own_keeps {w w' : World} {base e size n B : Nat} {ts : List Nat} {v : Value} {xs : List Value} (h : w.ownsRow base e size v n xs) (hk : Keeps B ts w w') (he : e ∉ ts) : w'.ownsRow base e size v n xs := by
  refine ⟨h.1, ?_⟩
  rcases h.2 with hn | ⟨g, cap, cur, hv, hb, hg, r⟩
  · exact .inl hn
  · exact .inr ⟨g, cap, cur, hv, hb, hk.cell hg he, r⟩
theorem own_lt {w : World} {base e size n c : Nat} {a : Option Addr} {xs : List Value} (h : w.ownsRow base e size (.slice a n c) n xs) {g : Nat} (hg : a = some ⟨g, 0, none⟩) : base ≤ g ∧ g < w.heap.size := h.lt g (by subst hg; rfl)

theorem cell_three_new (w : World) (a b c : Value) (t : TypeId) : ∀ j u, [a, b, c][j]? = some u → (w.alloc (.cells #[a, b, c] t)).cell? ((⟨w.heap.size, 0, none⟩ : Addr).add j) = some u := by
  intro j u h
  rw [Go.WideShapes.add_plain, Nat.zero_add, cell_new]
  match j, h with
  | 0, h => simpa using h
  | 1, h => simpa using h
  | 2, h => simpa using h

/-- The cells of a list of functions; 'cs': where the code of each lies. -/
def fnVals (fs : List Fn) (cs : List (Option Addr × Nat)) : List Value := (fs.zip cs).flatMap fun z => [.int .i64 z.1.params, .int .i64 z.1.locals, .slice z.2.1 z.1.code.length z.2.2]
theorem fnVals_snoc {fs : List Fn} {cs : List (Option Addr × Nat)} (h : fs.length = cs.length) (f : Fn) (c : Option Addr × Nat) : fnVals (fs ++ [f]) (cs ++ [c]) = fnVals fs cs ++ [.int .i64 f.params, .int .i64 f.locals, .slice c.1 f.code.length c.2] := by
  unfold fnVals
  rw [List.zip_append h, List.flatMap_append]
  simp

/-- The code of each function lies in a row of the call's own, each in a block behind those ahead of it. -/
structure CodesOwn (w : World) (base : Nat) (fs : List Fn) (cs : List (Option Addr × Nat)) : Prop where
  len : fs.length = cs.length
  own : ∀ i (h : i < fs.length) (h' : i < cs.length), w.ownsRow base 47 2 (.slice cs[i].1 fs[i].code.length cs[i].2) fs[i].code.length (codeVals fs[i].code)
  order : ∀ i j (hi : i < j) (hj : j < cs.length) (g g' : Nat), cs[i].1 = some ⟨g, 0, none⟩ → cs[j].1 = some ⟨g', 0, none⟩ → g < g'

theorem CodesOwn.nil (w : World) (base : Nat) : CodesOwn w base [] [] := ⟨rfl, fun i h => by simp at h, fun i j _ hj => by simp at hj⟩
theorem CodesOwn.keeps {w w' : World} {base B : Nat} {ts : List Nat} {fs : List Fn} {cs : List (Option Addr × Nat)} (h : CodesOwn w base fs cs) (hk : Keeps B ts w w') (he : 47 ∉ ts) : CodesOwn w' base fs cs :=
  ⟨h.len, fun i hi hi' => own_keeps (h.own i hi hi') hk he, h.order⟩
theorem CodesOwn.below {w w' : World} {base : Nat} {fs : List Fn} {cs : List (Option Addr × Nat)} (h : CodesOwn w base fs cs) (hb : Below w.heap.size w w') : CodesOwn w' base fs cs := h.keeps (B := 0) (ts := []) (Keeps.below hb) (by simp)
theorem CodesOwn.only {w w' : World} {base R : Nat} {fs : List Fn} {cs : List (Option Addr × Nat)} (h : CodesOwn w base fs cs) (hR : R < base) (ho : Only R w w') : CodesOwn w' base fs cs :=
  ⟨h.len, fun i hi hi' => own_only (h.own i hi hi') hR ho, h.order⟩
theorem CodesOwn.snoc {w w' : World} {base : Nat} {fs : List Fn} {cs : List (Option Addr × Nat)} {f : Fn} {a : Option Addr} {c : Nat} (h : CodesOwn w base fs cs) (h' : CodesOwn w' base fs cs) (hb : base ≤ w.heap.size)
    (hf : w'.ownsRow w.heap.size 47 2 (.slice a f.code.length c) f.code.length (codeVals f.code)) : CodesOwn w' base (fs ++ [f]) (cs ++ [(a, c)]) := by
  refine ⟨by simp [h.len], fun i hi hi' => ?_, fun i j hij hj g g' hg hg' => ?_⟩
  · by_cases e : i < fs.length
    · have e' : i < cs.length := by rw [← h.len]; exact e
      simp only [List.getElem_append_left e, List.getElem_append_left e']
      exact h'.own i e e'
    · have e1 : i = fs.length := by simp at hi; omega
      subst e1
      have e2 : (cs ++ [(a, c)])[fs.length]'hi' = (a, c) := by simp [h.len]
      have e3 : (fs ++ [f])[fs.length]'hi = f := by simp
      rw [e2, e3]
      exact own_low hf hb
  · have hjl : j < cs.length + 1 := by simpa using hj
    have ei : i < cs.length := by omega
    rw [List.getElem_append_left ei] at hg
    by_cases e : j < cs.length
    · rw [List.getElem_append_left e] at hg'
      exact h.order i j hij e g g' hg hg'
    · have e1 : j = cs.length := by omega
      subst e1
      have e2 : (cs ++ [(a, c)])[cs.length]'hj = (a, c) := by simp
      rw [e2] at hg'
      have k1 := (own_lt (h.own i (by rw [h.len]; exact ei) ei) hg).2
      have k2 := (own_lt hf hg').1
      omega

def pFuncsAll (l : List Int) : Option (List Fn × List Int) :=
  match pCount 12 l with
  | none => none
  | some (k, l1) => pFuncs k l1
theorem pFuncs_step {k : Nat} {l l1 : List Int} {f : Fn} (h1 : pFunc l = some (f, l1)) : pFuncs (k + 1) l = (pFuncs k l1).map fun q => (f :: q.1, q.2) := by rw [pFuncs, h1]
theorem pFuncs_none {k : Nat} {l : List Int} (h1 : pFunc l = none) : pFuncs (k + 1) l = none := by rw [pFuncs, h1]

set_option maxRecDepth 100000 in
set_option maxHeartbeats 1600000 in
theorem takeFuncs_any (R : Nat) (ab : Option Addr) (bs : List Int) (cap p : Nat) (w wz : World) (I : In wz R ab bs cap) (hR : RdAt w R ab bs.length cap p) (hp : p ≤ bs.length) (hbz : Below wz.heap.size wz w) :
    Calls Tryd.prog 52 #[.func (Fn.func 32) #[.pointer (some ⟨R, 0, none⟩)] #[]] w fun e w' =>
      (∃ (fs : List Fn) (cs : List (Option Addr × Nat)) (q : Nat) (a : Option Addr) (c : Nat), q ≤ bs.length ∧ pFuncsAll (bs.drop p) = some (fs, bs.drop q) ∧ e = .returned (.tuple #[.slice a fs.length c, .nilIface]) ∧ w'.ownsRow w.heap.size 44 3 (.slice a fs.length c) fs.length (fnVals fs cs) ∧ CodesOwn w' w.heap.size fs cs ∧ RdAt w' R ab bs.length cap q ∧ Only R w w') ∨
      (pFuncsAll (bs.drop p) = none ∧ ∃ s, e = .returned (.tuple #[.slice none 0 0, .iface 62 (.agg #[.string s])]) ∧ Only R w w') := by
  obtain ⟨i0, hi, hz0, hz1, hz2⟩ := info_parts info44
  have hRw := hR.lt
  have hzw : wz.heap.size ≤ w.heap.size := hbz.size
  go_enter Tryd.func52, Tryd.ntmps52
  go_wp2_with fail
  refine (takeCount_any R ab bs cap p 12 _ wz hR hp I.small I.byte I.cells hbz I.old hzw).mono ?_
  rintro e w1 (⟨cn, q1, hq1, hpc, hc20, rfl, hR1, ho1⟩ | ⟨hpc, s, rfl, ho1⟩)
  · have HP : Hid (pFuncsAll (bs.drop p) = pFuncs cn (bs.drop q1)) := by show pFuncsAll (bs.drop p) = _; unfold pFuncsAll; rw [hpc]
    clear hpc
    go_wp2_with fail
    go_loopw [6, 18] (fun o i wr => ∃ (j q : Nat) (dn : List Fn) (cs : List (Option Addr × Nat)) (a : Option Addr) (c : Nat), j ≤ cn ∧ dn.length = j ∧ i = .int .i64 j ∧ o = .slice a j c ∧ q ≤ bs.length ∧ Hid (pFuncs cn (bs.drop q1) = (pFuncs (cn - j) (bs.drop q)).map fun z => (dn ++ z.1, z.2)) ∧ wr.ownsRow w.heap.size 44 3 (.slice a j c) j (fnVals dn cs) ∧ CodesOwn wr w.heap.size dn cs ∧ RdAt wr R ab bs.length cap q ∧ Only R w wr) (fun _ i _ => cn - (intOf i).toNat)
    case atStart => exact ⟨0, q1, [], [], none, 0, by omega, rfl, rfl, rfl, hq1, by show _ = _; simp, World.ownsRow_nil _ _ _ _, CodesOwn.nil _ _, hR1, ho1⟩
    case round =>
      obtain ⟨j, q, dn, cs, a, c, hj, hdl, rfl, rfl, hq, HT, hown, hcs, hRr, hor⟩ := hrel
      clear hR1 ho1
      have hbr : Below wz.heap.size wz wr := hbz.trans (hor.below I.old hzw)
      by_cases hlt : j < cn
      · have hlt' : (j : Int) < (cn : Int) := by omega
        go_wp2_with fail
        refine (takeFunc_any R ab bs cap q _ wz I hRr hq hbr).mono ?_
        rintro e w2 (⟨f, q2, ca, cc, hq2, hpc, rfl, hcode, hR2, ho2⟩ | ⟨hpc, s, rfl, ho2⟩)
        · have hown2 := own_only hown hRw ho2
          have hcs2 := CodesOwn.snoc hcs (hcs.only hRw ho2) hor.size hcode
          have HS : Hid (pFuncs cn (bs.drop q1) = (pFuncs (cn - (j + 1)) (bs.drop q2)).map fun z => ((dn ++ [f]) ++ z.1, z.2)) := by
            show _ = _
            rw [HT.out, show cn - j = (cn - (j + 1)) + 1 by omega, pFuncs_step hpc, Option.map_map]
            congr 1
            funext z
            simp
          have hlen := hcs.len
          have ho4 : Only R w w2 := hor.trans ho2
          have hz3 : w.heap.size ≤ w2.heap.size := ho4.size
          clear hpc ho2 hown hRr hcode hcs
          have hnew : ∀ k u, [Value.int .i64 f.params, .int .i64 f.locals, .slice ca f.code.length cc][k]? = some u → ((w2.alloc (.cells #[.int .i64 f.params, .int .i64 f.locals, .slice ca f.code.length cc] 44)).alloc (.cells #[.int .i64 f.params, .int .i64 f.locals, .slice ca f.code.length cc] 44)).cell? ((⟨w2.heap.size + 1, 0, none⟩ : Addr).add k) = some u := by
            intro k u hu
            have := cell_three_new (w2.alloc (.cells #[.int .i64 f.params, .int .i64 f.locals, .slice ca f.code.length cc] 44)) _ _ _ 44 k u hu
            simpa using this
          go_wp2_with (first | (at_builtin; refine wpList_append_lies _ rfl _ _ 25 rfl w.heap.size 44 i0 (.agg #[.int .i64 0, .int .i64 0, .slice none 0 0]) 3 40 Tryd.underlying25 hi hz0 hz1 hz2 rfl (by decide) _ _ _ rfl (World.ownsRow.alloc (World.ownsRow.alloc hown2 _) _) ⟨w2.heap.size + 1, 0, none⟩ 1 1 [.int .i64 f.params, .int .i64 f.locals, .slice ca f.code.length cc] rfl rfl hnew (by intro u hu; simp at hu; rcases hu with rfl | rfl | rfl <;> rfl) (by decide) (by unfold maxLen; omega) (by omega) (by simp; omega) _ rfl ?_; intro g cp w4 hown4 hgrow4 hat4 hlt4))
          have hR4 : RdAt w4 R ab bs.length cap q2 := RdAt.grown ((hR2.alloc _).alloc _) (World.ownsRow.alloc (World.ownsRow.alloc hown2 _) _) hRw hgrow4
          have ho5 : Only R w w4 := Only.grown ((ho4.alloc _).alloc _) (World.ownsRow.alloc (World.ownsRow.alloc hown2 _) _) hgrow4
          have hcs5 : CodesOwn w4 w.heap.size (dn ++ [f]) (cs ++ [(ca, cc)]) :=
            (hcs2.below (((Below.refl _ _).alloc (Nat.le_refl _) (.cells #[.int .i64 f.params, .int .i64 f.locals, .slice ca f.code.length cc] 44)).alloc (by simp) (.cells #[.int .i64 f.params, .int .i64 f.locals, .slice ca f.code.length cc] 44))).keeps (Keeps.grown (ts := [44]) (World.ownsRow.alloc (World.ownsRow.alloc hown2 _) _) hgrow4 (by simp)) (by simp)
          have hown5 : w4.ownsRow w.heap.size 44 3 (.slice (some ⟨g, 0, none⟩) (j + 1) cp) (j + 1) (fnVals (dn ++ [f]) (cs ++ [(ca, cc)])) := by rw [fnVals_snoc hlen]; exact hown4
          clear hown4 hgrow4 hat4
          go_roundw
          case rel => exact ⟨j + 1, q2, dn ++ [f], cs ++ [(ca, cc)], some ⟨g, 0, none⟩, cp, by omega, by simp [hdl], by go_num, rfl, hq2, HS, hown5, hcs5, hR4, ho5⟩
          case measure => simp [intOf]; omega
        · have HN : Hid (pFuncsAll (bs.drop p) = none) := by
            show _ = _
            rw [HP.out, HT.out, show cn - j = (cn - (j + 1)) + 1 by omega, pFuncs_none hpc]
            rfl
          clear hpc
          go_wp2
          go_ret2
          exact Or.inr ⟨HN.out, _, rfl, (hor.trans ho2).alloc _⟩
      · have hlt' : (cn : Int) ≤ (j : Int) := by omega
        obtain rfl : j = cn := by omega
        have HN : Hid (pFuncsAll (bs.drop p) = some (dn, bs.drop q)) := by
          show _ = _
          rw [HP.out, HT.out, Nat.sub_self]
          simp [pFuncs]
        subst hdl
        go_wp2
        go_ret2
        exact Or.inl ⟨dn, cs, q, a, c, hq, HN.out, rfl, hown, hcs, hRr, hor⟩
  · have HP : Hid (pFuncsAll (bs.drop p) = none) := by show pFuncsAll (bs.drop p) = _; unfold pFuncsAll; rw [hpc]
    clear hpc
    go_wp2
    go_ret2
    exact Or.inr ⟨HP.out, _, rfl, ho1⟩
end Go.Proofs.YtbffmhcahdblnaaDoor
