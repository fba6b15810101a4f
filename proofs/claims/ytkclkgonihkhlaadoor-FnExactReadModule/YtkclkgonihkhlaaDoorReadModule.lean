/-
  The law laws.FnExactReadModule, as it was translated from the landed commit, returns true at every argument and leaves the argument as it was. No condition, but that the listed tables and errors hold what the program's text lays into them.
-/
import Derived.Test.YtkclkgonihkhlaaDoorT5
import Derived.Test.YtkclkgonihkhlaaDoorR5
import Derived.HandedShaped
import Derived.Shelf.Vars
import Derived.Stop.LaidTwo
import Derived.Test.YtkclkgonihkhlaaDoorR20
import Derived.Test.YtkclkgonihkhlaaDoorR19
import Derived.Test.YtkclkgonihkhlaaDoorCards
import Derived.Test.YtkclkgonihkhlaaDoorTie
import Derived.ProofKit
import Derived.LaidMore
import Derived.OpenShut
import Derived.OpenVars
import Derived.ShutString
import Derived.ChangeOld
import Derived.ChangeMaps5
import Derived.Below
import Derived.ChangeVars
import Derived.Stop.Joined
import Derived.Lib.SmallJoins
import Derived.SevenTiedAt
namespace Go.Proofs.YtkclkgonihkhlaaDoor
open Go.ChangeShapes Go.WideShapes Go.ChangeAt Go.WideMaps Go.WideElems Go.RowKit Go.Joins

theorem gRngT : (Tryd.prog.globals[4]?).map (·.type) = some 62 := by kernel_rfl
theorem gSynT : (Tryd.prog.globals[3]?).map (·.type) = some 62 := by kernel_rfl
theorem cells140 : Tryd.prog.cellsOf 140 = 1 := by kernel_rfl
theorem cells9 : Tryd.prog.cellsOf 9 = 1 := by kernel_rfl
theorem star : "*" ++ "errors.errorString" = "*errors.errorString" := by decide
theorem row138 (u : TypeId) (h : Tryd.prog.typeName? 3 u = some "*errors.errorString") : u = 138 :=
  typeName_ptr_named (nm := "errors.errorString") (by rw [star]; kernel_rfl) (by kernel_rfl) (by decide) u (by rw [star]; exact h)

/-- What the listed tables and the library's variables give the walk. -/
theorem of_laidR {W : World} (h : laidMetH Tryd.prog Rows.fnExactReadModuleRow.laid W) (hsh : W.ShapedOpen Tryd.prog) :
    (∀ k s, words[k]? = some s → W.cell? ⟨0, k, none⟩ = some (.string s)) ∧ Lib.TabIs Tryd.prog W "internal/strconv.uint64pow10" .u64 Lib.pow10Tab ∧ Vars W := by
  rw [MakeChecks.laidMetH_plain _ _ _ (by kernel_rfl)] at h
  have h2 : laidMet Tryd.prog (("internal/strconv.uint64pow10", Lib.tabData .u64 Lib.pow10Tab) :: ("strconv.ErrRange", Rows.laid_strconv_ErrRange) :: ("strconv.ErrSyntax", Rows.laid_strconv_ErrSyntax) :: [("loop.example/g00094/impl.opWords", .agg (words.map fun s => .lit (.string s.data.toList)))]) W := by
    rw [← ePow, ← eWords]
    exact h.tail.tail
  obtain ⟨a0, a1, s0, s1, c0, c1, t0, t1, hv0, hv1, -⟩ := laid_sentinels2 h2.tail gRng gRngT gSyn gSynT Tryd.underlying62 row138 Tryd.underlying138 Tryd.underlying140 rfl rfl Tryd.underlying9 cells140 cells9
  refine ⟨?_, Lib.tabIs_of_head gPow (t := 117) (e := 104) (by kernel_rfl) Tryd.underlying117 Tryd.underlying104 (by kernel_rfl) (by kernel_rfl) h2, ⟨?_, ⟨_, _, hv1⟩, ⟨_, _, hv0⟩⟩⟩
  · obtain ⟨ps, ⟨g, t, cs, fuel, p, q, hg, ht, hvar, hd, _, _⟩, _⟩ := h2.tail.tail.tail
    obtain rfl := Option.some.inj (gWords.symm.trans hg)
    obtain rfl := Option.some.inj ((show (Tryd.prog.globals[0]?).map (·.type) = some 48 by kernel_rfl).symm.trans ht)
    intro k s hs
    have := World.var?_cell hg hvar k
    rw [this]
    have := cells_of_texts Tryd.underlying48 Tryd.underlying9 (by kernel_rfl) (by kernel_rfl) hd k s hs
    simpa using this
  · exact cell_of_shapedOpen_int (P := Tryd.prog) (g := 1) (t := 3) (zero := #[.int .i64 0]) hsh (of_decide_eq_true (by kernel_rfl)) (by kernel_rfl) rfl (by kernel_rfl) (by kernel_rfl) Tryd.underlying3

theorem laidOutR : laidOutB Tryd.prog = true := by kernel_rfl
theorem ownR : ownKnob Tryd.prog.godebug = none := by kernel_rfl

/-- The door's own heap meets the condition. -/
theorem door_metR (os : Os) (args : Array Value) : laidMetH Tryd.prog Rows.fnExactReadModuleRow.laid ((World.doorLaid Tryd.prog 67 os).forCall (fun _ _ => 0) ⟨#[], args, []⟩).memory :=
  laidMetH_of_parts3 (fuel := 8) (laidMet_of_run' 8 (by kernel_rfl) (by kernel_rfl)) (by kernel_rfl) (by kernel_rfl)

set_option maxRecDepth 100000 in
theorem liftedR (os : Os) (started : os.Started) (H : Type) (enc : TypeId × Value → H) :
    ReturnsInHanded {} Tryd.checked os 5 .any (fun w args => (Rows.fnExactReadModuleSpec.pre enc Tryd.prog Tryd.f5 [] false w args ∧ laidMetH Tryd.prog Rows.fnExactReadModuleRow.laid w) ∧ sizedMet enc Tryd.prog Tryd.f5 (OpenSpec.ofChange Rows.fnExactReadModuleSpec) false w args)
      (Rows.fnExactReadModuleSpec.post enc Tryd.prog Tryd.f5 false true false false) := by
  refine returnsInHanded_of_calls (C := Tryd.checked) ownR started (by kernel_rfl)
    (ChangeSpec.witness_shaped (enc := enc) (C := Tryd.checked) (os := os) (X := fun w _ => laidMetH Tryd.prog Rows.fnExactReadModuleRow.laid w) false (World.doorLaid Tryd.prog 67 os) #[.string ⟨#[]⟩] 8 rfl (World.shaped_of_RefB (by kernel_rfl) (by kernel_rfl)) (by kernel_rfl) (by kernel_rfl) (by kernel_rfl) (door_metR os _)) ?_
  intro w tape i _ hsh _ hok hpre hholds
  obtain ⟨_, _, _, fn', hfn', _, _, _, _, hval0⟩ := hok
  obtain rfl : fn' = Tryd.f5 := Option.some.inj (hfn'.symm.trans Tryd.func5)
  obtain ⟨⟨⟨ds, gs, before, hw0, hc⟩, hx⟩, hz⟩ := hpre
  have hW := DataW.Whole.of_heap (w' := w.forCall tape i) (by rfl) hw0
  have hL : laidMetH Tryd.prog Rows.fnExactReadModuleRow.laid (w.forCall tape i) := laidMetH.of_heap (by rfl) hx
  suffices hcall : Calls Tryd.prog 5 i.args (w.forCall tape i) fun e W' => ∃ v, e = .returned v ∧ Rows.fnExactReadModuleSpec.post enc Tryd.prog Tryd.f5 false true false false (w.forCall tape i) i.args v W' from
    hcall.mono fun e W' ⟨v, he, hp⟩ => by subst he; exact ChangeSpec.post_blind hp
  obtain ⟨hwd, htb, hvs⟩ := of_laidR hL hsh
  generalize i.args = args at *
  generalize w.forCall tape i = W at *
  generalize w.heap.size = base at *
  have hval : ∀ (j : Nat) t v, Tryd.f5.params[j]? = some t → args[j]? = some v → Value.okWide Tryd.prog W .any base t v := hval0
  have hW' := hW
  obtain ⟨p, q, hA0, hV0, rfl, hfz, hnd⟩ := hW
  have hV : DataW.TrodVars enc Tryd.prog W (fun _ => true) ["loop.example/g00094/impl.opWords"] gs q := hV0
  have hA : DataW.TrodAll enc Tryd.prog W 0 (fun _ => true) true Tryd.f5.params.toList args.toList ds p := hA0
  rw [Tryd.params5] at hA hval
  obtain ⟨v0, vs0, d0, ds0, p0, q0, hargs, rfl, rfl, h0, r0⟩ := trodAll_cons hA
  obtain ⟨rfl, rfl, rfl⟩ := trodAll_nil r0
  obtain rfl : args = #[v0] := by cases args; simp_all
  obtain ⟨g1, rfl⟩ : ∃ g1, gs = [g1] := by
    obtain ⟨_, _, _, _, d, _, h, _⟩ := trodVars_one hV
    exact ⟨d, h⟩
  have k0 := h0
  have lt0 : ∀ x ∈ p0, x.block < W.heap.size := by obtain ⟨m, hm⟩ := k0; exact DataW.trod_lt m _ _ _ hm
  obtain ⟨text, rfl, -, -, -⟩ := Go.ChangeMaps.open_string Tryd.underlying9 (hval 0 9 v0 rfl rfl) h0
  clear hA0 hval0 hw0 hx hz hL hsh hholds
  have walk : Calls Tryd.prog 5 #[.string text] W fun e w' => e = .returned (.bool true) ∧ Below W.heap.size W w' := by
    by_cases hn : 1048576 < text.size
    · exact lawRead_big text W hn
    · exact lawRead text (fun w => sRead_any text w (by omega)) W (by omega) hwd htb hvs
  refine walk.mono fun e W' ⟨he, bel⟩ => ?_
  subst he
  exact ⟨_, rfl, _, _, _, [], _, _, hW', trodAll_mk1 (shut_bool Tryd.underlying4 _), (trodAll_cons_mk (Below.trod laidOutR (by kernel_rfl) (of_decide_eq_true (by kernel_rfl)) k0 bel lt0) trodAll_mk0), Below.trodVars laidOutR bel (by kernel_rfl) hV, bel.frame _, fun h => by cases h⟩

theorem overR : Rows.FnExactReadModuleSaid :=
  OpenClaim.holds_of_wide 5 Tryd.f5 rfl rfl rfl rfl rfl rfl rfl ⟨rfl, rfl, rfl, rfl, rfl⟩ rfl rfl rfl rfl rfl (by kernel_rfl) Tryd.func5 (by kernel_rfl)
    (of_decide_eq_true (by kernel_rfl)) (by unfold Func.isWrapper; first | (rw [if_pos (by decide +kernel)]; kernel_rfl) | (rw [if_neg (by decide +kernel)]; exact ⟨rfl, rfl⟩))
    (fun os started H enc _ => liftedR os started H enc)

theorem fnExactReadModule_holds : Rows.FnExactReadModuleCardSaid :=
  Claim7.holds_tied_plain_at .later [] [.data, .data, .data, .sentinel, .sentinel, .data] true (true, "fdecf106cf2ec6f05126c7e9df96410667faa20cb8710240b9e94c9aa0e042ff") true
    overR (fun _ h => by cases h) (by kernel_rfl) (fun _ h => by cases h) fnExactReadModule_row_tie rfl ⟨rfl, rfl⟩ (by kernel_rfl) rfl
    (fun f fn hf hfn => by
      obtain rfl : f = 5 := Option.some.inj ((show Tryd.prog.funcNamed "loop.example/g00094/laws.FnExactReadModule" = some 5 by kernel_rfl).symm.trans hf) |>.symm
      obtain rfl : fn = Tryd.f5 := (Option.some.inj (Tryd.func5.symm.trans hfn)).symm
      exact ⟨by kernel_rfl, fun j t ht => by
        rw [Tryd.params5] at ht
        have hm : t ∈ [9] := by simpa using Array.mem_of_getElem? ht
        have hall : ([9].all fun u => !Tryd.prog.wantsStandIn u) = true := by kernel_rfl
        exact (show Tryd.prog.wantsStandIn t = false by simpa using List.all_eq_true.1 hall t hm)⟩)
    (by kernel_rfl)
#print axioms fnExactReadModule_holds
end Go.Proofs.YtkclkgonihkhlaaDoor
