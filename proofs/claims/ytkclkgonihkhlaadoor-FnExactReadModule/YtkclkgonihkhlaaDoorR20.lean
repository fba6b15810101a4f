/-
  Two ok modules with the same text are one module; what the law on ReadModule answers, of a specification that reads as it is to.
-/
import Derived.Test.YtkclkgonihkhlaaDoorK3
import Derived.Test.YtkclkgonihkhlaaDoorR17
import Derived.Test.YtkclkgonihkhlaaDoorR18b
import Derived.Test.YtkclkgonihkhlaaDoorW3
namespace Go.Proofs.YtkclkgonihkhlaaDoor
open Go.RowKit

theorem dec_same {m n : Nat} (h : Lib.decDigits m = Lib.decDigits n) : m = n := by
  have := congrArg digVal h
  rw [digVal_dec, digVal_dec] at this
  omega
theorem num_forms (a : Int) : (∃ u : Nat, a = (u : Int) ∧ (numText a).data.toList = Lib.decDigits u) ∨ (∃ u : Nat, a = -(u : Int) ∧ (numText a).data.toList = 45 :: Lib.decDigits u) := by
  by_cases h : 0 ≤ a
  · refine .inl ⟨a.toNat, by omega, ?_⟩
    have e : a = ((a.toNat : Nat) : Int) := by omega
    have e2 := numText_pos a.toNat
    rw [← e] at e2
    rw [e2]
  · refine .inr ⟨(-a).toNat, by omega, ?_⟩
    have e : a = -(((-a).toNat : Nat) : Int) := by omega
    have e2 := numText_neg (-a).toNat (by omega)
    rw [← e] at e2
    rw [e2]
theorem dec_no_minus (u : Nat) (l : List UInt8) : Lib.decDigits u ≠ 45 :: l := fun h => by
  have := dec_digs u 45 (by rw [h]; exact List.mem_cons_self ..)
  have e : (45 : UInt8).toNat = 45 := rfl
  omega
theorem num_same {a b : Int} (h : numText a = numText b) : a = b := by
  have h' : (numText a).data.toList = (numText b).data.toList := by rw [h]
  rcases num_forms a with ⟨u, rfl, eu⟩ | ⟨u, rfl, eu⟩
  · rcases num_forms b with ⟨v, rfl, ev⟩ | ⟨v, rfl, ev⟩
    · rw [eu, ev] at h'
      rw [dec_same h']
    · rw [eu, ev] at h'
      exact absurd h' (dec_no_minus u _)
  · rcases num_forms b with ⟨v, rfl, ev⟩ | ⟨v, rfl, ev⟩
    · rw [eu, ev] at h'
      exact absurd h'.symm (dec_no_minus v _)
    · rw [eu, ev] at h'
      injection h' with _ h'
      rw [dec_same h']
theorem body_one {x y : It} (hx : x.ok) (hy : y.ok) (e : x.body = y.body) : x = y := by
  cases x with
  | t s =>
    cases y with
    | t s' =>
      have := congrArg (fun b : ByteArray => b.data.toList) e
      simp only [t_bytes, List.append_assoc] at this
      have := List.append_cancel_left this
      have := List.append_cancel_right this
      have : s = s' := ByteArray.ext (by rw [← Array.toList_inj]; exact this)
      rw [this]
    | f p l => exact absurd (e ▸ opens_t s) (opens_not_f p l)
    | i o a => exact absurd (e ▸ opens_t s) (opens_not_i o a)
  | f p l =>
    cases y with
    | t s' => exact absurd (e.symm ▸ opens_t s') (opens_not_f p l)
    | f p' l' =>
      have := congrArg (cutsB 32) e
      rw [words_f, words_f] at this
      injection this with _ this
      injection this with e1 this
      injection this with e2 _
      rw [num_same e1, num_same e2]
    | i o a =>
      have := congrArg (cutsB 32) e
      rw [words_f, words_i] at this
      injection this with e1 _
      exact absurd (congrArg (fun b : ByteArray => b.data.toList) e1) (by decide)
  | i o a =>
    cases y with
    | t s' => exact absurd (e.symm ▸ opens_t s') (opens_not_i o a)
    | f p l =>
      have := congrArg (cutsB 32) e
      rw [words_f, words_i] at this
      injection this with e1 _
      exact absurd (congrArg (fun b : ByteArray => b.data.toList) e1) (by decide)
    | i o' a' =>
      have := congrArg (cutsB 32) e
      rw [words_i, words_i] at this
      have this := List.append_cancel_left this
      rw [words_of_ins hx.1 hx.2.1, words_of_ins hy.1 hy.2.1] at this
      obtain ⟨w, hw1, hw2, -⟩ := words_at o.toNat (by have := hx.2.1; omega)
      obtain ⟨w', hw1', hw2', -⟩ := words_at o'.toNat (by have := hy.2.1; omega)
      rw [hw2, hw2'] at this
      have hx1 := hx.1
      have hy1 := hy.1
      have one : w = w' → o = o' := fun h => by
        subst h
        have := words_one hw1 hw1'
        omega
      split at this
      · split at this
        · rename_i b b'
          injection this with h1 _
          rw [one h1, hx.2.2.2 b, hy.2.2.2 b']
        · cases this
      · split at this
        · cases this
        · injection this with h1 h2
          injection h2 with h2 _
          rw [one h1, num_same h2]
theorem show_one {T T' : List ByteArray} {F F' : List Fn} (h : modB T F = true) (h' : modB T' F' = true) (e : showB T F = showB T' F') : T = T' ∧ F = F' := by
  have e1 := congrArg (cutsB 10) e
  rw [cutsB_show h, cutsB_show h'] at e1
  have e2 := List.append_cancel_right e1
  have hi : items T F = items T' F' := by
    have ok := items_ok h
    have ok' := items_ok h'
    revert e2 ok ok'
    generalize items T F = l
    generalize items T' F' = l'
    intro e2 ok ok'
    induction l generalizing l' with
    | nil => cases l' with
      | nil => rfl
      | cons y l' => cases e2
    | cons x l ih => cases l' with
      | nil => cases e2
      | cons y l' =>
        simp only [List.map_cons, List.cons.injEq] at e2
        rw [body_one (ok x (by simp)) (ok' y (by simp)) e2.1, ih l' e2.2 (fun z hz => ok z (by simp [hz])) (fun z hz => ok' z (by simp [hz]))]
  have := ap_all T F
  rw [hi, ap_all] at this
  injection this with a b
  exact ⟨a.symm, b.symm⟩

/-- What reading tells of the text. -/
def ReadOf (text : ByteArray) (ok : Bool) (ts : List ByteArray) (fs : List Fn) : Prop := (ok = true ∧ modB ts fs = true ∧ text = showB ts fs) ∨ (ok = false ∧ ts = [] ∧ fs = [] ∧ ∀ T F, modB T F = true → text ≠ showB T F)
theorem ReadOf.one {text : ByteArray} {ok ok' : Bool} {ts ts' : List ByteArray} {fs fs' : List Fn} (h : ReadOf text ok ts fs) (h' : ReadOf text ok' ts' fs') : ok' = ok ∧ ts' = ts ∧ fs' = fs := by
  rcases h with ⟨rfl, h1, h2⟩ | ⟨rfl, rfl, rfl, h3⟩
  · rcases h' with ⟨rfl, k1, k2⟩ | ⟨rfl, rfl, rfl, k3⟩
    · obtain ⟨rfl, rfl⟩ := show_one h1 k1 (h2.symm.trans k2)
      exact ⟨rfl, rfl, rfl⟩
    · exact absurd h2 (k3 _ _ h1)
  · rcases h' with ⟨rfl, k1, k2⟩ | ⟨rfl, rfl, rfl, k3⟩
    · exact absurd k2 (h3 _ _ k1)
    · exact ⟨rfl, rfl, rfl⟩

theorem ReadOf.small {text : ByteArray} {ok : Bool} {ts : List ByteArray} {fs : List Fn} (h : ReadOf text ok ts fs) : Small ts fs := by
  rcases h with ⟨rfl, h1, h2⟩ | ⟨rfl, rfl, rfl, h3⟩
  · have k := okMod h1
    exact ⟨by have := k.nt; omega, fun s hs => by have := k.text s hs; omega, by have := k.nf; omega, fun f hf => by have := k.ncode f hf; omega⟩
  · exact ⟨by simp, by simp, by simp, by simp⟩
theorem ModOwn.nil (w : World) (base : Nat) : ModOwn w base none 0 none 0 [] [] [] := ⟨World.ownsRow_nil _ _ _ _, World.ownsRow_nil _ _ _ _, CodesOwn.nil _ _⟩
/-- What a reader answers, both answers in one. -/
def OnePost (text : ByteArray) (w : World) (e : Ending) (w' : World) : Prop :=
  ∃ (ok : Bool) (ts : List ByteArray) (fs : List Fn) (cs : List (Option Addr × Nat)) (a1 : Option Addr) (c1 : Nat) (a2 : Option Addr) (c2 : Nat), Hid (ReadOf text ok ts fs) ∧ e = .returned (.tuple #[.agg #[.slice a1 ts.length c1, .slice a2 fs.length c2], .bool ok]) ∧ ModOwn w' w.heap.size a1 c1 a2 c2 ts fs cs ∧ Below w.heap.size w w'
theorem ReadPost.one {text : ByteArray} {w w' : World} {e : Ending} (h : ReadPost text w e w') : OnePost text w e w' := by
  obtain ⟨hb, ⟨ts, fs, a1, c1, a2, c2, cs, rfl, h1, h2, hm⟩ | ⟨rfl, hno⟩⟩ := h
  · exact ⟨true, ts, fs, cs, a1, c1, a2, c2, Or.inl ⟨rfl, h1, h2⟩, rfl, hm, hb⟩
  · exact ⟨false, [], [], [], none, 0, none, 0, Or.inr ⟨rfl, rfl, rfl, hno⟩, rfl, ModOwn.nil _ _, hb⟩

set_option maxRecDepth 100000 in
set_option maxHeartbeats 4000000 in
theorem lawRead_big (text : ByteArray) (w : World) (hn : 1048576 < text.size) : Calls Tryd.prog 5 #[.string text] w fun e w' => e = .returned (.bool true) ∧ Below w.heap.size w w' := by
  have hn' : (1048576 : Int) < (text.size : Int) := by omega
  go_enter Tryd.func5, Tryd.ntmps5
  go_wp2
  go_ret
  exact ⟨rfl, Below.refl _ _⟩

set_option maxRecDepth 100000 in
set_option maxHeartbeats 4000000 in
theorem lawRead (text : ByteArray) (SR : ∀ w : World, Calls Tryd.prog 14 #[.string text] w (ReadPost text w)) (w : World) (hn : text.size ≤ 1048576) (hw : Hid (∀ k s, words[k]? = some s → w.cell? ⟨0, k, none⟩ = some (.string s))) (htab : Lib.TabIs Tryd.prog w "internal/strconv.uint64pow10" .u64 Lib.pow10Tab) (hv : Vars w) :
    Calls Tryd.prog 5 #[.string text] w fun e w' => e = .returned (.bool true) ∧ Below w.heap.size w w' := by
  have hn' : (text.size : Int) ≤ 1048576 := by omega
  have IR : ∀ w' : World, Below w.heap.size w w' → Calls Tryd.prog 15 #[.string text] w' (OnePost text w') := fun w' hb =>
    (iRead_any text w' hn (fun k s h => cell_later hb (hw.out k s h)) (Lib.tabBelow_of_tabIs htab _ hb) (hv.below hb)).mono fun _ _ h => h.one
  clear hw htab hv
  go_enter Tryd.func5, Tryd.ntmps5
  go_wp2_with fail
  refine (SR _).mono ?_
  intro e w2 hp2
  obtain ⟨ok, ts, fs, csW, aW1, cW1, aW2, cW2, HL, rfl, moW, hb2⟩ := hp2.one
  have hsm := HL.out.small
  have B2 : Below w.heap.size w w2 := hb2
  clear hb2 hp2 SR
  go_wp2_with fail
  have B3 : Below w.heap.size w (w2.alloc (.cells #[.slice aW1 ts.length cW1, .slice aW2 fs.length cW2] 36)) := B2.alloc B2.size _
  have hW3 := block_new w2 #[.slice aW1 ts.length cW1, .slice aW2 fs.length cW2] 36
  have moW3 := moW.below ((Below.refl w2.heap.size w2).alloc (Nat.le_refl _) (.cells #[.slice aW1 ts.length cW1, .slice aW2 fs.length cW2] 36))
  obtain ⟨BW, eBW⟩ : ∃ B, Hid (B = w2.heap.size) := ⟨_, rfl⟩
  rw [← eBW.out] at hW3 ⊢
  generalize (w2.alloc (.cells #[.slice aW1 ts.length cW1, .slice aW2 fs.length cW2] 36)) = w4 at B3 hW3 moW3 ⊢
  have hW4 := hW3
  have moW4 := moW3.low (Nat.zero_le _)
  have B4 := B3
  clear moW B2 eBW moW3 hW3 B3
  refine (IR w4 B4).mono ?_
  rintro e w5 ⟨ok', ts', fs', csG, aG1, cG1, aG2, cG2, HL', rfl, moG, hb5⟩
  obtain ⟨rfl, rfl, rfl⟩ := HL.out.one HL'.out
  have hW5 := block_kept hW4 hb5
  have ltW := moW4.lt
  have moW5 := moW4.below hb5
  have B5 : Below w.heap.size w w5 := B4.trans (hb5.mono B4.size)
  have h45 : w4.heap.size ≤ w5.heap.size := hb5.size
  clear hW4 moW4 hb5 HL'
  obtain ⟨Bg, eBg⟩ : ∃ B, Hid (B = w4.heap.size) := ⟨_, rfl⟩
  rw [← eBg.out] at moG ltW h45
  have hBg : w.heap.size ≤ Bg := by rw [eBg.out]; exact B4.size
  clear B4
  have hZ6 : Below w5.heap.size w5 (w5.alloc (.cells #[.slice aG1 ts'.length cG1, .slice aG2 fs'.length cG2] 36)) := (Below.refl _ _).alloc (Nat.le_refl _) _
  have hG6 := block_new w5 #[.slice aG1 ts'.length cG1, .slice aG2 fs'.length cG2] 36
  have hW6 := block_kept hW5 hZ6
  have cW6 := block_cell hW6
  go_wp2_with fail
  have moW6 := moW5.below hZ6
  have moG6 := moG.below hZ6
  have B6 : Below w.heap.size w (w5.alloc (.cells #[.slice aG1 ts'.length cG1, .slice aG2 fs'.length cG2] 36)) := B5.trans (hZ6.mono B5.size)
  obtain ⟨BG, eBG⟩ : ∃ B, Hid (B = w5.heap.size) := ⟨_, rfl⟩
  rw [← eBG.out] at hG6 ⊢
  generalize (w5.alloc (.cells #[.slice aG1 ts'.length cG1, .slice aG2 fs'.length cG2] 36)) = w6 at hG6 hW6 moW6 moG6 B6 cW6 ⊢
  clear hZ6 hW5 moW5 moG B5
  refine (eqModule_any aG1 aG2 aW1 aW2 ts' fs' cG1 cG2 cW1 cW2 w6 hsm (moG6.low (Nat.zero_le _)).strs moW6.strs (moG6.low (Nat.zero_le _)).fns moW6.fns).mono ?_
  rintro e wb ⟨rfl, hb7⟩
  have hGb := block_kept hG6 hb7
  have hWb := block_kept hW6 hb7
  have moWb := moW6.below hb7
  have moGb := moG6.below hb7
  have Bb := B6.trans (hb7.mono B6.size)
  have cGb := block_cell hGb
  clear hG6 hW6 moW6 moG6 B6 hb7 cW6
  go_wp2_with fail
  refine (markModule_is Bg aG1 aG2 cG1 cG2 ts' fs' csG wb hsm moGb).mono ?_
  rintro e wc ⟨rfl, moGc, kc⟩
  have hGc := kc.cell hGb (by simp)
  have hWc := kc.cell hWb (by simp)
  have hgb : Bg ≤ wb.heap.size := by have := lt_block hGb; have := eBG.out; omega
  have moWc := moWb.far ltW (kc.toBelow hgb)
  have Bc : Below w.heap.size w wc := Bb.trans ((kc.toBelow hgb).mono hBg)
  have cGc := block_cell hGc
  clear hGb hWb moWb moGb Bb kc hgb cGb
  go_wp2_with fail
  refine (heldModule_is Bg aG1 aG2 cG1 cG2 ts' fs' csG wc hsm moGc).mono ?_
  rintro e wd ⟨rfl, hbd⟩
  have hGd := block_kept hGc hbd
  have hWd := block_kept hWc hbd
  have moWd := moWc.below hbd
  have moGd := moGc.below hbd
  have Bd := Bc.trans (hbd.mono Bc.size)
  clear hGc hWc moWc moGc Bc hbd cGc
  obtain ⟨r, hr⟩ : ∃ r : Nat, Hid (r = endF (1 + ts'.length) fs') := ⟨_, rfl⟩
  rw [← hr.out]
  go_wp2_with fail
  refine (IR wd Bd).mono ?_
  rintro e wf ⟨ok2, ts2, fs2, csH, aH1, cH1, aH2, cH2, HL2, rfl, moH, hbf⟩
  obtain ⟨rfl, rfl, rfl⟩ := HL.out.one HL2.out
  have hGf := block_kept hGd hbf
  have hWf := block_kept hWd hbf
  have moWf := moWd.below hbf
  have moGf := moGd.below hbf
  have Bf := Bd.trans (hbf.mono Bd.size)
  clear hGd hWd moWd moGd Bd hbf HL2
  have hZg : Below wf.heap.size wf (wf.alloc (.cells #[.slice aH1 ts2.length cH1, .slice aH2 fs2.length cH2] 36)) := (Below.refl _ _).alloc (Nat.le_refl _) _
  have hWg := block_kept hWf hZg
  have cWg := block_cell hWg
  go_wp2_with fail
  have hGg := block_kept hGf hZg
  have moWg := moWf.below hZg
  have moGg := moGf.below hZg
  have moHg := moH.below hZg
  have Bg' := Bf.trans (hZg.mono Bf.size)
  generalize (wf.alloc (.cells #[.slice aH1 ts2.length cH1, .slice aH2 fs2.length cH2] 36)) = wg at hWg cWg hGg moWg moGg moHg Bg' ⊢
  clear hZg hGf hWf moWf moGf moH Bf
  refine (eqModule_any aH1 aH2 aW1 aW2 ts2 fs2 cH1 cH2 cW1 cW2 wg hsm (moHg.low (Nat.zero_le _)).strs moWg.strs (moHg.low (Nat.zero_le _)).fns moWg.fns).mono ?_
  rintro e wh ⟨rfl, hbh⟩
  have cGh := block_cell (block_kept hGg hbh)
  have moGh := moGg.below hbh
  have Bh := Bg'.trans (hbh.mono Bg'.size)
  clear hWg cWg hGg moWg moGg moHg Bg' hbh
  go_wp2_with fail
  refine (heldModule_is Bg aG1 aG2 cG1 cG2 ts2 fs2 csG wh hsm moGh).mono ?_
  rintro e wi ⟨rfl, hbi⟩
  have Bi := Bh.trans (hbi.mono Bh.size)
  rw [← hr.out]
  clear cGh moGh Bh hbi
  go_wp2
  go_ret
  exact ⟨rfl, Bi⟩
end Go.Proofs.YtkclkgonihkhlaaDoor
