/-
  What the law on Load answers.
-/
import Derived.Test.YtbffmhcahdblnaaDoorK3
import Derived.Test.YtbffmhcahdblnaaDoorN3
import Derived.Test.YtbffmhcahdblnaaDoorW3
namespace Go.Proofs.YtbffmhcahdblnaaDoor
open Go.RowKit

/-- What Load tells of the bytes. -/
def LoadOf (bs : List Int) (ok : Bool) (ts : List ByteArray) (fs : List Fn) : Prop := (ok = true ∧ modB ts fs = true ∧ bs = modBytes ts fs) ∨ (ok = false ∧ ts = [] ∧ fs = [] ∧ ¬ ∃ ts fs, modB ts fs = true ∧ bs = modBytes ts fs)
theorem LoadOf.one {bs : List Int} {ok ok' : Bool} {ts ts' : List ByteArray} {fs fs' : List Fn} (h : LoadOf bs ok ts fs) (h' : LoadOf bs ok' ts' fs') : ok' = ok ∧ ts' = ts ∧ fs' = fs := by
  rcases h with ⟨rfl, h1, h2⟩ | ⟨rfl, rfl, rfl, h3⟩
  · rcases h' with ⟨rfl, k1, k2⟩ | ⟨rfl, rfl, rfl, k3⟩
    · have e1 := pModule_up [] (okMod h1)
      have e2 := pModule_up [] (okMod k1)
      rw [List.append_nil, ← h2] at e1
      rw [List.append_nil, ← k2, e1] at e2
      simp only [Option.some.injEq, Prod.mk.injEq] at e2
      exact ⟨rfl, e2.1.1.symm, e2.1.2.symm⟩
    · exact absurd ⟨ts, fs, h1, h2⟩ k3
  · rcases h' with ⟨rfl, k1, k2⟩ | ⟨rfl, rfl, rfl, k3⟩
    · exact absurd ⟨ts', fs', k1, k2⟩ h3
    · exact ⟨rfl, rfl, rfl⟩
theorem LoadOf.small {bs : List Int} {ok : Bool} {ts : List ByteArray} {fs : List Fn} (h : LoadOf bs ok ts fs) : Small ts fs := by
  rcases h with ⟨rfl, h1, h2⟩ | ⟨rfl, rfl, rfl, h3⟩
  · have k := okMod h1
    exact ⟨by have := k.nt; omega, fun s hs => by have := k.text s hs; omega, by have := k.nf; omega, fun f hf => by have := k.ncode f hf; omega⟩
  · exact ⟨by simp, by simp, by simp, by simp⟩
theorem ModOwn.nil (w : World) (base : Nat) : ModOwn w base none 0 none 0 [] [] [] := ⟨World.ownsRow_nil _ _ _ _, World.ownsRow_nil _ _ _ _, CodesOwn.nil _ _⟩

theorem iLoad_one (ab : Option Addr) (bs : List Int) (cap : Nat) (w : World) (hn : bs.length ≤ 1048576) (hby : Byte bs) (hb : BytesAt w 0 ab bs) (hcap : bs.length ≤ cap) (hg : w.cell? ⟨0, 0, none⟩ = some (.iface 115 (.agg #[.pointer (some ⟨1, 55, none⟩)]))) :
    Calls Tryd.prog 11 #[.slice ab bs.length cap] w fun e w' =>
      ∃ (ok : Bool) (ts : List ByteArray) (fs : List Fn) (cs : List (Option Addr × Nat)) (a1 : Option Addr) (c1 : Nat) (a2 : Option Addr) (c2 : Nat), Hid (LoadOf bs ok ts fs) ∧ e = .returned (.tuple #[.agg #[.slice a1 ts.length c1, .slice a2 fs.length c2], .bool ok]) ∧ ModOwn w' w.heap.size a1 c1 a2 c2 ts fs cs ∧ Below w.heap.size w w' := by
  refine (iLoad_any ab bs cap w hn hby hb hcap hg).mono ?_
  rintro e w' (⟨ts, fs, cs, a1, c1, a2, c2, h1, h2, rfl, hm, hb⟩ | ⟨hno, rfl, hb⟩)
  · exact ⟨true, ts, fs, cs, a1, c1, a2, c2, Or.inl ⟨rfl, h1, h2⟩, rfl, hm, hb⟩
  · exact ⟨false, [], [], [], none, 0, none, 0, Or.inr ⟨rfl, rfl, rfl, hno⟩, rfl, ModOwn.nil _ _, hb⟩
theorem sLoad_one (ab : Option Addr) (bs : List Int) (cap : Nat) (w : World) (hn : bs.length ≤ 1048576) (hby : Byte bs) (hb : BytesAt w 0 ab bs) (hcap : bs.length ≤ cap) :
    Calls Tryd.prog 14 #[.slice ab bs.length cap] w fun e w' =>
      ∃ (ok : Bool) (ts : List ByteArray) (fs : List Fn) (cs : List (Option Addr × Nat)) (a1 : Option Addr) (c1 : Nat) (a2 : Option Addr) (c2 : Nat), Hid (LoadOf bs ok ts fs) ∧ e = .returned (.tuple #[.agg #[.slice a1 ts.length c1, .slice a2 fs.length c2], .bool ok]) ∧ ModOwn w' w.heap.size a1 c1 a2 c2 ts fs cs ∧ Below w.heap.size w w' := by
  refine (sLoad_any ab bs cap w hn hby hb hcap).mono ?_
  rintro e w' (⟨ts, fs, cs, a1, c1, a2, c2, h1, h2, rfl, hm, hb⟩ | ⟨hno, rfl, hb⟩)
  · exact ⟨true, ts, fs, cs, a1, c1, a2, c2, Or.inl ⟨rfl, h1, h2⟩, rfl, hm, hb⟩
  · exact ⟨false, [], [], [], none, 0, none, 0, Or.inr ⟨rfl, rfl, rfl, hno⟩, rfl, ModOwn.nil _ _, hb⟩
theorem Buf.bytes {w : World} {B : Nat} {a : Option Addr} {n c : Nat} {bs : List Int} (h : Buf w B (.slice a n c) bs) : BytesAt w 0 a bs := by
  obtain ⟨a', cap, hv, hb⟩ := h.form
  cases hv
  exact fun i hi => by
    obtain ⟨b, off, k1, _, k3⟩ := hb i hi
    exact ⟨b, off, k1, Nat.zero_le _, k3⟩
theorem Buf.below {w w' : World} {B : Nat} {v : Value} {bs : List Int} (h : Buf w B v bs) (hb : Below w.heap.size w w') : Buf w' B v bs := own_keeps (B := 0) (ts := []) h (Keeps.below hb) (by simp)

set_option maxRecDepth 100000 in
set_option maxHeartbeats 4000000 in
theorem lawLoad_big (ab : Option Addr) (n cap : Nat) (w : World) (hn : 1048576 < n) : Calls Tryd.prog 4 #[.slice ab n cap] w fun e w' => e = .returned (.bool true) ∧ Below w.heap.size w w' := by
  have hn' : (1048576 : Int) < (n : Int) := by omega
  go_enter Tryd.func4, Tryd.ntmps4
  go_wp2
  go_ret
  exact ⟨rfl, Below.refl _ _⟩

set_option maxRecDepth 100000 in
set_option maxHeartbeats 4000000 in
theorem lawLoad (ab : Option Addr) (bs : List Int) (cap : Nat) (w : World) (hn : bs.length ≤ 1048576) (hby : Byte bs) (hb : BytesAt w 0 ab bs) (hg : w.cell? ⟨0, 0, none⟩ = some (.iface 115 (.agg #[.pointer (some ⟨1, 55, none⟩)]))) :
    Calls Tryd.prog 4 #[.slice ab bs.length cap] w fun e w' => e = .returned (.bool true) ∧ Below w.heap.size w w' := by
  have hn' : (bs.length : Int) ≤ 1048576 := by omega
  go_enter Tryd.func4, Tryd.ntmps4
  go_wp2_with fail
  refine (toByteS_any ab bs cap _ hn hb).mono ?_
  rintro e w1 ⟨rfl, buf1, b1⟩
  go_wp2_with fail
  refine (sLoad_one _ bs bs.length w1 hn hby buf1.bytes (Nat.le_refl _)).mono ?_
  rintro e w2 ⟨ok, ts, fs, csW, aW1, cW1, aW2, cW2, HL, rfl, moW, hb2⟩
  have hsm := HL.out.small
  have B2 : Below w.heap.size w w2 := b1.trans (hb2.mono b1.size)
  clear buf1 b1 hb2
  go_wp2_with fail
  have B3 : Below w.heap.size w (w2.alloc (.cells #[.slice aW1 ts.length cW1, .slice aW2 fs.length cW2] 27)) := B2.alloc B2.size _
  have hW3 := block_new w2 #[.slice aW1 ts.length cW1, .slice aW2 fs.length cW2] 27
  have moW3 := moW.below ((Below.refl w2.heap.size w2).alloc (Nat.le_refl _) (.cells #[.slice aW1 ts.length cW1, .slice aW2 fs.length cW2] 27))
  obtain ⟨BW, eBW⟩ : ∃ B, Hid (B = w2.heap.size) := ⟨_, rfl⟩
  rw [← eBW.out] at hW3 ⊢
  generalize (w2.alloc (.cells #[.slice aW1 ts.length cW1, .slice aW2 fs.length cW2] 27)) = w3 at B3 hW3 moW3 ⊢
  have moW3' := moW3.low (Nat.zero_le _)
  clear moW B2 eBW moW3
  refine (toByteS_any ab bs cap w3 hn (hb.mono B3)).mono ?_
  rintro e w4 ⟨rfl, buf4, hb4⟩
  have hW4 := block_kept hW3 hb4
  have moW4 := moW3'.below hb4
  have B4 : Below w.heap.size w w4 := B3.trans (hb4.mono B3.size)
  have hBX : w.heap.size ≤ w3.heap.size := B3.size
  have hX4 : w3.heap.size < w4.heap.size := by
    obtain ⟨cur, hcur⟩ := own_blk buf4 rfl
    exact lt_block hcur
  clear hW3 moW3' hb4 B3
  go_wp2_with fail
  refine (iLoad_one _ bs bs.length w4 hn hby buf4.bytes (Nat.le_refl _) (cell_later B4 hg)).mono ?_
  rintro e w5 ⟨ok', ts', fs', csG, aG1, cG1, aG2, cG2, HL', rfl, moG, hb5⟩
  obtain ⟨rfl, rfl, rfl⟩ := HL.out.one HL'.out
  have hW5 := block_kept hW4 hb5
  have ltW := moW4.lt
  have moW5 := moW4.below hb5
  have buf5 := buf4.below hb5
  have B5 : Below w.heap.size w w5 := B4.trans (hb5.mono B4.size)
  have h45 : w4.heap.size ≤ w5.heap.size := hb5.size
  clear hW4 moW4 buf4 hb5 HL'
  obtain ⟨Bg, eBg⟩ : ∃ B, Hid (B = w4.heap.size) := ⟨_, rfl⟩
  rw [← eBg.out] at moG ltW h45
  have hBg : w.heap.size ≤ Bg := by rw [eBg.out]; exact B4.size
  clear B4
  have hZ6 : Below w5.heap.size w5 (w5.alloc (.cells #[.slice aG1 ts'.length cG1, .slice aG2 fs'.length cG2] 27)) := (Below.refl _ _).alloc (Nat.le_refl _) _
  have hG6 := block_new w5 #[.slice aG1 ts'.length cG1, .slice aG2 fs'.length cG2] 27
  have hW6 := block_kept hW5 hZ6
  have cW6 := block_cell hW6
  go_wp2_with fail
  have moW6 := moW5.below hZ6
  have moG6 := moG.below hZ6
  have buf6 := buf5.below hZ6
  have B6 : Below w.heap.size w (w5.alloc (.cells #[.slice aG1 ts'.length cG1, .slice aG2 fs'.length cG2] 27)) := B5.trans (hZ6.mono B5.size)
  obtain ⟨BG, eBG⟩ : ∃ B, Hid (B = w5.heap.size) := ⟨_, rfl⟩
  rw [← eBG.out] at hG6 ⊢
  generalize (w5.alloc (.cells #[.slice aG1 ts'.length cG1, .slice aG2 fs'.length cG2] 27)) = w6 at hG6 hW6 moW6 moG6 buf6 B6 cW6 ⊢
  clear hZ6 hW5 moW5 moG buf5 B5
  refine (eqModule_any aG1 aG2 aW1 aW2 ts' fs' cG1 cG2 cW1 cW2 w6 hsm (moG6.low (Nat.zero_le _)).strs moW6.strs (moG6.low (Nat.zero_le _)).fns moW6.fns).mono ?_
  rintro e w7 ⟨rfl, hb7⟩
  have hG7 := block_kept hG6 hb7
  have hW7 := block_kept hW6 hb7
  have moW7 := moW6.below hb7
  have moG7 := moG6.below hb7
  have buf7 := buf6.below hb7
  have B7 := B6.trans (hb7.mono B6.size)
  clear hG6 hW6 moW6 moG6 buf6 B6 hb7 cW6
  go_wp2_with fail
  refine (toByteS_any ab bs cap w7 hn (hb.mono B7)).mono ?_
  rintro e w8 ⟨rfl, bufc, hb8⟩
  have hG8 := block_kept hG7 hb8
  have hW8 := block_kept hW7 hb8
  have moW8 := moW7.below hb8
  have moG8 := moG7.below hb8
  have buf8 := buf7.below hb8
  have B8 := B7.trans (hb8.mono B7.size)
  clear hG7 hW7 moW7 moG7 buf7 B7 hb8
  go_wp2_with fail
  refine (eqByteS_any _ _ bs bs.length bs.length w8 hn buf8.bytes bufc.bytes).mono ?_
  rintro e w9 ⟨rfl, hb9⟩
  have hG9 := block_kept hG8 hb9
  have hW9 := block_kept hW8 hb9
  have moW9 := moW8.below hb9
  have moG9 := moG8.below hb9
  have buf9 := buf8.below hb9
  have B9 := B8.trans (hb9.mono B8.size)
  clear hG8 hW8 moW8 moG8 buf8 B8 hb9 bufc
  go_wp2_with fail
  refine (markByteS_any w3.heap.size _ bs bs.length 1 w9 hn (by omega) (by omega) buf9).mono ?_
  rintro e wa ⟨rfl, -, ka⟩
  have hGa := ka.cell hG9 (by simp)
  have hWa := ka.cell hW9 (by simp)
  have moWa := moW9.keeps ka (by simp) (by simp) (by simp)
  have moGa := moG9.keeps ka (by simp) (by simp) (by simp)
  have h3a : w3.heap.size ≤ w9.heap.size := Nat.le_trans (Nat.le_of_lt hX4) (by have := lt_block hG9; have := eBG.out; have := eBg.out; omega)
  have Ba : Below w.heap.size w wa := B9.trans ((ka.toBelow h3a).mono hBX)
  have cWa := block_cell hWa
  have cGa := block_cell hGa
  have hkpos : ¬ ((1 : Int) + (bs.length : Int) < 0) := by omega
  clear hG9 hW9 moW9 moG9 buf9 B9 ka h3a
  go_wp2_with fail
  refine (eqModule_any aG1 aG2 aW1 aW2 ts' fs' cG1 cG2 cW1 cW2 wa hsm (moGa.low (Nat.zero_le _)).strs moWa.strs (moGa.low (Nat.zero_le _)).fns moWa.fns).mono ?_
  rintro e wb ⟨rfl, hbb⟩
  have hGb := block_kept hGa hbb
  have hWb := block_kept hWa hbb
  have moWb := moWa.below hbb
  have moGb := moGa.below hbb
  have Bb := Ba.trans (hbb.mono Ba.size)
  have cGb := block_cell hGb
  clear hGa hWa moWa moGa Ba hbb cWa cGa
  go_wp2_with fail
  refine (markModule_is Bg aG1 aG2 cG1 cG2 ts' fs' csG wb hsm moGb).mono ?_
  rintro e wc ⟨rfl, moGc, kc⟩
  have hGc := kc.cell hGb (by simp)
  have hWc := kc.cell hWb (by simp)
  have hgb : Bg ≤ wb.heap.size := by have := lt_block hGb; have := eBG.out; omega
  have moWc := moWb.far ltW (kc.toBelow hgb)
  have Bc : Below w.heap.size w wc := Bb.trans ((kc.toBelow hgb).mono hBg)
  have cGc := block_cell hGc
  clear hGb hWb moWb moGb Bb kc hgb cGb
  go_wp2_with fail
  refine (heldModule_is Bg aG1 aG2 cG1 cG2 ts' fs' csG wc hsm moGc).mono ?_
  rintro e wd ⟨rfl, hbd⟩
  have hGd := block_kept hGc hbd
  have hWd := block_kept hWc hbd
  have moWd := moWc.below hbd
  have moGd := moGc.below hbd
  have Bd := Bc.trans (hbd.mono Bc.size)
  clear hGc hWc moWc moGc Bc hbd cGc
  obtain ⟨r, hr⟩ : ∃ r : Nat, Hid (r = endF (1 + ts'.length) fs') := ⟨_, rfl⟩
  rw [← hr.out]
  go_wp2_with fail
  refine (toByteS_any ab bs cap wd hn (hb.mono Bd)).mono ?_
  rintro e we ⟨rfl, bufe, hbe⟩
  have hGe := block_kept hGd hbe
  have hWe := block_kept hWd hbe
  have moWe := moWd.below hbe
  have moGe := moGd.below hbe
  have Be := Bd.trans (hbe.mono Bd.size)
  clear hGd hWd moWd moGd Bd hbe
  go_wp2_with fail
  refine (iLoad_one _ bs bs.length we hn hby bufe.bytes (Nat.le_refl _) (cell_later Be hg)).mono ?_
  rintro e wf ⟨ok2, ts2, fs2, csH, aH1, cH1, aH2, cH2, HL2, rfl, moH, hbf⟩
  obtain ⟨rfl, rfl, rfl⟩ := HL.out.one HL2.out
  have hGf := block_kept hGe hbf
  have hWf := block_kept hWe hbf
  have moWf := moWe.below hbf
  have moGf := moGe.below hbf
  have Bf := Be.trans (hbf.mono Be.size)
  clear hGe hWe moWe moGe Be hbf bufe HL2
  have hZg : Below wf.heap.size wf (wf.alloc (.cells #[.slice aH1 ts2.length cH1, .slice aH2 fs2.length cH2] 27)) := (Below.refl _ _).alloc (Nat.le_refl _) _
  have hWg := block_kept hWf hZg
  have cWg := block_cell hWg
  go_wp2_with fail
  have hGg := block_kept hGf hZg
  have moWg := moWf.below hZg
  have moGg := moGf.below hZg
  have moHg := moH.below hZg
  have Bg' := Bf.trans (hZg.mono Bf.size)
  generalize (wf.alloc (.cells #[.slice aH1 ts2.length cH1, .slice aH2 fs2.length cH2] 27)) = wg at hWg cWg hGg moWg moGg moHg Bg' ⊢
  clear hZg hGf hWf moWf moGf moH Bf
  refine (eqModule_any aH1 aH2 aW1 aW2 ts2 fs2 cH1 cH2 cW1 cW2 wg hsm (moHg.low (Nat.zero_le _)).strs moWg.strs (moHg.low (Nat.zero_le _)).fns moWg.fns).mono ?_
  rintro e wh ⟨rfl, hbh⟩
  have cGh := block_cell (block_kept hGg hbh)
  have moGh := moGg.below hbh
  have Bh := Bg'.trans (hbh.mono Bg'.size)
  clear hWg cWg hGg moWg moGg moHg Bg' hbh
  go_wp2_with fail
  refine (heldModule_is Bg aG1 aG2 cG1 cG2 ts2 fs2 csG wh hsm moGh).mono ?_
  rintro e wi ⟨rfl, hbi⟩
  have Bi := Bh.trans (hbi.mono Bh.size)
  rw [← hr.out]
  clear cGh moGh Bh hbi
  go_wp2
  go_ret
  exact ⟨rfl, Bi⟩
end Go.Proofs.YtbffmhcahdblnaaDoor
