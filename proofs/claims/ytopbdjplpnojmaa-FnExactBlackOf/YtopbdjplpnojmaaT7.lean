/-
  The law laws.FnExactBlackOf, walked.
-/
import Derived.Test.YtopbdjplpnojmaaT2
import Derived.Test.YtopbdjplpnojmaaT3
import Derived.Test.YtopbdjplpnojmaaT4
import Derived.Test.YtopbdjplpnojmaaT5
import Derived.Deep.RegionHeld3
namespace Go.Proofs.Ytopbdjplpnojmaa
open Go.RowKit

theorem own_keepsT {w w' : World} {base e size n B : Nat} {v : Value} {xs : List Value} {ts : List Nat} (h : w.ownsRow base e size v n xs) (hk : Keeps B ts w w') (ht : e ∉ ts) : w'.ownsRow base e size v n xs := by
  refine ⟨h.1, ?_⟩
  rcases h.2 with ⟨e, hn⟩ | ⟨b, cap, cur, e, hb', hh, r⟩
  · exact .inl ⟨e, hn⟩
  · exact .inr ⟨b, cap, cur, e, hb', hk.cell hh ht, r⟩
set_option maxRecDepth 100000 in
set_option maxHeartbeats 16000000 in
theorem lawBlackOf (fa ha oa : Option Addr) (fc hc oc : Nat) (sa : Option Addr) (sc : Nat) (ca : Option Addr) (cc : Nat) (la : Option Addr) (lc : Nat) (D : TrD) (w : World) (hx : TrMax D) (hm : TrAt w 0 fa ha oa sa ca la D) :
    Calls Try.prog 3 #[.agg (trCells fa ha oa fc hc oc sa sc ca cc la lc D)] w fun e w' => e = .returned (.bool true) ∧ Below w.heap.size w w' := by
  have hsz := fun (l : Int) (w : World) (h0 : 0 ≤ l) (h1 : l ≤ 1048576) (h : TrAt w 0 fa ha oa sa ca la D) => szTier_m fa ha oa fc hc oc sa sc ca cc la lc D l w h0 h1 hx h
  have hto := fun (w : World) (hd : TrSmall D) (h : TrAt w 0 fa ha oa sa ca la D) => toTier_b fa ha oa fc hc oc sa sc ca cc la lc D w hd h
  have heq := fun (p p2 p3 p4 p5 p6 k k2 k3 k4 k5 k6 : Nat) (w : World) (hd : TrSmall D) (h : TrAt w 0 (some ⟨p, 0, none⟩) (some ⟨p2, 0, none⟩) (some ⟨p3, 0, none⟩) (some ⟨p4, 0, none⟩) (some ⟨p5, 0, none⟩) (some ⟨p6, 0, none⟩) D) (h2 : TrAt w 0 (some ⟨k, 0, none⟩) (some ⟨k2, 0, none⟩) (some ⟨k3, 0, none⟩) (some ⟨k4, 0, none⟩) (some ⟨k5, 0, none⟩) (some ⟨k6, 0, none⟩) D) => eqTier_any (some ⟨p, 0, none⟩) (some ⟨p2, 0, none⟩) (some ⟨p3, 0, none⟩) D.vm.frames.length D.vm.heap.length D.vm.out.length (some ⟨p4, 0, none⟩) D.sites.length (some ⟨p5, 0, none⟩) D.codes.length (some ⟨p6, 0, none⟩) D.fails.length (some ⟨k, 0, none⟩) (some ⟨k2, 0, none⟩) (some ⟨k3, 0, none⟩) D.vm.frames.length D.vm.heap.length D.vm.out.length (some ⟨k4, 0, none⟩) D.sites.length (some ⟨k5, 0, none⟩) D.codes.length (some ⟨k6, 0, none⟩) D.fails.length D w hd h h2
  have hmk := fun (lo p p2 p3 p4 p5 p6 : Nat) (w : World) (hd : TrSmall D) (h : TrB w lo p p2 p3 p4 p5 p6 D) => markTier_m lo p p2 p3 p4 p5 p6 D.vm.frames.length D.vm.heap.length D.vm.out.length D.sites.length D.codes.length D.fails.length D w hd h
  have hsp := fun (p p2 p3 p4 p5 p6 : Nat) (w : World) (hn : D.fails.length ≤ 1048576) (h : SitesAt w 0 (some ⟨p6, 0, none⟩) D.fails) => sBlack_any (some ⟨p, 0, none⟩) (some ⟨p2, 0, none⟩) (some ⟨p3, 0, none⟩) D.vm.frames.length D.vm.heap.length D.vm.out.length (some ⟨p4, 0, none⟩) D.sites.length (some ⟨p5, 0, none⟩) D.codes.length (some ⟨p6, 0, none⟩) D.fails.length D w hn h
  have him := fun (p p2 p3 p4 p5 p6 : Nat) (w : World) (hn : D.fails.length ≤ 1048576) (h : SitesAt w 0 (some ⟨p6, 0, none⟩) D.fails) => iBlack_any (some ⟨p, 0, none⟩) (some ⟨p2, 0, none⟩) (some ⟨p3, 0, none⟩) D.vm.frames.length D.vm.heap.length D.vm.out.length (some ⟨p4, 0, none⟩) D.sites.length (some ⟨p5, 0, none⟩) D.codes.length (some ⟨p6, 0, none⟩) D.fails.length D w hn h
  unfold trCells at hsz hto heq hmk hsp him ⊢
  obtain ⟨L, hL⟩ : ∃ L, L = blackL D.fails := ⟨_, rfl⟩
  have hLl : L.length ≤ D.fails.length := by rw [hL]; exact blackT_len _ _ (Nat.le_refl _)
  rw [← hL] at hsp him
  have HSZ := hid hsz
  have HTO := hid hto
  have HEQ := hid heq
  have HMK := hid hmk
  have HSP := hid hsp
  have HIM := hid him
  clear hsz hto heq hmk hsp him hL
  obtain ⟨w0, hw0⟩ : ∃ w0, w0 = w.alloc (.cells #[.slice fa D.vm.frames.length fc, .slice ha D.vm.heap.length hc, .int .i64 D.vm.made, .slice oa D.vm.out.length oc, .int .i64 D.vm.status, .int .i64 D.vm.trap, .int .i64 D.vm.value.k, .int .i64 D.vm.value.n, .string D.vm.value.s, .int .i64 D.vm.steps, .slice sa D.sites.length sc, .slice ca D.codes.length cc, .slice la D.fails.length lc, .int .i64 D.guards, .int .i64 D.entered] 33) := ⟨_, rfl⟩
  have hB : Below w.heap.size w w0 := by rw [hw0]; exact (Below.refl _ _).alloc (Nat.le_refl _) _
  have hI : w0.heap[w.heap.size]? = some (.cells #[.slice fa D.vm.frames.length fc, .slice ha D.vm.heap.length hc, .int .i64 D.vm.made, .slice oa D.vm.out.length oc, .int .i64 D.vm.status, .int .i64 D.vm.trap, .int .i64 D.vm.value.k, .int .i64 D.vm.value.n, .string D.vm.value.s, .int .i64 D.vm.steps, .slice sa D.sites.length sc, .slice ca D.codes.length cc, .slice la D.fails.length lc, .int .i64 D.guards, .int .i64 D.entered] 33 (0, 0)) := by rw [hw0]; exact block_new _ _ _
  go_enter Try.func3, Try.ntmps3
  go_wp2_with fail
  rw [← hw0]
  clear hw0
  refine (HSZ.out 1048576 w0 (by omega) (by omega) (hm.mono hB)).mono ?_
  rintro e w1 ⟨l, rfl, hl, hsm, hb1⟩
  have hI_n := block_kept hI hb1
  have hB_n := hB.trans (hb1.mono hB.size)
  clear hI hB
  have hI := hI_n
  have hB := hB_n
  clear hI_n hB_n hb1
  by_cases hl0 : l < 0
  · clear hsm
    go_wp2_with fail
    go_ret
    exact ⟨rfl, hB⟩
  have HD : Hid (TrSmall D) := hsm (by omega)
  clear hsm HSZ hl
  have hdf := HD.out.fails
  have hLn : L.length ≤ 1048576 := by omega
  clear hLl
  have z1 := block_cell hI
  go_wp2_with fail
  clear z1
  refine (HTO.out _ HD.out (hm.mono hB)).mono ?_
  rintro e w2 ⟨q1, q2, q3, q4, q5, q6, rfl, hT, hb2⟩
  have hTs := hT.fails.low (Nat.zero_le _)
  clear hT hl0
  have hI_n := block_kept hI hb2
  have hB_n := hB.trans (hb2.mono hB.size)
  clear hI hB
  have hI := hI_n
  have hB := hB_n
  clear hI_n hB_n hb2
  go_wp2_with fail
  refine (HSP.out q1 q2 q3 q4 q5 q6 _ hdf hTs).mono ?_
  rintro e w3 ⟨aw, cw, rfl, hoW, hb3⟩
  have HBY0 : Hid (SitesAt w3 0 aw L) := (own_specs hoW rfl).low (Nat.zero_le _)
  clear hoW hTs HSP
  have hI_n := block_kept hI hb3
  have hB_n := hB.trans (hb3.mono hB.size)
  clear hI hB
  have hI := hI_n
  have hB := hB_n
  clear hI_n hB_n hb3
  as_aux_lemma =>
    have Z0 := hid hB.size
    have B3 := hid (Below.refl w3.heap.size w3)
    have z1 := block_cell hI
    go_wp2_with fail
    clear z1
    refine (HTO.out _ HD.out (hm.mono hB)).mono ?_
    rintro e w4 ⟨p, p2, p3, p4, p5, p6, rfl, hX, hb4⟩
    have B4 := hid (B3.out.trans (hb4.mono B3.out.size))
    have hI_n := block_kept hI hb4
    have hB_n := hB.trans (hb4.mono hB.size)
    clear hI hB
    have hI := hI_n
    have hB := hB_n
    clear hI_n hB_n hb4
    obtain ⟨w5, hw5⟩ : ∃ w5, w5 = w4.alloc (.cells #[.slice (some ⟨p, 0, none⟩) D.vm.frames.length D.vm.frames.length, .slice (some ⟨p2, 0, none⟩) D.vm.heap.length D.vm.heap.length, .int .i64 D.vm.made, .slice (some ⟨p3, 0, none⟩) D.vm.out.length D.vm.out.length, .int .i64 D.vm.status, .int .i64 D.vm.trap, .int .i64 D.vm.value.k, .int .i64 D.vm.value.n, .string D.vm.value.s, .int .i64 D.vm.steps, .slice (some ⟨p4, 0, none⟩) D.sites.length D.sites.length, .slice (some ⟨p5, 0, none⟩) D.codes.length D.codes.length, .slice (some ⟨p6, 0, none⟩) D.fails.length D.fails.length, .int .i64 D.guards, .int .i64 D.entered] 46) := ⟨_, rfl⟩
    have hbq : Below w4.heap.size w4 w5 := by rw [hw5]; exact (Below.refl _ _).alloc (Nat.le_refl _) _
    have hQ : w5.heap[w4.heap.size]? = some (.cells #[.slice (some ⟨p, 0, none⟩) D.vm.frames.length D.vm.frames.length, .slice (some ⟨p2, 0, none⟩) D.vm.heap.length D.vm.heap.length, .int .i64 D.vm.made, .slice (some ⟨p3, 0, none⟩) D.vm.out.length D.vm.out.length, .int .i64 D.vm.status, .int .i64 D.vm.trap, .int .i64 D.vm.value.k, .int .i64 D.vm.value.n, .string D.vm.value.s, .int .i64 D.vm.steps, .slice (some ⟨p4, 0, none⟩) D.sites.length D.sites.length, .slice (some ⟨p5, 0, none⟩) D.codes.length D.codes.length, .slice (some ⟨p6, 0, none⟩) D.fails.length D.fails.length, .int .i64 D.guards, .int .i64 D.entered] 46 (0, 0)) := by rw [hw5]; exact block_new _ _ _
    have z1 := block_cell (block_new w4 #[.slice (some ⟨p, 0, none⟩) D.vm.frames.length D.vm.frames.length, .slice (some ⟨p2, 0, none⟩) D.vm.heap.length D.vm.heap.length, .int .i64 D.vm.made, .slice (some ⟨p3, 0, none⟩) D.vm.out.length D.vm.out.length, .int .i64 D.vm.status, .int .i64 D.vm.trap, .int .i64 D.vm.value.k, .int .i64 D.vm.value.n, .string D.vm.value.s, .int .i64 D.vm.steps, .slice (some ⟨p4, 0, none⟩) D.sites.length D.sites.length, .slice (some ⟨p5, 0, none⟩) D.codes.length D.codes.length, .slice (some ⟨p6, 0, none⟩) D.fails.length D.fails.length, .int .i64 D.guards, .int .i64 D.entered] 46)
    have B5 := hid (B4.out.trans (hbq.mono B4.out.size))
    have HZ3 := hid B5.out.size
    have HZ5 := hid (Nat.le_trans Z0.out B5.out.size)
    have hI_n := block_kept hI hbq
    have hX_n := hX.mono hbq
    have hB_n := hB.trans (hbq.mono hB.size)
    clear hI hX hB
    have hI := hI_n
    have hX := hX_n
    have hB := hB_n
    clear hI_n hX_n hB_n B3 B4
    go_wp2_with fail
    rw [← hw5]
    clear hw5 z1 hbq
    refine (HIM.out p p2 p3 p4 p5 p6 _ hdf (hX.fails.low (Nat.zero_le _))).mono ?_
    rintro e w6 ⟨ag, cg, rfl, hoG, hb6⟩
    have B6 := hid (B5.out.trans (hb6.mono B5.out.size))
    have Z6 := hid hb6.size
    have hI_n := block_kept hI hb6
    have hQ_n := block_kept hQ hb6
    have hX_n := hX.mono hb6
    have hB_n := hB.trans (hb6.mono hB.size)
    clear hI hQ hX hB
    have hI := hI_n
    have hQ := hQ_n
    have hX := hX_n
    have hB := hB_n
    clear hI_n hQ_n hX_n hB_n hb6
    have hgi := (own_specs hoG rfl).low (Nat.zero_le _)
    have hby := HBY0.out.mono B6.out
    go_wp2_with fail
    refine (eqSpecS_any ag aw L cg cw _ hLn hgi hby).mono ?_
    rintro e w7 ⟨rfl, hb7⟩
    have B7 := hid (B6.out.trans (hb7.mono B6.out.size))
    have Z7 := hid hb7.size
    replace hoG := own_below hoG hb7
    clear hgi hby B5 B6
    have hI_n := block_kept hI hb7
    have hQ_n := block_kept hQ hb7
    have hX_n := hX.mono hb7
    have hB_n := hB.trans (hb7.mono hB.size)
    clear hI hQ hX hB
    have hI := hI_n
    have hQ := hQ_n
    have hX := hX_n
    have hB := hB_n
    clear hI_n hQ_n hX_n hB_n hb7
    as_aux_lemma =>
      have hS : ∀ w', Below w7.heap.size w7 w' → w'.cell? ⟨w4.heap.size, 0, none⟩ = some (.slice (some ⟨p, 0, none⟩) D.vm.frames.length D.vm.frames.length) ∧ w'.cell? ⟨w4.heap.size, 1, none⟩ = some (.slice (some ⟨p2, 0, none⟩) D.vm.heap.length D.vm.heap.length) ∧ w'.cell? ⟨w4.heap.size, 2, none⟩ = some (.int .i64 D.vm.made) ∧ w'.cell? ⟨w4.heap.size, 3, none⟩ = some (.slice (some ⟨p3, 0, none⟩) D.vm.out.length D.vm.out.length) ∧ w'.cell? ⟨w4.heap.size, 4, none⟩ = some (.int .i64 D.vm.status) ∧ w'.cell? ⟨w4.heap.size, 5, none⟩ = some (.int .i64 D.vm.trap) ∧ w'.cell? ⟨w4.heap.size, 6, none⟩ = some (.int .i64 D.vm.value.k) ∧ w'.cell? ⟨w4.heap.size, 7, none⟩ = some (.int .i64 D.vm.value.n) ∧ w'.cell? ⟨w4.heap.size, 8, none⟩ = some (.string D.vm.value.s) ∧ w'.cell? ⟨w4.heap.size, 9, none⟩ = some (.int .i64 D.vm.steps) ∧ w'.cell? ⟨w4.heap.size, 10, none⟩ = some (.slice (some ⟨p4, 0, none⟩) D.sites.length D.sites.length) ∧ w'.cell? ⟨w4.heap.size, 11, none⟩ = some (.slice (some ⟨p5, 0, none⟩) D.codes.length D.codes.length) ∧ w'.cell? ⟨w4.heap.size, 12, none⟩ = some (.slice (some ⟨p6, 0, none⟩) D.fails.length D.fails.length) ∧ w'.cell? ⟨w4.heap.size, 13, none⟩ = some (.int .i64 D.guards) ∧ w'.cell? ⟨w4.heap.size, 14, none⟩ = some (.int .i64 D.entered) ∧ w'.cell? ⟨w.heap.size, 0, none⟩ = some (.slice fa D.vm.frames.length fc) ∧ w'.cell? ⟨w.heap.size, 1, none⟩ = some (.slice ha D.vm.heap.length hc) ∧ w'.cell? ⟨w.heap.size, 2, none⟩ = some (.int .i64 D.vm.made) ∧ w'.cell? ⟨w.heap.size, 3, none⟩ = some (.slice oa D.vm.out.length oc) ∧ w'.cell? ⟨w.heap.size, 4, none⟩ = some (.int .i64 D.vm.status) ∧ w'.cell? ⟨w.heap.size, 5, none⟩ = some (.int .i64 D.vm.trap) ∧ w'.cell? ⟨w.heap.size, 6, none⟩ = some (.int .i64 D.vm.value.k) ∧ w'.cell? ⟨w.heap.size, 7, none⟩ = some (.int .i64 D.vm.value.n) ∧ w'.cell? ⟨w.heap.size, 8, none⟩ = some (.string D.vm.value.s) ∧ w'.cell? ⟨w.heap.size, 9, none⟩ = some (.int .i64 D.vm.steps) ∧ w'.cell? ⟨w.heap.size, 10, none⟩ = some (.slice sa D.sites.length sc) ∧ w'.cell? ⟨w.heap.size, 11, none⟩ = some (.slice ca D.codes.length cc) ∧ w'.cell? ⟨w.heap.size, 12, none⟩ = some (.slice la D.fails.length lc) ∧ w'.cell? ⟨w.heap.size, 13, none⟩ = some (.int .i64 D.guards) ∧ w'.cell? ⟨w.heap.size, 14, none⟩ = some (.int .i64 D.entered) := fun w' q => ⟨by rw [block_cell (block_kept hQ q)]; rfl, by rw [block_cell (block_kept hQ q)]; rfl, by rw [block_cell (block_kept hQ q)]; rfl, by rw [block_cell (block_kept hQ q)]; rfl, by rw [block_cell (block_kept hQ q)]; rfl, by rw [block_cell (block_kept hQ q)]; rfl, by rw [block_cell (block_kept hQ q)]; rfl, by rw [block_cell (block_kept hQ q)]; rfl, by rw [block_cell (block_kept hQ q)]; rfl, by rw [block_cell (block_kept hQ q)]; rfl, by rw [block_cell (block_kept hQ q)]; rfl, by rw [block_cell (block_kept hQ q)]; rfl, by rw [block_cell (block_kept hQ q)]; rfl, by rw [block_cell (block_kept hQ q)]; rfl, by rw [block_cell (block_kept hQ q)]; rfl, by rw [block_cell (block_kept hI q)]; rfl, by rw [block_cell (block_kept hI q)]; rfl, by rw [block_cell (block_kept hI q)]; rfl, by rw [block_cell (block_kept hI q)]; rfl, by rw [block_cell (block_kept hI q)]; rfl, by rw [block_cell (block_kept hI q)]; rfl, by rw [block_cell (block_kept hI q)]; rfl, by rw [block_cell (block_kept hI q)]; rfl, by rw [block_cell (block_kept hI q)]; rfl, by rw [block_cell (block_kept hI q)]; rfl, by rw [block_cell (block_kept hI q)]; rfl, by rw [block_cell (block_kept hI q)]; rfl, by rw [block_cell (block_kept hI q)]; rfl, by rw [block_cell (block_kept hI q)]; rfl, by rw [block_cell (block_kept hI q)]; rfl⟩
      have HS := hid hS
      obtain ⟨j0, j1, j2, j3, j4, j5, j6, j7, j8, j9, j10, j11, j12, j13, j14, j15, j16, j17, j18, j19, j20, j21, j22, j23, j24, j25, j26, j27, j28, j29⟩ := hS w7 (Below.refl _ _)
      have HIH := hid hI
      have HQH := hid hQ
      have HBH := hid hB
      have hXA := hX.at.low (Nat.zero_le _)
      clear hS hB hI hQ
      have q : Below w7.heap.size w7 w7.drew := (Below.refl _ _).drew
      go_wp2
      go_region_held3 (fun w' => w'.cell? ⟨w4.heap.size, 0, none⟩ = some (.slice (some ⟨p, 0, none⟩) D.vm.frames.length D.vm.frames.length) ∧ w'.cell? ⟨w4.heap.size, 1, none⟩ = some (.slice (some ⟨p2, 0, none⟩) D.vm.heap.length D.vm.heap.length) ∧ w'.cell? ⟨w4.heap.size, 2, none⟩ = some (.int .i64 D.vm.made) ∧ w'.cell? ⟨w4.heap.size, 3, none⟩ = some (.slice (some ⟨p3, 0, none⟩) D.vm.out.length D.vm.out.length) ∧ w'.cell? ⟨w4.heap.size, 4, none⟩ = some (.int .i64 D.vm.status) ∧ w'.cell? ⟨w4.heap.size, 5, none⟩ = some (.int .i64 D.vm.trap) ∧ w'.cell? ⟨w4.heap.size, 6, none⟩ = some (.int .i64 D.vm.value.k) ∧ w'.cell? ⟨w4.heap.size, 7, none⟩ = some (.int .i64 D.vm.value.n) ∧ w'.cell? ⟨w4.heap.size, 8, none⟩ = some (.string D.vm.value.s) ∧ w'.cell? ⟨w4.heap.size, 9, none⟩ = some (.int .i64 D.vm.steps) ∧ w'.cell? ⟨w4.heap.size, 10, none⟩ = some (.slice (some ⟨p4, 0, none⟩) D.sites.length D.sites.length) ∧ w'.cell? ⟨w4.heap.size, 11, none⟩ = some (.slice (some ⟨p5, 0, none⟩) D.codes.length D.codes.length) ∧ w'.cell? ⟨w4.heap.size, 12, none⟩ = some (.slice (some ⟨p6, 0, none⟩) D.fails.length D.fails.length) ∧ w'.cell? ⟨w4.heap.size, 13, none⟩ = some (.int .i64 D.guards) ∧ w'.cell? ⟨w4.heap.size, 14, none⟩ = some (.int .i64 D.entered) ∧ w'.cell? ⟨w.heap.size, 0, none⟩ = some (.slice fa D.vm.frames.length fc) ∧ w'.cell? ⟨w.heap.size, 1, none⟩ = some (.slice ha D.vm.heap.length hc) ∧ w'.cell? ⟨w.heap.size, 2, none⟩ = some (.int .i64 D.vm.made) ∧ w'.cell? ⟨w.heap.size, 3, none⟩ = some (.slice oa D.vm.out.length oc) ∧ w'.cell? ⟨w.heap.size, 4, none⟩ = some (.int .i64 D.vm.status) ∧ w'.cell? ⟨w.heap.size, 5, none⟩ = some (.int .i64 D.vm.trap) ∧ w'.cell? ⟨w.heap.size, 6, none⟩ = some (.int .i64 D.vm.value.k) ∧ w'.cell? ⟨w.heap.size, 7, none⟩ = some (.int .i64 D.vm.value.n) ∧ w'.cell? ⟨w.heap.size, 8, none⟩ = some (.string D.vm.value.s) ∧ w'.cell? ⟨w.heap.size, 9, none⟩ = some (.int .i64 D.vm.steps) ∧ w'.cell? ⟨w.heap.size, 10, none⟩ = some (.slice sa D.sites.length sc) ∧ w'.cell? ⟨w.heap.size, 11, none⟩ = some (.slice ca D.codes.length cc) ∧ w'.cell? ⟨w.heap.size, 12, none⟩ = some (.slice la D.fails.length lc) ∧ w'.cell? ⟨w.heap.size, 13, none⟩ = some (.int .i64 D.guards) ∧ w'.cell? ⟨w.heap.size, 14, none⟩ = some (.int .i64 D.entered))
        (first | exact ⟨j0, j1, j2, j3, j4, j5, j6, j7, j8, j9, j10, j11, j12, j13, j14, j15, j16, j17, j18, j19, j20, j21, j22, j23, j24, j25, j26, j27, j28, j29⟩ | exact HS.out _ q)
        (first
          | (go_at_call 6; refine (HTO.out _ HD.out (by exact hm.mono (HBH.out.trans (q.mono HBH.out.size)))).mono ?_; rintro e wf ⟨k, k2, k3, k4, k5, k6, rfl, hT9, kd⟩; have q := q.trans (kd.mono q.size))
          | (go_at_call 9; refine (HEQ.out p p2 p3 p4 p5 p6 k k2 k3 k4 k5 k6 _ HD.out (by exact hXA.mono q) (by exact hT9.at.low (Nat.zero_le _))).mono ?_; rintro e w8 ⟨rfl, kd⟩; have q := q.trans (kd.mono q.size)))
      have hI := block_kept HIH.out q
      have hQ := block_kept HQH.out q
      have hB := HBH.out.trans (q.mono HBH.out.size)
      clear HS HBH HIH HQH hXA j0 j1 j2 j3 j4 j5 j6 j7 j8 j9 j10 j11 j12 j13 j14 j15 j16 j17 j18 j19 j20 j21 j22 j23 j24 j25 j26 j27 j28 j29
      replace hX := hX.mono q
      replace hoG := own_below hoG q
      have B8 := hid (B7.out.trans (q.mono B7.out.size))
      have Z8 := hid q.size
      clear B7 hT9 kd q HEQ
      as_aux_lemma =>
        have z1 := block_cell hQ
        go_wp2_with fail
        clear z1
        refine (HMK.out w3.heap.size p p2 p3 p4 p5 p6 _ HD.out hX).mono ?_
        rintro e w9 ⟨kk, rfl, hk0, hk9⟩
        have B9 := hid (B8.out.trans (hk9.toBelow B8.out.size))
        have Z9 := hid hk9.size
        replace hI := hk9.cell hI (by decide)
        replace hoG := own_keepsT hoG hk9 (by decide)
        have hB9 : Below w.heap.size w w9 := hB.trans ((hk9.toBelow B8.out.size).mono Z0.out)
        clear hB hX hQ hk9 B8 HMK
        have hB := hB9
        clear hB9
        have hz9 : ¬ kk < 0 := by omega
        have hgi := (own_specs hoG rfl).low (Nat.zero_le _)
        have hby := HBY0.out.mono B9.out
        go_wp2_with fail
        refine (eqSpecS_any ag aw L cg cw _ hLn hgi hby).mono ?_
        rintro e w10 ⟨rfl, hb10⟩
        have B10 := hid (B9.out.trans (hb10.mono B9.out.size))
        have Z10 := hid hb10.size
        replace hoG := own_below hoG hb10
        clear hgi hby B9
        have hI_n := block_kept hI hb10
        have hB_n := hB.trans (hb10.mono hB.size)
        clear hI hB
        have hI := hI_n
        have hB := hB_n
        clear hI_n hB_n hb10
        as_aux_lemma =>
          have hlo : w5.heap.size ≤ w10.heap.size := Nat.le_trans Z6.out (Nat.le_trans Z7.out (Nat.le_trans Z8.out (Nat.le_trans Z9.out Z10.out)))
          have HOG := hid hoG
          have HLO := hid hlo
          clear hlo hoG
          go_wp2_with fail
          refine (markSpecs_own w5.heap.size L.length cg ag (flatS L) _ hLn HOG.out).mono ?_
          clear hz9 hk0
          rintro e w11 ⟨rfl, hgr, hRM⟩
          have hk11 := Keeps.grown (ts := [60]) HOG.out hgr (by simp)
          have hz5 : w.heap.size ≤ w5.heap.size := HZ5.out
          have hB11 : Below w.heap.size w w11 := hB.trans ((hk11.toBelow HLO.out).mono hz5)
          have hz3 : w3.heap.size ≤ w5.heap.size := HZ3.out
          have B11 := hid (B10.out.trans ((hk11.toBelow HLO.out).mono hz3))
          replace hI := hk11.cell hI (by decide)
          clear hB hk11 hgr HOG HLO B10 hz5 hz3
          have hB := hB11
          clear hB11
          go_wp2_with fail
          refine (heldSpecs_own L.length cg ag _ hLn hRM).mono ?_
          rintro e w12 ⟨rfl, hb12⟩
          have B12 := hid (B11.out.trans (hb12.mono B11.out.size))
          clear B11
          have hI_n := block_kept hI hb12
          have hRM_n := hRM.mono hb12
          have hB_n := hB.trans (hb12.mono hB.size)
          clear hI hRM hB
          have hI := hI_n
          have hRM := hRM_n
          have hB := hB_n
          clear hI_n hRM_n hB_n hb12
          as_aux_lemma =>
            have hnn : ¬ (1 + 4 * (L.length : Int)) < 0 := by omega
            have z1 := block_cell hI
            go_wp2_with fail
            clear z1
            refine (HTO.out _ HD.out (hm.mono hB)).mono ?_
            rintro e w13 ⟨q1, q2, q3, q4, q5, q6, rfl, hT, hb13⟩
            have hTs := hT.fails.low (Nat.zero_le _)
            have B13 := hid (B12.out.trans (hb13.mono B12.out.size))
            clear hT B12
            have hI_n := block_kept hI hb13
            have hRM_n := hRM.mono hb13
            have hB_n := hB.trans (hb13.mono hB.size)
            clear hI hRM hB
            have hI := hI_n
            have hRM := hRM_n
            have hB := hB_n
            clear hI_n hRM_n hB_n hb13
            go_wp2_with fail
            refine (HIM.out q1 q2 q3 q4 q5 q6 _ hdf hTs).mono ?_
            rintro e w14 ⟨ah, ch, rfl, hoH, hb14⟩
            have B14 := hid (B13.out.trans (hb14.mono B13.out.size))
            clear hTs B13
            have hI_n := block_kept hI hb14
            have hRM_n := hRM.mono hb14
            have hB_n := hB.trans (hb14.mono hB.size)
            clear hI hRM hB
            have hI := hI_n
            have hRM := hRM_n
            have hB := hB_n
            clear hI_n hRM_n hB_n hb14
            have hhi := (own_specs hoH rfl).low (Nat.zero_le _)
            have hby := HBY0.out.mono B14.out
            clear hoH
            go_wp2_with fail
            refine (eqSpecS_any ah aw L ch cw _ hLn hhi hby).mono ?_
            rintro e w15 ⟨rfl, hb15⟩
            clear hhi hby B14
            have hI_n := block_kept hI hb15
            have hRM_n := hRM.mono hb15
            have hB_n := hB.trans (hb15.mono hB.size)
            clear hI hRM hB
            have hI := hI_n
            have hRM := hRM_n
            have hB := hB_n
            clear hI_n hRM_n hB_n hb15
            go_wp2_with fail
            refine (heldSpecs_own L.length cg ag _ hLn hRM).mono ?_
            rintro e w16 ⟨rfl, hb16⟩
            have HR := hid (hB.trans (hb16.mono hB.size))
            clear hb16 hB hRM hI
            go_wp2
            go_ret
            exact ⟨rfl, HR.out⟩
end Go.Proofs.Ytopbdjplpnojmaa
