/-
  ImageReads: the law's walk.
-/
import Derived.Test.YtolpgcoebmboeaaImM
import Derived.Test.YtolpgcoebmboeaaImN
namespace Go.Proofs.Ytolpgcoebmboeaa
set_option linter.unusedSimpArgs false
set_option linter.unusedVariables false
open Go.ChangeShapes Go.WideShapes Go.ChangeAt Go.RowKit

theorem num_r0 {n : Nat} (h : n ≤ 70000) : 0 + n < 140737488355328 := by omega
theorem num_w {k n : Nat} (h : k < n) (hn : n ≤ 70000) : wrap64 ((k : Int) + 1) = (k : Int) + 1 := by unfold wrap64; omega
theorem num_r1 {n : Nat} (h : n ≤ 70000) : n < 4611686018427387904 := by omega
/-- Lists in other blocks stay where one block changes. -/
theorem ImS.but {n₀ n g : Nat} {w w' : World} {pm pc : Option Addr} {l : List M4} {c : List I5} (h : ImS n₀ w pm l pc c) (hb : But g w w') (hm : NewP n pm) (hc : NewP n pc) (hg : g < n) : ImS n₀ w' pm l pc c := by
  obtain ⟨⟨a1, a2, a3⟩, ⟨b1, b2, b3, b4⟩⟩ := h
  refine ⟨⟨a1, a2, a3.imp id ?_⟩, ⟨b1, b2, b3, b4.imp id ?_⟩⟩
  · rintro ⟨b, off, e, hl, hcell⟩
    have hne : some b ≠ some g := by have := hm _ e; simp at this ⊢; omega
    exact ⟨b, off, e, hl, fun j hj => let ⟨c0, c1, c2, c3⟩ := hcell j hj; ⟨hb.cell c0 hne, hb.cell c1 hne, hb.cell c2 hne, hb.cell c3 hne⟩⟩
  · rintro ⟨b, off, e, hl, hcell⟩
    have hne : some b ≠ some g := by have := hc _ e; simp at this ⊢; omega
    exact ⟨b, off, e, hl, fun j hj => let ⟨c0, c1, c2, c3, c4⟩ := hcell j hj; ⟨hb.cell c0 hne, hb.cell c1 hne, hb.cell c2 hne, hb.cell c3 hne, hb.cell c4 hne⟩⟩
theorem But.put {g : Nat} {a b : World} (h : But g a b) (j : Nat) (v : Value) : But g a (b.setCell ⟨g, j, none⟩ v) :=
  ⟨h.os, h.tape, h.output, by have := h.size; simp; omega, fun k hk hn => (Below.heap_setCell _ _ _ _ (fun e => hn (by rw [e]))).trans (h.block k hk hn)⟩
/-- Bytes that may be written. -/
structure WrB (g n : Nat) (w : World) : Prop where
  c : ∀ j, j < n → ∃ u : Int, w.cell? ⟨g, j, none⟩ = some (.int .u8 u)
  f : ∀ j, w.frozen? ⟨g, j, none⟩ = false
theorem WrB.put {g n : Nat} {w : World} (h : WrB g n w) (j : Nat) (x : Int) : WrB g n (w.setCell ⟨g, j, none⟩ (.int .u8 x)) := by
  refine ⟨fun i hi => ?_, fun i => by simp [h.f i]⟩
  obtain ⟨u, hu⟩ := h.c i hi
  by_cases e : i = j
  · subst e
    exact ⟨x, World.cell?_setCell_same _ _ _ hu⟩
  · exact ⟨u, (set_oth (by intro e2; injection e2 with e3 e4; omega)).trans hu⟩
theorem WrB.kept {g n : Nat} {w w' : World} (h : WrB g n w) (hg : g < w.heap.size) (hb : Below w.heap.size w w') : WrB g n w' :=
  ⟨fun j hj => let ⟨u, hu⟩ := h.c j hj; ⟨u, cn hb hu⟩, fun j => (hb.frozen (p := ⟨g, j, none⟩) hg).trans (h.f j)⟩
theorem wrB_own {w : World} {b n g cap : Nat} {zs : List Int} (h : w.ownsRow b 5 1 (.slice (some ⟨g, 0, none⟩) n cap) n (bC zs)) : WrB g n w := by
  have hl : zs.length = n := by have := h.1; rw [bC_len, Nat.mul_one] at this; exact this
  refine ⟨fun j hj => ⟨zs[j]'(by omega), ?_⟩, fun j => h.frozenAt j⟩
  rw [h.cellAt j (by omega)]
  simp [bC, List.getElem?_map, List.getElem?_eq_getElem (show j < zs.length by omega)]
set_option maxHeartbeats 3200000 in
set_option maxRecDepth 20000 in
theorem imageReads_nil (p : Option Addr) (cap : Nat) (zs : List Int) (w : World) (hL : ByL w.heap.size w p zs.length zs) (hc : zs.length ≤ cap) (h7 : zs.length ≤ 70000) (h0 : zs.length = 0) :
    Calls Try.prog 4 #[.slice p zs.length cap] w fun e w' => e = .returned (.bool true) ∧ Below w.heap.size w w' := by
  have d0 : decide (70000 < (zs.length : Int)) = false := decide_eq_false (by omega)
  have H0 := hid h0
  have hz0 : decide ((0 : Int) < (zs.length : Int)) = false := decide_eq_false (by omega)
  have hz1 : decide (0 < zs.length) = false := decide_eq_false (by omega)
  clear h0
  have HL := hid hL
  have HC := hid hc
  have H7 := hid h7
  have HWK := hid wakes_any
  clear hL hc h7
  go_enter Try.func4, Try.ntmps4
  go_wp2_with (at_builtin; refine app_bl rfl (.const (.slice none 0 0)) (.tmp 14) rfl w.heap.size w _ _ 0 [] zs (by exact rfl) (ByO.nil (Below.refl _ _) (Nat.le_refl _)) _ _ _ _ (by exact rfl) HL.out (num_r0 H7.out) ?_; intro v1 w1 O1 _; rw [List.nil_append, Nat.zero_add] at O1; obtain ⟨po, co, rfl, hco, Lo⟩ := own_by O1.own HL.out.2.1; have HO1 := hid O1; have HLo := hid Lo; have HCO := hid hco; have HB1 := hid O1.bel; clear O1 Lo hco)
  have HL1 := hid (by_kept HL.out (Nat.le_refl _) HB1.out)
  refine (cDecode_any po co zs w1 HLo.out HCO.out (num_r1 H7.out)).mono ?_
  rintro e w2 ⟨pm1, cm1, pc1, cc1, rfl, S2, b2, N1, N2⟩
  have bx2 := (Below.refl w2.heap.size w2).alloc (Nat.le_refl _) (.cells #[.slice pm1 (dL zs).length cm1, .slice pc1 (dC zs).length cc1] 25)
  have HS2 := hid ((S2.kept bx2 (Nat.le_refl _)).wide bx2.size)
  have b12 := hid (below_next b2 bx2)
  have HN1 := hid N1
  have HN2 := hid N2
  have q2 : w2.heap.size < (w2.alloc (.cells #[.slice pm1 (dL zs).length cm1, .slice pc1 (dC zs).length cc1] 25)).heap.size := by simp
  have k0 : (w2.alloc (.cells #[.slice pm1 (dL zs).length cm1, .slice pc1 (dC zs).length cc1] 25)).cell? ⟨w2.heap.size, 0, none⟩ = some (.slice pm1 (dL zs).length cm1) := by simp
  have k1 : (w2.alloc (.cells #[.slice pm1 (dL zs).length cm1, .slice pc1 (dC zs).length cc1] 25)).cell? ⟨w2.heap.size, 1, none⟩ = some (.slice pc1 (dC zs).length cc1) := by simp
  have hs12 := hid b2.size
  clear S2 bx2 N1 N2 b2
  go_wp2_with fail
  generalize w2.alloc (.cells #[.slice pm1 (dL zs).length cm1, .slice pc1 (dC zs).length cc1] 25) = w3 at *
  have HL3 := hid (by_kept HL1.out (Nat.le_refl _) b12.out)
  refine (rDecode_any p cap zs w3 HL3.out HC.out).mono ?_
  rintro e w4 ⟨pm2, cm2, pc2, cc2, rfl, S4, b4, M1, M2⟩
  have bx4 := (Below.refl w4.heap.size w4).alloc (Nat.le_refl _) (.cells #[.slice pm2 (dL zs).length cm2, .slice pc2 (dC zs).length cc2] 25)
  have HS4 := hid ((S4.kept bx4 (Nat.le_refl _)).wide bx4.size)
  have b34 := hid (below_next b4 bx4)
  have HM1 := hid M1
  have HM2 := hid M2
  have q4 : w4.heap.size < (w4.alloc (.cells #[.slice pm2 (dL zs).length cm2, .slice pc2 (dC zs).length cc2] 25)).heap.size := by simp
  have j0 : (w4.alloc (.cells #[.slice pm2 (dL zs).length cm2, .slice pc2 (dC zs).length cc2] 25)).cell? ⟨w4.heap.size, 0, none⟩ = some (.slice pm2 (dL zs).length cm2) := by simp
  have j1 : (w4.alloc (.cells #[.slice pm2 (dL zs).length cm2, .slice pc2 (dC zs).length cc2] 25)).cell? ⟨w4.heap.size, 1, none⟩ = some (.slice pc2 (dC zs).length cc2) := by simp
  have hs34 := hid b4.size
  replace k0 := cn b34.out k0
  replace k1 := cn b34.out k1
  have HS2' := hid ((HS2.out.kept b34.out (Nat.le_refl _)).wide b34.out.size)
  clear S4 bx4 M1 M2 b4 HS2
  go_wp2_with fail
  generalize w4.alloc (.cells #[.slice pm2 (dL zs).length cm2, .slice pc2 (dC zs).length cc2] 25) = w5 at *
  have b15 := hid (below_next b12.out b34.out)
  have HL5 := hid (by_kept HL1.out (Nat.le_refl _) b15.out)
  have HO5 := hid (by_kept HLo.out (Nat.le_refl _) b15.out)
  refine (same_any po p co cap w5.heap.size zs zs w5 (Nat.le_refl _) (num_r1 H7.out) HO5.out HL5.out).mono ?_
  rw [show decide (zs = zs) = true from decide_eq_true rfl]
  rintro e w6 ⟨rfl, b6⟩
  replace k0 := cn b6 k0
  replace k1 := cn b6 k1
  replace j0 := cn b6 j0
  replace j1 := cn b6 j1
  have HSA := hid ((HS2'.out.kept b6 (Nat.le_refl _)).wide b6.size)
  have HSB := hid ((HS4.out.kept b6 (Nat.le_refl _)).wide b6.size)
  have b16 := hid (below_next b15.out b6)
  have HB6 := hid (below_next HB1.out b16.out)
  have q2' : w2.heap.size < w6.heap.size := World.block_lt_of_cell? w6 _ k0
  have q4' : w4.heap.size < w6.heap.size := World.block_lt_of_cell? w6 _ j0
  have hs13 := hid (Nat.le_trans hs12.out (Nat.le_of_lt q2))
  have h13 := hid b12.out.size
  clear b6 HS2' HS4 HL5 HO5 HL3 HL1 b15 b12 b34 q2 q4
  go_wp2
  refine wp_loop_rounds 1 ?_
  rw [rounds_succ]
  go_wp2_with fail
  have SA := HSA
  have SB := HSB
  have HBX := HB6
  refine (rSame_any pm1 pc1 pm2 pc2 cm1 cc1 cm2 cc2 w6.heap.size (dL zs) (dL zs) (dC zs) (dC zs) w6 (Nat.le_refl _) SA.out SB.out).mono ?_
  rw [show (decide (dL zs = dL zs) && decide (dC zs = dC zs)) = true by rw [decide_eq_true rfl, decide_eq_true rfl]; rfl]
  rintro e w8 ⟨rfl, b8⟩
  go_wp2_with fail
  refine (HWK.out _).mono ?_
  rintro e w9 ⟨rfl, b9⟩
  go_wp2
  go_ret
  exact ⟨rfl, below_next HBX.out (below_next b8 b9)⟩
set_option maxHeartbeats 3200000 in
set_option maxRecDepth 20000 in
theorem imageReads_cons (p : Option Addr) (cap : Nat) (zs : List Int) (w : World) (hL : ByL w.heap.size w p zs.length zs) (hc : zs.length ≤ cap) (h7 : zs.length ≤ 70000) (h0 : 0 < zs.length) :
    Calls Try.prog 4 #[.slice p zs.length cap] w fun e w' => e = .returned (.bool true) ∧ Below w.heap.size w w' := by
  have d0 : decide (70000 < (zs.length : Int)) = false := decide_eq_false (by omega)
  have H0 := hid h0
  clear h0
  have HL := hid hL
  have HC := hid hc
  have H7 := hid h7
  have HWK := hid wakes_any
  clear hL hc h7
  go_enter Try.func4, Try.ntmps4
  go_wp2_with (at_builtin; refine app_bl rfl (.const (.slice none 0 0)) (.tmp 14) rfl w.heap.size w _ _ 0 [] zs (by exact rfl) (ByO.nil (Below.refl _ _) (Nat.le_refl _)) _ _ _ _ (by exact rfl) HL.out (num_r0 H7.out) ?_; intro v1 w1 O1 _; rw [List.nil_append, Nat.zero_add] at O1; obtain ⟨po, co, rfl, hco, Lo⟩ := own_by O1.own HL.out.2.1; have HO1 := hid O1; have HLo := hid Lo; have HCO := hid hco; have HB1 := hid O1.bel; clear O1 Lo hco)
  have HL1 := hid (by_kept HL.out (Nat.le_refl _) HB1.out)
  refine (cDecode_any po co zs w1 HLo.out HCO.out (num_r1 H7.out)).mono ?_
  rintro e w2 ⟨pm1, cm1, pc1, cc1, rfl, S2, b2, N1, N2⟩
  have bx2 := (Below.refl w2.heap.size w2).alloc (Nat.le_refl _) (.cells #[.slice pm1 (dL zs).length cm1, .slice pc1 (dC zs).length cc1] 25)
  have HS2 := hid ((S2.kept bx2 (Nat.le_refl _)).wide bx2.size)
  have b12 := hid (below_next b2 bx2)
  have HN1 := hid N1
  have HN2 := hid N2
  have q2 : w2.heap.size < (w2.alloc (.cells #[.slice pm1 (dL zs).length cm1, .slice pc1 (dC zs).length cc1] 25)).heap.size := by simp
  have k0 : (w2.alloc (.cells #[.slice pm1 (dL zs).length cm1, .slice pc1 (dC zs).length cc1] 25)).cell? ⟨w2.heap.size, 0, none⟩ = some (.slice pm1 (dL zs).length cm1) := by simp
  have k1 : (w2.alloc (.cells #[.slice pm1 (dL zs).length cm1, .slice pc1 (dC zs).length cc1] 25)).cell? ⟨w2.heap.size, 1, none⟩ = some (.slice pc1 (dC zs).length cc1) := by simp
  have hs12 := hid b2.size
  clear S2 bx2 N1 N2 b2
  go_wp2_with fail
  generalize w2.alloc (.cells #[.slice pm1 (dL zs).length cm1, .slice pc1 (dC zs).length cc1] 25) = w3 at *
  have HL3 := hid (by_kept HL1.out (Nat.le_refl _) b12.out)
  refine (rDecode_any p cap zs w3 HL3.out HC.out).mono ?_
  rintro e w4 ⟨pm2, cm2, pc2, cc2, rfl, S4, b4, M1, M2⟩
  have bx4 := (Below.refl w4.heap.size w4).alloc (Nat.le_refl _) (.cells #[.slice pm2 (dL zs).length cm2, .slice pc2 (dC zs).length cc2] 25)
  have HS4 := hid ((S4.kept bx4 (Nat.le_refl _)).wide bx4.size)
  have b34 := hid (below_next b4 bx4)
  have HM1 := hid M1
  have HM2 := hid M2
  have q4 : w4.heap.size < (w4.alloc (.cells #[.slice pm2 (dL zs).length cm2, .slice pc2 (dC zs).length cc2] 25)).heap.size := by simp
  have j0 : (w4.alloc (.cells #[.slice pm2 (dL zs).length cm2, .slice pc2 (dC zs).length cc2] 25)).cell? ⟨w4.heap.size, 0, none⟩ = some (.slice pm2 (dL zs).length cm2) := by simp
  have j1 : (w4.alloc (.cells #[.slice pm2 (dL zs).length cm2, .slice pc2 (dC zs).length cc2] 25)).cell? ⟨w4.heap.size, 1, none⟩ = some (.slice pc2 (dC zs).length cc2) := by simp
  have hs34 := hid b4.size
  replace k0 := cn b34.out k0
  replace k1 := cn b34.out k1
  have HS2' := hid ((HS2.out.kept b34.out (Nat.le_refl _)).wide b34.out.size)
  clear S4 bx4 M1 M2 b4 HS2
  go_wp2_with fail
  generalize w4.alloc (.cells #[.slice pm2 (dL zs).length cm2, .slice pc2 (dC zs).length cc2] 25) = w5 at *
  have b15 := hid (below_next b12.out b34.out)
  have HL5 := hid (by_kept HL1.out (Nat.le_refl _) b15.out)
  have HO5 := hid (by_kept HLo.out (Nat.le_refl _) b15.out)
  refine (same_any po p co cap w5.heap.size zs zs w5 (Nat.le_refl _) (num_r1 H7.out) HO5.out HL5.out).mono ?_
  rw [show decide (zs = zs) = true from decide_eq_true rfl]
  rintro e w6 ⟨rfl, b6⟩
  replace k0 := cn b6 k0
  replace k1 := cn b6 k1
  replace j0 := cn b6 j0
  replace j1 := cn b6 j1
  have HSA := hid ((HS2'.out.kept b6 (Nat.le_refl _)).wide b6.size)
  have HSB := hid ((HS4.out.kept b6 (Nat.le_refl _)).wide b6.size)
  have b16 := hid (below_next b15.out b6)
  have HB6 := hid (below_next HB1.out b16.out)
  have q2' : w2.heap.size < w6.heap.size := World.block_lt_of_cell? w6 _ k0
  have q4' : w4.heap.size < w6.heap.size := World.block_lt_of_cell? w6 _ j0
  have hs13 := hid (Nat.le_trans hs12.out (Nat.le_of_lt q2))
  have h13 := hid b12.out.size
  clear b6 HS2' HS4 HL5 HO5 HL3 HL1 b15 b12 b34 q2 q4
  obtain ⟨g, hpo, hg0, hg1⟩ : ∃ g, po = some ⟨g, 0, none⟩ ∧ w.heap.size ≤ g ∧ g < w1.heap.size := by
    obtain ⟨p', c', e, _, hx⟩ := own_slice HO1.out.own
    injection e with e1 e2 e3
    obtain ⟨g, e4, h1, h2, _⟩ := hx.resolve_left (Nat.ne_of_gt H0.out)
    exact ⟨g, e1.trans e4, h1, h2⟩
  subst hpo
  have HW6 := hid ((wrB_own HO1.out.own).kept hg1 b16.out)
  have HG := hid (And.intro hg0 hg1)
  clear hg0 hg1 HO1
  go_wp2
  go_loopw [9] (fun i wr => ∃ k : Nat, k ≤ zs.length ∧ i = .int .i64 k ∧ Hid (But g w6 wr) ∧ Hid (WrB g zs.length wr)) (fun i _ => zs.length - (intOf i).toNat)
  case atStart => exact ⟨0, Nat.zero_le _, rfl, hid (But.refl _ _), HW6⟩
  case round =>
    obtain ⟨k, hk, rfl, HBT, HW⟩ := hrel
    by_cases hlt : k < zs.length
    · have hli : (k : Int) < (zs.length : Int) := Int.ofNat_lt.2 hlt
      have hl0 : 0 ≤ (k : Int) := Int.natCast_nonneg k
      obtain ⟨u, hu⟩ := HW.out.c k hlt
      have hf := HW.out.f k
      have h79 : zs.length < 4611686018427387904 := num_r1 H7.out
      go_wp2
      go_roundw
      case rel => exact ⟨k + 1, Nat.succ_le_of_lt hlt, by go_num, hid (HBT.out.put k _), hid (HW.out.put k _)⟩
      case measure => simp [intOf]; omega
    · obtain rfl : k = zs.length := Nat.le_antisymm hk (Nat.le_of_not_lt hlt)
      have hg := HG.out
      have n2 : some w2.heap.size ≠ some g := by have := hs12.out; simp; omega
      have n4 : some w4.heap.size ≠ some g := by have := hs34.out; have := h13.out; simp; omega
      replace k0 := HBT.out.cell k0 n2
      replace k1 := HBT.out.cell k1 n2
      replace j0 := HBT.out.cell j0 n4
      replace j1 := HBT.out.cell j1 n4
      have SA := hid ((HSA.out.but HBT.out HN1.out HN2.out hg.2).wide HBT.out.size)
      have SB := hid ((HSB.out.but HBT.out HM1.out HM2.out (Nat.lt_of_lt_of_le hg.2 h13.out)).wide HBT.out.size)
      have HBX := hid (HB6.out.trans (HBT.out.below hg.1 HB6.out.size))
      have q2'' : w2.heap.size < wr.heap.size := Nat.lt_of_lt_of_le q2' HBT.out.size
      have q4'' : w4.heap.size < wr.heap.size := Nat.lt_of_lt_of_le q4' HBT.out.size
      clear hlt n2 n4 hg
      go_wp2_with fail
      refine (rSame_any pm1 pc1 pm2 pc2 cm1 cc1 cm2 cc2 wr.heap.size (dL zs) (dL zs) (dC zs) (dC zs) wr (Nat.le_refl _) SA.out SB.out).mono ?_
      rw [show (decide (dL zs = dL zs) && decide (dC zs = dC zs)) = true by rw [decide_eq_true rfl, decide_eq_true rfl]; rfl]
      rintro e w8 ⟨rfl, b8⟩
      go_wp2_with fail
      refine (HWK.out _).mono ?_
      rintro e w9 ⟨rfl, b9⟩
      go_wp2
      go_ret
      exact ⟨rfl, below_next HBX.out (below_next b8 b9)⟩

theorem imageReads_walk (p : Option Addr) (cap : Nat) (zs : List Int) (w : World) (hL : ByL w.heap.size w p zs.length zs) (hc : zs.length ≤ cap) (h9 : zs.length < 4611686018427387904) :
    Calls Try.prog 4 #[.slice p zs.length cap] w fun e w' => e = .returned (.bool true) ∧ Below w.heap.size w w' := by
  by_cases h7 : zs.length ≤ 70000
  · by_cases h0 : zs.length = 0
    · exact imageReads_nil p cap zs w hL hc h7 h0
    · exact imageReads_cons p cap zs w hL hc h7 (Nat.pos_of_ne_zero h0)
  · have d0 : decide (70000 < (zs.length : Int)) = true := decide_eq_true (by omega)
    have HWK := hid wakes_any
    clear hL hc h7
    go_enter Try.func4, Try.ntmps4
    go_wp2_with fail
    refine (HWK.out _).mono ?_
    rintro e w2 ⟨rfl, b2⟩
    go_wp2
    go_ret
    exact ⟨rfl, b2⟩
end Go.Proofs.Ytolpgcoebmboeaa
