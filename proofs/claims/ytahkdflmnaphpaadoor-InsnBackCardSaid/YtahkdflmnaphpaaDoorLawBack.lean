/-
  Law InsnBack: an instruction goes as bytes and comes back, and any eight bytes come as an instruction and go back. The table of sizes is as start-up lays it (the card ties it); no other condition.
-/
import Derived.Test.YtahkdflmnaphpaaDoorLawBytes
namespace Go.Proofs.YtahkdflmnaphpaaDoor
set_option linter.unusedSimpArgs false
set_option linter.unusedVariables false
open Go.ChangeShapes Go.WideShapes Go.ChangeAt Go.RowKit Go.Joins Go.Deep

theorem offB_back (off : Int) (o0 : -32768 ≤ off) (o1 : off < 32768) : offB (off % 65536 % 256) (off % 65536 / 256) = off := by
  unfold offB s16
  split <;> omega
theorem immB_back (imm : Int) (m0 : -2147483648 ≤ imm) (m1 : imm < 2147483648) : immB (imm % 4294967296 % 256) (imm % 4294967296 / 256 % 256) (imm % 4294967296 / 65536 % 256) (imm % 4294967296 / 16777216) = imm := by
  unfold immB s32
  split <;> omega
theorem insV_back {op dst src off imm : Int} (d0 : 0 ≤ dst) (d1 : dst ≤ 15) (o0 : -32768 ≤ off) (o1 : off < 32768) (m0 : -2147483648 ≤ imm) (m1 : imm < 2147483648) :
    insV op ((src * 16 + dst) % 16) ((src * 16 + dst) / 16) (offB (off % 65536 % 256) (off % 65536 / 256)) (immB (imm % 4294967296 % 256) (imm % 4294967296 / 256 % 256) (imm % 4294967296 / 65536 % 256) (imm % 4294967296 / 16777216)) = insV op dst src off imm := by
  rw [offB_back off o0 o1, immB_back imm m0 m1, show (src * 16 + dst) % 16 = dst by omega, show (src * 16 + dst) / 16 = src by omega]
theorem offB_bd {x y : Int} (h0 : 0 ≤ x) (h1 : x < 256) (g0 : 0 ≤ y) (g1 : y < 256) : -32768 ≤ offB x y ∧ offB x y < 32768 := by
  unfold offB s16
  split <;> omega
theorem immB_bd {x y z t : Int} (h0 : 0 ≤ x) (h1 : x < 256) (g0 : 0 ≤ y) (g1 : y < 256) (k0 : 0 ≤ z) (k1 : z < 256) (t0 : 0 ≤ t) (t1 : t < 256) : -2147483648 ≤ immB x y z t ∧ immB x y z t < 2147483648 := by
  unfold immB s32
  split <;> omega
theorem encB_back {b0 b1 b2 b3 b4 b5 b6 b7 : Int} (l0 : 0 ≤ b0) (u0 : b0 < 256) (l1 : 0 ≤ b1) (u1 : b1 < 256) (l2 : 0 ≤ b2) (u2 : b2 < 256) (l3 : 0 ≤ b3) (u3 : b3 < 256) (l4 : 0 ≤ b4) (u4 : b4 < 256) (l5 : 0 ≤ b5) (u5 : b5 < 256) (l6 : 0 ≤ b6) (u6 : b6 < 256) (l7 : 0 ≤ b7) (u7 : b7 < 256) :
    encB b0 (b1 % 16) (b1 / 16) (offB b2 b3) (immB b4 b5 b6 b7) = [b0, b1, b2, b3, b4, b5, b6, b7] := by
  have e1 : b1 / 16 * 16 + b1 % 16 = b1 := by omega
  have e2 : offB b2 b3 % 65536 = b2 + b3 * 256 := by unfold offB s16; split <;> omega
  have e4 : immB b4 b5 b6 b7 % 4294967296 = b4 + b5 * 256 + b6 * 65536 + b7 * 16777216 := by unfold immB s32; split <;> omega
  unfold encB
  rw [e1, e2, e4, show (b2 + b3 * 256) % 256 = b2 by omega, show (b2 + b3 * 256) / 256 = b3 by omega, show (b4 + b5 * 256 + b6 * 65536 + b7 * 16777216) % 256 = b4 by omega,
    show (b4 + b5 * 256 + b6 * 65536 + b7 * 16777216) / 256 % 256 = b5 by omega, show (b4 + b5 * 256 + b6 * 65536 + b7 * 16777216) / 65536 % 256 = b6 by omega,
    show (b4 + b5 * 256 + b6 * 65536 + b7 * 16777216) / 16777216 = b7 by omega]
theorem decode_list (b off cap : Nat) (zs : List Int) (w : World) (hs : ByteSl w (some ⟨b, off, none⟩) 8 zs) :
    Calls Tryd.prog 19 #[.slice (some ⟨b, off, none⟩) 8 cap] w fun e w' => e = .returned (.tuple #[insV (zs.getD 0 0) (zs.getD 1 0 % 16) (zs.getD 1 0 / 16) (offB (zs.getD 2 0) (zs.getD 3 0)) (immB (zs.getD 4 0) (zs.getD 5 0) (zs.getD 6 0) (zs.getD 7 0)), .int .i64 0]) ∧ Below w.heap.size w w' := by
  obtain ⟨hl, hz, hc⟩ := hs
  obtain ⟨b', off', hp, hlt, hc⟩ := hc.resolve_left (by decide)
  injection hp with hp
  injection hp with hb ho
  subst hb
  subst ho
  have hb : ∀ j : Nat, j < 8 → 0 ≤ zs.getD j 0 ∧ zs.getD j 0 < 256 := by
    intro j hj
    rw [List.getD_eq_getElem?_getD, List.getElem?_eq_getElem (by omega)]
    exact hz _ (List.getElem_mem _)
  exact decode_8 b off cap _ _ _ _ _ _ _ _ w hlt (hb 0 (by decide)).1 (hb 0 (by decide)).2 (hb 1 (by decide)).1 (hb 1 (by decide)).2 (hb 2 (by decide)).1 (hb 2 (by decide)).2 (hb 3 (by decide)).1 (hb 3 (by decide)).2 (hb 4 (by decide)).1 (hb 4 (by decide)).2 (hb 5 (by decide)).1 (hb 5 (by decide)).2 (hb 6 (by decide)).1 (hb 6 (by decide)).2 (hb 7 (by decide)).1 (hb 7 (by decide)).2
    (hc 0 (by decide)) (hc 1 (by decide)) (hc 2 (by decide)) (hc 3 (by decide)) (hc 4 (by decide)) (hc 5 (by decide)) (hc 6 (by decide)) (hc 7 (by decide))

set_option maxHeartbeats 2000000 in
set_option maxRecDepth 100000 in
theorem insnBack_na (op dst src off imm b0 b1 b2 b3 b4 b5 b6 b7 : Int) (h0 : 0 ≤ op) (h1 : op < 256) (d0 : 0 ≤ dst) (d1 : dst < 256) (s0 : 0 ≤ src) (s1 : src < 256) (o0 : -32768 ≤ off) (o1 : off < 32768) (m0 : -2147483648 ≤ imm) (m1 : imm < 2147483648) (l0 : 0 ≤ b0) (u0 : b0 < 256) (l1 : 0 ≤ b1) (u1 : b1 < 256) (l2 : 0 ≤ b2) (u2 : b2 < 256) (l3 : 0 ≤ b3) (u3 : b3 < 256) (l4 : 0 ≤ b4) (u4 : b4 < 256) (l5 : 0 ≤ b5) (u5 : b5 < 256) (l6 : 0 ≤ b6) (u6 : b6 < 256) (l7 : 0 ≤ b7) (u7 : b7 < 256) (w : World) (hz : SzOk w) (x1 : 15 < dst) : Calls Tryd.prog 8 #[.agg #[.int .u8 op, .int .u8 dst, .int .u8 src, .int .i16 off, .int .i32 imm], .agg #[.int .u8 b0, .int .u8 b1, .int .u8 b2, .int .u8 b3, .int .u8 b4, .int .u8 b5, .int .u8 b6, .int .u8 b7]] w fun e w' => e = .returned (.bool true) ∧ Below w.heap.size w w' := by
  have HE := hid fun W => encode_no op dst src off imm W h0 h1 d0 d1 s0 s1 o0 o1 m0 m1 (by omega)
  have HZ := hid hz
  have HB1 := hid ((((Below.refl w.heap.size w).alloc (Nat.le_refl _) (.cells #[.int .u8 op, .int .u8 dst, .int .u8 src, .int .i16 off, .int .i32 imm] 24)).alloc (by simp) (.cells #[.int .u8 b0, .int .u8 b1, .int .u8 b2, .int .u8 b3, .int .u8 b4, .int .u8 b5, .int .u8 b6, .int .u8 b7] 54)))
  have hs0 : ByteSl ((w.alloc (.cells #[.int .u8 op, .int .u8 dst, .int .u8 src, .int .i16 off, .int .i32 imm] 24)).alloc (.cells #[.int .u8 b0, .int .u8 b1, .int .u8 b2, .int .u8 b3, .int .u8 b4, .int .u8 b5, .int .u8 b6, .int .u8 b7] 54)) (some ⟨w.heap.size + 1, 0, none⟩) 8 [b0, b1, b2, b3, b4, b5, b6, b7] := by
    refine bytesSl (t := 54) rfl ?_ (by simp) (heap_new (by simp))
    intro z hz
    simp only [List.mem_cons, List.not_mem_nil, or_false] at hz
    rcases hz with rfl | rfl | rfl | rfl | rfl | rfl | rfl | rfl <;> omega
  have HS0 := hid hs0
  clear hz hs0
  have g1 : decide (dst < 16) = false := by simp; omega
  clear x1
  go_enter Tryd.func8, Tryd.ntmps8
  go_wp2_with fail
  refine (HE.out _).mono ?_
  rintro e w2 ⟨rfl, b2⟩
  obtain ⟨hc, hf⟩ := bcell b2
  have c0 : w2.cell? ⟨w.heap.size, 0, none⟩ = some (.int .u8 op) := by rw [hc _ _ (by simp; omega)]; simp
  have c1 : w2.cell? ⟨w.heap.size, 1, none⟩ = some (.int .u8 dst) := by rw [hc _ _ (by simp; omega)]; simp
  have c2 : w2.cell? ⟨w.heap.size, 2, none⟩ = some (.int .u8 src) := by rw [hc _ _ (by simp; omega)]; simp
  have c3 : w2.cell? ⟨w.heap.size, 3, none⟩ = some (.int .i16 off) := by rw [hc _ _ (by simp; omega)]; simp
  have c4 : w2.cell? ⟨w.heap.size, 4, none⟩ = some (.int .i32 imm) := by rw [hc _ _ (by simp; omega)]; simp
  have HBx := hid (HB1.out.trans (b2.mono (by simp; omega)))
  have HSx := hid (HS0.out.below b2)
  clear hc hf b2 HE HS0 HB1
  -- the bytes, there and back
  have HD2 := hid (decode_list _ _ 8 _ _ HSx.out)
  simp only [List.getD_cons_zero, List.getD_cons_succ] at HD2
  go_wp2_with fail
  refine HD2.out.mono ?_
  rintro e w5 ⟨rfl, b5⟩
  have HB5 := hid (HBx.out.trans (b5.mono HBx.out.size))
  have HS5 := hid (HSx.out.below b5)
  clear b5 HD2 HSx HBx
  simp only [insV]
  have HL := hid (encB_back l0 u0 l1 u1 l2 u2 l3 u3 l4 u4 l5 u5 l6 u6 l7 u7)
  have HE2 := hid fun W => encode_yes b0 (b1 % 16) (b1 / 16) (offB b2 b3) (immB b4 b5 b6 b7) W l0 u0 (by omega) (by omega) (by omega) (by omega) (offB_bd l2 u2 l3 u3).1 (offB_bd l2 u2 l3 u3).2 (immB_bd l4 u4 l5 u5 l6 u6 l7 u7).1 (immB_bd l4 u4 l5 u5 l6 u6 l7 u7).2
  generalize offB b2 b3 = fo at HE2 HL ⊢
  generalize immB b4 b5 b6 b7 = fm at HE2 HL ⊢
  go_wp2_with fail
  refine (HE2.out _).mono ?_
  rintro e w6 ⟨g6, rfl, b6', hg1, hg2, hblk⟩
  rw [HL.out] at hblk
  have HK := hid hblk
  have HS6 := hid ((HS5.out.below ((Below.refl _ _).alloc (Nat.le_refl _) _)).below b6')
  have HM6 := hid (bytesSl (l := [b0, b1, b2, b3, b4, b5, b6, b7]) rfl HS6.out.2.1 hg2 HK.out)
  have HB6 := hid ((HB5.out.alloc HB5.out.size _).trans (b6'.mono (by have := HB5.out.size; simp; omega)))
  clear b6' hblk HS5 HE2 HL HK HB5 hg1 hg2
  go_wp2_with fail
  refine (same_yes _ _ 8 _ _ [b0, b1, b2, b3, b4, b5, b6, b7] _ (by omega) HM6.out HS6.out).mono ?_
  rintro e w7 ⟨rfl, b7'⟩
  have HB7 := hid (HB6.out.trans (b7'.mono HB6.out.size))
  clear b7' HB6 HM6 HS6
  go_wp2_with fail
  refine (wakes_any _ (HZ.out.below HB7.out)).mono ?_
  rintro e w8 ⟨rfl, b8'⟩
  have HB8 := hid (HB7.out.trans (b8'.mono HB7.out.size))
  clear b8'
  go_wp2
  go_ret
  exact ⟨rfl, HB8.out⟩

set_option maxHeartbeats 2000000 in
set_option maxRecDepth 100000 in
theorem insnBack_nb (op dst src off imm b0 b1 b2 b3 b4 b5 b6 b7 : Int) (h0 : 0 ≤ op) (h1 : op < 256) (d0 : 0 ≤ dst) (d1 : dst < 256) (s0 : 0 ≤ src) (s1 : src < 256) (o0 : -32768 ≤ off) (o1 : off < 32768) (m0 : -2147483648 ≤ imm) (m1 : imm < 2147483648) (l0 : 0 ≤ b0) (u0 : b0 < 256) (l1 : 0 ≤ b1) (u1 : b1 < 256) (l2 : 0 ≤ b2) (u2 : b2 < 256) (l3 : 0 ≤ b3) (u3 : b3 < 256) (l4 : 0 ≤ b4) (u4 : b4 < 256) (l5 : 0 ≤ b5) (u5 : b5 < 256) (l6 : 0 ≤ b6) (u6 : b6 < 256) (l7 : 0 ≤ b7) (u7 : b7 < 256) (w : World) (hz : SzOk w) (x1 : ¬ 15 < dst) (x2 : 15 < src) : Calls Tryd.prog 8 #[.agg #[.int .u8 op, .int .u8 dst, .int .u8 src, .int .i16 off, .int .i32 imm], .agg #[.int .u8 b0, .int .u8 b1, .int .u8 b2, .int .u8 b3, .int .u8 b4, .int .u8 b5, .int .u8 b6, .int .u8 b7]] w fun e w' => e = .returned (.bool true) ∧ Below w.heap.size w w' := by
  have HE := hid fun W => encode_no op dst src off imm W h0 h1 d0 d1 s0 s1 o0 o1 m0 m1 (by omega)
  have HZ := hid hz
  have HB1 := hid ((((Below.refl w.heap.size w).alloc (Nat.le_refl _) (.cells #[.int .u8 op, .int .u8 dst, .int .u8 src, .int .i16 off, .int .i32 imm] 24)).alloc (by simp) (.cells #[.int .u8 b0, .int .u8 b1, .int .u8 b2, .int .u8 b3, .int .u8 b4, .int .u8 b5, .int .u8 b6, .int .u8 b7] 54)))
  have hs0 : ByteSl ((w.alloc (.cells #[.int .u8 op, .int .u8 dst, .int .u8 src, .int .i16 off, .int .i32 imm] 24)).alloc (.cells #[.int .u8 b0, .int .u8 b1, .int .u8 b2, .int .u8 b3, .int .u8 b4, .int .u8 b5, .int .u8 b6, .int .u8 b7] 54)) (some ⟨w.heap.size + 1, 0, none⟩) 8 [b0, b1, b2, b3, b4, b5, b6, b7] := by
    refine bytesSl (t := 54) rfl ?_ (by simp) (heap_new (by simp))
    intro z hz
    simp only [List.mem_cons, List.not_mem_nil, or_false] at hz
    rcases hz with rfl | rfl | rfl | rfl | rfl | rfl | rfl | rfl <;> omega
  have HS0 := hid hs0
  clear hz hs0
  have g1 : decide (dst < 16) = true := by simp; omega
  have g2 : decide (src < 16) = false := by simp; omega
  clear x1 x2
  go_enter Tryd.func8, Tryd.ntmps8
  go_wp2_with fail
  refine (HE.out _).mono ?_
  rintro e w2 ⟨rfl, b2⟩
  obtain ⟨hc, hf⟩ := bcell b2
  have c0 : w2.cell? ⟨w.heap.size, 0, none⟩ = some (.int .u8 op) := by rw [hc _ _ (by simp; omega)]; simp
  have c1 : w2.cell? ⟨w.heap.size, 1, none⟩ = some (.int .u8 dst) := by rw [hc _ _ (by simp; omega)]; simp
  have c2 : w2.cell? ⟨w.heap.size, 2, none⟩ = some (.int .u8 src) := by rw [hc _ _ (by simp; omega)]; simp
  have c3 : w2.cell? ⟨w.heap.size, 3, none⟩ = some (.int .i16 off) := by rw [hc _ _ (by simp; omega)]; simp
  have c4 : w2.cell? ⟨w.heap.size, 4, none⟩ = some (.int .i32 imm) := by rw [hc _ _ (by simp; omega)]; simp
  have HBx := hid (HB1.out.trans (b2.mono (by simp; omega)))
  have HSx := hid (HS0.out.below b2)
  clear hc hf b2 HE HS0 HB1
  -- the bytes, there and back
  have HD2 := hid (decode_list _ _ 8 _ _ HSx.out)
  simp only [List.getD_cons_zero, List.getD_cons_succ] at HD2
  go_wp2_with fail
  refine HD2.out.mono ?_
  rintro e w5 ⟨rfl, b5⟩
  have HB5 := hid (HBx.out.trans (b5.mono HBx.out.size))
  have HS5 := hid (HSx.out.below b5)
  clear b5 HD2 HSx HBx
  simp only [insV]
  have HL := hid (encB_back l0 u0 l1 u1 l2 u2 l3 u3 l4 u4 l5 u5 l6 u6 l7 u7)
  have HE2 := hid fun W => encode_yes b0 (b1 % 16) (b1 / 16) (offB b2 b3) (immB b4 b5 b6 b7) W l0 u0 (by omega) (by omega) (by omega) (by omega) (offB_bd l2 u2 l3 u3).1 (offB_bd l2 u2 l3 u3).2 (immB_bd l4 u4 l5 u5 l6 u6 l7 u7).1 (immB_bd l4 u4 l5 u5 l6 u6 l7 u7).2
  generalize offB b2 b3 = fo at HE2 HL ⊢
  generalize immB b4 b5 b6 b7 = fm at HE2 HL ⊢
  go_wp2_with fail
  refine (HE2.out _).mono ?_
  rintro e w6 ⟨g6, rfl, b6', hg1, hg2, hblk⟩
  rw [HL.out] at hblk
  have HK := hid hblk
  have HS6 := hid ((HS5.out.below ((Below.refl _ _).alloc (Nat.le_refl _) _)).below b6')
  have HM6 := hid (bytesSl (l := [b0, b1, b2, b3, b4, b5, b6, b7]) rfl HS6.out.2.1 hg2 HK.out)
  have HB6 := hid ((HB5.out.alloc HB5.out.size _).trans (b6'.mono (by have := HB5.out.size; simp; omega)))
  clear b6' hblk HS5 HE2 HL HK HB5 hg1 hg2
  go_wp2_with fail
  refine (same_yes _ _ 8 _ _ [b0, b1, b2, b3, b4, b5, b6, b7] _ (by omega) HM6.out HS6.out).mono ?_
  rintro e w7 ⟨rfl, b7'⟩
  have HB7 := hid (HB6.out.trans (b7'.mono HB6.out.size))
  clear b7' HB6 HM6 HS6
  go_wp2_with fail
  refine (wakes_any _ (HZ.out.below HB7.out)).mono ?_
  rintro e w8 ⟨rfl, b8'⟩
  have HB8 := hid (HB7.out.trans (b8'.mono HB7.out.size))
  clear b8'
  go_wp2
  go_ret
  exact ⟨rfl, HB8.out⟩

set_option maxHeartbeats 2000000 in
set_option maxRecDepth 100000 in
theorem insnBack_y (op dst src off imm b0 b1 b2 b3 b4 b5 b6 b7 : Int) (h0 : 0 ≤ op) (h1 : op < 256) (d0 : 0 ≤ dst) (d1 : dst < 256) (s0 : 0 ≤ src) (s1 : src < 256) (o0 : -32768 ≤ off) (o1 : off < 32768) (m0 : -2147483648 ≤ imm) (m1 : imm < 2147483648) (l0 : 0 ≤ b0) (u0 : b0 < 256) (l1 : 0 ≤ b1) (u1 : b1 < 256) (l2 : 0 ≤ b2) (u2 : b2 < 256) (l3 : 0 ≤ b3) (u3 : b3 < 256) (l4 : 0 ≤ b4) (u4 : b4 < 256) (l5 : 0 ≤ b5) (u5 : b5 < 256) (l6 : 0 ≤ b6) (u6 : b6 < 256) (l7 : 0 ≤ b7) (u7 : b7 < 256) (w : World) (hz : SzOk w) (x1 : dst ≤ 15) (x2 : src ≤ 15) : Calls Tryd.prog 8 #[.agg #[.int .u8 op, .int .u8 dst, .int .u8 src, .int .i16 off, .int .i32 imm], .agg #[.int .u8 b0, .int .u8 b1, .int .u8 b2, .int .u8 b3, .int .u8 b4, .int .u8 b5, .int .u8 b6, .int .u8 b7]] w fun e w' => e = .returned (.bool true) ∧ Below w.heap.size w w' := by
  have HE := hid fun W => encode_yes op dst src off imm W h0 h1 d0 x1 s0 x2 o0 o1 m0 m1
  have HY := hid (encB_bd (off := off) (imm := imm) h0 h1 d0 x1 s0 x2)
  have HI := hid (insV_back (op := op) (src := src) d0 x1 o0 o1 m0 m1)
  have HZ := hid hz
  have HB1 := hid ((((Below.refl w.heap.size w).alloc (Nat.le_refl _) (.cells #[.int .u8 op, .int .u8 dst, .int .u8 src, .int .i16 off, .int .i32 imm] 24)).alloc (by simp) (.cells #[.int .u8 b0, .int .u8 b1, .int .u8 b2, .int .u8 b3, .int .u8 b4, .int .u8 b5, .int .u8 b6, .int .u8 b7] 54)))
  have hs0 : ByteSl ((w.alloc (.cells #[.int .u8 op, .int .u8 dst, .int .u8 src, .int .i16 off, .int .i32 imm] 24)).alloc (.cells #[.int .u8 b0, .int .u8 b1, .int .u8 b2, .int .u8 b3, .int .u8 b4, .int .u8 b5, .int .u8 b6, .int .u8 b7] 54)) (some ⟨w.heap.size + 1, 0, none⟩) 8 [b0, b1, b2, b3, b4, b5, b6, b7] := by
    refine bytesSl (t := 54) rfl ?_ (by simp) (heap_new (by simp))
    intro z hz
    simp only [List.mem_cons, List.not_mem_nil, or_false] at hz
    rcases hz with rfl | rfl | rfl | rfl | rfl | rfl | rfl | rfl <;> omega
  have HS0 := hid hs0
  clear hz hs0
  have g1 : decide (dst < 16) = true := by simp; omega
  have g2 : decide (src < 16) = true := by simp; omega
  clear x1 x2
  go_enter Tryd.func8, Tryd.ntmps8
  go_wp2_with fail
  refine (HE.out _).mono ?_
  rintro e w2 ⟨g, rfl, b2, hg1, hg2, hblk⟩
  obtain ⟨hc, hf⟩ := bcell b2
  have c0 : w2.cell? ⟨w.heap.size, 0, none⟩ = some (.int .u8 op) := by rw [hc _ _ (by simp; omega)]; simp
  have c1 : w2.cell? ⟨w.heap.size, 1, none⟩ = some (.int .u8 dst) := by rw [hc _ _ (by simp; omega)]; simp
  have c2 : w2.cell? ⟨w.heap.size, 2, none⟩ = some (.int .u8 src) := by rw [hc _ _ (by simp; omega)]; simp
  have c3 : w2.cell? ⟨w.heap.size, 3, none⟩ = some (.int .i16 off) := by rw [hc _ _ (by simp; omega)]; simp
  have c4 : w2.cell? ⟨w.heap.size, 4, none⟩ = some (.int .i32 imm) := by rw [hc _ _ (by simp; omega)]; simp
  have HB2 := hid (HB1.out.trans (b2.mono (by simp; omega)))
  have HS2 := hid (HS0.out.below b2)
  have HG := hid (bytesSl rfl HY.out hg2 hblk)
  have q1 : w.heap.size < w2.heap.size := by have := b2.size; simp at this; omega
  clear hc hf b2 HE HS0 HB1 hg1 hg2 hblk HY
  have HD := hid (decode_list _ _ 8 _ _ HG.out)
  simp only [encB, List.getD_cons_zero, List.getD_cons_succ] at HD
  rw [HI.out] at HD
  clear HI HG
  go_wp2_with fail
  refine HD.out.mono ?_
  rintro e w3 ⟨rfl, b3⟩
  have e0 : w3.cell? ⟨w.heap.size, 0, none⟩ = some (.int .u8 op) := (b3.cell (p := ⟨w.heap.size, 0, none⟩) q1).trans c0
  have e1 : w3.cell? ⟨w.heap.size, 1, none⟩ = some (.int .u8 dst) := (b3.cell (p := ⟨w.heap.size, 1, none⟩) q1).trans c1
  have e2 : w3.cell? ⟨w.heap.size, 2, none⟩ = some (.int .u8 src) := (b3.cell (p := ⟨w.heap.size, 2, none⟩) q1).trans c2
  have e3 : w3.cell? ⟨w.heap.size, 3, none⟩ = some (.int .i16 off) := (b3.cell (p := ⟨w.heap.size, 3, none⟩) q1).trans c3
  have e4 : w3.cell? ⟨w.heap.size, 4, none⟩ = some (.int .i32 imm) := (b3.cell (p := ⟨w.heap.size, 4, none⟩) q1).trans c4
  have q2 : w.heap.size < w3.heap.size := Nat.lt_of_lt_of_le q1 b3.size
  have HB3 := hid (HB2.out.trans (b3.mono HB2.out.size))
  have HBx := hid (HB3.out.alloc HB3.out.size (.cells #[.int .u8 op, .int .u8 dst, .int .u8 src, .int .i16 off, .int .i32 imm] 24))
  have HSx := hid ((HS2.out.below b3).below ((Below.refl _ _).alloc (Nat.le_refl _) (.cells #[.int .u8 op, .int .u8 dst, .int .u8 src, .int .i16 off, .int .i32 imm] 24)))
  clear b3 c0 c1 c2 c3 c4 HB2 HS2 HD HB3
  simp only [insV]
  -- the bytes, there and back
  have HD2 := hid (decode_list _ _ 8 _ _ HSx.out)
  simp only [List.getD_cons_zero, List.getD_cons_succ] at HD2
  go_wp2_with fail
  refine HD2.out.mono ?_
  rintro e w5 ⟨rfl, b5⟩
  have HB5 := hid (HBx.out.trans (b5.mono HBx.out.size))
  have HS5 := hid (HSx.out.below b5)
  clear b5 HD2 HSx HBx
  simp only [insV]
  have HL := hid (encB_back l0 u0 l1 u1 l2 u2 l3 u3 l4 u4 l5 u5 l6 u6 l7 u7)
  have HE2 := hid fun W => encode_yes b0 (b1 % 16) (b1 / 16) (offB b2 b3) (immB b4 b5 b6 b7) W l0 u0 (by omega) (by omega) (by omega) (by omega) (offB_bd l2 u2 l3 u3).1 (offB_bd l2 u2 l3 u3).2 (immB_bd l4 u4 l5 u5 l6 u6 l7 u7).1 (immB_bd l4 u4 l5 u5 l6 u6 l7 u7).2
  generalize offB b2 b3 = fo at HE2 HL ⊢
  generalize immB b4 b5 b6 b7 = fm at HE2 HL ⊢
  go_wp2_with fail
  refine (HE2.out _).mono ?_
  rintro e w6 ⟨g6, rfl, b6', hg1, hg2, hblk⟩
  rw [HL.out] at hblk
  have HK := hid hblk
  have HS6 := hid ((HS5.out.below ((Below.refl _ _).alloc (Nat.le_refl _) _)).below b6')
  have HM6 := hid (bytesSl (l := [b0, b1, b2, b3, b4, b5, b6, b7]) rfl HS6.out.2.1 hg2 HK.out)
  have HB6 := hid ((HB5.out.alloc HB5.out.size _).trans (b6'.mono (by have := HB5.out.size; simp; omega)))
  clear b6' hblk HS5 HE2 HL HK HB5 hg1 hg2
  go_wp2_with fail
  refine (same_yes _ _ 8 _ _ [b0, b1, b2, b3, b4, b5, b6, b7] _ (by omega) HM6.out HS6.out).mono ?_
  rintro e w7 ⟨rfl, b7'⟩
  have HB7 := hid (HB6.out.trans (b7'.mono HB6.out.size))
  clear b7' HB6 HM6 HS6
  go_wp2_with fail
  refine (wakes_any _ (HZ.out.below HB7.out)).mono ?_
  rintro e w8 ⟨rfl, b8'⟩
  have HB8 := hid (HB7.out.trans (b8'.mono HB7.out.size))
  clear b8'
  go_wp2
  go_ret
  exact ⟨rfl, HB8.out⟩

theorem insnBack_walk (op dst src off imm b0 b1 b2 b3 b4 b5 b6 b7 : Int) (h0 : 0 ≤ op) (h1 : op < 256) (d0 : 0 ≤ dst) (d1 : dst < 256) (s0 : 0 ≤ src) (s1 : src < 256) (o0 : -32768 ≤ off) (o1 : off < 32768) (m0 : -2147483648 ≤ imm) (m1 : imm < 2147483648) (l0 : 0 ≤ b0) (u0 : b0 < 256) (l1 : 0 ≤ b1) (u1 : b1 < 256) (l2 : 0 ≤ b2) (u2 : b2 < 256) (l3 : 0 ≤ b3) (u3 : b3 < 256) (l4 : 0 ≤ b4) (u4 : b4 < 256) (l5 : 0 ≤ b5) (u5 : b5 < 256) (l6 : 0 ≤ b6) (u6 : b6 < 256) (l7 : 0 ≤ b7) (u7 : b7 < 256) (w : World) (hz : SzOk w) : Calls Tryd.prog 8 #[.agg #[.int .u8 op, .int .u8 dst, .int .u8 src, .int .i16 off, .int .i32 imm], .agg #[.int .u8 b0, .int .u8 b1, .int .u8 b2, .int .u8 b3, .int .u8 b4, .int .u8 b5, .int .u8 b6, .int .u8 b7]] w fun e w' => e = .returned (.bool true) ∧ Below w.heap.size w w' := by
  by_cases x1 : 15 < dst
  · exact insnBack_na op dst src off imm b0 b1 b2 b3 b4 b5 b6 b7 h0 h1 d0 d1 s0 s1 o0 o1 m0 m1 l0 u0 l1 u1 l2 u2 l3 u3 l4 u4 l5 u5 l6 u6 l7 u7 w hz x1
  by_cases x2 : 15 < src
  · exact insnBack_nb op dst src off imm b0 b1 b2 b3 b4 b5 b6 b7 h0 h1 d0 d1 s0 s1 o0 o1 m0 m1 l0 u0 l1 u1 l2 u2 l3 u3 l4 u4 l5 u5 l6 u6 l7 u7 w hz x1 x2
  exact insnBack_y op dst src off imm b0 b1 b2 b3 b4 b5 b6 b7 h0 h1 d0 d1 s0 s1 o0 o1 m0 m1 l0 u0 l1 u1 l2 u2 l3 u3 l4 u4 l5 u5 l6 u6 l7 u7 w hz (by omega) (by omega)

section
variable {H : Type} {enc : TypeId × Value → H} {P : Program}
/-- An array whose elements have one cell each, by value: its cells, and each element's reading. -/
theorem open_arr {w : World} {base : Nat} {spare : Nat → Bool} {held : Bool} {r : Reach} {b0 : Nat} {t e : TypeId} {n : Nat} {v : Value} {d : DataW H} {p : List MemPlace}
    (hs : P.underlying t = some (.array n e)) (he : P.cellsOf e = 1) (hv : Value.okWide P w r b0 t v) (h : DataW.Trod enc P w base spare held t v d p) :
    ∃ cs, v = .agg cs ∧ cs.size = P.cellsOf t ∧ ∀ (i : Nat) (c : Value), i < n → cs[i]? = some c → ∃ (m : Nat) (y : DataW H × List MemPlace), DataW.trod enc P w base spare held m e [c] = some y := by
  simp only [Value.okWide, hs] at hv
  obtain ⟨cs, rfl, hsz, _⟩ := hv
  obtain ⟨fuel, hf⟩ := h
  obtain ⟨xs, m, _, hx, _, hlen, hg⟩ := DataW.trod_array hs hf
  refine ⟨cs, rfl, hsz, fun i c hi hc => ?_⟩
  have hg' := hg i hi
  rw [he, Nat.mul_one] at hg'
  have hcs : ((Value.agg cs).cells.toList.drop i).take 1 = [c] := by
    show (cs.toList.drop i).take 1 = [c]
    have hl : cs.toList[i]? = some c := by simpa using hc
    have hil := (List.getElem?_eq_some_iff.1 hl).1
    rw [List.drop_eq_getElem_cons hil, (List.getElem?_eq_some_iff.1 hl).2]
    rfl
  rw [hcs] at hg'
  have hlt : i < xs.length := by omega
  exact ⟨m, xs[i], by rw [hg']; simp⟩
theorem array8_of {α : Type} {cs : Array α} (h : cs.size = 8) : ∃ c0 c1 c2 c3 c4 c5 c6 c7, cs = #[c0, c1, c2, c3, c4, c5, c6, c7] := by
  obtain ⟨l⟩ := cs
  match l, h with
  | [c0, c1, c2, c3, c4, c5, c6, c7], _ => exact ⟨c0, c1, c2, c3, c4, c5, c6, c7, rfl⟩
end


/-! ### InsnBack -/
namespace insnBack
set_option maxRecDepth 100000 in
theorem contract (H : Type) (enc : TypeId × Value → H) (W : World) (base : Nat) (args : Array Value) (ds gs : List (DataW H)) (before : List MemPlace)
    (hval : ∀ (j : Nat) t v, Tryd.f8.params[j]? = some t → args[j]? = some v → Value.okWide Tryd.prog W .any base t v)
    (hW : DataW.Whole enc Tryd.prog Tryd.f8.params.toList Rows.insnBackSpec.vars false W args.toList ds gs before) (hL : laidMetH Tryd.prog Rows.insnBackRow.laid W)
    (hsz : (DataW.weightsEach Tryd.prog (Tryd.f8.params.toList ++ (OpenSpec.ofChange Rows.insnBackSpec).bare.plain.varTypes Tryd.prog) (ds ++ gs)).all (· ≤ reachBytes) = true) :
    Calls Tryd.prog 8 args W fun e W' => ∃ v, e = .returned v ∧ Rows.insnBackSpec.post enc Tryd.prog Tryd.f8 false true false false W args v W' := by
  have hW' := hW
  obtain ⟨p, q, hA0, hV, rfl, hfz, hnd⟩ := hW
  have hA : DataW.TrodAll enc Tryd.prog W 0 (fun _ => true) true Tryd.f8.params.toList args.toList ds p := hA0
  rw [Tryd.params8] at hA hval
  obtain ⟨v0, vs0, d0, ds0, p0, q0, hargs, rfl, rfl, h0, r0⟩ := trodAll_cons hA
  obtain ⟨v1, vs1, d1, ds1, p1, q1, rfl, rfl, rfl, h1, r1⟩ := trodAll_cons r0
  obtain ⟨rfl, rfl, rfl⟩ := trodAll_nil r1
  obtain rfl : args = #[v0, v1] := by cases args; simp_all
  obtain ⟨rfl, rfl⟩ := trodVars_none hV
  obtain ⟨cs0, rfl, z0, g0⟩ := open_struct Tryd.underlying24 (by kernel_rfl) (hval 0 24 v0 rfl rfl) h0
  obtain ⟨x0_0, x0_1, x0_2, x0_3, x0_4, rfl⟩ := array5_of (z0.trans (show Tryd.prog.cellsOf 24 = 5 by kernel_rfl))
  obtain ⟨_, y0_0, t0_0⟩ := g0 0 _ _ rfl rfl
  obtain ⟨op, e0_0, _, wop⟩ := DataW.trod_int (k := .u8) Tryd.underlying5 t0_0
  obtain rfl := (List.cons.inj e0_0).1
  obtain ⟨_, y0_1, t0_1⟩ := g0 1 _ _ rfl rfl
  obtain ⟨dst, e0_1, _, wdst⟩ := DataW.trod_int (k := .u8) Tryd.underlying5 t0_1
  obtain rfl := (List.cons.inj e0_1).1
  obtain ⟨_, y0_2, t0_2⟩ := g0 2 _ _ rfl rfl
  obtain ⟨src, e0_2, _, wsrc⟩ := DataW.trod_int (k := .u8) Tryd.underlying5 t0_2
  obtain rfl := (List.cons.inj e0_2).1
  obtain ⟨_, y0_3, t0_3⟩ := g0 3 _ _ rfl rfl
  obtain ⟨off, e0_3, _, woff⟩ := DataW.trod_int (k := .i16) Tryd.underlying22 t0_3
  obtain rfl := (List.cons.inj e0_3).1
  obtain ⟨_, y0_4, t0_4⟩ := g0 4 _ _ rfl rfl
  obtain ⟨imm, e0_4, _, wimm⟩ := DataW.trod_int (k := .i32) Tryd.underlying21 t0_4
  obtain rfl := (List.cons.inj e0_4).1
  obtain ⟨cs1, rfl, z1, g1⟩ := open_arr Tryd.underlying54 (by kernel_rfl) (hval 1 54 v1 rfl rfl) h1
  obtain ⟨x1_0, x1_1, x1_2, x1_3, x1_4, x1_5, x1_6, x1_7, rfl⟩ := array8_of (z1.trans (show Tryd.prog.cellsOf 54 = 8 by kernel_rfl))
  obtain ⟨_, y1_0, t1_0⟩ := g1 0 _ (by decide) rfl
  obtain ⟨b0, e1_0, _, wb0⟩ := DataW.trod_int (k := .u8) Tryd.underlying5 t1_0
  obtain rfl := (List.cons.inj e1_0).1
  obtain ⟨_, y1_1, t1_1⟩ := g1 1 _ (by decide) rfl
  obtain ⟨b1, e1_1, _, wb1⟩ := DataW.trod_int (k := .u8) Tryd.underlying5 t1_1
  obtain rfl := (List.cons.inj e1_1).1
  obtain ⟨_, y1_2, t1_2⟩ := g1 2 _ (by decide) rfl
  obtain ⟨b2, e1_2, _, wb2⟩ := DataW.trod_int (k := .u8) Tryd.underlying5 t1_2
  obtain rfl := (List.cons.inj e1_2).1
  obtain ⟨_, y1_3, t1_3⟩ := g1 3 _ (by decide) rfl
  obtain ⟨b3, e1_3, _, wb3⟩ := DataW.trod_int (k := .u8) Tryd.underlying5 t1_3
  obtain rfl := (List.cons.inj e1_3).1
  obtain ⟨_, y1_4, t1_4⟩ := g1 4 _ (by decide) rfl
  obtain ⟨b4, e1_4, _, wb4⟩ := DataW.trod_int (k := .u8) Tryd.underlying5 t1_4
  obtain rfl := (List.cons.inj e1_4).1
  obtain ⟨_, y1_5, t1_5⟩ := g1 5 _ (by decide) rfl
  obtain ⟨b5, e1_5, _, wb5⟩ := DataW.trod_int (k := .u8) Tryd.underlying5 t1_5
  obtain rfl := (List.cons.inj e1_5).1
  obtain ⟨_, y1_6, t1_6⟩ := g1 6 _ (by decide) rfl
  obtain ⟨b6, e1_6, _, wb6⟩ := DataW.trod_int (k := .u8) Tryd.underlying5 t1_6
  obtain rfl := (List.cons.inj e1_6).1
  obtain ⟨_, y1_7, t1_7⟩ := g1 7 _ (by decide) rfl
  obtain ⟨b7, e1_7, _, wb7⟩ := DataW.trod_int (k := .u8) Tryd.underlying5 t1_7
  obtain rfl := (List.cons.inj e1_7).1
  obtain ⟨lo_op, hi_op⟩ := bounds_u8 wop
  obtain ⟨lo_dst, hi_dst⟩ := bounds_u8 wdst
  obtain ⟨lo_src, hi_src⟩ := bounds_u8 wsrc
  obtain ⟨lo_off, hi_off⟩ := bounds_i16 woff
  obtain ⟨lo_imm, hi_imm⟩ := bounds_i32 wimm
  obtain ⟨lo_b0, hi_b0⟩ := bounds_u8 wb0
  obtain ⟨lo_b1, hi_b1⟩ := bounds_u8 wb1
  obtain ⟨lo_b2, hi_b2⟩ := bounds_u8 wb2
  obtain ⟨lo_b3, hi_b3⟩ := bounds_u8 wb3
  obtain ⟨lo_b4, hi_b4⟩ := bounds_u8 wb4
  obtain ⟨lo_b5, hi_b5⟩ := bounds_u8 wb5
  obtain ⟨lo_b6, hi_b6⟩ := bounds_u8 wb6
  obtain ⟨lo_b7, hi_b7⟩ := bounds_u8 wb7
  clear hA0
  refine (insnBack_walk op dst src off imm b0 b1 b2 b3 b4 b5 b6 b7 lo_op (by omega) lo_dst (by omega) lo_src (by omega) lo_off (by omega) lo_imm (by omega) lo_b0 (by omega) lo_b1 (by omega) lo_b2 (by omega) lo_b3 (by omega) lo_b4 (by omega) lo_b5 (by omega) lo_b6 (by omega) lo_b7 (by omega) W (sz_of_laid hL)).mono fun e W' ⟨he, hb⟩ => ?_
  subst he
  exact ⟨_, rfl, law_shut laid hW' rfl rfl Tryd.underlying4 (by kernel_rfl) rfl rfl rfl hb⟩
set_option maxRecDepth 100000 in
theorem laid_met (os : Os) : laidMet Tryd.prog Rows.insnBackRow.laid ((laidWorld os).forCall (fun _ _ => 0) ⟨#[], #[.agg #[.int .u8 0, .int .u8 0, .int .u8 0, .int .i16 0, .int .i32 0], .agg #[.int .u8 0, .int .u8 0, .int .u8 0, .int .u8 0, .int .u8 0, .int .u8 0, .int .u8 0, .int .u8 0]], []⟩).memory :=
  laidMet_of_run' 8 (by kernel_rfl) (by kernel_rfl)
set_option maxRecDepth 100000 in
theorem reads (os : Os) {H : Type} (enc : TypeId × Value → H) : ∃ places, DataW.whole enc Tryd.prog ((laidWorld os).forCall (fun _ _ => 0) ⟨#[], #[.agg #[.int .u8 0, .int .u8 0, .int .u8 0, .int .i16 0, .int .i32 0], .agg #[.int .u8 0, .int .u8 0, .int .u8 0, .int .u8 0, .int .u8 0, .int .u8 0, .int .u8 0, .int .u8 0]], []⟩).memory Tryd.f8.params.toList Rows.insnBackSpec.vars false (#[.agg #[.int .u8 0, .int .u8 0, .int .u8 0, .int .i16 0, .int .i32 0], .agg #[.int .u8 0, .int .u8 0, .int .u8 0, .int .u8 0, .int .u8 0, .int .u8 0, .int .u8 0, .int .u8 0]] : Array Value).toList 8 = some ([.agg [.lit (.int .u8 0), .lit (.int .u8 0), .lit (.int .u8 0), .lit (.int .i16 0), .lit (.int .i32 0)], .agg [.lit (.int .u8 0), .lit (.int .u8 0), .lit (.int .u8 0), .lit (.int .u8 0), .lit (.int .u8 0), .lit (.int .u8 0), .lit (.int .u8 0), .lit (.int .u8 0)]], [], places) :=
  ⟨[], by kernel_rfl⟩
set_option maxRecDepth 100000 in
theorem lifted (os : Os) (started : os.Started) (H : Type) (enc : TypeId × Value → H) (F : Stop.Interp) :
    ReturnsInHanded {} Tryd.checked os 8 .any ((OpenSpec.ofChange Rows.insnBackSpec).preRow enc Tryd.prog Tryd.f8 Rows.insnBackRow.domain false Rows.insnBackRow.laid) (((OpenSpec.ofChange Rows.insnBackSpec).at F).post enc Tryd.prog Tryd.f8 false true false false) := by
  obtain ⟨places, hx⟩ := reads os enc
  refine returnsInHanded_of_row (C := Tryd.checked) (s := OpenSpec.ofChange Rows.insnBackSpec) own started (by kernel_rfl) Tryd.func8
    (witness_row_at (enc := enc) (C := Tryd.checked) false (laidWorld os) #[.agg #[.int .u8 0, .int .u8 0, .int .u8 0, .int .i16 0, .int .i32 0], .agg #[.int .u8 0, .int .u8 0, .int .u8 0, .int .u8 0, .int .u8 0, .int .u8 0, .int .u8 0, .int .u8 0]] rfl (by kernel_rfl) (by kernel_rfl) (by kernel_rfl)
      (OpenSpec.preRow_of_cond 8 hx (by kernel_rfl) (fun k hk => by cases hk) (by kernel_rfl) (laid_met os))) ?_
  intro W base args ds gs before hval hW _ _ hsz hL _ _
  exact contract H enc W base args ds gs before hval hW hL hsz
set_option maxRecDepth 100000 in
theorem said : Rows.InsnBackSaid :=
  OpenClaim.holds_of_cond 8 Tryd.f8 rfl rfl rfl rfl rfl rfl rfl ⟨rfl, rfl, rfl, rfl, rfl⟩ rfl rfl rfl rfl rfl (by kernel_rfl) Tryd.func8 (by kernel_rfl)
    (of_decide_eq_true (by kernel_rfl)) (by unfold Func.isWrapper; first | (rw [if_pos (by decide +kernel)]; kernel_rfl) | (rw [if_neg (by decide +kernel)]; exact ⟨rfl, rfl⟩))
    (fun os started H enc _ F => by rw [OpenClaim.pre_eq_preRow]; exact lifted os started H enc F)
theorem plain (f : FuncId) (fn : Func) (hf : Tryd.pinned.checked.prog.funcNamed "stockade/stockadelaw02.InsnBack" = some f) (hfn : Tryd.pinned.checked.prog.funcs[f]? = some fn) :
    false = Tryd.pinned.checked.prog.looks [] ∧ ∀ (j : Nat) t, fn.params[j]? = some t → Tryd.pinned.checked.prog.wantsStandIn t = false := by
  obtain rfl : f = 8 := Option.some.inj ((show Tryd.prog.funcNamed "stockade/stockadelaw02.InsnBack" = some 8 by kernel_rfl).symm.trans hf) |>.symm
  obtain rfl : fn = Tryd.f8 := (Option.some.inj (Tryd.func8.symm.trans hfn)).symm
  exact ⟨by kernel_rfl, plain_of (by kernel_rfl)⟩
/-- The card. -/
theorem card : Rows.InsnBackCardSaid :=
  Claim7.holds_tied_plain_at .later [] _ _ _ _ said (fun _ h => by cases h) (by kernel_rfl) (fun _ h => by cases h) insnBack_row_tie rfl ⟨rfl, rfl⟩ (by kernel_rfl) rfl plain (by kernel_rfl)
end insnBack

end Go.Proofs.YtahkdflmnaphpaaDoor
