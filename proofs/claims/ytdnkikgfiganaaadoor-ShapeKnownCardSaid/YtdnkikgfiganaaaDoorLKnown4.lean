/-
  The walk of law ShapeKnown: the document's examples. The table of sizes is as start-up lays it (the card ties it); no other condition.
-/
import Derived.Test.YtdnkikgfiganaaaDoorKnH
import Derived.Deep.RegionHeld3
import Derived.Deep.RegionLaw
namespace Go.Proofs.YtdnkikgfiganaaaDoor
set_option linter.unusedSimpArgs false
set_option linter.unusedVariables false
open Go.ChangeShapes Go.WideShapes Go.ChangeAt Go.RowKit

set_option maxRecDepth 100000 in
set_option maxHeartbeats 8000000 in
theorem shapeKnown_walk (w : World) (hz : SzOk w) : Calls Tryd.prog 6 #[] w fun e w' => e = .returned (.bool true) ∧ Below w.heap.size w w' := by
  have HZ0 := hid hz
  clear hz
  go_enter Tryd.func6, Tryd.ntmps6
  go_wp2_with fail
  have hs : (w.alloc (.cells #[.int .u8 24, .int .u8 0, .int .u8 0, .int .i16 0, .int .i32 0] 37)).heap.size = w.heap.size + 1 := by simp
  have HBw := hid ((Below.refl w.heap.size w).alloc (Nat.le_refl _) (.cells #[.int .u8 24, .int .u8 0, .int .u8 0, .int .i16 0, .int .i32 0] 37))
  have hW : InsAt (w.alloc (.cells #[.int .u8 24, .int .u8 0, .int .u8 0, .int .i16 0, .int .i32 0] 37)) w.heap.size 0 ⟨24, 0, 0, 0, 0⟩ := by
    refine ⟨?_, ?_, ?_, ?_, ?_⟩ <;> (rw [World.cell?_alloc_at _ _ _ _ rfl]; rfl)
  have HZ := hid (HZ0.out.alloc (.cells #[.int .u8 24, .int .u8 0, .int .u8 0, .int .i16 0, .int .i32 0] 37))
  have hbw : w.heap.size < (w.alloc (.cells #[.int .u8 24, .int .u8 0, .int .u8 0, .int .i16 0, .int .i32 0] 37)).heap.size := by simp
  rw [← hs]
  generalize w.alloc (.cells #[.int .u8 24, .int .u8 0, .int .u8 0, .int .i16 0, .int .i32 0] 37) = w0 at *
  clear hs
  generalize hbw' : w.heap.size = bw at *
  have HBW := hid hbw'
  have HQW := hid hbw
  have HW := hid hW
  have HB0 := hid (Below.refl w0.heap.size w0)
  clear hbw' hbw hW
  refine (check_new d1 (0, 23) d1_chk _ 1 1 _ ((HZ.out.below HB0.out).alloc _) rfl (by decide) (cd_new w0 d1 _ _ rfl d1_ok (by decide))).mono ?_
  rintro e w1 ⟨rfl, b⟩
  have bb := ((Below.refl w0.heap.size w0).alloc (Nat.le_refl _) (.cells #[.int .u8 24, .int .u8 0, .int .u8 0, .int .i16 0, .int .i32 0] 37)).trans (b.mono (by simp))
  have HB1 := hid (below_next HB0.out bb)
  clear b bb HB0
  go_wp2_with fail
  obtain ⟨j0, j1, j2, j3, j4⟩ := HW.out.kept HB1.out HQW.out
  simp only [Nat.zero_add] at j0 j1 j2 j3 j4
  have X : Bx w0 w1 := ⟨HZ.out, HB1.out⟩
  go_region_held3 (fun w' => w'.cell? ⟨bw, 0, none⟩ = some (.int .u8 24) ∧ w'.cell? ⟨bw, 1, none⟩ = some (.int .u8 0) ∧ w'.cell? ⟨bw, 2, none⟩ = some (.int .u8 0) ∧ w'.cell? ⟨bw, 3, none⟩ = some (.int .i16 0) ∧ w'.cell? ⟨bw, 4, none⟩ = some (.int .i32 0) ∧ Bx w0 w')
    (first | (go_split_ands; exact ⟨cn bq (by assumption), cn bq (by assumption), cn bq (by assumption), cn bq (by assumption), cn bq (by assumption), Bx.next bq (by assumption)⟩) | (go_split_ands; exact ⟨cna _ (by assumption), cna _ (by assumption), cna _ (by assumption), cna _ (by assumption), cna _ (by assumption), Bx.alloc _ (by assumption)⟩) | exact ⟨cn (below_dr w1) j0, cn (below_dr w1) j1, cn (below_dr w1) j2, cn (below_dr w1) j3, cn (below_dr w1) j4, Bx.next (below_dr w1) X⟩)
    (first | (go_at_call 20; refine (exit_is _).mono ?_; rintro e wq ⟨rfl, bq⟩) | (go_at_call 15; go_split_ands; refine (check_new d2 (0, 0) d2_chk _ 4 4 _ (Bx.sz (by assumption)) rfl (by decide) (cd_new _ d2 _ _ rfl d2_ok (by decide))).mono ?_; rintro e wq ⟨rfl, bq⟩))
  go_split_ands
  have HB2 := hid (Bx.bl (w := wq) (by assumption))
  clear X j0 j1 j2 j3 j4 HB1
  obtain ⟨w2, rfl⟩ : ∃ X : World, X = wq := ⟨_, rfl⟩
  go_wp2_with fail
  obtain ⟨j0, j1, j2, j3, j4⟩ := HW.out.kept HB2.out HQW.out
  simp only [Nat.zero_add] at j0 j1 j2 j3 j4
  have X : Bx w0 w2 := ⟨HZ.out, HB2.out⟩
  go_region_held3 (fun w' => w'.cell? ⟨bw, 0, none⟩ = some (.int .u8 24) ∧ w'.cell? ⟨bw, 1, none⟩ = some (.int .u8 0) ∧ w'.cell? ⟨bw, 2, none⟩ = some (.int .u8 0) ∧ w'.cell? ⟨bw, 3, none⟩ = some (.int .i16 0) ∧ w'.cell? ⟨bw, 4, none⟩ = some (.int .i32 0) ∧ Bx w0 w')
    (first | (go_split_ands; exact ⟨cn bq (by assumption), cn bq (by assumption), cn bq (by assumption), cn bq (by assumption), cn bq (by assumption), Bx.next bq (by assumption)⟩) | (go_split_ands; exact ⟨cna _ (by assumption), cna _ (by assumption), cna _ (by assumption), cna _ (by assumption), cna _ (by assumption), Bx.alloc _ (by assumption)⟩) | exact ⟨cn (below_dr w2) j0, cn (below_dr w2) j1, cn (below_dr w2) j2, cn (below_dr w2) j3, cn (below_dr w2) j4, Bx.next (below_dr w2) X⟩)
    (first | (go_at_call 20; refine (exit_is _).mono ?_; rintro e wq ⟨rfl, bq⟩) | (go_at_call 15; go_split_ands; refine (check_new d3 (0, 24) d3_chk _ 4 4 _ (Bx.sz (by assumption)) rfl (by decide) (cd_new _ d3 _ _ rfl d3_ok (by decide))).mono ?_; rintro e wq ⟨rfl, bq⟩))
  go_split_ands
  have HB3 := hid (Bx.bl (w := wq) (by assumption))
  clear X j0 j1 j2 j3 j4 HB2
  obtain ⟨w3, rfl⟩ : ∃ X : World, X = wq := ⟨_, rfl⟩
  go_wp2_with fail
  refine (exit_is _).mono ?_
  rintro e w4 ⟨rfl, bb⟩
  have HB4 := hid (below_next HB3.out bb)
  clear bb HB3
  go_wp2_with fail
  refine (check_new d4 (0, 27) d4_chk _ 2 2 _ ((HZ.out.below HB4.out).alloc _) rfl (by decide) (cd_new w4 d4 _ _ rfl d4_ok (by decide))).mono ?_
  rintro e w5 ⟨rfl, b⟩
  have bb := ((Below.refl w4.heap.size w4).alloc (Nat.le_refl _) (.cells #[.int .u8 133, .int .u8 0, .int .u8 0, .int .i16 0, .int .i32 4, .int .u8 149, .int .u8 0, .int .u8 0, .int .i16 0, .int .i32 0] 37)).trans (b.mono (by simp))
  have HB5 := hid (below_next HB4.out bb)
  clear b bb HB4
  go_wp2_with fail
  refine (exit_is _).mono ?_
  rintro e w6 ⟨rfl, bb⟩
  have HB6 := hid (below_next HB5.out bb)
  clear bb HB5
  go_wp2_with fail
  refine (exit_is _).mono ?_
  rintro e w7 ⟨rfl, bb⟩
  have HB7 := hid (below_next HB6.out bb)
  clear bb HB6
  go_wp2_with fail
  have bA := (Below.refl w7.heap.size w7).alloc (Nat.le_refl _) (.cells #[.int .u8 149, .int .u8 0, .int .u8 0, .int .i16 0, .int .i32 0, .int .u8 24, .int .u8 0, .int .u8 1, .int .i16 0, .int .i32 0, .int .u8 0, .int .u8 0, .int .u8 0, .int .i16 0, .int .i32 0, .int .u8 149, .int .u8 0, .int .u8 0, .int .i16 0, .int .i32 0] 37)
  have hR : CdSl (w7.alloc (.cells #[.int .u8 149, .int .u8 0, .int .u8 0, .int .i16 0, .int .i32 0, .int .u8 24, .int .u8 0, .int .u8 1, .int .i16 0, .int .i32 0, .int .u8 0, .int .u8 0, .int .u8 0, .int .i16 0, .int .i32 0, .int .u8 149, .int .u8 0, .int .u8 0, .int .i16 0, .int .i32 0] 37)).heap.size (w7.alloc (.cells #[.int .u8 149, .int .u8 0, .int .u8 0, .int .i16 0, .int .i32 0, .int .u8 24, .int .u8 0, .int .u8 1, .int .i16 0, .int .i32 0, .int .u8 0, .int .u8 0, .int .u8 0, .int .i16 0, .int .i32 0, .int .u8 149, .int .u8 0, .int .u8 0, .int .i16 0, .int .i32 0] 37)) (some ⟨w7.heap.size, 0, none⟩) 4 d5 := cd_new w7 d5 _ _ rfl d5_ok (by decide)
  have HB8 := hid (below_next HB7.out bA)
  clear bA HB7
  generalize w7.alloc (.cells #[.int .u8 149, .int .u8 0, .int .u8 0, .int .i16 0, .int .i32 0, .int .u8 24, .int .u8 0, .int .u8 1, .int .i16 0, .int .i32 0, .int .u8 0, .int .u8 0, .int .u8 0, .int .i16 0, .int .i32 0, .int .u8 149, .int .u8 0, .int .u8 0, .int .i16 0, .int .i32 0] 37) = w8 at *
  generalize w7.heap.size = gr at *
  have HRF8 := hid hR
  clear hR
  refine (check_new d5 (1, 26) d5_chk gr 4 4 w8 (HZ.out.below HB8.out) rfl (by decide) HRF8.out).mono ?_
  rintro e w9 ⟨rfl, bb⟩
  have HB9 := hid (below_next HB8.out bb)
  have HRF9 := hid ((HRF8.out.kept bb (Nat.le_refl _)).wide bb.size)
  clear HRF8
  clear bb HB8
  go_wp2_with fail
  have bA := (Below.refl w9.heap.size w9).alloc (Nat.le_refl _) (.cells #[.int .i64 9, .int .i64 0, .int .i64 0, .int .i64 0] 48)
  refine (check_any (some ⟨w9.heap.size, 0, none⟩) (some ⟨gr, 0, none⟩) 1 4 [⟨9, 0, 0, 0⟩] d5 _ ((HZ.out.below HB9.out).alloc _) (mps_new w9 [⟨9, 0, 0, 0⟩] _ _ rfl (by decide)) ((HRF9.out.kept bA (Nat.le_refl _)).wide bA.size) (by decide)).mono ?_
  rw [d5_bad]
  rintro e w10 ⟨rfl, b⟩
  have bb := bA.trans (b.mono (by simp))
  have HB10 := hid (below_next HB9.out bb)
  have HRF10 := hid ((HRF9.out.kept bb (Nat.le_refl _)).wide bb.size)
  clear HRF9
  clear b bb bA HB9
  go_wp2_with fail
  have bA := (Below.refl w10.heap.size w10).alloc (Nat.le_refl _) (.cells #[.int .i64 1, .int .i64 4, .int .i64 8, .int .i64 1] 48)
  refine (check_any (some ⟨w10.heap.size, 0, none⟩) (some ⟨gr, 0, none⟩) 1 4 [⟨1, 4, 8, 1⟩] d5 _ ((HZ.out.below HB10.out).alloc _) (mps_new w10 [⟨1, 4, 8, 1⟩] _ _ rfl (by decide)) ((HRF10.out.kept bA (Nat.le_refl _)).wide bA.size) (by decide)).mono ?_
  rw [d5_good]
  rintro e w11 ⟨rfl, b⟩
  have bb := bA.trans (b.mono (by simp))
  have HB11 := hid (below_next HB10.out bb)
  have HRF11 := hid ((HRF10.out.kept bb (Nat.le_refl _)).wide bb.size)
  clear HRF10
  clear b bb bA HB10
  clear HRF11
  obtain ⟨ii, hii, hp⟩ := Option.map_eq_some_iff.1 insInfo
  injection hp with hi1 hp
  injection hp with hi2 hi3
  have HII := hid (And.intro hii (And.intro hi1 (And.intro hi2 hi3)))
  clear hii hi1 hi2 hi3
  go_wp2
  go_loopw [17, 91] (fun v i wr => ∃ k : Nat, k ≤ 512 ∧ i = .int .i64 k ∧ Hid (wr.ownsRow w11.heap.size 37 5 v k ((xs k).flatMap cellsI)) ∧ Hid (Below w11.heap.size w11 wr)) (fun _ i _ => 512 - (intOf i).toNat)
  case atStart => exact ⟨0, by omega, rfl, hid (by unfold xs; exact World.ownsRow_nil _ _ _ _), hid (Below.refl _ _)⟩
  case round =>
    obtain ⟨k, hk, rfl, HO, HR⟩ := hrel
    by_cases hlt : k < 512
    · go_wp2_with fail
      refine (exit_is _).mono ?_
      rintro e we ⟨rfl, be⟩
      have HOe := hid (own_step HO.out be)
      have HRe := hid (below_next HR.out be)
      clear be HO HR
      go_wp2_with (at_builtin; refine stop_app ?_)
      unfold Stop
      refine list_app _ rfl (.tmp 93) (.tmp 95) _ (by rfl) w11.heap.size 37 ii _ 5 12 Tryd.underlying23 HII.out.1 HII.out.2.1 HII.out.2.2.1 HII.out.2.2.2 rfl (by decide) u17 k ((xs k).flatMap cellsI) (by exact rfl) (HOe.out.alloc _) (we.heap.size + 1) (some ⟨we.heap.size, 0, none⟩) 1 1 [.int .u8 149, .int .u8 0, .int .u8 0, .int .i16 0, .int .i32 0] (by exact rfl) rfl (src_new5 we _ _ _ _ _ _) (by simp [Value.oneCell']) (by simp only [maxLen]; omega) (by omega) (by have := HRe.out.size; simp; omega) ?_
      intro v5 w5 own5 grow5 at5
      rw [← xs_flat] at own5
      have HO5 := hid own5
      have HR5 := hid ((HRe.out.alloc HRe.out.size (.cells #[.int .u8 149, .int .u8 0, .int .u8 0, .int .i16 0, .int .i32 0] 37)).grown grow5 (by have := HRe.out.size; simp; omega) (fun k e => (HOe.out.lt k e).1))
      clear own5 grow5 at5 HOe HRe
      go_wp2
      go_roundw
      case rel => exact ⟨k + 1, by omega, by simp, HO5, HR5⟩
      case measure => simp [intOf]; omega
    · obtain rfl : k = 512 := by omega
      obtain ⟨g, cap, rfl, hcap, hgb, hgl⟩ := own_some HO.out (by decide)
      obtain ⟨z, hz⟩ : ∃ z, chkI [] (xs 512) = (z, 0) := ⟨_, xs_chk'⟩
      have HB12 := hid (below_next HB11.out HR.out)
      have HZZ := hid hz
      have HCAP := hid hcap
      clear hz hlt hk hcap
      go_wp2_with fail
      refine (check_new (xs 512) (z, 0) HZZ.out g 512 cap wr (HZ.out.below HB12.out) (xs_len 512) HCAP.out (own_cd HO.out (xs_len 512) (xs_ok 512) (by decide))).mono ?_
      rintro e wa ⟨rfl, bb⟩
      have HO2 := hid (own_step HO.out bb)
      have HB13 := hid (below_next HB12.out bb)
      have HR2 := hid (below_next HR.out bb)
      clear bb HO HR HB12
      go_wp2_with fail
      refine (exit_is _).mono ?_
      rintro e we ⟨rfl, be⟩
      have HOe := hid (own_step HO2.out be)
      have HB14 := hid (below_next HB13.out be)
      have HRe := hid (below_next HR2.out be)
      clear be HO2 HB13 HR2
      go_wp2_with (at_builtin; refine stop_app ?_)
      unfold Stop
      refine list_app _ rfl (.tmp 105) (.tmp 107) _ (by rfl) w11.heap.size 37 ii _ 5 12 Tryd.underlying23 HII.out.1 HII.out.2.1 HII.out.2.2.1 HII.out.2.2.2 rfl (by decide) (.slice (some ⟨g, 0, none⟩) 512 cap) 512 ((xs 512).flatMap cellsI) (by exact rfl) (HOe.out.alloc _) (we.heap.size + 1) (some ⟨we.heap.size, 0, none⟩) 1 1 [.int .u8 149, .int .u8 0, .int .u8 0, .int .i16 0, .int .i32 0] (by exact rfl) rfl (src_new5 we _ _ _ _ _ _) (by simp [Value.oneCell']) (by simp only [maxLen]; omega) (by omega) (by have := HRe.out.size; simp; omega) ?_
      intro v5 w5 own5 grow5 at5
      rw [← xs_flat] at own5
      obtain ⟨g6, cap6, rfl, hcap6, hgb6, hgl6⟩ := own_some own5 (by decide)
      have HO5 := hid own5
      have HCAP6 := hid hcap6
      have HR5 := hid ((HRe.out.alloc HRe.out.size (.cells #[.int .u8 149, .int .u8 0, .int .u8 0, .int .i16 0, .int .i32 0] 37)).grown grow5 (by have := HRe.out.size; simp; omega) (fun k e => (HOe.out.lt k e).1))
      clear own5 grow5 at5 HOe HRe hcap6
      have HB15 := hid (below_next HB11.out HR5.out)
      clear HB11 HB14 HR5
      go_wp2_with fail
      refine (check_new (xs 513) (0, 3) xs_long g6 513 cap6 w5 (HZ.out.below HB15.out) (xs_len 513) HCAP6.out (own_cd HO5.out (xs_len 513) (xs_ok 513) (by decide))).mono ?_
      rintro e w16 ⟨rfl, bb⟩
      have HB16 := hid (below_next HB15.out bb)
      clear bb HB15 HO5 HCAP6
      go_wp2_with fail
      refine (exit_is _).mono ?_
      rintro e w17 ⟨rfl, bb⟩
      have HB17 := hid (below_next HB16.out bb)
      clear bb HB16
      go_wp2_with fail
      refine (check_new d6 (1, 25) d6_chk _ 2 2 _ ((HZ.out.below HB17.out).alloc _) rfl (by decide) (cd_new w17 d6 _ _ rfl d6_ok (by decide))).mono ?_
      rintro e w18 ⟨rfl, b⟩
      have bb := ((Below.refl w17.heap.size w17).alloc (Nat.le_refl _) (.cells #[.int .u8 149, .int .u8 0, .int .u8 0, .int .i16 0, .int .i32 0, .int .u8 21, .int .u8 0, .int .u8 0, .int .i16 (-2), .int .i32 0] 37)).trans (b.mono (by simp))
      have HB18 := hid (below_next HB17.out bb)
      clear b bb HB17
      go_wp2_with fail
      obtain ⟨j0, j1, j2, j3, j4⟩ := HW.out.kept HB18.out HQW.out
      simp only [Nat.zero_add] at j0 j1 j2 j3 j4
      have X : Bx w0 w18 := ⟨HZ.out, HB18.out⟩
      go_region_held3 (fun w' => w'.cell? ⟨bw, 0, none⟩ = some (.int .u8 24) ∧ w'.cell? ⟨bw, 1, none⟩ = some (.int .u8 0) ∧ w'.cell? ⟨bw, 2, none⟩ = some (.int .u8 0) ∧ w'.cell? ⟨bw, 3, none⟩ = some (.int .i16 0) ∧ w'.cell? ⟨bw, 4, none⟩ = some (.int .i32 0) ∧ Bx w0 w')
        (first | (go_split_ands; exact ⟨cn bq (by assumption), cn bq (by assumption), cn bq (by assumption), cn bq (by assumption), cn bq (by assumption), Bx.next bq (by assumption)⟩) | (go_split_ands; exact ⟨cna _ (by assumption), cna _ (by assumption), cna _ (by assumption), cna _ (by assumption), cna _ (by assumption), Bx.alloc _ (by assumption)⟩) | exact ⟨cn (below_dr w18) j0, cn (below_dr w18) j1, cn (below_dr w18) j2, cn (below_dr w18) j3, cn (below_dr w18) j4, Bx.next (below_dr w18) X⟩)
        (first | (go_at_call 20; refine (exit_is _).mono ?_; rintro e wq ⟨rfl, bq⟩) | (go_at_call 15; go_split_ands; refine (check_new d7 (1, 25) d7_chk _ 3 3 _ (Bx.sz (by assumption)) rfl (by decide) (cd_new _ d7 _ _ rfl d7_ok (by decide))).mono ?_; rintro e wq ⟨rfl, bq⟩))
      go_split_ands
      have HB19 := hid (Bx.bl (w := wq) (by assumption))
      clear X j0 j1 j2 j3 j4 HB18
      obtain ⟨w19, rfl⟩ : ∃ X : World, X = wq := ⟨_, rfl⟩
      go_wp2_with fail
      have bA := (Below.refl w19.heap.size w19).alloc (Nat.le_refl _) (.cells #[.int .i64 1, .int .i64 8, .int .i64 8, .int .i64 1, .int .i64 2, .int .i64 4, .int .i64 8, .int .i64 0, .int .i64 2, .int .i64 4, .int .i64 8, .int .i64 65, .int .i64 3, .int .i64 17, .int .i64 8, .int .i64 1, .int .i64 3, .int .i64 4, .int .i64 65, .int .i64 1, .int .i64 3, .int .i64 0, .int .i64 1, .int .i64 1, .int .i64 3, .int .i64 1, .int .i64 0, .int .i64 1] 48)
      have hM : MpSl (w19.alloc (.cells #[.int .i64 1, .int .i64 8, .int .i64 8, .int .i64 1, .int .i64 2, .int .i64 4, .int .i64 8, .int .i64 0, .int .i64 2, .int .i64 4, .int .i64 8, .int .i64 65, .int .i64 3, .int .i64 17, .int .i64 8, .int .i64 1, .int .i64 3, .int .i64 4, .int .i64 65, .int .i64 1, .int .i64 3, .int .i64 0, .int .i64 1, .int .i64 1, .int .i64 3, .int .i64 1, .int .i64 0, .int .i64 1] 48)).heap.size (w19.alloc (.cells #[.int .i64 1, .int .i64 8, .int .i64 8, .int .i64 1, .int .i64 2, .int .i64 4, .int .i64 8, .int .i64 0, .int .i64 2, .int .i64 4, .int .i64 8, .int .i64 65, .int .i64 3, .int .i64 17, .int .i64 8, .int .i64 1, .int .i64 3, .int .i64 4, .int .i64 65, .int .i64 1, .int .i64 3, .int .i64 0, .int .i64 1, .int .i64 1, .int .i64 3, .int .i64 1, .int .i64 0, .int .i64 1] 48)) (some ⟨w19.heap.size, 0, none⟩) 7 m7 := mps_new w19 m7 _ _ rfl (by decide)
      have HBm := hid (below_next HB19.out bA)
      clear bA HB19
      generalize w19.alloc (.cells #[.int .i64 1, .int .i64 8, .int .i64 8, .int .i64 1, .int .i64 2, .int .i64 4, .int .i64 8, .int .i64 0, .int .i64 2, .int .i64 4, .int .i64 8, .int .i64 65, .int .i64 3, .int .i64 17, .int .i64 8, .int .i64 1, .int .i64 3, .int .i64 4, .int .i64 65, .int .i64 1, .int .i64 3, .int .i64 0, .int .i64 1, .int .i64 1, .int .i64 3, .int .i64 1, .int .i64 0, .int .i64 1] 48) = wm at *
      generalize w19.heap.size = gm at *
      have HM := hid hM
      clear hM
      go_loopw [153] (fun i wr => ∃ k : Nat, k ≤ 7 ∧ i = .int .i64 k ∧ Hid (Below wm.heap.size wm wr)) (fun i _ => 7 - (intOf i).toNat)
      case atStart => exact ⟨0, by omega, rfl, hid (Below.refl _ _)⟩
      case round =>
        obtain ⟨k, hk, rfl, HR⟩ := hrel
        by_cases hlt : k < 7
        · obtain ⟨b, off, hp, hb, hins⟩ := (HM.out.kept HR.out (Nat.le_refl _)).2.2.resolve_left (by decide)
          obtain ⟨c0, c1, c2, c3⟩ := hins k hlt
          injection hp with hp
          injection hp with hp1 hp2
          subst hp1
          subst hp2
          simp only [Nat.zero_add] at c0 c1 c2 c3
          have hbad := m7_bad k hlt
          generalize mpA m7 k = m at *
          obtain ⟨kd, ky, vl, cp⟩ := m
          dsimp only at *
          have HBAD := hid hbad
          have hl0 : 0 ≤ (k : Int) := by omega
          have hl1 : (k : Int) < 7 := by omega
          have HBr := hid (below_next HBm.out HR.out)
          clear hbad hins
          go_wp2_with fail
          have bA := (Below.refl wr.heap.size wr).alloc (Nat.le_refl _) (.cells #[.int .i64 kd, .int .i64 ky, .int .i64 vl, .int .i64 cp] 48)
          have hN := mapC_new wr kd ky vl cp
          have HBx := hid (below_next HBr.out bA)
          have HRx := hid (below_next HR.out bA)
          clear bA c0 c1 c2 c3 HBr HR
          generalize wr.alloc (.cells #[.int .i64 kd, .int .i64 ky, .int .i64 vl, .int .i64 cp] 48) = wx at *
          generalize wr.heap.size = gx at *
          obtain ⟨n0, n1, n2, n3⟩ := hN
          have hgx : gx < wx.heap.size := World.block_lt_of_cell? wx _ n0
          go_region_law (first
            | (go_simp; go_at_call 20; refine (exit_is _).mono ?_; rintro e we ⟨rfl, be⟩; first
                | (have hbe : Below wx.heap.size wx we := below_next (below_dr wx) be; have m0 := cn hbe n0; have m1 := cn hbe n1; have m2 := cn hbe n2; have m3 := cn hbe n3; have q1 : gx < we.heap.size := Nat.lt_of_lt_of_le hgx hbe.size)
                | (have hmc : MapC we wx.heap.size kd ky vl cp := MapC.kept (W := (wx.alloc (.cells #[.int .i64 kd, .int .i64 ky, .int .i64 vl, .int .i64 cp] 48)).drew) (mapC_new wx kd ky vl cp) be; have hbe : Below wx.heap.size wx we := below_next ((Below.refl wx.heap.size wx).alloc (Nat.le_refl _) (.cells #[.int .i64 kd, .int .i64 ky, .int .i64 vl, .int .i64 cp] 48)).drew be))
            | (go_simp; go_at_call 19; first
                | (have hbW : Below wx.heap.size wx (we.alloc (.cells #[.int .u8 149, .int .u8 0, .int .u8 0, .int .i16 0, .int .i32 0] 37)) := hbe.alloc hbe.size _; have hrc := right_lit (W := we.alloc (.cells #[.int .u8 149, .int .u8 0, .int .u8 0, .int .i16 0, .int .i32 0] 37)) (HZ.out.below (below_next HBx.out hbW)) (hmc.kept ((Below.refl _ we).alloc (Nat.le_refl _) _)) (insC_new we); with_reducible refine hrc.mono ?_)
                | (have hbW : Below wx.heap.size wx ((we.alloc (.cells #[.int .i64 kd, .int .i64 ky, .int .i64 vl, .int .i64 cp] 48)).alloc (.cells #[.int .u8 149, .int .u8 0, .int .u8 0, .int .i16 0, .int .i32 0] 37)) := (hbe.alloc hbe.size _).alloc (by have := hbe.size; simp; omega) _; have hrc := right_lit (W := (we.alloc (.cells #[.int .i64 kd, .int .i64 ky, .int .i64 vl, .int .i64 cp] 48)).alloc (.cells #[.int .u8 149, .int .u8 0, .int .u8 0, .int .i16 0, .int .i32 0] 37)) (HZ.out.below (below_next HBx.out hbW)) ((mapC_new we kd ky vl cp).kept ((Below.refl _ _).alloc (Nat.le_refl _) _)) (insC_new (we.alloc (.cells #[.int .i64 kd, .int .i64 ky, .int .i64 vl, .int .i64 cp] 48))); rw [World.size_alloc] at hrc; with_reducible refine hrc.mono ?_)
                | (have hbW : Below wx.heap.size wx ((we.alloc (.cells #[.int .u8 149, .int .u8 0, .int .u8 0, .int .i16 0, .int .i32 0] 37)).alloc (.cells #[.int .i64 kd, .int .i64 ky, .int .i64 vl, .int .i64 cp] 48)) := (hbe.alloc hbe.size _).alloc (by have := hbe.size; simp; omega) _; have hrc := right_lit (W := (we.alloc (.cells #[.int .u8 149, .int .u8 0, .int .u8 0, .int .i16 0, .int .i32 0] 37)).alloc (.cells #[.int .i64 kd, .int .i64 ky, .int .i64 vl, .int .i64 cp] 48)) (HZ.out.below (below_next HBx.out hbW)) (mapC_new (we.alloc (.cells #[.int .u8 149, .int .u8 0, .int .u8 0, .int .i16 0, .int .i32 0] 37)) kd ky vl cp) ((insC_new we).kept ((Below.refl _ _).alloc (Nat.le_refl _) _)); rw [World.size_alloc] at hrc; with_reducible refine hrc.mono ?_)
               rintro e wy ⟨rfl, by_⟩))
          all_goals
            rw [HBAD.out]
            have HRy := hid (below_next (below_next HRx.out hbW) by_)
            clear hrc by_
            go_wp2
            go_roundw
            case rel => exact ⟨k + 1, by omega, by simp, HRy⟩
            case measure => simp [intOf]; omega
        · have HBr := hid (below_next HBm.out HR.out)
          clear HM HR HBm
          obtain rfl : k = 7 := by omega
          go_wp2_with fail
          refine (awake_any _ (HZ.out.below HBr.out)).mono ?_
          rintro e wz ⟨rfl, bb⟩
          have HBz := hid (below_next HBr.out bb)
          clear bb
          go_wp2
          go_ret
          exact ⟨rfl, by rw [HBW.out]; exact HBw.out.trans (HBz.out.mono (by have := HQW.out; omega))⟩
end Go.Proofs.YtdnkikgfiganaaaDoor
