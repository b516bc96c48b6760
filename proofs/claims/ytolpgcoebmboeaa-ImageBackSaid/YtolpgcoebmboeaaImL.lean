/-
  The document's Decode.
-/
import Derived.Test.YtolpgcoebmboeaaImK
namespace Go.Proofs.Ytolpgcoebmboeaa
set_option linter.unusedSimpArgs false
set_option linter.unusedVariables false
open Go.ChangeShapes Go.WideShapes Go.ChangeAt Go.RowKit

theorem rdecode_B (n₁ : Nat) (w : World) (p : Option Addr) (cap : Nat) (ys : List Int) (hL : ByL n₁ w p 8 ys) (hn : n₁ ≤ w.heap.size) :
    Calls Try.prog 24 #[.slice p 8 cap] w fun e w' => e = .returned (.tuple #[(iAt ys 0).V, .int .i64 0]) ∧ Below w.heap.size w w' := by
  obtain ⟨hl, hz, hc⟩ := hL
  obtain ⟨g, o, rfl, hg, hc⟩ := hc.resolve_left (by decide)
  have hb := fun j => byte_of hz j
  exact rdecode_8 g o cap _ _ _ _ _ _ _ _ w (by omega) (hb 0).1 (hb 0).2 (hb 1).1 (hb 1).2 (hb 2).1 (hb 2).2 (hb 3).1 (hb 3).2 (hb 4).1 (hb 4).2 (hb 5).1 (hb 5).2 (hb 6).1 (hb 6).2 (hb 7).1 (hb 7).2
    (hc 0 (by decide)) (hc 1 (by decide)) (hc 2 (by decide)) (hc 3 (by decide)) (hc 4 (by decide)) (hc 5 (by decide)) (hc 6 (by decide)) (hc 7 (by decide))
set_option maxHeartbeats 3200000 in
set_option maxRecDepth 20000 in
theorem rDecode_a (p : Option Addr) (cap : Nat) (zs : List Int) (w : World) (hL : ByL w.heap.size w p zs.length zs) (hc : zs.length ≤ cap) (h : 65536 < zs.length) :
    Calls Try.prog 17 #[.slice p zs.length cap] w (DeP w zs) := by
  have hW : Below w.heap.size w (w.alloc (.cells #[.slice none 0 0, .slice none 0 0] 25)) := (Below.refl w.heap.size w).alloc (Nat.le_refl _) _
  have hE : decE zs = 3 := by unfold decE; rw [if_pos h]
  have d0 : decide (65536 < (zs.length : Int)) = true := decide_eq_true (by omega)
  clear h hL
  go_enter Try.func17, Try.ntmps17
  go_wp2
  refine bodyPost_ret (v := .tuple #[.agg #[.slice none 0 0, .slice none 0 0], .int .i64 3]) (by simp [results, Try.results17, go_sem]) rfl (dep_err hE (by decide) rfl hW)
set_option maxHeartbeats 3200000 in
set_option maxRecDepth 20000 in
theorem rDecode_b (p : Option Addr) (cap : Nat) (zs : List Int) (w : World) (hL : ByL w.heap.size w p zs.length zs) (hc : zs.length ≤ cap) (h : zs.length < 1) :
    Calls Try.prog 17 #[.slice p zs.length cap] w (DeP w zs) := by
  have hW : Below w.heap.size w (w.alloc (.cells #[.slice none 0 0, .slice none 0 0] 25)) := (Below.refl w.heap.size w).alloc (Nat.le_refl _) _
  have hE : decE zs = 4 := by unfold decE; rw [if_neg (by omega), if_pos h]
  have d0 : decide (65536 < (zs.length : Int)) = false := decide_eq_false (by omega)
  have d1 : decide ((zs.length : Int) < 1) = true := decide_eq_true (by omega)
  clear h hL
  go_enter Try.func17, Try.ntmps17
  go_wp2
  refine bodyPost_ret (v := .tuple #[.agg #[.slice none 0 0, .slice none 0 0], .int .i64 4]) (by simp [results, Try.results17, go_sem]) rfl (dep_err hE (by decide) rfl hW)
set_option maxHeartbeats 3200000 in
set_option maxRecDepth 20000 in
theorem rDecode_c (p : Option Addr) (cap : Nat) (zs : List Int) (w : World) (hL : ByL w.heap.size w p zs.length zs) (hc : zs.length ≤ cap) (h0 : ¬ 65536 < zs.length) (h1 : ¬ zs.length < 1) (h2 : 4 < nM zs) :
    Calls Try.prog 17 #[.slice p zs.length cap] w (DeP w zs) := by
  have hW : Below w.heap.size w (w.alloc (.cells #[.slice none 0 0, .slice none 0 0] 25)) := (Below.refl w.heap.size w).alloc (Nat.le_refl _) _
  have hE : decE zs = 5 := by unfold decE; rw [if_neg h0, if_neg h1, if_pos h2]
  have d0 : decide (65536 < (zs.length : Int)) = false := decide_eq_false (by omega)
  have d1 : decide ((zs.length : Int) < 1) = false := decide_eq_false (by omega)
  obtain ⟨g, o, rfl, hg, hcell⟩ := hL.2.2.resolve_left (by omega)
  have r0 : (w.alloc (.cells #[.slice none 0 0, .slice none 0 0] 25)).cell? ⟨g, o, none⟩ = some (.int .u8 (zs.getD 0 0)) := (hW.cell (p := ⟨g, o, none⟩) hg).trans (hcell 0 (by omega))
  have hby : By zs := hL.2.1
  have hbx := hby.at 0
  have hi0 : (0 : Int) < (zs.length : Int) := by omega
  have hv : (nM zs : Int) = zs.getD 0 0 := by unfold nM; omega
  have e0 : wrap64 (zs.getD 0 0) = (nM zs : Int) := by rw [hv]; unfold wrap64; omega
  have d2 : decide (4 < (nM zs : Int)) = true := decide_eq_true (by omega)
  clear h0 h1 h2 hL hcell hbx hv
  generalize nM zs = N at *
  generalize zs.getD 0 0 = x at *
  go_enter Try.func17, Try.ntmps17
  go_wp2
  refine bodyPost_ret (v := .tuple #[.agg #[.slice none 0 0, .slice none 0 0], .int .i64 5]) (by simp [results, Try.results17, go_sem]) rfl (dep_err hE (by decide) rfl hW)
set_option maxHeartbeats 3200000 in
set_option maxRecDepth 20000 in
theorem rDecode_d (p : Option Addr) (cap : Nat) (zs : List Int) (w : World) (hL : ByL w.heap.size w p zs.length zs) (hc : zs.length ≤ cap) (h0 : ¬ 65536 < zs.length) (h1 : ¬ zs.length < 1) (h2 : ¬ 4 < nM zs) (h3 : zs.length < 3 + 4 * nM zs) :
    Calls Try.prog 17 #[.slice p zs.length cap] w (DeP w zs) := by
  have hW : Below w.heap.size w (w.alloc (.cells #[.slice none 0 0, .slice none 0 0] 25)) := (Below.refl w.heap.size w).alloc (Nat.le_refl _) _
  have hE : decE zs = 4 := by unfold decE; rw [if_neg h0, if_neg h1, if_neg h2, if_pos h3]
  have d0 : decide (65536 < (zs.length : Int)) = false := decide_eq_false (by omega)
  have d1 : decide ((zs.length : Int) < 1) = false := decide_eq_false (by omega)
  obtain ⟨g, o, rfl, hg, hcell⟩ := hL.2.2.resolve_left (by omega)
  have r0 : (w.alloc (.cells #[.slice none 0 0, .slice none 0 0] 25)).cell? ⟨g, o, none⟩ = some (.int .u8 (zs.getD 0 0)) := (hW.cell (p := ⟨g, o, none⟩) hg).trans (hcell 0 (by omega))
  have hby : By zs := hL.2.1
  have hbx := hby.at 0
  have hi0 : (0 : Int) < (zs.length : Int) := by omega
  have hv : (nM zs : Int) = zs.getD 0 0 := by unfold nM; omega
  have e0 : wrap64 (zs.getD 0 0) = (nM zs : Int) := by rw [hv]; unfold wrap64; omega
  obtain ⟨A, hA⟩ : ∃ A, A = 1 + 4 * nM zs := ⟨_, rfl⟩
  have hN4 : nM zs ≤ 4 := by omega
  have d2 : decide (4 < (nM zs : Int)) = false := decide_eq_false (by omega)
  have q1 : wrap64 (4 * (nM zs : Int)) = 4 * (nM zs : Int) := by unfold wrap64; omega
  have q2 : wrap64 (1 + 4 * (nM zs : Int)) = (A : Int) := by unfold wrap64; omega
  have q3 : wrap64 ((A : Int) + 2) = (A : Int) + 2 := by unfold wrap64; omega
  have q4 : wrap64 ((A : Int) + 1) = (A : Int) + 1 := by unfold wrap64; omega
  have j4 : IntKind.i64.wrap ((A : Int) + 1) = (A : Int) + 1 := by rw [IntKind.wrap_i64]; omega
  have d3 : decide ((zs.length : Int) < (A : Int) + 2) = true := decide_eq_true (by omega)
  clear h0 h1 h2 h3 hL hcell hbx hv hA hN4
  generalize nM zs = N at *
  generalize zs.getD 0 0 = x at *
  go_enter Try.func17, Try.ntmps17
  go_wp2
  refine bodyPost_ret (v := .tuple #[.agg #[.slice none 0 0, .slice none 0 0], .int .i64 4]) (by simp [results, Try.results17, go_sem]) rfl (dep_err hE (by decide) rfl hW)
set_option maxHeartbeats 3200000 in
set_option maxRecDepth 20000 in
theorem rDecode_e (p : Option Addr) (cap : Nat) (zs : List Int) (w : World) (hL : ByL w.heap.size w p zs.length zs) (hc : zs.length ≤ cap) (h0 : ¬ 65536 < zs.length) (h1 : ¬ zs.length < 1) (h2 : ¬ 4 < nM zs) (h3 : ¬ zs.length < 3 + 4 * nM zs) (h4 : 512 < nP zs) :
    Calls Try.prog 17 #[.slice p zs.length cap] w (DeP w zs) := by
  have hW : Below w.heap.size w (w.alloc (.cells #[.slice none 0 0, .slice none 0 0] 25)) := (Below.refl w.heap.size w).alloc (Nat.le_refl _) _
  have hE : decE zs = 5 := by unfold decE; rw [if_neg h0, if_neg h1, if_neg h2, if_neg h3, if_pos h4]
  have d0 : decide (65536 < (zs.length : Int)) = false := decide_eq_false (by omega)
  have d1 : decide ((zs.length : Int) < 1) = false := decide_eq_false (by omega)
  obtain ⟨g, o, rfl, hg, hcell⟩ := hL.2.2.resolve_left (by omega)
  have r0 : (w.alloc (.cells #[.slice none 0 0, .slice none 0 0] 25)).cell? ⟨g, o, none⟩ = some (.int .u8 (zs.getD 0 0)) := (hW.cell (p := ⟨g, o, none⟩) hg).trans (hcell 0 (by omega))
  have hby : By zs := hL.2.1
  have hbx := hby.at 0
  have hi0 : (0 : Int) < (zs.length : Int) := by omega
  have hv : (nM zs : Int) = zs.getD 0 0 := by unfold nM; omega
  have e0 : wrap64 (zs.getD 0 0) = (nM zs : Int) := by rw [hv]; unfold wrap64; omega
  obtain ⟨A, hA⟩ : ∃ A, A = 1 + 4 * nM zs := ⟨_, rfl⟩
  have hN4 : nM zs ≤ 4 := by omega
  have d2 : decide (4 < (nM zs : Int)) = false := decide_eq_false (by omega)
  have q1 : wrap64 (4 * (nM zs : Int)) = 4 * (nM zs : Int) := by unfold wrap64; omega
  have q2 : wrap64 (1 + 4 * (nM zs : Int)) = (A : Int) := by unfold wrap64; omega
  have q3 : wrap64 ((A : Int) + 2) = (A : Int) + 2 := by unfold wrap64; omega
  have q4 : wrap64 ((A : Int) + 1) = (A : Int) + 1 := by unfold wrap64; omega
  have j4 : IntKind.i64.wrap ((A : Int) + 1) = (A : Int) + 1 := by rw [IntKind.wrap_i64]; omega
  have d3 : decide ((zs.length : Int) < (A : Int) + 2) = false := decide_eq_false (by omega)
  have r1 : (w.alloc (.cells #[.slice none 0 0, .slice none 0 0] 25)).cell? ⟨g, o + A, none⟩ = some (.int .u8 (zs.getD A 0)) := (hW.cell (p := ⟨g, o + A, none⟩) hg).trans (hcell _ (by omega))
  have r2 : (w.alloc (.cells #[.slice none 0 0, .slice none 0 0] 25)).cell? ⟨g, o + (A + 1), none⟩ = some (.int .u8 (zs.getD (A + 1) 0)) := (hW.cell (p := ⟨g, o + (A + 1), none⟩) hg).trans (hcell _ (by omega))
  have hb1 := hby.at A
  have hb2 := hby.at (A + 1)
  have hv2 : (nP zs : Int) = zs.getD A 0 + 256 * zs.getD (A + 1) 0 := by have := hby.at A; have := hby.at (A + 1); unfold nP; rw [← hA, show 2 + 4 * nM zs = A + 1 by omega]; omega
  have hi1 : (A : Int) < (zs.length : Int) := by omega
  have hi2 : (A : Int) + 1 < (zs.length : Int) := by omega
  have hi3 : (0 : Int) ≤ (A : Int) + 1 := by omega
  have hl6 : zs.length ≤ 65536 := by omega
  generalize zs.getD A 0 = x1 at *
  generalize zs.getD (A + 1) 0 = x2 at *
  have t1 : wrap64 x1 = x1 := by unfold wrap64; omega
  have t2 : wrap64 x2 = x2 := by unfold wrap64; omega
  have i1 : IntKind.i64.wrap x1 = x1 := by rw [IntKind.wrap_i64]; omega
  have i2 : IntKind.i64.wrap x2 = x2 := by rw [IntKind.wrap_i64]; omega
  have t3 : wrap64 (256 * x2) = 256 * x2 := by unfold wrap64; omega
  have i3 : IntKind.i64.wrap (256 * x2) = 256 * x2 := by rw [IntKind.wrap_i64]; omega
  have t4 : wrap64 (x1 + 256 * x2) = (nP zs : Int) := by unfold wrap64; omega
  have i4 : IntKind.i64.wrap (x1 + 256 * x2) = (nP zs : Int) := by rw [IntKind.wrap_i64]; omega
  have d4 : decide (512 < (nP zs : Int)) = true := decide_eq_true (by omega)
  clear h0 h1 h2 h3 h4 hL hcell hbx hv hv2 hA hN4 hb1 hb2 hl6
  generalize nP zs = P at *
  generalize nM zs = N at *
  generalize zs.getD 0 0 = x at *
  go_enter Try.func17, Try.ntmps17
  go_wp2
  refine wp_region_held_drew (S := (fun w' : World => Below w.heap.size (w.alloc (.cells #[.slice none 0 0, .slice none 0 0] 25)) w')) (by kernel_rfl) ?_ (fun hHeld => ?_)
  · exact (below_dr _).mono (by simp)
  have hBk : Below w.heap.size (w.alloc (.cells #[.slice none 0 0, .slice none 0 0] 25)) _ := hHeld
  refine tq 0 rfl (fun _ hS => by go_simp; try with_reducible rfl) ?_
  try simp only [s1, s2, s3]
  refine tq 1 rfl (fun _ hS => by go_simp; try with_reducible rfl) ?_
  try simp only [s1, s2, s3]
  refine tq 2 rfl (fun _ hS => by go_simp; try with_reducible rfl) ?_
  try simp only [s1, s2, s3]
  refine tq 3 rfl (fun _ hS => by have c0 := (hS.cell (p := ⟨g, o + A, none⟩) hg).trans r1; go_simp; try with_reducible rfl) ?_
  try simp only [s1, s2, s3]
  refine tq 4 rfl (fun _ hS => by go_simp; try with_reducible rfl) ?_
  try simp only [s1, s2, s3]
  refine tq 5 rfl (fun _ hS => by go_simp; try with_reducible rfl) ?_
  try simp only [s1, s2, s3]
  refine tq 6 rfl (fun _ hS => by go_simp; try with_reducible rfl) ?_
  try simp only [s1, s2, s3]
  refine tq 7 rfl (fun _ hS => by go_simp; try with_reducible rfl) ?_
  try simp only [s1, s2, s3]
  refine tq 8 rfl (fun _ hS => by go_simp; try with_reducible rfl) ?_
  try simp only [s1, s2, s3]
  refine tq 9 rfl (fun _ hS => by have c0 := (hS.cell (p := ⟨g, o + (A + 1), none⟩) hg).trans r2; go_simp; try with_reducible rfl) ?_
  try simp only [s1, s2, s3]
  refine tq 10 rfl (fun _ hS => by go_simp; try with_reducible rfl) ?_
  try simp only [s1, s2, s3]
  refine tq 11 rfl (fun _ hS => by go_simp; try with_reducible rfl) ?_
  try simp only [s1, s2, s3]
  refine tq 12 rfl (fun _ hS => by go_simp; try with_reducible rfl) ?_
  try simp only [s1, s2, s3]
  refine tq 13 rfl (fun _ hS => by go_simp; try with_reducible rfl) ?_
  try simp only [s1, s2, s3]
  refine wpAnyH_done (by kernel_rfl) ?_ _
  go_wp2
  refine bodyPost_ret (v := .tuple #[.agg #[.slice none 0 0, .slice none 0 0], .int .i64 5]) (by simp [results, Try.results17, go_sem]) rfl (dep_err hE (by decide) rfl (hW.trans (hBk.mono (Nat.le_refl _))))
set_option maxHeartbeats 3200000 in
set_option maxRecDepth 20000 in
theorem rDecode_f (p : Option Addr) (cap : Nat) (zs : List Int) (w : World) (hL : ByL w.heap.size w p zs.length zs) (hc : zs.length ≤ cap) (h0 : ¬ 65536 < zs.length) (h1 : ¬ zs.length < 1) (h2 : ¬ 4 < nM zs) (h3 : ¬ zs.length < 3 + 4 * nM zs) (h4 : ¬ 512 < nP zs) (h5 : zs.length < 3 + 4 * nM zs + 8 * nP zs) :
    Calls Try.prog 17 #[.slice p zs.length cap] w (DeP w zs) := by
  have hW : Below w.heap.size w (w.alloc (.cells #[.slice none 0 0, .slice none 0 0] 25)) := (Below.refl w.heap.size w).alloc (Nat.le_refl _) _
  have hE : decE zs = 4 := by unfold decE; rw [if_neg h0, if_neg h1, if_neg h2, if_neg h3, if_neg h4, if_pos h5]
  have d0 : decide (65536 < (zs.length : Int)) = false := decide_eq_false (by omega)
  have d1 : decide ((zs.length : Int) < 1) = false := decide_eq_false (by omega)
  obtain ⟨g, o, rfl, hg, hcell⟩ := hL.2.2.resolve_left (by omega)
  have r0 : (w.alloc (.cells #[.slice none 0 0, .slice none 0 0] 25)).cell? ⟨g, o, none⟩ = some (.int .u8 (zs.getD 0 0)) := (hW.cell (p := ⟨g, o, none⟩) hg).trans (hcell 0 (by omega))
  have hby : By zs := hL.2.1
  have hbx := hby.at 0
  have hi0 : (0 : Int) < (zs.length : Int) := by omega
  have hv : (nM zs : Int) = zs.getD 0 0 := by unfold nM; omega
  have e0 : wrap64 (zs.getD 0 0) = (nM zs : Int) := by rw [hv]; unfold wrap64; omega
  obtain ⟨A, hA⟩ : ∃ A, A = 1 + 4 * nM zs := ⟨_, rfl⟩
  have hN4 : nM zs ≤ 4 := by omega
  have d2 : decide (4 < (nM zs : Int)) = false := decide_eq_false (by omega)
  have q1 : wrap64 (4 * (nM zs : Int)) = 4 * (nM zs : Int) := by unfold wrap64; omega
  have q2 : wrap64 (1 + 4 * (nM zs : Int)) = (A : Int) := by unfold wrap64; omega
  have q3 : wrap64 ((A : Int) + 2) = (A : Int) + 2 := by unfold wrap64; omega
  have q4 : wrap64 ((A : Int) + 1) = (A : Int) + 1 := by unfold wrap64; omega
  have j4 : IntKind.i64.wrap ((A : Int) + 1) = (A : Int) + 1 := by rw [IntKind.wrap_i64]; omega
  have d3 : decide ((zs.length : Int) < (A : Int) + 2) = false := decide_eq_false (by omega)
  have r1 : (w.alloc (.cells #[.slice none 0 0, .slice none 0 0] 25)).cell? ⟨g, o + A, none⟩ = some (.int .u8 (zs.getD A 0)) := (hW.cell (p := ⟨g, o + A, none⟩) hg).trans (hcell _ (by omega))
  have r2 : (w.alloc (.cells #[.slice none 0 0, .slice none 0 0] 25)).cell? ⟨g, o + (A + 1), none⟩ = some (.int .u8 (zs.getD (A + 1) 0)) := (hW.cell (p := ⟨g, o + (A + 1), none⟩) hg).trans (hcell _ (by omega))
  have hb1 := hby.at A
  have hb2 := hby.at (A + 1)
  have hv2 : (nP zs : Int) = zs.getD A 0 + 256 * zs.getD (A + 1) 0 := by have := hby.at A; have := hby.at (A + 1); unfold nP; rw [← hA, show 2 + 4 * nM zs = A + 1 by omega]; omega
  have hi1 : (A : Int) < (zs.length : Int) := by omega
  have hi2 : (A : Int) + 1 < (zs.length : Int) := by omega
  have hi3 : (0 : Int) ≤ (A : Int) + 1 := by omega
  have hl6 : zs.length ≤ 65536 := by omega
  generalize zs.getD A 0 = x1 at *
  generalize zs.getD (A + 1) 0 = x2 at *
  have t1 : wrap64 x1 = x1 := by unfold wrap64; omega
  have t2 : wrap64 x2 = x2 := by unfold wrap64; omega
  have i1 : IntKind.i64.wrap x1 = x1 := by rw [IntKind.wrap_i64]; omega
  have i2 : IntKind.i64.wrap x2 = x2 := by rw [IntKind.wrap_i64]; omega
  have t3 : wrap64 (256 * x2) = 256 * x2 := by unfold wrap64; omega
  have i3 : IntKind.i64.wrap (256 * x2) = 256 * x2 := by rw [IntKind.wrap_i64]; omega
  have t4 : wrap64 (x1 + 256 * x2) = (nP zs : Int) := by unfold wrap64; omega
  have i4 : IntKind.i64.wrap (x1 + 256 * x2) = (nP zs : Int) := by rw [IntKind.wrap_i64]; omega
  have q5 : wrap64 (8 * (nP zs : Int)) = 8 * (nP zs : Int) := by unfold wrap64; omega
  have q6 : wrap64 ((A : Int) + 2 + 8 * (nP zs : Int)) = (A : Int) + 2 + 8 * (nP zs : Int) := by unfold wrap64; omega
  have d4 : decide (512 < (nP zs : Int)) = false := decide_eq_false (by omega)
  have d5 : decide ((zs.length : Int) < (A : Int) + 2 + 8 * (nP zs : Int)) = true := decide_eq_true (by omega)
  clear h5
  clear h0 h1 h2 h3 h4 hL hcell hbx hv hv2 hA hN4 hb1 hb2 hl6
  generalize nP zs = P at *
  generalize nM zs = N at *
  generalize zs.getD 0 0 = x at *
  go_enter Try.func17, Try.ntmps17
  go_wp2
  refine wp_region_held_drew (S := (fun w' : World => Below w.heap.size (w.alloc (.cells #[.slice none 0 0, .slice none 0 0] 25)) w')) (by kernel_rfl) ?_ (fun hHeld => ?_)
  · exact (below_dr _).mono (by simp)
  have hBk : Below w.heap.size (w.alloc (.cells #[.slice none 0 0, .slice none 0 0] 25)) _ := hHeld
  refine tq 0 rfl (fun _ hS => by go_simp; try with_reducible rfl) ?_
  try simp only [s1, s2, s3]
  refine tq 1 rfl (fun _ hS => by go_simp; try with_reducible rfl) ?_
  try simp only [s1, s2, s3]
  refine tq 2 rfl (fun _ hS => by go_simp; try with_reducible rfl) ?_
  try simp only [s1, s2, s3]
  refine tq 3 rfl (fun _ hS => by have c0 := (hS.cell (p := ⟨g, o + A, none⟩) hg).trans r1; go_simp; try with_reducible rfl) ?_
  try simp only [s1, s2, s3]
  refine tq 4 rfl (fun _ hS => by go_simp; try with_reducible rfl) ?_
  try simp only [s1, s2, s3]
  refine tq 5 rfl (fun _ hS => by go_simp; try with_reducible rfl) ?_
  try simp only [s1, s2, s3]
  refine tq 6 rfl (fun _ hS => by go_simp; try with_reducible rfl) ?_
  try simp only [s1, s2, s3]
  refine tq 7 rfl (fun _ hS => by go_simp; try with_reducible rfl) ?_
  try simp only [s1, s2, s3]
  refine tq 8 rfl (fun _ hS => by go_simp; try with_reducible rfl) ?_
  try simp only [s1, s2, s3]
  refine tq 9 rfl (fun _ hS => by have c0 := (hS.cell (p := ⟨g, o + (A + 1), none⟩) hg).trans r2; go_simp; try with_reducible rfl) ?_
  try simp only [s1, s2, s3]
  refine tq 10 rfl (fun _ hS => by go_simp; try with_reducible rfl) ?_
  try simp only [s1, s2, s3]
  refine tq 11 rfl (fun _ hS => by go_simp; try with_reducible rfl) ?_
  try simp only [s1, s2, s3]
  refine tq 12 rfl (fun _ hS => by go_simp; try with_reducible rfl) ?_
  try simp only [s1, s2, s3]
  refine tq 13 rfl (fun _ hS => by go_simp; try with_reducible rfl) ?_
  try simp only [s1, s2, s3]
  refine wpAnyH_done (by kernel_rfl) ?_ _
  clear r1 r2 hi2 hi3 i1 i2 i3 i4 j4 t1 t2 t3 t4
  go_wp2
  refine bodyPost_ret (v := .tuple #[.agg #[.slice none 0 0, .slice none 0 0], .int .i64 4]) (by simp [results, Try.results17, go_sem]) rfl (dep_err hE (by decide) rfl (hW.trans (hBk.mono (Nat.le_refl _))))
set_option maxHeartbeats 3200000 in
set_option maxRecDepth 20000 in
theorem rDecode_g (p : Option Addr) (cap : Nat) (zs : List Int) (w : World) (hL : ByL w.heap.size w p zs.length zs) (hc : zs.length ≤ cap) (h0 : ¬ 65536 < zs.length) (h1 : ¬ zs.length < 1) (h2 : ¬ 4 < nM zs) (h3 : ¬ zs.length < 3 + 4 * nM zs) (h4 : ¬ 512 < nP zs) (h5 : ¬ zs.length < 3 + 4 * nM zs + 8 * nP zs) (h6 : 3 + 4 * nM zs + 8 * nP zs < zs.length) :
    Calls Try.prog 17 #[.slice p zs.length cap] w (DeP w zs) := by
  have hW : Below w.heap.size w (w.alloc (.cells #[.slice none 0 0, .slice none 0 0] 25)) := (Below.refl w.heap.size w).alloc (Nat.le_refl _) _
  have hE : decE zs = 5 := by unfold decE; rw [if_neg h0, if_neg h1, if_neg h2, if_neg h3, if_neg h4, if_neg h5, if_pos h6]
  have d0 : decide (65536 < (zs.length : Int)) = false := decide_eq_false (by omega)
  have d1 : decide ((zs.length : Int) < 1) = false := decide_eq_false (by omega)
  obtain ⟨g, o, rfl, hg, hcell⟩ := hL.2.2.resolve_left (by omega)
  have r0 : (w.alloc (.cells #[.slice none 0 0, .slice none 0 0] 25)).cell? ⟨g, o, none⟩ = some (.int .u8 (zs.getD 0 0)) := (hW.cell (p := ⟨g, o, none⟩) hg).trans (hcell 0 (by omega))
  have hby : By zs := hL.2.1
  have hbx := hby.at 0
  have hi0 : (0 : Int) < (zs.length : Int) := by omega
  have hv : (nM zs : Int) = zs.getD 0 0 := by unfold nM; omega
  have e0 : wrap64 (zs.getD 0 0) = (nM zs : Int) := by rw [hv]; unfold wrap64; omega
  obtain ⟨A, hA⟩ : ∃ A, A = 1 + 4 * nM zs := ⟨_, rfl⟩
  have hN4 : nM zs ≤ 4 := by omega
  have d2 : decide (4 < (nM zs : Int)) = false := decide_eq_false (by omega)
  have q1 : wrap64 (4 * (nM zs : Int)) = 4 * (nM zs : Int) := by unfold wrap64; omega
  have q2 : wrap64 (1 + 4 * (nM zs : Int)) = (A : Int) := by unfold wrap64; omega
  have q3 : wrap64 ((A : Int) + 2) = (A : Int) + 2 := by unfold wrap64; omega
  have q4 : wrap64 ((A : Int) + 1) = (A : Int) + 1 := by unfold wrap64; omega
  have j4 : IntKind.i64.wrap ((A : Int) + 1) = (A : Int) + 1 := by rw [IntKind.wrap_i64]; omega
  have d3 : decide ((zs.length : Int) < (A : Int) + 2) = false := decide_eq_false (by omega)
  have r1 : (w.alloc (.cells #[.slice none 0 0, .slice none 0 0] 25)).cell? ⟨g, o + A, none⟩ = some (.int .u8 (zs.getD A 0)) := (hW.cell (p := ⟨g, o + A, none⟩) hg).trans (hcell _ (by omega))
  have r2 : (w.alloc (.cells #[.slice none 0 0, .slice none 0 0] 25)).cell? ⟨g, o + (A + 1), none⟩ = some (.int .u8 (zs.getD (A + 1) 0)) := (hW.cell (p := ⟨g, o + (A + 1), none⟩) hg).trans (hcell _ (by omega))
  have hb1 := hby.at A
  have hb2 := hby.at (A + 1)
  have hv2 : (nP zs : Int) = zs.getD A 0 + 256 * zs.getD (A + 1) 0 := by have := hby.at A; have := hby.at (A + 1); unfold nP; rw [← hA, show 2 + 4 * nM zs = A + 1 by omega]; omega
  have hi1 : (A : Int) < (zs.length : Int) := by omega
  have hi2 : (A : Int) + 1 < (zs.length : Int) := by omega
  have hi3 : (0 : Int) ≤ (A : Int) + 1 := by omega
  have hl6 : zs.length ≤ 65536 := by omega
  generalize zs.getD A 0 = x1 at *
  generalize zs.getD (A + 1) 0 = x2 at *
  have t1 : wrap64 x1 = x1 := by unfold wrap64; omega
  have t2 : wrap64 x2 = x2 := by unfold wrap64; omega
  have i1 : IntKind.i64.wrap x1 = x1 := by rw [IntKind.wrap_i64]; omega
  have i2 : IntKind.i64.wrap x2 = x2 := by rw [IntKind.wrap_i64]; omega
  have t3 : wrap64 (256 * x2) = 256 * x2 := by unfold wrap64; omega
  have i3 : IntKind.i64.wrap (256 * x2) = 256 * x2 := by rw [IntKind.wrap_i64]; omega
  have t4 : wrap64 (x1 + 256 * x2) = (nP zs : Int) := by unfold wrap64; omega
  have i4 : IntKind.i64.wrap (x1 + 256 * x2) = (nP zs : Int) := by rw [IntKind.wrap_i64]; omega
  have q5 : wrap64 (8 * (nP zs : Int)) = 8 * (nP zs : Int) := by unfold wrap64; omega
  have q6 : wrap64 ((A : Int) + 2 + 8 * (nP zs : Int)) = (A : Int) + 2 + 8 * (nP zs : Int) := by unfold wrap64; omega
  have d4 : decide (512 < (nP zs : Int)) = false := decide_eq_false (by omega)
  have d5 : decide ((zs.length : Int) < (A : Int) + 2 + 8 * (nP zs : Int)) = false := decide_eq_false (by omega)
  have d6 : decide ((A : Int) + 2 + 8 * (nP zs : Int) < (zs.length : Int)) = true := decide_eq_true (by omega)
  clear h5 h6
  clear h0 h1 h2 h3 h4 hL hcell hbx hv hv2 hA hN4 hb1 hb2 hl6
  generalize nP zs = P at *
  generalize nM zs = N at *
  generalize zs.getD 0 0 = x at *
  go_enter Try.func17, Try.ntmps17
  go_wp2
  refine wp_region_held_drew (S := (fun w' : World => Below w.heap.size (w.alloc (.cells #[.slice none 0 0, .slice none 0 0] 25)) w')) (by kernel_rfl) ?_ (fun hHeld => ?_)
  · exact (below_dr _).mono (by simp)
  have hBk : Below w.heap.size (w.alloc (.cells #[.slice none 0 0, .slice none 0 0] 25)) _ := hHeld
  refine tq 0 rfl (fun _ hS => by go_simp; try with_reducible rfl) ?_
  try simp only [s1, s2, s3]
  refine tq 1 rfl (fun _ hS => by go_simp; try with_reducible rfl) ?_
  try simp only [s1, s2, s3]
  refine tq 2 rfl (fun _ hS => by go_simp; try with_reducible rfl) ?_
  try simp only [s1, s2, s3]
  refine tq 3 rfl (fun _ hS => by have c0 := (hS.cell (p := ⟨g, o + A, none⟩) hg).trans r1; go_simp; try with_reducible rfl) ?_
  try simp only [s1, s2, s3]
  refine tq 4 rfl (fun _ hS => by go_simp; try with_reducible rfl) ?_
  try simp only [s1, s2, s3]
  refine tq 5 rfl (fun _ hS => by go_simp; try with_reducible rfl) ?_
  try simp only [s1, s2, s3]
  refine tq 6 rfl (fun _ hS => by go_simp; try with_reducible rfl) ?_
  try simp only [s1, s2, s3]
  refine tq 7 rfl (fun _ hS => by go_simp; try with_reducible rfl) ?_
  try simp only [s1, s2, s3]
  refine tq 8 rfl (fun _ hS => by go_simp; try with_reducible rfl) ?_
  try simp only [s1, s2, s3]
  refine tq 9 rfl (fun _ hS => by have c0 := (hS.cell (p := ⟨g, o + (A + 1), none⟩) hg).trans r2; go_simp; try with_reducible rfl) ?_
  try simp only [s1, s2, s3]
  refine tq 10 rfl (fun _ hS => by go_simp; try with_reducible rfl) ?_
  try simp only [s1, s2, s3]
  refine tq 11 rfl (fun _ hS => by go_simp; try with_reducible rfl) ?_
  try simp only [s1, s2, s3]
  refine tq 12 rfl (fun _ hS => by go_simp; try with_reducible rfl) ?_
  try simp only [s1, s2, s3]
  refine tq 13 rfl (fun _ hS => by go_simp; try with_reducible rfl) ?_
  try simp only [s1, s2, s3]
  refine wpAnyH_done (by kernel_rfl) ?_ _
  clear r1 r2 hi2 hi3 i1 i2 i3 i4 j4 t1 t2 t3 t4
  go_wp2
  refine bodyPost_ret (v := .tuple #[.agg #[.slice none 0 0, .slice none 0 0], .int .i64 5]) (by simp [results, Try.results17, go_sem]) rfl (dep_err hE (by decide) rfl (hW.trans (hBk.mono (Nat.le_refl _))))
end Go.Proofs.Ytolpgcoebmboeaa
