/-
  The document's Decode where the bytes are a form.
-/
import Derived.Test.YtolpgcoebmboeaaImL
namespace Go.Proofs.Ytolpgcoebmboeaa
set_option linter.unusedSimpArgs false
set_option linter.unusedVariables false
open Go.ChangeShapes Go.WideShapes Go.ChangeAt Go.RowKit

/-- What lies in Decode's own memory: the result's cells, the image's box. -/
structure Rd (w : World) (W : World) (a b : Value) : Prop where
  bel : Below w.heap.size w W
  sz : w.heap.size + 2 ≤ W.heap.size
  z0 : W.cell? ⟨w.heap.size, 0, none⟩ = some (.slice none 0 0)
  z1 : W.cell? ⟨w.heap.size, 1, none⟩ = some (.slice none 0 0)
  y0 : W.frozen? ⟨w.heap.size, 0, none⟩ = false
  y1 : W.frozen? ⟨w.heap.size, 1, none⟩ = false
  c0 : W.cell? ⟨w.heap.size + 1, 0, none⟩ = some a
  c1 : W.cell? ⟨w.heap.size + 1, 1, none⟩ = some b
  f0 : W.frozen? ⟨w.heap.size + 1, 0, none⟩ = false
  f1 : W.frozen? ⟨w.heap.size + 1, 1, none⟩ = false
theorem Rd.grown {w W W' : World} {a b : Value} {row : Option Nat} (h : Rd w W a b) (hg : W.grownBy W' row) (hr : ∀ k, row = some k → w.heap.size + 2 ≤ k) : Rd w W' a b := by
  have hs := h.sz
  have hn : ∀ k, k < w.heap.size + 2 → some k ≠ row := fun k hk e => by have := hr k e.symm; omega
  have hb : ∀ k, k < w.heap.size + 2 → W'.heap[k]? = W.heap[k]? := fun k hk => hg.block k (by omega) (hn k hk)
  have fz : ∀ (k j : Nat), k < w.heap.size + 2 → W'.frozen? ⟨k, j, none⟩ = W.frozen? ⟨k, j, none⟩ := fun k j hk => World.frozen?_of_block (a := ⟨k, j, none⟩) (hb k hk)
  exact ⟨h.bel.grown hg (by omega) (fun k e => by have := hr k e; omega), by have := hg.size; omega, hg.cell h.z0 (hn _ (by simp)), hg.cell h.z1 (hn _ (by simp)), (fz _ _ (by omega)).trans h.y0, (fz _ _ (by omega)).trans h.y1,
    hg.cell h.c0 (hn _ (by simp)), hg.cell h.c1 (hn _ (by simp)), (fz _ _ (by omega)).trans h.f0, (fz _ _ (by omega)).trans h.f1⟩
theorem Rd.put0 {w W : World} {a b : Value} (h : Rd w W a b) (u : Value) : Rd w (W.setCell ⟨w.heap.size + 1, 0, none⟩ u) u b :=
  ⟨h.bel.setCell (p := ⟨w.heap.size + 1, 0, none⟩) (by simp) u, by simp; exact h.sz, (set_oth (by simp)).trans h.z0, (set_oth (by simp)).trans h.z1, by simp [h.y0], by simp [h.y1],
    World.cell?_setCell_same _ _ _ h.c0, (set_oth (by simp)).trans h.c1, by simp [h.f0], by simp [h.f1]⟩
theorem Rd.put1 {w W : World} {a b : Value} (h : Rd w W a b) (u : Value) : Rd w (W.setCell ⟨w.heap.size + 1, 1, none⟩ u) a u :=
  ⟨h.bel.setCell (p := ⟨w.heap.size + 1, 1, none⟩) (by simp) u, by simp; exact h.sz, (set_oth (by simp)).trans h.z0, (set_oth (by simp)).trans h.z1, by simp [h.y0], by simp [h.y1],
    (set_oth (by simp)).trans h.c0, World.cell?_setCell_same _ _ _ h.c1, by simp [h.f0], by simp [h.f1]⟩
theorem Rd.kept {w W W' : World} {a b : Value} (h : Rd w W a b) (hb : Below W.heap.size W W') : Rd w W' a b := h.grown (row := none) ⟨hb.os, hb.tape, hb.output, hb.size, fun k hk _ => hb.block k hk⟩ (fun k e => by cases e)
theorem num_lt2 {k N : Nat} (h : k < N) (hN : N ≤ 512) : k < 1000 := by omega
theorem num_A {A N : Nat} (h : A = 1 + 4 * N) (hN : N ≤ 4) : A < 100 := by omega
theorem num_8 {k : Nat} (h : k < 1000) : wrap64 (8 * (k : Int)) = 8 * (k : Int) := by unfold wrap64; omega
theorem num_lo {A k Lo : Nat} (hA : A < 100) (h : k < 1000) (hL : Lo = A + 2 + 8 * k) : wrap64 ((A : Int) + 2 + 8 * (k : Int)) = (Lo : Int) := by unfold wrap64; omega
theorem num_10 {A : Nat} (hA : A < 100) : wrap64 ((A : Int) + 10) = (A : Int) + 10 := by unfold wrap64; omega
theorem num_hi {A k Lo : Nat} (hA : A < 100) (h : k < 1000) (hL : Lo = A + 2 + 8 * k) : wrap64 ((A : Int) + 10 + 8 * (k : Int)) = (Lo : Int) + 8 := by unfold wrap64; omega
theorem num_end {A P L Lo k : Nat} (h : k < P) (hL : L = A + 2 + 8 * P) (hLo : Lo = A + 2 + 8 * k) : Lo + 8 ≤ L := by omega
theorem num_m {k : Nat} (h : k < 1000) : k + 1 ≤ maxLen := by simp only [maxLen]; omega
theorem num_n {k : Nat} (h : k < 1000) : (k + 1) * 12 ≤ 140737488355328 := by omega
theorem by_cut {n₀ : Nat} {w : World} {g o Lo : Nat} {zs : List Int} (hz : By zs) (hg : g < n₀) (hc : ∀ j, j < zs.length → w.cell? ⟨g, o + j, none⟩ = some (.int .u8 (zs.getD j 0))) (h : Lo + 8 ≤ zs.length) : ByL n₀ w (some ⟨g, o + Lo, none⟩) 8 ((zs.drop Lo).take 8) :=
  ⟨by rw [List.length_take, List.length_drop]; omega, (By.take (By.drop hz Lo) 8), .inr ⟨g, o + Lo, rfl, hg, fun j hj => by rw [getD_take _ _ _ hj, getD_drop, Nat.add_assoc]; exact hc _ (by omega)⟩⟩
theorem sl_part (g o n cap Lo : Nat) (h : Lo + 8 ≤ n) (hc : n ≤ cap) : ∀ W, (Instr.slice 29 (.slice (some ⟨g, o, none⟩) n cap) (some (.int .i64 (Lo : Int))) (some (.int .i64 ((Lo : Int) + 8))) none).run Try.prog W = .ok (.slice (some ⟨g, o + Lo, none⟩) 8 (cap - Lo)) W := by
  intro W
  have h1 : ¬ cap = Lo := by omega
  have h2 : Lo + 8 ≤ cap := by omega
  have h3 : (0 : Int) ≤ (Lo : Int) + 8 := by omega
  have h4 : (Lo : Int) + 8 ≤ (cap : Int) := by omega
  have h5 : (Lo : Int) ≤ (Lo : Int) + 8 := by omega
  have h6 : ((Lo : Int) + 8).toNat = Lo + 8 := by omega
  simp [go_sem, Try.underlying29, h1, h2, h3, h4, h5, h6]
theorem ne_own {v u : Value} {n : Nat} (h : ∀ j, v.ownBlock = some j → j < n) (k : ∀ j, u.ownBlock = some j → n ≤ j) : v.ownBlock = none ∨ v.ownBlock ≠ u.ownBlock := by
  cases e : v.ownBlock with
  | none => exact .inl rfl
  | some j => exact .inr (fun e2 => by have := h j e; have := k j e2.symm; omega)
theorem grow_two {w w' : World} {o1 o2 : Obj} {row : Option Nat} (h : ((w.alloc o1).alloc o2).grownBy w' row) : w.grownBy w' row :=
  ⟨h.os, h.tape, h.output, by have := h.size; simp at this; omega, fun j hj hne => by rw [h.block j (by simp; omega) hne, Below.heap_alloc _ _ _ (by simp; omega)]; exact Below.heap_alloc _ _ _ hj⟩
theorem num_lt {k N : Nat} (h : k < N) (hN : N ≤ 4) : k < 1000 := by omega
theorem num_4 {k : Nat} (h : k < 1000) : IntKind.i64.wrap (4 * (k : Int)) = 4 * (k : Int) := by rw [IntKind.wrap_i64]; omega
theorem num_a {k A j : Nat} {n : Int} (h : k < 1000) (hA : A = 1 + 4 * k + j) (hj : j < 10) (hn : n = (j : Int) + 1) : IntKind.i64.wrap (n + 4 * (k : Int)) = (A : Int) := by rw [IntKind.wrap_i64]; omega
theorem num_i {k N A P L a j : Nat} (h : k < N) (hA : A = 1 + 4 * N) (hL : L = A + 2 + 8 * P) (ha : a = 1 + 4 * k + j) (hj : j < 4) : a < L := by omega
theorem num_b {x : Int} (h : 0 ≤ x ∧ x < 256) : IntKind.i64.wrap x = x := by rw [IntKind.wrap_i64]; omega
theorem rd_start (w : World) : Rd w (((w.alloc (.cells #[.slice none 0 0, .slice none 0 0] 25)).alloc (.cells #[.slice none 0 0, .slice none 0 0] 25)).drew) (.slice none 0 0) (.slice none 0 0) := by
  have a0 : (w.alloc (.cells #[.slice none 0 0, .slice none 0 0] 25)).cell? ⟨w.heap.size, 0, none⟩ = some (.slice none 0 0) := World.cell?_alloc_at _ _ _ _ rfl
  have a1 : (w.alloc (.cells #[.slice none 0 0, .slice none 0 0] 25)).cell? ⟨w.heap.size, 1, none⟩ = some (.slice none 0 0) := World.cell?_alloc_at _ _ _ _ rfl
  exact ⟨(((Below.refl w.heap.size w).alloc (Nat.le_refl _) _).alloc (by simp) _).drew, by simp, (World.cell?_alloc_past _ _ _ (by simp)).trans a0, (World.cell?_alloc_past _ _ _ (by simp)).trans a1,
    (World.frozen?_alloc_past _ _ _ (by simp)).trans (World.frozen?_alloc_at _ _ _ _ rfl), (World.frozen?_alloc_past _ _ _ (by simp)).trans (World.frozen?_alloc_at _ _ _ _ rfl),
    World.cell?_alloc_at _ _ _ _ (by simp), World.cell?_alloc_at _ _ _ _ (by simp), World.frozen?_alloc_at _ _ _ _ (by simp), World.frozen?_alloc_at _ _ _ _ (by simp)⟩
set_option maxHeartbeats 3200000 in
set_option maxRecDepth 20000 in
theorem rDecode_h (p : Option Addr) (cap : Nat) (zs : List Int) (w : World) (hL : ByL w.heap.size w p zs.length zs) (hc : zs.length ≤ cap) (h0 : ¬ 65536 < zs.length) (h1 : ¬ zs.length < 1) (h2 : ¬ 4 < nM zs) (h3 : ¬ zs.length < 3 + 4 * nM zs) (h4 : ¬ 512 < nP zs) (h5 : ¬ zs.length < 3 + 4 * nM zs + 8 * nP zs) (h6 : ¬ 3 + 4 * nM zs + 8 * nP zs < zs.length) :
    Calls Try.prog 17 #[.slice p zs.length cap] w (DeP w zs) := by
  have hW : Below w.heap.size w (w.alloc (.cells #[.slice none 0 0, .slice none 0 0] 25)) := (Below.refl w.heap.size w).alloc (Nat.le_refl _) _
  have hE : decE zs = 0 := by unfold decE; rw [if_neg h0, if_neg h1, if_neg h2, if_neg h3, if_neg h4, if_neg h5, if_neg h6]
  have d0 : decide (65536 < (zs.length : Int)) = false := decide_eq_false (by omega)
  have d1 : decide ((zs.length : Int) < 1) = false := decide_eq_false (by omega)
  obtain ⟨g, o, rfl, hg, hcell⟩ := hL.2.2.resolve_left (by omega)
  have r0 : (w.alloc (.cells #[.slice none 0 0, .slice none 0 0] 25)).cell? ⟨g, o, none⟩ = some (.int .u8 (zs.getD 0 0)) := (hW.cell (p := ⟨g, o, none⟩) hg).trans (hcell 0 (by omega))
  have hby : By zs := hL.2.1
  have hbx := hby.at 0
  have hi0 : (0 : Int) < (zs.length : Int) := by omega
  have hv : (nM zs : Int) = zs.getD 0 0 := by unfold nM; omega
  have e0 : wrap64 (zs.getD 0 0) = (nM zs : Int) := by rw [hv]; unfold wrap64; omega
  obtain ⟨A, hA⟩ : ∃ A, A = 1 + 4 * nM zs := ⟨_, rfl⟩
  have hN4 : nM zs ≤ 4 := by omega
  have d2 : decide (4 < (nM zs : Int)) = false := decide_eq_false (by omega)
  have q1 : wrap64 (4 * (nM zs : Int)) = 4 * (nM zs : Int) := by unfold wrap64; omega
  have q2 : wrap64 (1 + 4 * (nM zs : Int)) = (A : Int) := by unfold wrap64; omega
  have q3 : wrap64 ((A : Int) + 2) = (A : Int) + 2 := by unfold wrap64; omega
  have q4 : wrap64 ((A : Int) + 1) = (A : Int) + 1 := by unfold wrap64; omega
  have j4 : IntKind.i64.wrap ((A : Int) + 1) = (A : Int) + 1 := by rw [IntKind.wrap_i64]; omega
  have d3 : decide ((zs.length : Int) < (A : Int) + 2) = false := decide_eq_false (by omega)
  have r1 : (w.alloc (.cells #[.slice none 0 0, .slice none 0 0] 25)).cell? ⟨g, o + A, none⟩ = some (.int .u8 (zs.getD A 0)) := (hW.cell (p := ⟨g, o + A, none⟩) hg).trans (hcell _ (by omega))
  have r2 : (w.alloc (.cells #[.slice none 0 0, .slice none 0 0] 25)).cell? ⟨g, o + (A + 1), none⟩ = some (.int .u8 (zs.getD (A + 1) 0)) := (hW.cell (p := ⟨g, o + (A + 1), none⟩) hg).trans (hcell _ (by omega))
  have hb1 := hby.at A
  have hb2 := hby.at (A + 1)
  have hv2 : (nP zs : Int) = zs.getD A 0 + 256 * zs.getD (A + 1) 0 := by have := hby.at A; have := hby.at (A + 1); unfold nP; rw [← hA, show 2 + 4 * nM zs = A + 1 by omega]; omega
  have hi1 : (A : Int) < (zs.length : Int) := by omega
  have hi2 : (A : Int) + 1 < (zs.length : Int) := by omega
  have hi3 : (0 : Int) ≤ (A : Int) + 1 := by omega
  have hl6 : zs.length ≤ 65536 := by omega
  generalize zs.getD A 0 = x1 at *
  generalize zs.getD (A + 1) 0 = x2 at *
  have t1 : wrap64 x1 = x1 := by unfold wrap64; omega
  have t2 : wrap64 x2 = x2 := by unfold wrap64; omega
  have i1 : IntKind.i64.wrap x1 = x1 := by rw [IntKind.wrap_i64]; omega
  have i2 : IntKind.i64.wrap x2 = x2 := by rw [IntKind.wrap_i64]; omega
  have t3 : wrap64 (256 * x2) = 256 * x2 := by unfold wrap64; omega
  have i3 : IntKind.i64.wrap (256 * x2) = 256 * x2 := by rw [IntKind.wrap_i64]; omega
  have t4 : wrap64 (x1 + 256 * x2) = (nP zs : Int) := by unfold wrap64; omega
  have i4 : IntKind.i64.wrap (x1 + 256 * x2) = (nP zs : Int) := by rw [IntKind.wrap_i64]; omega
  have q5 : wrap64 (8 * (nP zs : Int)) = 8 * (nP zs : Int) := by unfold wrap64; omega
  have q6 : wrap64 ((A : Int) + 2 + 8 * (nP zs : Int)) = (A : Int) + 2 + 8 * (nP zs : Int) := by unfold wrap64; omega
  have d4 : decide (512 < (nP zs : Int)) = false := decide_eq_false (by omega)
  have d5 : decide ((zs.length : Int) < (A : Int) + 2 + 8 * (nP zs : Int)) = false := decide_eq_false (by omega)
  have d6 : decide ((A : Int) + 2 + 8 * (nP zs : Int) < (zs.length : Int)) = false := decide_eq_false (by omega)
  have HCELL := hid hcell
  have HBY := hid hby
  have HNUM := hid (show A = 1 + 4 * nM zs ∧ nM zs ≤ 4 ∧ nP zs ≤ 512 ∧ zs.length = A + 2 + 8 * nP zs from ⟨hA, by omega, by omega, by omega⟩)
  have HL := hid (show decL zs = takeM (nM zs) (zs.drop 1) ∧ decC zs = takeI (nP zs) (zs.drop (A + 2)) from ⟨rfl, by unfold decC; rw [show 3 + 4 * nM zs = A + 2 by omega]⟩)
  clear h5 h6 h0 h1 h2 h3 h4 hL hcell hbx hv hv2 hA hN4 hb1 hb2 hl6 hby
  generalize hPe : nP zs = P at *
  generalize hNe : nM zs = N at *
  have HPE := hid hPe
  have HNE := hid hNe
  clear hPe hNe
  generalize zs.getD 0 0 = x at *
  go_enter Try.func17, Try.ntmps17
  go_wp2
  refine wp_region_held_drew (S := (fun w' : World => Below w.heap.size (w.alloc (.cells #[.slice none 0 0, .slice none 0 0] 25)) w')) (by kernel_rfl) ?_ (fun hHeld => ?_)
  · exact (below_dr _).mono (by simp)
  have hBk : Below w.heap.size (w.alloc (.cells #[.slice none 0 0, .slice none 0 0] 25)) _ := hHeld
  refine tq 0 rfl (fun _ hS => by go_simp; try with_reducible rfl) ?_
  try simp only [s1, s2, s3]
  refine tq 1 rfl (fun _ hS => by go_simp; try with_reducible rfl) ?_
  try simp only [s1, s2, s3]
  refine tq 2 rfl (fun _ hS => by go_simp; try with_reducible rfl) ?_
  try simp only [s1, s2, s3]
  refine tq 3 rfl (fun _ hS => by have c0 := (hS.cell (p := ⟨g, o + A, none⟩) hg).trans r1; go_simp; try with_reducible rfl) ?_
  try simp only [s1, s2, s3]
  refine tq 4 rfl (fun _ hS => by go_simp; try with_reducible rfl) ?_
  try simp only [s1, s2, s3]
  refine tq 5 rfl (fun _ hS => by go_simp; try with_reducible rfl) ?_
  try simp only [s1, s2, s3]
  refine tq 6 rfl (fun _ hS => by go_simp; try with_reducible rfl) ?_
  try simp only [s1, s2, s3]
  refine tq 7 rfl (fun _ hS => by go_simp; try with_reducible rfl) ?_
  try simp only [s1, s2, s3]
  refine tq 8 rfl (fun _ hS => by go_simp; try with_reducible rfl) ?_
  try simp only [s1, s2, s3]
  refine tq 9 rfl (fun _ hS => by have c0 := (hS.cell (p := ⟨g, o + (A + 1), none⟩) hg).trans r2; go_simp; try with_reducible rfl) ?_
  try simp only [s1, s2, s3]
  refine tq 10 rfl (fun _ hS => by go_simp; try with_reducible rfl) ?_
  try simp only [s1, s2, s3]
  refine tq 11 rfl (fun _ hS => by go_simp; try with_reducible rfl) ?_
  try simp only [s1, s2, s3]
  refine tq 12 rfl (fun _ hS => by go_simp; try with_reducible rfl) ?_
  try simp only [s1, s2, s3]
  refine tq 13 rfl (fun _ hS => by go_simp; try with_reducible rfl) ?_
  try simp only [s1, s2, s3]
  refine wpAnyH_done (by kernel_rfl) ?_ _
  clear r1 r2 hi2 hi3 i1 i2 i3 i4 j4 t1 t2 t3 t4
  go_wp2
  clear hHeld hBk hW r0
  simp only [e0, q1, q2, q3, q5, q6]
  go_loopw [8] (fun i wr => ∃ (k : Nat) (vm : Value), k ≤ N ∧ i = .int .i64 k ∧ Hid (Rd w wr vm (.slice none 0 0)) ∧ Hid (wr.ownsRow (w.heap.size + 2) 48 4 vm k ((takeM k (zs.drop 1)).flatMap cellsM))) (fun i _ => N - (intOf i).toNat)
  case atStart =>
    refine ⟨0, .slice none 0 0, Nat.zero_le _, rfl, hid ?_, hid (World.ownsRow_nil _ _ _ _)⟩
    exact rd_start w
  case round =>
    obtain ⟨k, vm, hk, rfl, HR, HO⟩ := hrel
    by_cases hlt : k < N
    · have hli : (k : Int) < (N : Int) := by omega
      obtain ⟨nA, nN, nP', nL⟩ := HNUM.out
      have hk9 : k < 1000 := num_lt hlt nN
      have j0 : IntKind.i64.wrap (4 * (k : Int)) = 4 * (k : Int) := num_4 hk9
      obtain ⟨A0, hA0⟩ : ∃ a, a = 1 + 4 * k + 0 := ⟨_, rfl⟩
      have j1 : IntKind.i64.wrap (1 + 4 * (k : Int)) = (A0 : Int) := num_a (j := 0) hk9 hA0 (by decide) rfl
      have n0 : A0 < zs.length := num_i hlt nA nL hA0 (by decide)
      have l0 : (A0 : Int) < (zs.length : Int) := Int.ofNat_lt.2 n0
      have r0 := (HR.out.bel.cell (p := ⟨g, o + A0, none⟩) hg).trans (HCELL.out A0 n0)
      have i0 : IntKind.i64.wrap (zs.getD A0 0) = zs.getD A0 0 := num_b (HBY.out.at A0)
      obtain ⟨A1, hA1⟩ : ∃ a, a = 1 + 4 * k + 1 := ⟨_, rfl⟩
      have j2 : IntKind.i64.wrap (2 + 4 * (k : Int)) = (A1 : Int) := num_a (j := 1) hk9 hA1 (by decide) rfl
      have n1 : A1 < zs.length := num_i hlt nA nL hA1 (by decide)
      have l1 : (A1 : Int) < (zs.length : Int) := Int.ofNat_lt.2 n1
      have r1 := (HR.out.bel.cell (p := ⟨g, o + A1, none⟩) hg).trans (HCELL.out A1 n1)
      have i1 : IntKind.i64.wrap (zs.getD A1 0) = zs.getD A1 0 := num_b (HBY.out.at A1)
      obtain ⟨A2, hA2⟩ : ∃ a, a = 1 + 4 * k + 2 := ⟨_, rfl⟩
      have j3 : IntKind.i64.wrap (3 + 4 * (k : Int)) = (A2 : Int) := num_a (j := 2) hk9 hA2 (by decide) rfl
      have n2 : A2 < zs.length := num_i hlt nA nL hA2 (by decide)
      have l2 : (A2 : Int) < (zs.length : Int) := Int.ofNat_lt.2 n2
      have r2 := (HR.out.bel.cell (p := ⟨g, o + A2, none⟩) hg).trans (HCELL.out A2 n2)
      have i2 : IntKind.i64.wrap (zs.getD A2 0) = zs.getD A2 0 := num_b (HBY.out.at A2)
      obtain ⟨A3, hA3⟩ : ∃ a, a = 1 + 4 * k + 3 := ⟨_, rfl⟩
      have j4 : IntKind.i64.wrap (4 + 4 * (k : Int)) = (A3 : Int) := num_a (j := 3) hk9 hA3 (by decide) rfl
      have n3 : A3 < zs.length := num_i hlt nA nL hA3 (by decide)
      have l3 : (A3 : Int) < (zs.length : Int) := Int.ofNat_lt.2 n3
      have r3 := (HR.out.bel.cell (p := ⟨g, o + A3, none⟩) hg).trans (HCELL.out A3 n3)
      have i3 : IntKind.i64.wrap (zs.getD A3 0) = zs.getD A3 0 := num_b (HBY.out.at A3)
      have HM := hid (show (takeM (k + 1) (zs.drop 1)).flatMap cellsM = (takeM k (zs.drop 1)).flatMap cellsM ++ [.int .i64 (zs.getD A0 0), .int .i64 (zs.getD A1 0), .int .i64 (zs.getD A2 0), .int .i64 (zs.getD A3 0)] by
        rw [takeM_succ, List.flatMap_append, mAt_drop, List.flatMap_cons, List.flatMap_nil, List.append_nil, mAt_at, hA0, hA1, hA2, hA3]; rfl)
      have hwz := HR.out.sz
      obtain ⟨pv, cv, rfl, _, _⟩ := own_slice HO.out
      have c0 := HR.out.c0
      have f0 := HR.out.f0
      clear n0 n1 n2 n3 hA0 hA1 hA2 hA3 nA nN nP' nL
      generalize zs.getD A0 0 = x0 at *
      generalize zs.getD A1 0 = y1 at *
      generalize zs.getD A2 0 = y2 at *
      generalize zs.getD A3 0 = y3 at *
      go_wp2
      refine wp_region_held_drew (S := (fun w' : World => Below (w.heap.size + 1) wr w')) (by kernel_rfl) ?_ (fun hHeld => ?_)
      · exact (below_dr wr).mono (by omega)
      have hBk : Below (w.heap.size + 1) wr _ := hHeld
      refine tq 0 rfl (fun _ hS => by go_simp; try with_reducible rfl) ?_
      try simp only [s1, s2, s3]
      refine tq 2 rfl (fun _ hS => by go_simp; try with_reducible rfl) ?_
      try simp only [s1, s2, s3]
      refine tq 3 rfl (fun _ hS => by go_simp; try with_reducible rfl) ?_
      try simp only [s1, s2, s3]
      refine tq 4 rfl (fun _ hS => by go_simp; try with_reducible rfl) ?_
      try simp only [s1, s2, s3]
      refine tq 5 rfl (fun _ hS => by go_simp; try with_reducible rfl) ?_
      try simp only [s1, s2, s3]
      refine tq 6 rfl (fun _ hS => by go_simp; try with_reducible rfl) ?_
      try simp only [s1, s2, s3]
      refine tq 7 rfl (fun _ hS => by have c0 := (hS.cell (p := ⟨g, o + A0, none⟩) (show g < w.heap.size + 1 by omega)).trans r0; go_simp; try with_reducible rfl) ?_
      try simp only [s1, s2, s3]
      refine tq 8 rfl (fun _ hS => by go_simp; try with_reducible rfl) ?_
      try simp only [s1, s2, s3]
      refine tq 9 rfl (fun _ hS => by go_simp; try with_reducible rfl) ?_
      try simp only [s1, s2, s3]
      refine tq 10 rfl (fun _ hS => by go_simp; try with_reducible rfl) ?_
      try simp only [s1, s2, s3]
      refine tq 11 rfl (fun _ hS => by go_simp; try with_reducible rfl) ?_
      try simp only [s1, s2, s3]
      refine tq 12 rfl (fun _ hS => by go_simp; try with_reducible rfl) ?_
      try simp only [s1, s2, s3]
      refine tq 13 rfl (fun _ hS => by go_simp; try with_reducible rfl) ?_
      try simp only [s1, s2, s3]
      refine tq 14 rfl (fun _ hS => by have c0 := (hS.cell (p := ⟨g, o + A1, none⟩) (show g < w.heap.size + 1 by omega)).trans r1; go_simp; try with_reducible rfl) ?_
      try simp only [s1, s2, s3]
      refine tq 15 rfl (fun _ hS => by go_simp; try with_reducible rfl) ?_
      try simp only [s1, s2, s3]
      refine tq 16 rfl (fun _ hS => by go_simp; try with_reducible rfl) ?_
      try simp only [s1, s2, s3]
      refine tq 17 rfl (fun _ hS => by go_simp; try with_reducible rfl) ?_
      try simp only [s1, s2, s3]
      refine tq 18 rfl (fun _ hS => by go_simp; try with_reducible rfl) ?_
      try simp only [s1, s2, s3]
      refine tq 19 rfl (fun _ hS => by go_simp; try with_reducible rfl) ?_
      try simp only [s1, s2, s3]
      refine tq 20 rfl (fun _ hS => by go_simp; try with_reducible rfl) ?_
      try simp only [s1, s2, s3]
      refine tq 21 rfl (fun _ hS => by have c0 := (hS.cell (p := ⟨g, o + A2, none⟩) (show g < w.heap.size + 1 by omega)).trans r2; go_simp; try with_reducible rfl) ?_
      try simp only [s1, s2, s3]
      refine tq 22 rfl (fun _ hS => by go_simp; try with_reducible rfl) ?_
      try simp only [s1, s2, s3]
      refine tq 23 rfl (fun _ hS => by go_simp; try with_reducible rfl) ?_
      try simp only [s1, s2, s3]
      refine tq 24 rfl (fun _ hS => by go_simp; try with_reducible rfl) ?_
      try simp only [s1, s2, s3]
      refine tq 25 rfl (fun _ hS => by go_simp; try with_reducible rfl) ?_
      try simp only [s1, s2, s3]
      refine tq 26 rfl (fun _ hS => by go_simp; try with_reducible rfl) ?_
      try simp only [s1, s2, s3]
      refine tq 27 rfl (fun _ hS => by go_simp; try with_reducible rfl) ?_
      try simp only [s1, s2, s3]
      refine tq 28 rfl (fun _ hS => by have c0 := (hS.cell (p := ⟨g, o + A3, none⟩) (show g < w.heap.size + 1 by omega)).trans r3; go_simp; try with_reducible rfl) ?_
      try simp only [s1, s2, s3]
      refine tq 29 rfl (fun _ hS => by go_simp; try with_reducible rfl) ?_
      try simp only [s1, s2, s3]
      refine tq 30 rfl (fun _ hS => by go_simp; try with_reducible rfl) ?_
      try simp only [s1, s2, s3]
      refine wpAnyH_ready (rs := [1, 31]) (by kernel_rfl) (by simp) ?_
      refine AllReadyH.cons rfl (fun K hK => ?_) (AllReadyH.cons rfl (fun K hK => ?_) AllReadyH.nil)
      · have cw := cn (below_dr wr) c0
        go_simp
        refine hK.out _ _ ?_ (fun hHeld => ?_)
        · (try dsimp only); exact hBk
        have hBn := hid hHeld
        clear hBk
        have hBk := hBn.out
        clear hBn
        clear hK K
        (try simp only [Act.put, List.setIfInBounds_toArray, List.set_cons_zero, List.set_cons_succ])
        refine wpAnyH_ready (rs := [31]) (by kernel_rfl) (by simp) ?_
        refine AllReadyH.cons rfl (fun K hK => ?_) AllReadyH.nil
        go_simp
        refine hK.out _ _ ?_ (fun hHeld => ?_)
        · (try dsimp only); exact hBk.alloc (by simp; omega) _
        have hBn := hid hHeld
        clear hBk
        have hBk := hBn.out
        clear hBn
        clear hK K
        (try simp only [Act.put, List.setIfInBounds_toArray, List.set_cons_zero, List.set_cons_succ])
        refine wpAnyH_ready (rs := [32]) (by kernel_rfl) (by simp) ?_
        refine AllReadyH.cons rfl (fun K hK => ?_) AllReadyH.nil
        refine app_step 22 48 4 32 _ Try.underlying22 mapInfo rfl (by decide) rfl (.tmp 76) (.tmp 106) rfl (w.heap.size + 2) wr _ _ k ((takeM k (zs.drop 1)).flatMap cellsM) (by exact rfl) (HO.out.drew.alloc _) (((below_dr wr).mono (by omega)).alloc (by simp; omega) _) (by simp; omega) (wr.heap.size + 1) _ 1 1 [.int .i64 x0, .int .i64 y1, .int .i64 y2, .int .i64 y3] (by exact rfl) rfl (src_new4 wr _ _ _ _ _) (by intro u hu; simp at hu; rcases hu with rfl | rfl | rfl | rfl <;> rfl) (by simp only [maxLen]; omega) (by omega) ?_
        intro v3 w3 own3 bel3 grow3 _
        obtain ⟨p3, c3, rfl, _, _⟩ := own_slice own3
        have HR3 := hid (HR.out.grown (W' := w3) (row := _) ⟨grow3.os, grow3.tape, grow3.output, by have := grow3.size; simp at this; omega, fun j hj hne => by rw [grow3.block j (by simp; omega) hne]; exact (Below.heap_alloc _ _ _ hj)⟩ (fun j hj => (HO.out.lt j hj).1))
        have c3_ := HR3.out.c0
        have f3_ := HR3.out.f0
        refine hK.out _ _ ?_ (fun hHeld => ?_)
        · (try dsimp only); exact bel3.mono (by omega)
        have hBn := hid hHeld
        clear hBk
        have hBk := hBn.out
        clear hBn
        clear hK K
        (try simp only [Act.put, List.setIfInBounds_toArray, List.set_cons_zero, List.set_cons_succ])
        refine tq 33 rfl (fun _ hS => by go_simp; try with_reducible rfl) ?_
        try simp only [s1, s2, s3]
        refine wpAnyH_ready (rs := [34]) (by kernel_rfl) (by simp) ?_
        refine AllReadyH.cons rfl (fun K hK => ?_) AllReadyH.nil
        go_simp
        refine hK.out _ _ ?_ (fun hHeld => ?_)
        · (try dsimp only); exact hBk.setCell (p := ⟨w.heap.size + 1, 0, none⟩) (by simp) _
        have hBn := hid hHeld
        clear hBk
        have hBk := hBn.out
        clear hBn
        clear hK K
        (try simp only [Act.put, List.setIfInBounds_toArray, List.set_cons_zero, List.set_cons_succ])
        refine wpAnyH_done (by kernel_rfl) ?_ _
        go_wp2
        go_roundw
        case rel =>
          refine ⟨k + 1, _, Nat.succ_le_of_lt hlt, ?_, hid (HR3.out.put0 _), hid ?_⟩
          · go_num
          · rw [HM.out]
            exact ownsRow_setCell_below own3 (a := ⟨w.heap.size + 1, 0, none⟩) (Nat.lt_succ_self _) _
        case measure => simp [intOf]; omega
      · go_simp
        refine hK.out _ _ ?_ (fun hHeld => ?_)
        · (try dsimp only); exact hBk.alloc (by simp; omega) _
        have hBn := hid hHeld
        clear hBk
        have hBk := hBn.out
        clear hBn
        clear hK K
        (try simp only [Act.put, List.setIfInBounds_toArray, List.set_cons_zero, List.set_cons_succ])
        have cw : ((wr.alloc (.cells #[.int .i64 x0, .int .i64 y1, .int .i64 y2, .int .i64 y3] 48)).drew).cell? ⟨w.heap.size + 1, 0, none⟩ = some (.slice pv k cv) := cna _ c0
        refine wpAnyH_ready (rs := [1]) (by kernel_rfl) (by simp) ?_
        refine AllReadyH.cons rfl (fun K hK => ?_) AllReadyH.nil
        go_simp
        refine hK.out _ _ ?_ (fun hHeld => ?_)
        · (try dsimp only); exact hBk
        have hBn := hid hHeld
        clear hBk
        have hBk := hBn.out
        clear hBn
        clear hK K
        (try simp only [Act.put, List.setIfInBounds_toArray, List.set_cons_zero, List.set_cons_succ])
        refine wpAnyH_ready (rs := [32]) (by kernel_rfl) (by simp) ?_
        refine AllReadyH.cons rfl (fun K hK => ?_) AllReadyH.nil
        refine app_step 22 48 4 32 _ Try.underlying22 mapInfo rfl (by decide) rfl (.tmp 76) (.tmp 106) rfl (w.heap.size + 2) wr _ _ k ((takeM k (zs.drop 1)).flatMap cellsM) (by exact rfl) (HO.out.drew.alloc _) (((below_dr wr).mono (by omega)).alloc (by simp; omega) _) (by simp; omega) (wr.heap.size + 1) _ 1 1 [.int .i64 x0, .int .i64 y1, .int .i64 y2, .int .i64 y3] (by exact rfl) rfl (src_new4 wr _ _ _ _ _) (by intro u hu; simp at hu; rcases hu with rfl | rfl | rfl | rfl <;> rfl) (by simp only [maxLen]; omega) (by omega) ?_
        intro v3 w3 own3 bel3 grow3 _
        obtain ⟨p3, c3, rfl, _, _⟩ := own_slice own3
        have HR3 := hid (HR.out.grown (W' := w3) (row := _) ⟨grow3.os, grow3.tape, grow3.output, by have := grow3.size; simp at this; omega, fun j hj hne => by rw [grow3.block j (by simp; omega) hne]; exact (Below.heap_alloc _ _ _ hj)⟩ (fun j hj => (HO.out.lt j hj).1))
        have c3_ := HR3.out.c0
        have f3_ := HR3.out.f0
        refine hK.out _ _ ?_ (fun hHeld => ?_)
        · (try dsimp only); exact bel3.mono (by omega)
        have hBn := hid hHeld
        clear hBk
        have hBk := hBn.out
        clear hBn
        clear hK K
        (try simp only [Act.put, List.setIfInBounds_toArray, List.set_cons_zero, List.set_cons_succ])
        refine tq 33 rfl (fun _ hS => by go_simp; try with_reducible rfl) ?_
        try simp only [s1, s2, s3]
        refine wpAnyH_ready (rs := [34]) (by kernel_rfl) (by simp) ?_
        refine AllReadyH.cons rfl (fun K hK => ?_) AllReadyH.nil
        go_simp
        refine hK.out _ _ ?_ (fun hHeld => ?_)
        · (try dsimp only); exact hBk.setCell (p := ⟨w.heap.size + 1, 0, none⟩) (by simp) _
        have hBn := hid hHeld
        clear hBk
        have hBk := hBn.out
        clear hBn
        clear hK K
        (try simp only [Act.put, List.setIfInBounds_toArray, List.set_cons_zero, List.set_cons_succ])
        refine wpAnyH_done (by kernel_rfl) ?_ _
        go_wp2
        go_roundw
        case rel =>
          refine ⟨k + 1, _, Nat.succ_le_of_lt hlt, ?_, hid (HR3.out.put0 _), hid ?_⟩
          · go_num
          · rw [HM.out]
            exact ownsRow_setCell_below own3 (a := ⟨w.heap.size + 1, 0, none⟩) (Nat.lt_succ_self _) _
        case measure => simp [intOf]; omega
    · obtain rfl : k = N := Nat.le_antisymm hk (Nat.le_of_not_lt hlt)
      have HVM := hid (fun (j : Nat) (e : vm.ownBlock = some j) => (HO.out.lt j e).2)
      obtain ⟨wo, hwo⟩ : ∃ wo : World, wo = wr := ⟨_, rfl⟩
      subst hwo
      obtain ⟨pm, cm, rfl, _, _⟩ := own_slice HO.out
      have HWZ := hid HR.out.sz
      clear hlt
      go_wp2
      go_loopw [9] (fun i wr => ∃ (j : Nat) (vc : Value), j ≤ P ∧ i = .int .i64 j ∧ Hid (Rd w wr (.slice pm k cm) vc) ∧ Hid (wr.ownsRow (w.heap.size + 2) 48 4 (.slice pm k cm) k ((takeM k (zs.drop 1)).flatMap cellsM)) ∧ Hid (wr.ownsRow wo.heap.size 51 5 vc j ((takeI j (zs.drop (A + 2))).flatMap cellsI)) ∧ Hid (wo.heap.size ≤ wr.heap.size)) (fun i _ => P - (intOf i).toNat)
      case atStart => exact ⟨0, _, Nat.zero_le _, rfl, HR, HO, hid (World.ownsRow_nil _ _ _ _), hid (Nat.le_refl _)⟩
      case round =>
        clear HR HO
        obtain ⟨j, vc, hj, rfl, HR, HO, HC, HS⟩ := hrel
        by_cases hlt : j < P
        · have hli : (j : Int) < (P : Int) := Int.ofNat_lt.2 hlt
          obtain ⟨nA, nN, nP', nL⟩ := HNUM.out
          have hj9 : j < 1000 := num_lt2 hlt nP'
          obtain ⟨Lo, hLo⟩ : ∃ a, a = A + 2 + 8 * j := ⟨_, rfl⟩
          have m1 := num_8 hj9
          have m2 := num_lo (num_A nA nN) hj9 hLo
          have m3 := num_10 (num_A nA nN)
          have m4 := num_hi (num_A nA nN) hj9 hLo
          have nLo : Lo + 8 ≤ zs.length := num_end hlt nL hLo
          have HSL := hid (sl_part g o zs.length cap Lo nLo hc)
          have HB := hid (by_cut HBY.out hg (fun i hi => (HR.out.bel.cell (p := ⟨g, o + i, none⟩) hg).trans (HCELL.out i hi)) nLo)
          have HD := hid (rdecode_B w.heap.size wr (some ⟨g, o + Lo, none⟩) (cap - Lo) _ HB.out HR.out.bel.size)
          rw [iAt_take] at HD
          have HM := hid (show (takeI (j + 1) (zs.drop (A + 2))).flatMap cellsI = (takeI j (zs.drop (A + 2))).flatMap cellsI ++ cellsI (iAt zs Lo) by
            rw [takeI_succ, List.flatMap_append, iAt_drop, List.flatMap_cons, List.flatMap_nil, List.append_nil, hLo])
          have HX := hid (iAt_ok HBY.out Lo).1
          clear HB nA nN nP' nL hLo nLo
          generalize iAt zs Lo = xi at *
          obtain ⟨x0, y1, y2, y3, y4⟩ := xi
          unfold I5.V at HD
          dsimp only at HD
          have hsl := HSL.out
          go_wp2_with fail
          refine HD.out.mono ?_
          rintro e w3 ⟨rfl, b3⟩
          have HR3 := hid (HR.out.kept b3)
          have HO3 := hid (own_kept HO.out b3)
          have HC3 := hid (own_kept HC.out b3)
          have hs3 := hid (Nat.le_trans HS.out b3.size)
          have hwl : w.heap.size + 1 < w3.heap.size := HR3.out.sz
          clear HR HO HC HS b3 HD hsl HSL
          obtain ⟨pc, cc, rfl, _, _⟩ := own_slice HC3.out
          have c1 := HR3.out.c1
          have f1 := HR3.out.f1
          have SR := src_new5 (w3.alloc (.cells #[.int .u8 x0, .int .u8 y1, .int .u8 y2, .int .i16 y3, .int .i32 y4] 51)) (.int .u8 x0) (.int .u8 y1) (.int .u8 y2) (.int .i16 y3) (.int .i32 y4) 51
          rw [World.size_alloc] at SR
          have SR' := hid SR
          have BL := hid (((Below.refl wo.heap.size w3).alloc hs3.out (.cells #[.int .u8 x0, .int .u8 y1, .int .u8 y2, .int .i16 y3, .int .i32 y4] 51)).alloc (by rw [World.size_alloc]; exact Nat.le_succ_of_le hs3.out) (.cells #[.int .u8 x0, .int .u8 y1, .int .u8 y2, .int .i16 y3, .int .i32 y4] 51))
          have hq3 := hid (show wo.heap.size ≤ ((w3.alloc (.cells #[.int .u8 x0, .int .u8 y1, .int .u8 y2, .int .i16 y3, .int .i32 y4] 51)).alloc (.cells #[.int .u8 x0, .int .u8 y1, .int .u8 y2, .int .i16 y3, .int .i32 y4] 51)).heap.size by rw [World.size_alloc, World.size_alloc]; exact Nat.le_succ_of_le (Nat.le_succ_of_le hs3.out))
          clear SR
          go_wp2_with (at_builtin; refine app_own 23 51 5 12 _ Try.underlying23 insInfo rfl (by decide) rfl (.tmp 131) (.tmp 133) rfl wo.heap.size w3 _ _ j ((takeI j (zs.drop (A + 2))).flatMap cellsI) (by exact rfl) ((HC3.out.alloc _).alloc _) BL.out hq3.out (w3.heap.size + 1 + 1) _ 1 1 (cellsI ⟨x0, y1, y2, y3, y4⟩) (by exact rfl) rfl SR'.out (by intro u hu; simp [cellsI] at hu; rcases hu with rfl | rfl | rfl | rfl | rfl <;> rfl) (num_m hj9) (num_n hj9) ?_; intro v4 w4 own4 bel4 grow4 _; have grow5 := grow_two grow4; have HR4 := hid (HR3.out.grown grow5 (fun i e => Nat.le_trans HWZ.out (HC3.out.lt i e).1)); have HO4 := hid (HO3.out.kept grow5 (ne_own HVM.out (fun i e => (HC3.out.lt i e).1))); have c4 := HR4.out.c1; have f4 := HR4.out.f1; have HC4 := hid own4; have hs4 := hid (Nat.le_trans hs3.out grow5.size); have hwl4 : w.heap.size + 1 < w4.heap.size := HR4.out.sz; obtain ⟨p4, c4_, rfl, _, _⟩ := own_slice own4)
          go_roundw
          case rel =>
            refine ⟨j + 1, _, Nat.succ_le_of_lt hlt, ?_, hid (HR4.out.put1 _), hid ?_, hid ?_, hid ?_⟩
            · go_num
            · exact ownsRow_setCell_below HO4.out (a := ⟨w.heap.size + 1, 1, none⟩) (Nat.lt_succ_self _) _
            · rw [HM.out]
              exact ownsRow_setCell_below HC4.out (a := ⟨w.heap.size + 1, 1, none⟩) (Nat.lt_of_lt_of_le (Nat.lt_succ_self _) HWZ.out) _
            · rw [World.size_setCell]; exact hs4.out
          case measure => simp [intOf]; omega
        · obtain rfl : j = P := Nat.le_antisymm hj (Nat.le_of_not_lt hlt)
          clear hlt
          obtain ⟨pc, cc, rfl, _, _⟩ := own_slice HC.out
          have c0 := HR.out.c0
          have c1 := HR.out.c1
          have z0 := HR.out.z0
          have z1 := HR.out.z1
          have y0 := HR.out.y0
          have y1 := HR.out.y1
          have qq : w.heap.size < wr.heap.size := Nat.lt_of_lt_of_le (Nat.lt_succ_of_lt (Nat.lt_succ_self _)) HR.out.sz
          go_wp2
          refine bodyPost_ret (v := .tuple #[.agg #[.slice pm k cm, .slice pc j cc], .int .i64 0]) (by simp [results, Try.results17, go_sem, z0, z1, qq]) rfl (dep_ok (n₀ := w.heap.size + 2) (Nat.le_add_right _ _) HBY.out hE (by rw [HNE.out, HPE.out]) ?_ ?_ ?_)
          · rw [HNE.out, HL.out.1]
            exact ownsRow_setCell_below (ownsRow_setCell_below HO.out (a := ⟨w.heap.size, 0, none⟩) (by simp) _) (a := ⟨w.heap.size, 1, none⟩) (by simp) _
          · rw [HPE.out, HL.out.2]
            exact ownsRow_setCell_below (ownsRow_setCell_below (own_mono HC.out HWZ.out) (a := ⟨w.heap.size, 0, none⟩) (by simp) _) (a := ⟨w.heap.size, 1, none⟩) (by simp) _
          · exact (HR.out.bel.setCell (p := ⟨w.heap.size, 0, none⟩) (Nat.le_refl _) _).setCell (p := ⟨w.heap.size, 1, none⟩) (Nat.le_refl _) _

theorem rDecode_any (p : Option Addr) (cap : Nat) (zs : List Int) (w : World) (hL : ByL w.heap.size w p zs.length zs) (hc : zs.length ≤ cap) :
    Calls Try.prog 17 #[.slice p zs.length cap] w (DeP w zs) := by
  by_cases h0 : 65536 < zs.length
  · exact rDecode_a p cap zs w hL hc h0
  by_cases h1 : zs.length < 1
  · exact rDecode_b p cap zs w hL hc h1
  by_cases h2 : 4 < nM zs
  · exact rDecode_c p cap zs w hL hc h0 h1 h2
  by_cases h3 : zs.length < 3 + 4 * nM zs
  · exact rDecode_d p cap zs w hL hc h0 h1 h2 h3
  by_cases h4 : 512 < nP zs
  · exact rDecode_e p cap zs w hL hc h0 h1 h2 h3 h4
  by_cases h5 : zs.length < 3 + 4 * nM zs + 8 * nP zs
  · exact rDecode_f p cap zs w hL hc h0 h1 h2 h3 h4 h5
  by_cases h6 : 3 + 4 * nM zs + 8 * nP zs < zs.length
  · exact rDecode_g p cap zs w hL hc h0 h1 h2 h3 h4 h5 h6
  · exact rDecode_h p cap zs w hL hc h0 h1 h2 h3 h4 h5 h6
end Go.Proofs.Ytolpgcoebmboeaa
