/-
  The code's Decode: the closure that takes bytes, counts, maps, places.
-/
import Derived.Test.YtolpgcoebmboeaaImG
namespace Go.Proofs.Ytolpgcoebmboeaa
set_option linter.unusedSimpArgs false
set_option linter.unusedVariables false
open Go.ChangeShapes Go.WideShapes Go.ChangeAt Go.RowKit


/-- What is left of the bytes, boxed in block B. -/
structure Tk (n₀ B : Nat) (w : World) (zs : List Int) : Prop where
  box : ∃ p cap, w.cell? ⟨B, 0, none⟩ = some (.slice p zs.length cap) ∧ zs.length ≤ cap ∧ ByL n₀ w p zs.length zs
  frz : w.frozen? ⟨B, 0, none⟩ = false
  hB : n₀ ≤ B
theorem Tk.lt {n₀ B : Nat} {w : World} {zs : List Int} (h : Tk n₀ B w zs) : B < w.heap.size := by
  obtain ⟨p, cap, h1, _⟩ := h.box
  exact World.block_lt_of_cell? w _ h1
theorem Tk.kept {n₀ B : Nat} {w w' : World} {zs : List Int} (h : Tk n₀ B w zs) (hb : Below w.heap.size w w') : Tk n₀ B w' zs := by
  have hl := h.lt
  obtain ⟨p, cap, h1, h2, h3⟩ := h.box
  exact ⟨⟨p, cap, cn hb h1, h2, h3.kept (m := w.heap.size) hb (by have := h.hB; omega)⟩, (hb.frozen (p := ⟨B, 0, none⟩) hl).trans h.frz, h.hB⟩
/-- Only block B has changed (and new ones are there). -/
def But (B : Nat) (w w' : World) : Prop := w.grownBy w' (some B)
theorem But.refl (B : Nat) (w : World) : But B w w := ⟨rfl, rfl, rfl, Nat.le_refl _, fun _ _ _ => rfl⟩
theorem But.trans {B : Nat} {a b c : World} (h : But B a b) (k : But B b c) : But B a c :=
  ⟨k.os.trans h.os, k.tape.trans h.tape, k.output.trans h.output, Nat.le_trans h.size k.size, fun j hj hn => (k.block j (Nat.lt_of_lt_of_le hj h.size) hn).trans (h.block j hj hn)⟩
theorem But.below {B n : Nat} {a b : World} (h : But B a b) (hn : n ≤ B) (hs : n ≤ a.heap.size) : Below n a b :=
  ⟨h.os, h.tape, h.output, h.size, fun k hk => h.block k (by omega) (by simp; omega)⟩
theorem But.of {B : Nat} {a b : World} (h : Below a.heap.size a b) : But B a b := ⟨h.os, h.tape, h.output, h.size, fun k hk _ => h.block k hk⟩
/-- Nothing but B and the list's own block has changed. -/
theorem But.by {n₀ B : Nat} {a b c : World} {row : Option Nat} (h : But B a b) (hg : b.grownBy c row) (hr : ∀ k, row = some k → a.heap.size ≤ k) : But B a c :=
  ⟨hg.os.trans h.os, hg.tape.trans h.tape, hg.output.trans h.output, Nat.le_trans h.size hg.size, fun j hj hn => (hg.block j (Nat.lt_of_lt_of_le hj h.size) (fun e => by have := hr j e.symm; omega)).trans (h.block j hj hn)⟩
theorem Tk.grown {n₀ B : Nat} {w w' : World} {zs : List Int} {row : Option Nat} (h : Tk n₀ B w zs) (hg : w.grownBy w' row) (hr : ∀ k, row = some k → B < k) : Tk n₀ B w' zs := by
  have hl := h.lt
  obtain ⟨p, cap, h1, h2, h3, h4, h5⟩ := h.box
  have hne : some B ≠ row := fun e => by have := hr B e.symm; omega
  refine ⟨⟨p, cap, hg.cell h1 hne, h2, h3, h4, h5.imp id ?_⟩, (World.frozen?_of_block (a := ⟨B, 0, none⟩) (hg.block B hl hne)).trans h.frz, h.hB⟩
  rintro ⟨g, o, e, hg1, hc⟩
  exact ⟨g, o, e, hg1, fun j hj => hg.cell (hc j hj) (fun e => by have := hr g e.symm; have := h.hB; omega)⟩

theorem take_short (n₀ B : Nat) (w : World) (zs : List Int) (n : Nat) (hT : Tk n₀ B w zs) (h : zs.length < n) (hz : zs.length < 4611686018427387904) (hn : n < 4611686018427387904) :
    Calls Try.prog 22 #[.int .i64 n, .pointer (some ⟨B, 0, none⟩)] w fun e w' => e = .returned (.tuple #[.slice none 0 0, .int .i64 4]) ∧ Below w.heap.size w w' := by
  obtain ⟨p, cap, h1, h2, h3⟩ := hT.box
  have d0 : decide ((zs.length : Int) < n) = true := decide_eq_true (by omega)
  have d1 : decide (zs.length < n) = true := decide_eq_true h
  clear hT h3
  go_enter Try.func22, Try.ntmps22
  go_wp2
  go_ret2
  exact ⟨rfl, Below.refl _ _⟩
theorem by_part {n₀ : Nat} {w w' : World} {g o n : Nat} {zs : List Int} (hz : By zs) (hg : g < n₀) (hc : ∀ j, j < zs.length → w'.cell? ⟨g, o + j, none⟩ = some (.int .u8 (zs.getD j 0))) (h : n ≤ zs.length) : ByL n₀ w' (some ⟨g, o, none⟩) n (zs.take n) :=
  ⟨by rw [List.length_take]; omega, hz.take n, .inr ⟨g, o, rfl, hg, fun j hj => by rw [getD_take _ _ _ hj]; exact hc j (by omega)⟩⟩
theorem by_rest {n₀ : Nat} {w' : World} {g o n : Nat} {zs : List Int} (hz : By zs) (hg : g < n₀) (hc : ∀ j, j < zs.length → w'.cell? ⟨g, o + j, none⟩ = some (.int .u8 (zs.getD j 0))) (h : n ≤ zs.length) : ByL n₀ w' (some ⟨g, o + n, none⟩) (zs.drop n).length (zs.drop n) :=
  ⟨rfl, hz.drop n, .inr ⟨g, o + n, rfl, hg, fun j hj => by rw [List.length_drop] at hj; rw [getD_drop, Nat.add_assoc]; exact hc (n + j) (by omega)⟩⟩
theorem take_ok (n₀ B : Nat) (w : World) (zs : List Int) (n : Nat) (hT : Tk n₀ B w zs) (h : n ≤ zs.length) (h0 : 1 ≤ n) (hz : zs.length < 4611686018427387904) :
    Calls Try.prog 22 #[.int .i64 n, .pointer (some ⟨B, 0, none⟩)] w fun e w' => ∃ p, e = .returned (.tuple #[.slice p n n, .int .i64 0]) ∧ ByL n₀ w' p n (zs.take n) ∧ Tk n₀ B w' (zs.drop n) ∧ But B w w' ∧ w'.heap.size = w.heap.size := by
  have hlt := hT.lt
  have hf := hT.frz
  have hB := hT.hB
  obtain ⟨p, cap, h1, h2, h3, h4, h5⟩ := hT.box
  obtain ⟨g, o, rfl, hg, hc⟩ := h5.resolve_left (by omega)
  have HC := hid hc
  have H4 := hid h4
  have d0 : decide ((zs.length : Int) < n) = false := decide_eq_false (by omega)
  have d1 : decide (zs.length < n) = false := decide_eq_false (by omega)
  clear hT hc h3 h4 h5
  go_enter Try.func22, Try.ntmps22
  go_wp2
  case inl =>
    have hl : zs.length = n := by omega
    have hc' : ∀ j, j < zs.length → (w.setCell ⟨B, 0, none⟩ (.slice (some ⟨g, o, none⟩) (zs.length - n) 0)).cell? ⟨g, o + j, none⟩ = some (.int .u8 (zs.getD j 0)) := fun j hj => (set_oth (by intro e; injection e with e1; omega)).trans (HC.out j hj)
    go_ret2
    refine ⟨_, rfl, by_part (w := w) H4.out hg hc' (by omega), ⟨⟨some ⟨g, o, none⟩, 0, (World.cell?_setCell_same _ _ _ h1).trans ?_, ?_, ?_⟩, ?_, hB⟩, ?_, by simp⟩
    · rw [List.length_drop]
    · rw [List.length_drop]; omega
    · exact ⟨rfl, (By.drop (zs := zs) H4.out n), .inl (by rw [List.length_drop]; omega)⟩
    · simp [hf]
    · exact ⟨rfl, rfl, rfl, by simp, fun k hk hne => Below.heap_setCell _ _ _ _ (fun e => hne (by rw [e]))⟩
  case inr =>
    have hc' : ∀ j, j < zs.length → (w.setCell ⟨B, 0, none⟩ (.slice (some ⟨g, o + n, none⟩) (zs.length - n) (cap - n))).cell? ⟨g, o + j, none⟩ = some (.int .u8 (zs.getD j 0)) := fun j hj => (set_oth (by intro e; injection e with e1; omega)).trans (HC.out j hj)
    go_ret2
    refine ⟨_, rfl, by_part (w := w) H4.out hg hc' (by omega), ⟨⟨some ⟨g, o + n, none⟩, cap - n, (World.cell?_setCell_same _ _ _ h1).trans ?_, ?_, ?_⟩, ?_, hB⟩, ?_, by simp⟩
    · rw [List.length_drop]
    · rw [List.length_drop]; omega
    · exact by_rest H4.out hg hc' (by omega)
    · simp [hf]
    · exact ⟨rfl, rfl, rfl, by simp, fun k hk hne => Below.heap_setCell _ _ _ _ (fun e => hne (by rw [e]))⟩

theorem cnt_short (n₀ B : Nat) (w : World) (zs : List Int) (n most : Nat) (hT : Tk n₀ B w zs) (h : zs.length < n) (hn : n < 4611686018427387904) :
    Calls Try.prog 30 #[.func (.func 22) #[] #[.pointer (some ⟨B, 0, none⟩)], .int .i64 n, .int .i64 most] w fun e w' => e = .returned (.tuple #[.int .i64 0, .int .i64 4]) ∧ Below w.heap.size w w' := by
  have HT := hid (take_short n₀ B w zs n hT h (by omega) hn)
  clear hT
  go_enter Try.func30, Try.ntmps30
  go_wp2_with (go_at_call 22; refine HT.out.mono ?_; rintro e w1 ⟨rfl, b1⟩)
  go_ret2
  exact ⟨rfl, b1⟩
theorem i64_or (x y : Int) (h0 : 0 ≤ x) (h1 : x < 256) (g0 : 0 ≤ y) (g1 : y < 256) : bits .or .i64 x (y * 256) = x + y * 256 := by
  obtain ⟨n, rfl⟩ : ∃ n : Nat, x = n := ⟨x.toNat, by omega⟩
  obtain ⟨m, rfl⟩ : ∃ n : Nat, y = n := ⟨y.toNat, by omega⟩
  show IntKind.i64.wrap ((BitVec.ofInt 64 (n : Int) ||| BitVec.ofInt 64 ((m : Int) * 256)).toNat : Int) = _
  rw [show ((m : Int) * 256) = ((m * 2 ^ 8 : Nat) : Int) by omega, BitVec.toNat_or, BitVec.ofInt_natCast, BitVec.ofInt_natCast, BitVec.toNat_ofNat, BitVec.toNat_ofNat, Nat.mod_eq_of_lt (by omega), Nat.mod_eq_of_lt (by omega), or_sum_nat _ _ _ (by omega), IntKind.wrap_i64]
  omega
theorem i64_or0 (x : Int) (h0 : 0 ≤ x) (h1 : x < 256) : bits .or .i64 0 x = x := by
  have := i64_or 0 0 (by decide) (by decide) (by decide) (by decide)
  obtain ⟨n, rfl⟩ : ∃ n : Nat, x = n := ⟨x.toNat, by omega⟩
  show IntKind.i64.wrap ((BitVec.ofInt 64 (0 : Int) ||| BitVec.ofInt 64 (n : Int)).toNat : Int) = _
  rw [show (0 : Int) = ((0 : Nat) : Int) from rfl, BitVec.toNat_or, BitVec.ofInt_natCast, BitVec.ofInt_natCast, BitVec.toNat_ofNat, BitVec.toNat_ofNat, Nat.mod_eq_of_lt (by omega), Nat.mod_eq_of_lt (by omega), Nat.zero_or, IntKind.wrap_i64]
  omega
theorem Tk.by {n₀ B : Nat} {w : World} {zs : List Int} (h : Tk n₀ B w zs) : By zs := by
  obtain ⟨p, cap, _, _, h3⟩ := h.box
  exact h3.2.1
/-- A count of two bytes. -/
def nQ (zs : List Int) : Nat := (zs.getD 0 0 + 256 * zs.getD 1 0).toNat
set_option maxHeartbeats 1600000 in
theorem cnt1_ok (n₀ B : Nat) (w : World) (zs : List Int) (most : Nat) (hT : Tk n₀ B w zs) (hz : zs.length < 4611686018427387904) (h : 1 ≤ zs.length) (hm : nM zs ≤ most) :
    Calls Try.prog 30 #[.func (.func 22) #[] #[.pointer (some ⟨B, 0, none⟩)], .int .i64 1, .int .i64 most] w fun e w' => e = .returned (.tuple #[.int .i64 (nM zs), .int .i64 0]) ∧ Tk n₀ B w' (zs.drop 1) ∧ But B w w' := by
  have HT := hid (take_ok n₀ B w zs 1 hT h (by decide) hz)
  have hx := hT.by.at 0
  have hy := hT.by.at 1
  clear hT
  go_enter Try.func30, Try.ntmps30
  go_wp2_with (go_at_call 22; refine HT.out.mono ?_; rintro e w1 ⟨p, rfl, hL, hT1, hB1, hs1⟩)
  obtain ⟨g, o, rfl, hg, hc⟩ := hL.2.2.resolve_left (by decide)
  have r0 := hc 0 (by decide)
  rw [getD_take _ _ _ (by decide), Nat.add_zero] at r0
  have hv : (nM zs : Int) = zs.getD 0 0 := by unfold nM; omega
  clear hc hL HT hg
  generalize zs.getD 0 0 = x at *
  generalize zs.getD 1 0 = y at *
  obtain ⟨x0, x1⟩ := hx
  obtain ⟨y0, y1⟩ := hy
  have d0 : decide ((most : Int) < x) = false := decide_eq_false (by omega)
  have e1 : wrap64 x = x := by unfold wrap64; omega
  have e2 := i64_or0 x x0 x1
  have HV := hid hv
  clear hv hm
  refine wp_loop_rounds 2 ?_
  rw [rounds_succ]
  go_wp2
  rw [rounds_succ]
  go_wp2
  go_ret2
  exact ⟨ret_val (by rw [HV.out]; rfl), hT1, hB1⟩
set_option maxHeartbeats 1600000 in
theorem cnt1_big (n₀ B : Nat) (w : World) (zs : List Int) (most : Nat) (hT : Tk n₀ B w zs) (hz : zs.length < 4611686018427387904) (h : 1 ≤ zs.length) (hm : most < nM zs) :
    Calls Try.prog 30 #[.func (.func 22) #[] #[.pointer (some ⟨B, 0, none⟩)], .int .i64 1, .int .i64 most] w fun e w' => e = .returned (.tuple #[.int .i64 0, .int .i64 5]) ∧ But B w w' := by
  have HT := hid (take_ok n₀ B w zs 1 hT h (by decide) hz)
  have hx := hT.by.at 0
  have hy := hT.by.at 1
  clear hT
  go_enter Try.func30, Try.ntmps30
  go_wp2_with (go_at_call 22; refine HT.out.mono ?_; rintro e w1 ⟨p, rfl, hL, hT1, hB1, hs1⟩)
  obtain ⟨g, o, rfl, hg, hc⟩ := hL.2.2.resolve_left (by decide)
  have r0 := hc 0 (by decide)
  rw [getD_take _ _ _ (by decide), Nat.add_zero] at r0
  have hv : (nM zs : Int) = zs.getD 0 0 := by unfold nM; omega
  clear hc hL HT hg
  generalize zs.getD 0 0 = x at *
  generalize zs.getD 1 0 = y at *
  obtain ⟨x0, x1⟩ := hx
  obtain ⟨y0, y1⟩ := hy
  have d0 : decide ((most : Int) < x) = true := decide_eq_true (by omega)
  have e1 : wrap64 x = x := by unfold wrap64; omega
  have e2 := i64_or0 x x0 x1
  have HV := hid hv
  clear hv hm
  refine wp_loop_rounds 2 ?_
  rw [rounds_succ]
  go_wp2
  rw [rounds_succ]
  go_wp2
  go_ret2
  exact ⟨rfl, hB1⟩
set_option maxHeartbeats 1600000 in
theorem cnt2_ok (n₀ B : Nat) (w : World) (zs : List Int) (most : Nat) (hT : Tk n₀ B w zs) (hz : zs.length < 4611686018427387904) (h : 2 ≤ zs.length) (hm : nQ zs ≤ most) :
    Calls Try.prog 30 #[.func (.func 22) #[] #[.pointer (some ⟨B, 0, none⟩)], .int .i64 2, .int .i64 most] w fun e w' => e = .returned (.tuple #[.int .i64 (nQ zs), .int .i64 0]) ∧ Tk n₀ B w' (zs.drop 2) ∧ But B w w' := by
  have HT := hid (take_ok n₀ B w zs 2 hT h (by decide) hz)
  have hx := hT.by.at 0
  have hy := hT.by.at 1
  clear hT
  go_enter Try.func30, Try.ntmps30
  go_wp2_with (go_at_call 22; refine HT.out.mono ?_; rintro e w1 ⟨p, rfl, hL, hT1, hB1, hs1⟩)
  obtain ⟨g, o, rfl, hg, hc⟩ := hL.2.2.resolve_left (by decide)
  have r0 := hc 0 (by decide)
  rw [getD_take _ _ _ (by decide), Nat.add_zero] at r0
  have r1 := hc 1 (by decide)
  rw [getD_take _ _ _ (by decide)] at r1
  have hv : (nQ zs : Int) = zs.getD 0 0 + zs.getD 1 0 * 256 := by unfold nQ; omega
  clear hc hL HT hg
  generalize zs.getD 0 0 = x at *
  generalize zs.getD 1 0 = y at *
  obtain ⟨x0, x1⟩ := hx
  obtain ⟨y0, y1⟩ := hy
  have d0 : decide ((most : Int) < x + y * 256) = false := decide_eq_false (by omega)
  have e4 : wrap64 (y * 256) = y * 256 := by unfold wrap64; omega
  have e5 := i64_or x y x0 x1 y0 y1
  have e6 : wrap64 y = y := by unfold wrap64; omega
  have e1 : wrap64 x = x := by unfold wrap64; omega
  have e2 := i64_or0 x x0 x1
  have HV := hid hv
  clear hv hm
  refine wp_loop_rounds 3 ?_
  rw [rounds_succ]
  go_wp2
  rw [rounds_succ]
  go_wp2
  rw [rounds_succ]
  go_wp2
  go_ret2
  exact ⟨ret_val (by rw [HV.out]; rfl), hT1, hB1⟩
set_option maxHeartbeats 1600000 in
theorem cnt2_big (n₀ B : Nat) (w : World) (zs : List Int) (most : Nat) (hT : Tk n₀ B w zs) (hz : zs.length < 4611686018427387904) (h : 2 ≤ zs.length) (hm : most < nQ zs) :
    Calls Try.prog 30 #[.func (.func 22) #[] #[.pointer (some ⟨B, 0, none⟩)], .int .i64 2, .int .i64 most] w fun e w' => e = .returned (.tuple #[.int .i64 0, .int .i64 5]) ∧ But B w w' := by
  have HT := hid (take_ok n₀ B w zs 2 hT h (by decide) hz)
  have hx := hT.by.at 0
  have hy := hT.by.at 1
  clear hT
  go_enter Try.func30, Try.ntmps30
  go_wp2_with (go_at_call 22; refine HT.out.mono ?_; rintro e w1 ⟨p, rfl, hL, hT1, hB1, hs1⟩)
  obtain ⟨g, o, rfl, hg, hc⟩ := hL.2.2.resolve_left (by decide)
  have r0 := hc 0 (by decide)
  rw [getD_take _ _ _ (by decide), Nat.add_zero] at r0
  have r1 := hc 1 (by decide)
  rw [getD_take _ _ _ (by decide)] at r1
  have hv : (nQ zs : Int) = zs.getD 0 0 + zs.getD 1 0 * 256 := by unfold nQ; omega
  clear hc hL HT hg
  generalize zs.getD 0 0 = x at *
  generalize zs.getD 1 0 = y at *
  obtain ⟨x0, x1⟩ := hx
  obtain ⟨y0, y1⟩ := hy
  have d0 : decide ((most : Int) < x + y * 256) = true := decide_eq_true (by omega)
  have e4 : wrap64 (y * 256) = y * 256 := by unfold wrap64; omega
  have e5 := i64_or x y x0 x1 y0 y1
  have e6 : wrap64 y = y := by unfold wrap64; omega
  have e1 : wrap64 x = x := by unfold wrap64; omega
  have e2 := i64_or0 x x0 x1
  have HV := hid hv
  clear hv hm
  refine wp_loop_rounds 3 ?_
  rw [rounds_succ]
  go_wp2
  rw [rounds_succ]
  go_wp2
  rw [rounds_succ]
  go_wp2
  go_ret2
  exact ⟨rfl, hB1⟩
end Go.Proofs.Ytolpgcoebmboeaa
