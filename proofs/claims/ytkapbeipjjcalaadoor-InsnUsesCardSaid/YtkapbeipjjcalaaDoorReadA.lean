/-
  The contract of insn.Reads, as the landed code has it.
-/
import Derived.Test.YtkapbeipjjcalaaDoorReadH
namespace Go.Proofs.YtkapbeipjjcalaaDoor
set_option linter.unusedSimpArgs false
set_option linter.unusedVariables false
open Go.ChangeShapes Go.WideShapes Go.ChangeAt Go.RowKit Go.Sort Go.Lib

def altB (r : Rw) : Bool := (r.cls == 1 && r.op != 11) || r.cls == 2
theorem alters_is (r : Rw) (b : Bool) (hb : altB r = b) (w : World) : Calls Tryd.prog 18 #[whV r] w fun e w' => e = .returned (.bool b) ∧ Below w.heap.size w w' := by
  subst hb
  unfold altB whV
  cases h1 : (r.cls == 1) <;> cases h2 : (r.op != 11) <;> cases h3 : (r.cls == 2)
  all_goals
    go_enter Tryd.func18, Tryd.ntmps18
    go_wp2
    go_ret
    exact ⟨rfl, (Below.refl _ _).alloc (Nat.le_refl _) _⟩
theorem OwnI.later {w0 w w' : World} {v : Value} {zs : List Int} (h : OwnI w0 w v zs) (hb : Below w.heap.size w w') : OwnI w0 w' v zs := by
  obtain ⟨h1, h2⟩ := h
  refine ⟨⟨h1.1, ?_⟩, h2.trans (hb.mono h2.size)⟩
  rcases h1.2 with h | ⟨g, cap, cur, a, b, c, d⟩
  · exact .inl h
  · have hlt : g < w.heap.size := (Array.getElem?_eq_some_iff.1 c).1
    exact .inr ⟨g, cap, cur, a, b, (hb.block g hlt).trans c, d⟩
theorem OwnI.weak {w0 w1 w : World} {v : Value} {zs : List Int} (h : OwnI w1 w v zs) (hb : Below w0.heap.size w0 w1) : OwnI w0 w v zs := by
  obtain ⟨h1, h2⟩ := h
  refine ⟨⟨h1.1, ?_⟩, hb.trans (h2.mono hb.size)⟩
  rcases h1.2 with h | ⟨g, cap, cur, a, b, c⟩
  · exact .inl h
  · exact .inr ⟨g, cap, cur, a, Nat.le_trans hb.size b, c⟩

set_option maxRecDepth 100000 in
set_option maxHeartbeats 1000000 in
theorem reads_e (T : Rw) (E op dst src off imm : Int) (w : World) (d0 : 0 ≤ dst) (d1 : dst < 256) (s0 : 0 ≤ src) (s1 : src < 256) (hz : SzOk w)
    (HT : Hid (∀ W, SzOk W → Calls Tryd.prog 17 #[.agg #[.int .u8 op, .int .u8 dst, .int .u8 src, .int .i16 off, .int .i32 imm]] W fun e w' => e = .returned (.tuple #[rowV T, .int .i64 E]) ∧ Below W.heap.size W w')) (hE : (E != 0) = true) :
    Calls Tryd.prog 6 #[.agg #[.int .u8 op, .int .u8 dst, .int .u8 src, .int .i16 off, .int .i32 imm]] w (Left2 w []) := by
  have HZ := hid hz
  clear hz
  go_enter Tryd.func6, Tryd.ntmps6
  go_wp2_with fail
  refine (HT.out _ (HZ.out.alloc _)).mono ?_
  rintro e w1 ⟨rfl, b1⟩
  have hb1 := hid (((Below.refl w.heap.size w).alloc (Nat.le_refl _) (.cells #[.int .u8 op, .int .u8 dst, .int .u8 src, .int .i16 off, .int .i32 imm] 24)).trans (b1.mono (by simp)))
  have q0 : w.heap.size < w1.heap.size := by have := b1.size; simp at this; omega
  obtain ⟨hc, hf⟩ := bcell b1
  have hX := hid (hb1.out.alloc hb1.out.size (.cells #[.int .i64 T.cls, .int .i64 T.op, .int .i64 T.size, .bool T.wide, .bool T.reg, .int .i64 T.dst, .int .i64 T.src, .int .i64 T.off, .int .i64 T.imm] 46))
  have own0 := OwnI.nil (w1.alloc (.cells #[.int .i64 T.cls, .int .i64 T.op, .int .i64 T.size, .bool T.wide, .bool T.reg, .int .i64 T.dst, .int .i64 T.src, .int .i64 T.off, .int .i64 T.imm] 46))
  have HO := hid own0
  clear b1 HT own0
  simp only [rowV]
  go_wp2
  go_ret
  exact ⟨_, rfl, HO.out.weak hX.out⟩

set_option maxRecDepth 100000 in
set_option maxHeartbeats 1000000 in
theorem reads_x (T : Rw) (E op dst src off imm : Int) (w : World) (d0 : 0 ≤ dst) (d1 : dst < 256) (s0 : 0 ≤ src) (s1 : src < 256) (hz : SzOk w)
    (HT : Hid (∀ W, SzOk W → Calls Tryd.prog 17 #[.agg #[.int .u8 op, .int .u8 dst, .int .u8 src, .int .i16 off, .int .i32 imm]] W fun e w' => e = .returned (.tuple #[rowV T, .int .i64 E]) ∧ Below W.heap.size W w')) (hE : (E != 0) = false) (x : (T.cls == 9) = true) (dd : (T.dst == 2) = false) (ha : altB T = false) (ss : (T.src == 2) = false) :
    Calls Tryd.prog 6 #[.agg #[.int .u8 op, .int .u8 dst, .int .u8 src, .int .i16 off, .int .i32 imm]] w (Left2 w (compact ([0].mergeSort fun x y => decide (x ≤ y)))) := by
  have HZ := hid hz
  clear hz
  go_enter Tryd.func6, Tryd.ntmps6
  go_wp2_with fail
  refine (HT.out _ (HZ.out.alloc _)).mono ?_
  rintro e w1 ⟨rfl, b1⟩
  have hb1 := hid (((Below.refl w.heap.size w).alloc (Nat.le_refl _) (.cells #[.int .u8 op, .int .u8 dst, .int .u8 src, .int .i16 off, .int .i32 imm] 24)).trans (b1.mono (by simp)))
  have q0 : w.heap.size < w1.heap.size := by have := b1.size; simp at this; omega
  obtain ⟨hc, hf⟩ := bcell b1
  have hX := hid (hb1.out.alloc hb1.out.size (.cells #[.int .i64 T.cls, .int .i64 T.op, .int .i64 T.size, .bool T.wide, .bool T.reg, .int .i64 T.dst, .int .i64 T.src, .int .i64 T.off, .int .i64 T.imm] 46))
  have own0 := OwnI.nil (w1.alloc (.cells #[.int .i64 T.cls, .int .i64 T.op, .int .i64 T.size, .bool T.wide, .bool T.reg, .int .i64 T.dst, .int .i64 T.src, .int .i64 T.off, .int .i64 T.imm] 46))
  have HO := hid own0
  clear b1 HT own0
  simp only [rowV]
  have HL := hid fun W => alters_is T false ha W
  simp only [whV] at HL
  go_wp2_with ((at_builtin; refine append_int rfl (.tmp 17) (.tmp 18) rfl (w1.alloc (.cells #[.int .i64 T.cls, .int .i64 T.op, .int .i64 T.size, .bool T.wide, .bool T.reg, .int .i64 T.dst, .int .i64 T.src, .int .i64 T.off, .int .i64 T.imm] 46)) (w1.alloc (.cells #[.int .i64 T.cls, .int .i64 T.op, .int .i64 T.size, .bool T.wide, .bool T.reg, .int .i64 T.dst, .int .i64 T.src, .int .i64 T.off, .int .i64 T.imm] 46)) _ [] 0 (by exact rfl) HO.out _ _ (by exact rfl) (by simp) (by exact rfl) (by simp) ?_; intro v2 w2 own2; obtain ⟨hc2, hf2⟩ := bcell own2.2; have z2 : w.heap.size < w2.heap.size := (by have := own2.2.size; simp at this; omega); have y2 : w1.heap.size < w2.heap.size := (by have := own2.2.size; simp at this; omega); have _t2 := trivial))
  refine (HL.out _).mono ?_
  rintro e wa ⟨rfl, ba⟩
  have HO1 := hid (show OwnI (w1.alloc (.cells #[.int .i64 T.cls, .int .i64 T.op, .int .i64 T.size, .bool T.wide, .bool T.reg, .int .i64 T.dst, .int .i64 T.src, .int .i64 T.off, .int .i64 T.imm] 46)) wa v2 ([] ++ [0]) from own2.later ba)
  obtain ⟨hca, hfa⟩ := bcell ba
  have za : w.heap.size < wa.heap.size := by have := ba.size; omega
  have ya : w1.heap.size < wa.heap.size := by have := ba.size; omega
  clear ba HL own2
  go_wp2_with fail
  refine (sort_own (w1.alloc (.cells #[.int .i64 T.cls, .int .i64 T.op, .int .i64 T.size, .bool T.wide, .bool T.reg, .int .i64 T.dst, .int .i64 T.src, .int .i64 T.off, .int .i64 T.imm] 46)) _ _ _ HO1.out (by simp)).mono ?_
  rintro e w8 ⟨rfl, own8⟩
  have HO8 := hid own8
  clear own8
  go_wp2_with fail
  refine (compact_own (w1.alloc (.cells #[.int .i64 T.cls, .int .i64 T.op, .int .i64 T.size, .bool T.wide, .bool T.reg, .int .i64 T.dst, .int .i64 T.src, .int .i64 T.off, .int .i64 T.imm] 46)) _ _ _ HO8.out (by simp)).mono ?_
  rintro e w9 ⟨v9, rfl, own9⟩
  go_wp2
  go_ret
  exact ⟨_, rfl, by simpa using own9.weak hX.out⟩

set_option maxRecDepth 100000 in
set_option maxHeartbeats 1000000 in
theorem reads_ts (T : Rw) (E op dst src off imm : Int) (w : World) (d0 : 0 ≤ dst) (d1 : dst < 256) (s0 : 0 ≤ src) (s1 : src < 256) (hz : SzOk w)
    (HT : Hid (∀ W, SzOk W → Calls Tryd.prog 17 #[.agg #[.int .u8 op, .int .u8 dst, .int .u8 src, .int .i16 off, .int .i32 imm]] W fun e w' => e = .returned (.tuple #[rowV T, .int .i64 E]) ∧ Below W.heap.size W w')) (hE : (E != 0) = false) (x : (T.cls == 9) = false) (dd : (T.dst == 2) = true) (ss : (T.src == 2) = true) :
    Calls Tryd.prog 6 #[.agg #[.int .u8 op, .int .u8 dst, .int .u8 src, .int .i16 off, .int .i32 imm]] w (Left2 w (compact ([dst, src].mergeSort fun x y => decide (x ≤ y)))) := by
  have HZ := hid hz
  clear hz
  go_enter Tryd.func6, Tryd.ntmps6
  go_wp2_with fail
  refine (HT.out _ (HZ.out.alloc _)).mono ?_
  rintro e w1 ⟨rfl, b1⟩
  have hb1 := hid (((Below.refl w.heap.size w).alloc (Nat.le_refl _) (.cells #[.int .u8 op, .int .u8 dst, .int .u8 src, .int .i16 off, .int .i32 imm] 24)).trans (b1.mono (by simp)))
  have q0 : w.heap.size < w1.heap.size := by have := b1.size; simp at this; omega
  obtain ⟨hc, hf⟩ := bcell b1
  have hX := hid (hb1.out.alloc hb1.out.size (.cells #[.int .i64 T.cls, .int .i64 T.op, .int .i64 T.size, .bool T.wide, .bool T.reg, .int .i64 T.dst, .int .i64 T.src, .int .i64 T.off, .int .i64 T.imm] 46))
  have own0 := OwnI.nil (w1.alloc (.cells #[.int .i64 T.cls, .int .i64 T.op, .int .i64 T.size, .bool T.wide, .bool T.reg, .int .i64 T.dst, .int .i64 T.src, .int .i64 T.off, .int .i64 T.imm] 46))
  have HO := hid own0
  clear b1 HT own0
  simp only [rowV]
  go_wp2_with (first | (at_builtin; refine append_int rfl (.tmp 28) (.tmp 32) rfl (w1.alloc (.cells #[.int .i64 T.cls, .int .i64 T.op, .int .i64 T.size, .bool T.wide, .bool T.reg, .int .i64 T.dst, .int .i64 T.src, .int .i64 T.off, .int .i64 T.imm] 46)) (w1.alloc (.cells #[.int .i64 T.cls, .int .i64 T.op, .int .i64 T.size, .bool T.wide, .bool T.reg, .int .i64 T.dst, .int .i64 T.src, .int .i64 T.off, .int .i64 T.imm] 46)) _ [] dst (by exact rfl) HO.out _ _ (by exact rfl) (by simp) (by exact rfl) (by simp) ?_; intro v2 w2 own2; obtain ⟨hc2, hf2⟩ := bcell own2.2; have z2 : w.heap.size < w2.heap.size := (by have := own2.2.size; simp at this; omega); have y2 : w1.heap.size < w2.heap.size := (by have := own2.2.size; simp at this; omega)) | (at_builtin; refine append_int rfl (.tmp 37) (.tmp 41) rfl (w1.alloc (.cells #[.int .i64 T.cls, .int .i64 T.op, .int .i64 T.size, .bool T.wide, .bool T.reg, .int .i64 T.dst, .int .i64 T.src, .int .i64 T.off, .int .i64 T.imm] 46)) w2 _ ([] ++ [dst]) src (by exact rfl) own2 _ _ (by exact rfl) (by simp) (by exact rfl) (by simp) ?_; intro v3 w3 own3))
  refine (sort_own (w1.alloc (.cells #[.int .i64 T.cls, .int .i64 T.op, .int .i64 T.size, .bool T.wide, .bool T.reg, .int .i64 T.dst, .int .i64 T.src, .int .i64 T.off, .int .i64 T.imm] 46)) _ _ _ own3 (by simp)).mono ?_
  rintro e w8 ⟨rfl, own8⟩
  have HO8 := hid own8
  clear own8
  go_wp2_with fail
  refine (compact_own (w1.alloc (.cells #[.int .i64 T.cls, .int .i64 T.op, .int .i64 T.size, .bool T.wide, .bool T.reg, .int .i64 T.dst, .int .i64 T.src, .int .i64 T.off, .int .i64 T.imm] 46)) _ _ _ HO8.out (by simp)).mono ?_
  rintro e w9 ⟨v9, rfl, own9⟩
  go_wp2
  go_ret
  exact ⟨_, rfl, by simpa using own9.weak hX.out⟩

set_option maxRecDepth 100000 in
set_option maxHeartbeats 1000000 in
theorem reads_to (T : Rw) (E op dst src off imm : Int) (w : World) (d0 : 0 ≤ dst) (d1 : dst < 256) (s0 : 0 ≤ src) (s1 : src < 256) (hz : SzOk w)
    (HT : Hid (∀ W, SzOk W → Calls Tryd.prog 17 #[.agg #[.int .u8 op, .int .u8 dst, .int .u8 src, .int .i16 off, .int .i32 imm]] W fun e w' => e = .returned (.tuple #[rowV T, .int .i64 E]) ∧ Below W.heap.size W w')) (hE : (E != 0) = false) (x : (T.cls == 9) = false) (dd : (T.dst == 2) = true) (ss : (T.src == 2) = false) :
    Calls Tryd.prog 6 #[.agg #[.int .u8 op, .int .u8 dst, .int .u8 src, .int .i16 off, .int .i32 imm]] w (Left2 w (compact ([dst].mergeSort fun x y => decide (x ≤ y)))) := by
  have HZ := hid hz
  clear hz
  go_enter Tryd.func6, Tryd.ntmps6
  go_wp2_with fail
  refine (HT.out _ (HZ.out.alloc _)).mono ?_
  rintro e w1 ⟨rfl, b1⟩
  have hb1 := hid (((Below.refl w.heap.size w).alloc (Nat.le_refl _) (.cells #[.int .u8 op, .int .u8 dst, .int .u8 src, .int .i16 off, .int .i32 imm] 24)).trans (b1.mono (by simp)))
  have q0 : w.heap.size < w1.heap.size := by have := b1.size; simp at this; omega
  obtain ⟨hc, hf⟩ := bcell b1
  have hX := hid (hb1.out.alloc hb1.out.size (.cells #[.int .i64 T.cls, .int .i64 T.op, .int .i64 T.size, .bool T.wide, .bool T.reg, .int .i64 T.dst, .int .i64 T.src, .int .i64 T.off, .int .i64 T.imm] 46))
  have own0 := OwnI.nil (w1.alloc (.cells #[.int .i64 T.cls, .int .i64 T.op, .int .i64 T.size, .bool T.wide, .bool T.reg, .int .i64 T.dst, .int .i64 T.src, .int .i64 T.off, .int .i64 T.imm] 46))
  have HO := hid own0
  clear b1 HT own0
  simp only [rowV]
  go_wp2_with ((at_builtin; refine append_int rfl (.tmp 28) (.tmp 32) rfl (w1.alloc (.cells #[.int .i64 T.cls, .int .i64 T.op, .int .i64 T.size, .bool T.wide, .bool T.reg, .int .i64 T.dst, .int .i64 T.src, .int .i64 T.off, .int .i64 T.imm] 46)) (w1.alloc (.cells #[.int .i64 T.cls, .int .i64 T.op, .int .i64 T.size, .bool T.wide, .bool T.reg, .int .i64 T.dst, .int .i64 T.src, .int .i64 T.off, .int .i64 T.imm] 46)) _ [] dst (by exact rfl) HO.out _ _ (by exact rfl) (by simp) (by exact rfl) (by simp) ?_; intro v2 w2 own2; obtain ⟨hc2, hf2⟩ := bcell own2.2; have z2 : w.heap.size < w2.heap.size := (by have := own2.2.size; simp at this; omega); have y2 : w1.heap.size < w2.heap.size := (by have := own2.2.size; simp at this; omega)))
  refine (sort_own (w1.alloc (.cells #[.int .i64 T.cls, .int .i64 T.op, .int .i64 T.size, .bool T.wide, .bool T.reg, .int .i64 T.dst, .int .i64 T.src, .int .i64 T.off, .int .i64 T.imm] 46)) _ _ _ own2 (by simp)).mono ?_
  rintro e w8 ⟨rfl, own8⟩
  have HO8 := hid own8
  clear own8
  go_wp2_with fail
  refine (compact_own (w1.alloc (.cells #[.int .i64 T.cls, .int .i64 T.op, .int .i64 T.size, .bool T.wide, .bool T.reg, .int .i64 T.dst, .int .i64 T.src, .int .i64 T.off, .int .i64 T.imm] 46)) _ _ _ HO8.out (by simp)).mono ?_
  rintro e w9 ⟨v9, rfl, own9⟩
  go_wp2
  go_ret
  exact ⟨_, rfl, by simpa using own9.weak hX.out⟩

set_option maxRecDepth 100000 in
set_option maxHeartbeats 1000000 in
theorem reads_as (T : Rw) (E op dst src off imm : Int) (w : World) (d0 : 0 ≤ dst) (d1 : dst < 256) (s0 : 0 ≤ src) (s1 : src < 256) (hz : SzOk w)
    (HT : Hid (∀ W, SzOk W → Calls Tryd.prog 17 #[.agg #[.int .u8 op, .int .u8 dst, .int .u8 src, .int .i16 off, .int .i32 imm]] W fun e w' => e = .returned (.tuple #[rowV T, .int .i64 E]) ∧ Below W.heap.size W w')) (hE : (E != 0) = false) (x : (T.cls == 9) = false) (dd : (T.dst == 2) = false) (ha : altB T = true) (ss : (T.src == 2) = true) :
    Calls Tryd.prog 6 #[.agg #[.int .u8 op, .int .u8 dst, .int .u8 src, .int .i16 off, .int .i32 imm]] w (Left2 w (compact ([dst, src].mergeSort fun x y => decide (x ≤ y)))) := by
  have HZ := hid hz
  clear hz
  go_enter Tryd.func6, Tryd.ntmps6
  go_wp2_with fail
  refine (HT.out _ (HZ.out.alloc _)).mono ?_
  rintro e w1 ⟨rfl, b1⟩
  have hb1 := hid (((Below.refl w.heap.size w).alloc (Nat.le_refl _) (.cells #[.int .u8 op, .int .u8 dst, .int .u8 src, .int .i16 off, .int .i32 imm] 24)).trans (b1.mono (by simp)))
  have q0 : w.heap.size < w1.heap.size := by have := b1.size; simp at this; omega
  obtain ⟨hc, hf⟩ := bcell b1
  have hX := hid (hb1.out.alloc hb1.out.size (.cells #[.int .i64 T.cls, .int .i64 T.op, .int .i64 T.size, .bool T.wide, .bool T.reg, .int .i64 T.dst, .int .i64 T.src, .int .i64 T.off, .int .i64 T.imm] 46))
  have own0 := OwnI.nil (w1.alloc (.cells #[.int .i64 T.cls, .int .i64 T.op, .int .i64 T.size, .bool T.wide, .bool T.reg, .int .i64 T.dst, .int .i64 T.src, .int .i64 T.off, .int .i64 T.imm] 46))
  have HO := hid own0
  clear b1 HT own0
  simp only [rowV]
  have HL := hid fun W => alters_is T true ha W
  simp only [whV] at HL
  go_wp2_with fail
  refine (HL.out _).mono ?_
  rintro e wa ⟨rfl, ba⟩
  obtain ⟨hca, hfa⟩ := bcell ba
  have HA := hid ba
  have za : w.heap.size < wa.heap.size := by have := ba.size; simp at this; omega
  have ya : w1.heap.size < wa.heap.size := by have := ba.size; simp at this; omega
  have HO1 := hid (show OwnI (w1.alloc (.cells #[.int .i64 T.cls, .int .i64 T.op, .int .i64 T.size, .bool T.wide, .bool T.reg, .int .i64 T.dst, .int .i64 T.src, .int .i64 T.off, .int .i64 T.imm] 46)) wa (.slice none 0 0) [] from ⟨World.ownsRow_nil _ _ _ _, ba⟩)
  clear ba HL
  go_wp2_with (first | (at_builtin; refine append_int rfl (.tmp 28) (.tmp 32) rfl (w1.alloc (.cells #[.int .i64 T.cls, .int .i64 T.op, .int .i64 T.size, .bool T.wide, .bool T.reg, .int .i64 T.dst, .int .i64 T.src, .int .i64 T.off, .int .i64 T.imm] 46)) wa _ [] dst (by exact rfl) HO1.out _ _ (by exact rfl) (by simp) (by exact rfl) (by simp) ?_; intro v2 w2 own2; obtain ⟨hc2, hf2⟩ := bcell own2.2; have z2 : w.heap.size < w2.heap.size := (by have := own2.2.size; simp at this; omega); have y2 : w1.heap.size < w2.heap.size := (by have := own2.2.size; simp at this; omega)) | (at_builtin; refine append_int rfl (.tmp 37) (.tmp 41) rfl (w1.alloc (.cells #[.int .i64 T.cls, .int .i64 T.op, .int .i64 T.size, .bool T.wide, .bool T.reg, .int .i64 T.dst, .int .i64 T.src, .int .i64 T.off, .int .i64 T.imm] 46)) w2 _ ([] ++ [dst]) src (by exact rfl) own2 _ _ (by exact rfl) (by simp) (by exact rfl) (by simp) ?_; intro v3 w3 own3))
  refine (sort_own (w1.alloc (.cells #[.int .i64 T.cls, .int .i64 T.op, .int .i64 T.size, .bool T.wide, .bool T.reg, .int .i64 T.dst, .int .i64 T.src, .int .i64 T.off, .int .i64 T.imm] 46)) _ _ _ own3 (by simp)).mono ?_
  rintro e w8 ⟨rfl, own8⟩
  have HO8 := hid own8
  clear own8
  go_wp2_with fail
  refine (compact_own (w1.alloc (.cells #[.int .i64 T.cls, .int .i64 T.op, .int .i64 T.size, .bool T.wide, .bool T.reg, .int .i64 T.dst, .int .i64 T.src, .int .i64 T.off, .int .i64 T.imm] 46)) _ _ _ HO8.out (by simp)).mono ?_
  rintro e w9 ⟨v9, rfl, own9⟩
  go_wp2
  go_ret
  exact ⟨_, rfl, by simpa using own9.weak hX.out⟩

set_option maxRecDepth 100000 in
set_option maxHeartbeats 1000000 in
theorem reads_ao (T : Rw) (E op dst src off imm : Int) (w : World) (d0 : 0 ≤ dst) (d1 : dst < 256) (s0 : 0 ≤ src) (s1 : src < 256) (hz : SzOk w)
    (HT : Hid (∀ W, SzOk W → Calls Tryd.prog 17 #[.agg #[.int .u8 op, .int .u8 dst, .int .u8 src, .int .i16 off, .int .i32 imm]] W fun e w' => e = .returned (.tuple #[rowV T, .int .i64 E]) ∧ Below W.heap.size W w')) (hE : (E != 0) = false) (x : (T.cls == 9) = false) (dd : (T.dst == 2) = false) (ha : altB T = true) (ss : (T.src == 2) = false) :
    Calls Tryd.prog 6 #[.agg #[.int .u8 op, .int .u8 dst, .int .u8 src, .int .i16 off, .int .i32 imm]] w (Left2 w (compact ([dst].mergeSort fun x y => decide (x ≤ y)))) := by
  have HZ := hid hz
  clear hz
  go_enter Tryd.func6, Tryd.ntmps6
  go_wp2_with fail
  refine (HT.out _ (HZ.out.alloc _)).mono ?_
  rintro e w1 ⟨rfl, b1⟩
  have hb1 := hid (((Below.refl w.heap.size w).alloc (Nat.le_refl _) (.cells #[.int .u8 op, .int .u8 dst, .int .u8 src, .int .i16 off, .int .i32 imm] 24)).trans (b1.mono (by simp)))
  have q0 : w.heap.size < w1.heap.size := by have := b1.size; simp at this; omega
  obtain ⟨hc, hf⟩ := bcell b1
  have hX := hid (hb1.out.alloc hb1.out.size (.cells #[.int .i64 T.cls, .int .i64 T.op, .int .i64 T.size, .bool T.wide, .bool T.reg, .int .i64 T.dst, .int .i64 T.src, .int .i64 T.off, .int .i64 T.imm] 46))
  have own0 := OwnI.nil (w1.alloc (.cells #[.int .i64 T.cls, .int .i64 T.op, .int .i64 T.size, .bool T.wide, .bool T.reg, .int .i64 T.dst, .int .i64 T.src, .int .i64 T.off, .int .i64 T.imm] 46))
  have HO := hid own0
  clear b1 HT own0
  simp only [rowV]
  have HL := hid fun W => alters_is T true ha W
  simp only [whV] at HL
  go_wp2_with fail
  refine (HL.out _).mono ?_
  rintro e wa ⟨rfl, ba⟩
  obtain ⟨hca, hfa⟩ := bcell ba
  have HA := hid ba
  have za : w.heap.size < wa.heap.size := by have := ba.size; simp at this; omega
  have ya : w1.heap.size < wa.heap.size := by have := ba.size; simp at this; omega
  have HO1 := hid (show OwnI (w1.alloc (.cells #[.int .i64 T.cls, .int .i64 T.op, .int .i64 T.size, .bool T.wide, .bool T.reg, .int .i64 T.dst, .int .i64 T.src, .int .i64 T.off, .int .i64 T.imm] 46)) wa (.slice none 0 0) [] from ⟨World.ownsRow_nil _ _ _ _, ba⟩)
  clear ba HL
  go_wp2_with ((at_builtin; refine append_int rfl (.tmp 28) (.tmp 32) rfl (w1.alloc (.cells #[.int .i64 T.cls, .int .i64 T.op, .int .i64 T.size, .bool T.wide, .bool T.reg, .int .i64 T.dst, .int .i64 T.src, .int .i64 T.off, .int .i64 T.imm] 46)) wa _ [] dst (by exact rfl) HO1.out _ _ (by exact rfl) (by simp) (by exact rfl) (by simp) ?_; intro v2 w2 own2; obtain ⟨hc2, hf2⟩ := bcell own2.2; have z2 : w.heap.size < w2.heap.size := (by have := own2.2.size; simp at this; omega); have y2 : w1.heap.size < w2.heap.size := (by have := own2.2.size; simp at this; omega)))
  refine (sort_own (w1.alloc (.cells #[.int .i64 T.cls, .int .i64 T.op, .int .i64 T.size, .bool T.wide, .bool T.reg, .int .i64 T.dst, .int .i64 T.src, .int .i64 T.off, .int .i64 T.imm] 46)) _ _ _ own2 (by simp)).mono ?_
  rintro e w8 ⟨rfl, own8⟩
  have HO8 := hid own8
  clear own8
  go_wp2_with fail
  refine (compact_own (w1.alloc (.cells #[.int .i64 T.cls, .int .i64 T.op, .int .i64 T.size, .bool T.wide, .bool T.reg, .int .i64 T.dst, .int .i64 T.src, .int .i64 T.off, .int .i64 T.imm] 46)) _ _ _ HO8.out (by simp)).mono ?_
  rintro e w9 ⟨v9, rfl, own9⟩
  go_wp2
  go_ret
  exact ⟨_, rfl, by simpa using own9.weak hX.out⟩

set_option maxRecDepth 100000 in
set_option maxHeartbeats 1000000 in
theorem reads_ns (T : Rw) (E op dst src off imm : Int) (w : World) (d0 : 0 ≤ dst) (d1 : dst < 256) (s0 : 0 ≤ src) (s1 : src < 256) (hz : SzOk w)
    (HT : Hid (∀ W, SzOk W → Calls Tryd.prog 17 #[.agg #[.int .u8 op, .int .u8 dst, .int .u8 src, .int .i16 off, .int .i32 imm]] W fun e w' => e = .returned (.tuple #[rowV T, .int .i64 E]) ∧ Below W.heap.size W w')) (hE : (E != 0) = false) (x : (T.cls == 9) = false) (dd : (T.dst == 2) = false) (ha : altB T = false) (ss : (T.src == 2) = true) :
    Calls Tryd.prog 6 #[.agg #[.int .u8 op, .int .u8 dst, .int .u8 src, .int .i16 off, .int .i32 imm]] w (Left2 w (compact ([src].mergeSort fun x y => decide (x ≤ y)))) := by
  have HZ := hid hz
  clear hz
  go_enter Tryd.func6, Tryd.ntmps6
  go_wp2_with fail
  refine (HT.out _ (HZ.out.alloc _)).mono ?_
  rintro e w1 ⟨rfl, b1⟩
  have hb1 := hid (((Below.refl w.heap.size w).alloc (Nat.le_refl _) (.cells #[.int .u8 op, .int .u8 dst, .int .u8 src, .int .i16 off, .int .i32 imm] 24)).trans (b1.mono (by simp)))
  have q0 : w.heap.size < w1.heap.size := by have := b1.size; simp at this; omega
  obtain ⟨hc, hf⟩ := bcell b1
  have hX := hid (hb1.out.alloc hb1.out.size (.cells #[.int .i64 T.cls, .int .i64 T.op, .int .i64 T.size, .bool T.wide, .bool T.reg, .int .i64 T.dst, .int .i64 T.src, .int .i64 T.off, .int .i64 T.imm] 46))
  have own0 := OwnI.nil (w1.alloc (.cells #[.int .i64 T.cls, .int .i64 T.op, .int .i64 T.size, .bool T.wide, .bool T.reg, .int .i64 T.dst, .int .i64 T.src, .int .i64 T.off, .int .i64 T.imm] 46))
  have HO := hid own0
  clear b1 HT own0
  simp only [rowV]
  have HL := hid fun W => alters_is T false ha W
  simp only [whV] at HL
  go_wp2_with fail
  refine (HL.out _).mono ?_
  rintro e wa ⟨rfl, ba⟩
  obtain ⟨hca, hfa⟩ := bcell ba
  have HA := hid ba
  have za : w.heap.size < wa.heap.size := by have := ba.size; simp at this; omega
  have ya : w1.heap.size < wa.heap.size := by have := ba.size; simp at this; omega
  have HO1 := hid (show OwnI (w1.alloc (.cells #[.int .i64 T.cls, .int .i64 T.op, .int .i64 T.size, .bool T.wide, .bool T.reg, .int .i64 T.dst, .int .i64 T.src, .int .i64 T.off, .int .i64 T.imm] 46)) wa (.slice none 0 0) [] from ⟨World.ownsRow_nil _ _ _ _, ba⟩)
  clear ba HL
  go_wp2_with ((at_builtin; refine append_int rfl (.tmp 37) (.tmp 41) rfl (w1.alloc (.cells #[.int .i64 T.cls, .int .i64 T.op, .int .i64 T.size, .bool T.wide, .bool T.reg, .int .i64 T.dst, .int .i64 T.src, .int .i64 T.off, .int .i64 T.imm] 46)) wa _ [] src (by exact rfl) HO1.out _ _ (by exact rfl) (by simp) (by exact rfl) (by simp) ?_; intro v2 w2 own2))
  refine (sort_own (w1.alloc (.cells #[.int .i64 T.cls, .int .i64 T.op, .int .i64 T.size, .bool T.wide, .bool T.reg, .int .i64 T.dst, .int .i64 T.src, .int .i64 T.off, .int .i64 T.imm] 46)) _ _ _ own2 (by simp)).mono ?_
  rintro e w8 ⟨rfl, own8⟩
  have HO8 := hid own8
  clear own8
  go_wp2_with fail
  refine (compact_own (w1.alloc (.cells #[.int .i64 T.cls, .int .i64 T.op, .int .i64 T.size, .bool T.wide, .bool T.reg, .int .i64 T.dst, .int .i64 T.src, .int .i64 T.off, .int .i64 T.imm] 46)) _ _ _ HO8.out (by simp)).mono ?_
  rintro e w9 ⟨v9, rfl, own9⟩
  go_wp2
  go_ret
  exact ⟨_, rfl, by simpa using own9.weak hX.out⟩

set_option maxRecDepth 100000 in
set_option maxHeartbeats 1000000 in
theorem reads_no (T : Rw) (E op dst src off imm : Int) (w : World) (d0 : 0 ≤ dst) (d1 : dst < 256) (s0 : 0 ≤ src) (s1 : src < 256) (hz : SzOk w)
    (HT : Hid (∀ W, SzOk W → Calls Tryd.prog 17 #[.agg #[.int .u8 op, .int .u8 dst, .int .u8 src, .int .i16 off, .int .i32 imm]] W fun e w' => e = .returned (.tuple #[rowV T, .int .i64 E]) ∧ Below W.heap.size W w')) (hE : (E != 0) = false) (x : (T.cls == 9) = false) (dd : (T.dst == 2) = false) (ha : altB T = false) (ss : (T.src == 2) = false) :
    Calls Tryd.prog 6 #[.agg #[.int .u8 op, .int .u8 dst, .int .u8 src, .int .i16 off, .int .i32 imm]] w (Left2 w (compact ([].mergeSort fun x y => decide (x ≤ y)))) := by
  have HZ := hid hz
  clear hz
  go_enter Tryd.func6, Tryd.ntmps6
  go_wp2_with fail
  refine (HT.out _ (HZ.out.alloc _)).mono ?_
  rintro e w1 ⟨rfl, b1⟩
  have hb1 := hid (((Below.refl w.heap.size w).alloc (Nat.le_refl _) (.cells #[.int .u8 op, .int .u8 dst, .int .u8 src, .int .i16 off, .int .i32 imm] 24)).trans (b1.mono (by simp)))
  have q0 : w.heap.size < w1.heap.size := by have := b1.size; simp at this; omega
  obtain ⟨hc, hf⟩ := bcell b1
  have hX := hid (hb1.out.alloc hb1.out.size (.cells #[.int .i64 T.cls, .int .i64 T.op, .int .i64 T.size, .bool T.wide, .bool T.reg, .int .i64 T.dst, .int .i64 T.src, .int .i64 T.off, .int .i64 T.imm] 46))
  have own0 := OwnI.nil (w1.alloc (.cells #[.int .i64 T.cls, .int .i64 T.op, .int .i64 T.size, .bool T.wide, .bool T.reg, .int .i64 T.dst, .int .i64 T.src, .int .i64 T.off, .int .i64 T.imm] 46))
  have HO := hid own0
  clear b1 HT own0
  simp only [rowV]
  have HL := hid fun W => alters_is T false ha W
  simp only [whV] at HL
  go_wp2_with fail
  refine (HL.out _).mono ?_
  rintro e wa ⟨rfl, ba⟩
  obtain ⟨hca, hfa⟩ := bcell ba
  have HA := hid ba
  have za : w.heap.size < wa.heap.size := by have := ba.size; simp at this; omega
  have ya : w1.heap.size < wa.heap.size := by have := ba.size; simp at this; omega
  have HO1 := hid (show OwnI (w1.alloc (.cells #[.int .i64 T.cls, .int .i64 T.op, .int .i64 T.size, .bool T.wide, .bool T.reg, .int .i64 T.dst, .int .i64 T.src, .int .i64 T.off, .int .i64 T.imm] 46)) wa (.slice none 0 0) [] from ⟨World.ownsRow_nil _ _ _ _, ba⟩)
  clear ba HL
  go_wp2_with fail
  refine (sort_own (w1.alloc (.cells #[.int .i64 T.cls, .int .i64 T.op, .int .i64 T.size, .bool T.wide, .bool T.reg, .int .i64 T.dst, .int .i64 T.src, .int .i64 T.off, .int .i64 T.imm] 46)) _ _ _ HO1.out (by simp)).mono ?_
  rintro e w8 ⟨rfl, own8⟩
  have HO8 := hid own8
  clear own8
  go_wp2_with fail
  refine (compact_own (w1.alloc (.cells #[.int .i64 T.cls, .int .i64 T.op, .int .i64 T.size, .bool T.wide, .bool T.reg, .int .i64 T.dst, .int .i64 T.src, .int .i64 T.off, .int .i64 T.imm] 46)) _ _ _ HO8.out (by simp)).mono ?_
  rintro e w9 ⟨v9, rfl, own9⟩
  go_wp2
  go_ret
  exact ⟨_, rfl, by simpa using own9.weak hX.out⟩

def rdList (T : Rw) (E dst src : Int) : List Int :=
  if E ≠ 0 then [] else if T.cls = 9 then [0] else
    if T.dst = 2 ∨ altB T = true then (if T.src = 2 then sc2 dst src else [dst]) else (if T.src = 2 then [src] else [])
theorem sc_nil : compact (([] : List Int).mergeSort fun x y => decide (x ≤ y)) = [] := by simp [compact, compactUpTo]
theorem reads_any (T : Rw) (E op dst src off imm : Int) (w : World) (d0 : 0 ≤ dst) (d1 : dst < 256) (s0 : 0 ≤ src) (s1 : src < 256) (hz : SzOk w)
    (HT : Hid (∀ W, SzOk W → Calls Tryd.prog 17 #[.agg #[.int .u8 op, .int .u8 dst, .int .u8 src, .int .i16 off, .int .i32 imm]] W fun e w' => e = .returned (.tuple #[rowV T, .int .i64 E]) ∧ Below W.heap.size W w'))
    (h9 : T.cls = 9 → T.dst ≠ 2 ∧ T.src ≠ 2) :
    Calls Tryd.prog 6 #[.agg #[.int .u8 op, .int .u8 dst, .int .u8 src, .int .i16 off, .int .i32 imm]] w (Left2 w (rdList T E dst src)) := by
  unfold rdList
  by_cases hE : E = 0
  · have hE' : (E != 0) = false := by simpa using hE
    rw [if_neg (by simpa using hE)]
    by_cases x : T.cls = 9
    · have ha : altB T = false := by unfold altB; rw [x]; rfl
      rw [if_pos x, ← sc_one 0]
      exact reads_x T E op dst src off imm w d0 d1 s0 s1 hz HT hE' (by simpa using x) (by simpa using (h9 x).1) ha (by simpa using (h9 x).2)
    rw [if_neg x]
    have x' : (T.cls == 9) = false := by simpa using x
    by_cases dd : T.dst = 2
    · rw [if_pos (.inl dd)]
      by_cases ss : T.src = 2
      · rw [if_pos ss, ← sc_two]
        exact reads_ts T E op dst src off imm w d0 d1 s0 s1 hz HT hE' x' (by simpa using dd) (by simpa using ss)
      · rw [if_neg ss, ← sc_one dst]
        exact reads_to T E op dst src off imm w d0 d1 s0 s1 hz HT hE' x' (by simpa using dd) (by simpa using ss)
    · have dd' : (T.dst == 2) = false := by simpa using dd
      cases ha : altB T
      · rw [if_neg (by simp [dd])]
        by_cases ss : T.src = 2
        · rw [if_pos ss, ← sc_one src]
          exact reads_ns T E op dst src off imm w d0 d1 s0 s1 hz HT hE' x' dd' ha (by simpa using ss)
        · rw [if_neg ss, ← sc_nil]
          exact reads_no T E op dst src off imm w d0 d1 s0 s1 hz HT hE' x' dd' ha (by simpa using ss)
      · rw [if_pos (.inr rfl)]
        by_cases ss : T.src = 2
        · rw [if_pos ss, ← sc_two]
          exact reads_as T E op dst src off imm w d0 d1 s0 s1 hz HT hE' x' dd' ha (by simpa using ss)
        · rw [if_neg ss, ← sc_one dst]
          exact reads_ao T E op dst src off imm w d0 d1 s0 s1 hz HT hE' x' dd' ha (by simpa using ss)
  · rw [if_pos (by simpa using hE)]
    exact reads_e T E op dst src off imm w d0 d1 s0 s1 hz HT (by simpa using hE)

end Go.Proofs.YtkapbeipjjcalaaDoor
