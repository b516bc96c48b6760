/-
  Contracts of package insn's take, Of, Writes and Places, as the landed code has them.
-/
import Derived.Test.YtdnkikgfiganaaaDoorInsnR
namespace Go.Proofs.YtdnkikgfiganaaaDoor
set_option linter.unusedSimpArgs false
set_option linter.unusedVariables false
open Go.ChangeShapes Go.WideShapes Go.ChangeAt Go.RowKit

def standB (u reg : Int) : Bool := if u = 2 then decide (reg ≤ 10) else if u = 3 then decide (reg ≤ 9) else true
def beB (u n : Int) : Bool := !(u == 0) || n == 0
theorem mayStand_is (u reg : Int) (b : Bool) (hb : standB u reg = b) (w : World) : Calls Tryd.prog 70 #[.int .i64 u, .int .u8 reg] w fun e w' => e = .returned (.bool b) ∧ w = w' := by
  subst hb
  unfold standB
  by_cases h2 : u = 2
  · subst h2
    go_enter Tryd.func70, Tryd.ntmps70
    go_wp2
    go_ret
    exact ⟨rfl, rfl⟩
  by_cases h3 : u = 3
  · subst h3
    go_enter Tryd.func70, Tryd.ntmps70
    go_wp2
    go_ret
    exact ⟨rfl, rfl⟩
  rw [if_neg h2, if_neg h3]
  have e2 : (u == 2) = false := by simpa using h2
  have e3 : (u == 3) = false := by simpa using h3
  clear h2 h3
  go_enter Tryd.func70, Tryd.ntmps70
  go_wp2
  go_ret
  exact ⟨rfl, rfl⟩
theorem mayBe_is (u n : Int) (b : Bool) (hb : beB u n = b) (w : World) : Calls Tryd.prog 71 #[.int .i64 u, .int .i64 n] w fun e w' => e = .returned (.bool b) ∧ w = w' := by
  subst hb
  unfold beB
  by_cases h2 : u = 0
  · subst h2
    go_enter Tryd.func71, Tryd.ntmps71
    go_wp2
    go_ret
    exact ⟨rfl, rfl⟩
  have e2 : (u == 0) = false := by simpa using h2
  have e3 : (u != 0) = true := by simpa using h2
  clear h2
  rw [e2]
  clear e2
  go_enter Tryd.func71, Tryd.ntmps71
  go_wp2
  go_ret
  exact ⟨rfl, rfl⟩

/-- What is wrong with an instruction that stands in a row. -/
def tkE (r : Rw) (dst src off imm : Int) : Int :=
  if r.cls = 0 then 20 else if !(standB r.dst dst && standB r.src src) then 21 else if !(beB r.dst dst && beB r.src src && beB r.off off && beB r.imm imm) then 22 else 0
def tkR (r : Rw) (dst src off imm : Int) : Rw := if tkE r dst src off imm = 0 then r else r0

theorem ite_cls {c : Prop} [Decidable c] {a b : Rw} (ha : a = r0 ∨ a.cls ≠ 0) (hb : b = r0 ∨ b.cls ≠ 0) : (if c then a else b) = r0 ∨ (if c then a else b).cls ≠ 0 := by
  by_cases h : c
  · simpa [h] using ha
  · simpa [h] using hb
theorem swapI_cls (b : Int) : swapI b = r0 ∨ (swapI b).cls ≠ 0 := by
  unfold swapI
  exact ite_cls (.inr (by decide)) (ite_cls (.inr (by decide)) (ite_cls (.inr (by decide)) (.inl rfl)))
theorem constI_cls (b : Int) : constI b = r0 ∨ (constI b).cls ≠ 0 := by
  unfold constI
  exact ite_cls (.inr (by decide)) (ite_cls (.inr (by decide)) (.inl rfl))
theorem n1 : (1 : Int) ≠ 0 := by decide
theorem n3 : (3 : Int) ≠ 0 := by decide
theorem n4 : (4 : Int) ≠ 0 := by decide
theorem n5 : (5 : Int) ≠ 0 := by decide
theorem n6 : (6 : Int) ≠ 0 := by decide
theorem n7 : (7 : Int) ≠ 0 := by decide
theorem n8 : (8 : Int) ≠ 0 := by decide
theorem n9 : (9 : Int) ≠ 0 := by decide
theorem memI_cls (b : Int) : memI b = r0 ∨ (memI b).cls ≠ 0 := by
  unfold memI
  exact ite_cls (.inl rfl) (ite_cls (.inr n3) (ite_cls (.inr n5) (.inr n4)))
theorem aluR_cls (b : Int) : aluR b = r0 ∨ (aluR b).cls ≠ 0 := by
  unfold aluR
  exact ite_cls (.inl rfl) (ite_cls (ite_cls (.inl rfl) (.inr n1)) (ite_cls (.inr n1) (.inr n1)))
theorem jmpR_cls (b : Int) : jmpR b = r0 ∨ (jmpR b).cls ≠ 0 := by
  unfold jmpR
  exact ite_cls (.inl rfl) (ite_cls (.inl rfl) (ite_cls (.inl rfl) (ite_cls (.inr n6) (.inr n6))))
theorem rowI_cls (op src imm : Int) : rowI op src imm = r0 ∨ (rowI op src imm).cls ≠ 0 := by
  unfold rowI
  exact ite_cls (swapI_cls _) (ite_cls (.inr n7) (ite_cls (.inr n8) (ite_cls (.inr n9) (ite_cls (constI_cls _) (ite_cls (memI_cls _) (ite_cls (aluR_cls _) (ite_cls (jmpR_cls _) (.inl rfl))))))))

theorem take_p0 (op dst src off imm : Int) (w : World) (h0 : 0 ≤ op) (h1 : op < 256) (d0 : 0 ≤ dst) (d1 : dst < 256) (s0 : 0 ≤ src) (s1 : src < 256) (o0 : -32768 ≤ off) (o1 : off < 32768) (m0 : -2147483648 ≤ imm) (m1 : imm < 2147483648) (hz : SzOk w) (hrow : Hid (rowI op src imm = r0)) :
    Calls Tryd.prog 51 #[.agg #[.int .u8 op, .int .u8 dst, .int .u8 src, .int .i16 off, .int .i32 imm]] w fun e w' => e = .returned (.tuple #[rowV r0, .int .i64 20]) ∧ Below w.heap.size w w' := by
  have hr := hid fun W (hW : SzOk W) => (by rw [← hrow.out]; exact rowOf_any op dst src off imm W h0 h1 hW : Calls Tryd.prog 69 #[.agg #[.int .u8 op, .int .u8 dst, .int .u8 src, .int .i16 off, .int .i32 imm]] W fun e w' => e = .returned (rowV r0) ∧ Below W.heap.size W w')
  have hz2 := hid ((hz.alloc (.cells #[.int .u8 op, .int .u8 dst, .int .u8 src, .int .i16 off, .int .i32 imm] 37)).alloc (.cells #[.int .i64 0, .int .i64 0, .int .i64 0, .bool false, .bool false, .int .i64 0, .int .i64 0, .int .i64 0, .int .i64 0] 84))
  clear hz hrow
  go_enter Tryd.func51, Tryd.ntmps51
  go_wp2_with fail
  refine (hr.out _ hz2.out).mono ?_
  rintro e w1 ⟨rfl, b1⟩
  obtain ⟨hc, hf⟩ := bcell b1
  have hb1 : Below w.heap.size w w1 := (((Below.refl _ _).alloc (Nat.le_refl _) _).alloc (by simp) _).trans (b1.mono (by simp; omega))
  have hz : w.heap.size + 1 < w1.heap.size := by have := b1.size; simp at this; omega
  have hz' : w.heap.size < w1.heap.size := by omega
  clear b1 hr hz2
  simp only [rowV, r0]
  go_wp2
  exact bodyPost_ret (v := .tuple #[rowV r0, .int .i64 20]) (by simp [results, Tryd.results51, go_sem, hc, hz]; rfl) rfl ⟨rfl, ((((((((((hb1.setCell (by simp) _).setCell (by simp) _).setCell (by simp) _).setCell (by simp) _).setCell (by simp) _).setCell (by simp) _).setCell (by simp) _).setCell (by simp) _).setCell (by simp) _).alloc (by simp; omega) _)⟩

theorem take_p1 (r : Rw) (op dst src off imm : Int) (w : World) (h0 : 0 ≤ op) (h1 : op < 256) (d0 : 0 ≤ dst) (d1 : dst < 256) (s0 : 0 ≤ src) (s1 : src < 256) (o0 : -32768 ≤ off) (o1 : off < 32768) (m0 : -2147483648 ≤ imm) (m1 : imm < 2147483648) (hz : SzOk w) (hrow : Hid (rowI op src imm = r)) (hn : r.cls ≠ 0) (a1 : Hid (standB r.dst dst = false)) :
    Calls Tryd.prog 51 #[.agg #[.int .u8 op, .int .u8 dst, .int .u8 src, .int .i16 off, .int .i32 imm]] w fun e w' => e = .returned (.tuple #[rowV r0, .int .i64 21]) ∧ Below w.heap.size w w' := by
  have hr := hid fun W (hW : SzOk W) => (hrow.out ▸ rowOf_any op dst src off imm W h0 h1 hW : Calls Tryd.prog 69 #[.agg #[.int .u8 op, .int .u8 dst, .int .u8 src, .int .i16 off, .int .i32 imm]] W fun e w' => e = .returned (rowV r) ∧ Below W.heap.size W w')
  have hz2 := hid ((hz.alloc (.cells #[.int .u8 op, .int .u8 dst, .int .u8 src, .int .i16 off, .int .i32 imm] 37)).alloc (.cells #[.int .i64 0, .int .i64 0, .int .i64 0, .bool false, .bool false, .int .i64 0, .int .i64 0, .int .i64 0, .int .i64 0] 84))
  clear hz hrow
  have hn : (r.cls == 0) = false := by simpa using hn
  go_enter Tryd.func51, Tryd.ntmps51
  go_wp2_with fail
  refine (hr.out _ hz2.out).mono ?_
  rintro e w1 ⟨rfl, b1⟩
  obtain ⟨hc, hf⟩ := bcell b1
  have hb1 : Below w.heap.size w w1 := (((Below.refl _ _).alloc (Nat.le_refl _) _).alloc (by simp) _).trans (b1.mono (by simp; omega))
  have hz : w.heap.size + 1 < w1.heap.size := by have := b1.size; simp at this; omega
  have hz' : w.heap.size < w1.heap.size := by omega
  clear b1 hr hz2
  unfold rowV
  go_wp2_with fail
  refine (mayStand_is _ _ _ a1.out _).mono ?_
  rintro e w' ⟨rfl, rfl⟩
  go_wp2
  exact bodyPost_ret (v := .tuple #[rowV r0, .int .i64 21]) (by simp [results, Tryd.results51, go_sem, hc, hz]; rfl) rfl ⟨rfl, ((((((((((hb1.setCell (by simp) _).setCell (by simp) _).setCell (by simp) _).setCell (by simp) _).setCell (by simp) _).setCell (by simp) _).setCell (by simp) _).setCell (by simp) _).setCell (by simp) _).alloc (by simp; omega) _)⟩

theorem take_p2 (r : Rw) (op dst src off imm : Int) (w : World) (h0 : 0 ≤ op) (h1 : op < 256) (d0 : 0 ≤ dst) (d1 : dst < 256) (s0 : 0 ≤ src) (s1 : src < 256) (o0 : -32768 ≤ off) (o1 : off < 32768) (m0 : -2147483648 ≤ imm) (m1 : imm < 2147483648) (hz : SzOk w) (hrow : Hid (rowI op src imm = r)) (hn : r.cls ≠ 0) (a1 : Hid (standB r.dst dst = true)) (a2 : Hid (standB r.src src = false)) :
    Calls Tryd.prog 51 #[.agg #[.int .u8 op, .int .u8 dst, .int .u8 src, .int .i16 off, .int .i32 imm]] w fun e w' => e = .returned (.tuple #[rowV r0, .int .i64 21]) ∧ Below w.heap.size w w' := by
  have hr := hid fun W (hW : SzOk W) => (hrow.out ▸ rowOf_any op dst src off imm W h0 h1 hW : Calls Tryd.prog 69 #[.agg #[.int .u8 op, .int .u8 dst, .int .u8 src, .int .i16 off, .int .i32 imm]] W fun e w' => e = .returned (rowV r) ∧ Below W.heap.size W w')
  have hz2 := hid ((hz.alloc (.cells #[.int .u8 op, .int .u8 dst, .int .u8 src, .int .i16 off, .int .i32 imm] 37)).alloc (.cells #[.int .i64 0, .int .i64 0, .int .i64 0, .bool false, .bool false, .int .i64 0, .int .i64 0, .int .i64 0, .int .i64 0] 84))
  clear hz hrow
  have hn : (r.cls == 0) = false := by simpa using hn
  go_enter Tryd.func51, Tryd.ntmps51
  go_wp2_with fail
  refine (hr.out _ hz2.out).mono ?_
  rintro e w1 ⟨rfl, b1⟩
  obtain ⟨hc, hf⟩ := bcell b1
  have hb1 : Below w.heap.size w w1 := (((Below.refl _ _).alloc (Nat.le_refl _) _).alloc (by simp) _).trans (b1.mono (by simp; omega))
  have hz : w.heap.size + 1 < w1.heap.size := by have := b1.size; simp at this; omega
  have hz' : w.heap.size < w1.heap.size := by omega
  clear b1 hr hz2
  unfold rowV
  go_wp2_with fail
  refine (mayStand_is _ _ _ a1.out _).mono ?_
  rintro e w' ⟨rfl, rfl⟩
  go_wp2_with fail
  refine (mayStand_is _ _ _ a2.out _).mono ?_
  rintro e w' ⟨rfl, rfl⟩
  go_wp2
  exact bodyPost_ret (v := .tuple #[rowV r0, .int .i64 21]) (by simp [results, Tryd.results51, go_sem, hc, hz]; rfl) rfl ⟨rfl, ((((((((((hb1.setCell (by simp) _).setCell (by simp) _).setCell (by simp) _).setCell (by simp) _).setCell (by simp) _).setCell (by simp) _).setCell (by simp) _).setCell (by simp) _).setCell (by simp) _).alloc (by simp; omega) _)⟩

theorem take_p3 (r : Rw) (op dst src off imm : Int) (w : World) (h0 : 0 ≤ op) (h1 : op < 256) (d0 : 0 ≤ dst) (d1 : dst < 256) (s0 : 0 ≤ src) (s1 : src < 256) (o0 : -32768 ≤ off) (o1 : off < 32768) (m0 : -2147483648 ≤ imm) (m1 : imm < 2147483648) (hz : SzOk w) (hrow : Hid (rowI op src imm = r)) (hn : r.cls ≠ 0) (a1 : Hid (standB r.dst dst = true)) (a2 : Hid (standB r.src src = true)) (b1 : Hid (beB r.dst dst = false)) :
    Calls Tryd.prog 51 #[.agg #[.int .u8 op, .int .u8 dst, .int .u8 src, .int .i16 off, .int .i32 imm]] w fun e w' => e = .returned (.tuple #[rowV r0, .int .i64 22]) ∧ Below w.heap.size w w' := by
  have hr := hid fun W (hW : SzOk W) => (hrow.out ▸ rowOf_any op dst src off imm W h0 h1 hW : Calls Tryd.prog 69 #[.agg #[.int .u8 op, .int .u8 dst, .int .u8 src, .int .i16 off, .int .i32 imm]] W fun e w' => e = .returned (rowV r) ∧ Below W.heap.size W w')
  have hz2 := hid ((hz.alloc (.cells #[.int .u8 op, .int .u8 dst, .int .u8 src, .int .i16 off, .int .i32 imm] 37)).alloc (.cells #[.int .i64 0, .int .i64 0, .int .i64 0, .bool false, .bool false, .int .i64 0, .int .i64 0, .int .i64 0, .int .i64 0] 84))
  clear hz hrow
  have hn : (r.cls == 0) = false := by simpa using hn
  go_enter Tryd.func51, Tryd.ntmps51
  go_wp2_with fail
  refine (hr.out _ hz2.out).mono ?_
  rintro e w1 ⟨rfl, b1⟩
  obtain ⟨hc, hf⟩ := bcell b1
  have hb1 : Below w.heap.size w w1 := (((Below.refl _ _).alloc (Nat.le_refl _) _).alloc (by simp) _).trans (b1.mono (by simp; omega))
  have hz : w.heap.size + 1 < w1.heap.size := by have := b1.size; simp at this; omega
  have hz' : w.heap.size < w1.heap.size := by omega
  clear b1 hr hz2
  unfold rowV
  go_wp2_with fail
  refine (mayStand_is _ _ _ a1.out _).mono ?_
  rintro e w' ⟨rfl, rfl⟩
  go_wp2_with fail
  refine (mayStand_is _ _ _ a2.out _).mono ?_
  rintro e w' ⟨rfl, rfl⟩
  go_wp2_with fail
  refine (mayBe_is _ _ _ b1.out _).mono ?_
  rintro e w' ⟨rfl, rfl⟩
  go_wp2
  exact bodyPost_ret (v := .tuple #[rowV r0, .int .i64 22]) (by simp [results, Tryd.results51, go_sem, hc, hz]; rfl) rfl ⟨rfl, ((((((((((hb1.setCell (by simp) _).setCell (by simp) _).setCell (by simp) _).setCell (by simp) _).setCell (by simp) _).setCell (by simp) _).setCell (by simp) _).setCell (by simp) _).setCell (by simp) _).alloc (by simp; omega) _)⟩

theorem take_p4 (r : Rw) (op dst src off imm : Int) (w : World) (h0 : 0 ≤ op) (h1 : op < 256) (d0 : 0 ≤ dst) (d1 : dst < 256) (s0 : 0 ≤ src) (s1 : src < 256) (o0 : -32768 ≤ off) (o1 : off < 32768) (m0 : -2147483648 ≤ imm) (m1 : imm < 2147483648) (hz : SzOk w) (hrow : Hid (rowI op src imm = r)) (hn : r.cls ≠ 0) (a1 : Hid (standB r.dst dst = true)) (a2 : Hid (standB r.src src = true)) (b1 : Hid (beB r.dst dst = true)) (b2 : Hid (beB r.src src = false)) :
    Calls Tryd.prog 51 #[.agg #[.int .u8 op, .int .u8 dst, .int .u8 src, .int .i16 off, .int .i32 imm]] w fun e w' => e = .returned (.tuple #[rowV r0, .int .i64 22]) ∧ Below w.heap.size w w' := by
  have hr := hid fun W (hW : SzOk W) => (hrow.out ▸ rowOf_any op dst src off imm W h0 h1 hW : Calls Tryd.prog 69 #[.agg #[.int .u8 op, .int .u8 dst, .int .u8 src, .int .i16 off, .int .i32 imm]] W fun e w' => e = .returned (rowV r) ∧ Below W.heap.size W w')
  have hz2 := hid ((hz.alloc (.cells #[.int .u8 op, .int .u8 dst, .int .u8 src, .int .i16 off, .int .i32 imm] 37)).alloc (.cells #[.int .i64 0, .int .i64 0, .int .i64 0, .bool false, .bool false, .int .i64 0, .int .i64 0, .int .i64 0, .int .i64 0] 84))
  clear hz hrow
  have hn : (r.cls == 0) = false := by simpa using hn
  go_enter Tryd.func51, Tryd.ntmps51
  go_wp2_with fail
  refine (hr.out _ hz2.out).mono ?_
  rintro e w1 ⟨rfl, b1⟩
  obtain ⟨hc, hf⟩ := bcell b1
  have hb1 : Below w.heap.size w w1 := (((Below.refl _ _).alloc (Nat.le_refl _) _).alloc (by simp) _).trans (b1.mono (by simp; omega))
  have hz : w.heap.size + 1 < w1.heap.size := by have := b1.size; simp at this; omega
  have hz' : w.heap.size < w1.heap.size := by omega
  clear b1 hr hz2
  unfold rowV
  go_wp2_with fail
  refine (mayStand_is _ _ _ a1.out _).mono ?_
  rintro e w' ⟨rfl, rfl⟩
  go_wp2_with fail
  refine (mayStand_is _ _ _ a2.out _).mono ?_
  rintro e w' ⟨rfl, rfl⟩
  go_wp2_with fail
  refine (mayBe_is _ _ _ b1.out _).mono ?_
  rintro e w' ⟨rfl, rfl⟩
  go_wp2_with fail
  refine (mayBe_is _ _ _ b2.out _).mono ?_
  rintro e w' ⟨rfl, rfl⟩
  go_wp2
  exact bodyPost_ret (v := .tuple #[rowV r0, .int .i64 22]) (by simp [results, Tryd.results51, go_sem, hc, hz]; rfl) rfl ⟨rfl, ((((((((((hb1.setCell (by simp) _).setCell (by simp) _).setCell (by simp) _).setCell (by simp) _).setCell (by simp) _).setCell (by simp) _).setCell (by simp) _).setCell (by simp) _).setCell (by simp) _).alloc (by simp; omega) _)⟩

theorem take_p5 (r : Rw) (op dst src off imm : Int) (w : World) (h0 : 0 ≤ op) (h1 : op < 256) (d0 : 0 ≤ dst) (d1 : dst < 256) (s0 : 0 ≤ src) (s1 : src < 256) (o0 : -32768 ≤ off) (o1 : off < 32768) (m0 : -2147483648 ≤ imm) (m1 : imm < 2147483648) (hz : SzOk w) (hrow : Hid (rowI op src imm = r)) (hn : r.cls ≠ 0) (a1 : Hid (standB r.dst dst = true)) (a2 : Hid (standB r.src src = true)) (b1 : Hid (beB r.dst dst = true)) (b2 : Hid (beB r.src src = true)) (b3 : Hid (beB r.off off = false)) :
    Calls Tryd.prog 51 #[.agg #[.int .u8 op, .int .u8 dst, .int .u8 src, .int .i16 off, .int .i32 imm]] w fun e w' => e = .returned (.tuple #[rowV r0, .int .i64 22]) ∧ Below w.heap.size w w' := by
  have hr := hid fun W (hW : SzOk W) => (hrow.out ▸ rowOf_any op dst src off imm W h0 h1 hW : Calls Tryd.prog 69 #[.agg #[.int .u8 op, .int .u8 dst, .int .u8 src, .int .i16 off, .int .i32 imm]] W fun e w' => e = .returned (rowV r) ∧ Below W.heap.size W w')
  have hz2 := hid ((hz.alloc (.cells #[.int .u8 op, .int .u8 dst, .int .u8 src, .int .i16 off, .int .i32 imm] 37)).alloc (.cells #[.int .i64 0, .int .i64 0, .int .i64 0, .bool false, .bool false, .int .i64 0, .int .i64 0, .int .i64 0, .int .i64 0] 84))
  clear hz hrow
  have hn : (r.cls == 0) = false := by simpa using hn
  go_enter Tryd.func51, Tryd.ntmps51
  go_wp2_with fail
  refine (hr.out _ hz2.out).mono ?_
  rintro e w1 ⟨rfl, b1⟩
  obtain ⟨hc, hf⟩ := bcell b1
  have hb1 : Below w.heap.size w w1 := (((Below.refl _ _).alloc (Nat.le_refl _) _).alloc (by simp) _).trans (b1.mono (by simp; omega))
  have hz : w.heap.size + 1 < w1.heap.size := by have := b1.size; simp at this; omega
  have hz' : w.heap.size < w1.heap.size := by omega
  clear b1 hr hz2
  unfold rowV
  go_wp2_with fail
  refine (mayStand_is _ _ _ a1.out _).mono ?_
  rintro e w' ⟨rfl, rfl⟩
  go_wp2_with fail
  refine (mayStand_is _ _ _ a2.out _).mono ?_
  rintro e w' ⟨rfl, rfl⟩
  go_wp2_with fail
  refine (mayBe_is _ _ _ b1.out _).mono ?_
  rintro e w' ⟨rfl, rfl⟩
  go_wp2_with fail
  refine (mayBe_is _ _ _ b2.out _).mono ?_
  rintro e w' ⟨rfl, rfl⟩
  go_wp2_with fail
  refine (mayBe_is _ _ _ b3.out _).mono ?_
  rintro e w' ⟨rfl, rfl⟩
  go_wp2
  exact bodyPost_ret (v := .tuple #[rowV r0, .int .i64 22]) (by simp [results, Tryd.results51, go_sem, hc, hz]; rfl) rfl ⟨rfl, ((((((((((hb1.setCell (by simp) _).setCell (by simp) _).setCell (by simp) _).setCell (by simp) _).setCell (by simp) _).setCell (by simp) _).setCell (by simp) _).setCell (by simp) _).setCell (by simp) _).alloc (by simp; omega) _)⟩

theorem take_p6 (r : Rw) (op dst src off imm : Int) (w : World) (h0 : 0 ≤ op) (h1 : op < 256) (d0 : 0 ≤ dst) (d1 : dst < 256) (s0 : 0 ≤ src) (s1 : src < 256) (o0 : -32768 ≤ off) (o1 : off < 32768) (m0 : -2147483648 ≤ imm) (m1 : imm < 2147483648) (hz : SzOk w) (hrow : Hid (rowI op src imm = r)) (hn : r.cls ≠ 0) (a1 : Hid (standB r.dst dst = true)) (a2 : Hid (standB r.src src = true)) (b1 : Hid (beB r.dst dst = true)) (b2 : Hid (beB r.src src = true)) (b3 : Hid (beB r.off off = true)) (b4 : Hid (beB r.imm imm = false)) :
    Calls Tryd.prog 51 #[.agg #[.int .u8 op, .int .u8 dst, .int .u8 src, .int .i16 off, .int .i32 imm]] w fun e w' => e = .returned (.tuple #[rowV r0, .int .i64 22]) ∧ Below w.heap.size w w' := by
  have hr := hid fun W (hW : SzOk W) => (hrow.out ▸ rowOf_any op dst src off imm W h0 h1 hW : Calls Tryd.prog 69 #[.agg #[.int .u8 op, .int .u8 dst, .int .u8 src, .int .i16 off, .int .i32 imm]] W fun e w' => e = .returned (rowV r) ∧ Below W.heap.size W w')
  have hz2 := hid ((hz.alloc (.cells #[.int .u8 op, .int .u8 dst, .int .u8 src, .int .i16 off, .int .i32 imm] 37)).alloc (.cells #[.int .i64 0, .int .i64 0, .int .i64 0, .bool false, .bool false, .int .i64 0, .int .i64 0, .int .i64 0, .int .i64 0] 84))
  clear hz hrow
  have hn : (r.cls == 0) = false := by simpa using hn
  go_enter Tryd.func51, Tryd.ntmps51
  go_wp2_with fail
  refine (hr.out _ hz2.out).mono ?_
  rintro e w1 ⟨rfl, b1⟩
  obtain ⟨hc, hf⟩ := bcell b1
  have hb1 : Below w.heap.size w w1 := (((Below.refl _ _).alloc (Nat.le_refl _) _).alloc (by simp) _).trans (b1.mono (by simp; omega))
  have hz : w.heap.size + 1 < w1.heap.size := by have := b1.size; simp at this; omega
  have hz' : w.heap.size < w1.heap.size := by omega
  clear b1 hr hz2
  unfold rowV
  go_wp2_with fail
  refine (mayStand_is _ _ _ a1.out _).mono ?_
  rintro e w' ⟨rfl, rfl⟩
  go_wp2_with fail
  refine (mayStand_is _ _ _ a2.out _).mono ?_
  rintro e w' ⟨rfl, rfl⟩
  go_wp2_with fail
  refine (mayBe_is _ _ _ b1.out _).mono ?_
  rintro e w' ⟨rfl, rfl⟩
  go_wp2_with fail
  refine (mayBe_is _ _ _ b2.out _).mono ?_
  rintro e w' ⟨rfl, rfl⟩
  go_wp2_with fail
  refine (mayBe_is _ _ _ b3.out _).mono ?_
  rintro e w' ⟨rfl, rfl⟩
  go_wp2_with fail
  refine (mayBe_is _ _ _ b4.out _).mono ?_
  rintro e w' ⟨rfl, rfl⟩
  go_wp2
  exact bodyPost_ret (v := .tuple #[rowV r0, .int .i64 22]) (by simp [results, Tryd.results51, go_sem, hc, hz]; rfl) rfl ⟨rfl, ((((((((((hb1.setCell (by simp) _).setCell (by simp) _).setCell (by simp) _).setCell (by simp) _).setCell (by simp) _).setCell (by simp) _).setCell (by simp) _).setCell (by simp) _).setCell (by simp) _).alloc (by simp; omega) _)⟩

theorem take_p7 (r : Rw) (op dst src off imm : Int) (w : World) (h0 : 0 ≤ op) (h1 : op < 256) (d0 : 0 ≤ dst) (d1 : dst < 256) (s0 : 0 ≤ src) (s1 : src < 256) (o0 : -32768 ≤ off) (o1 : off < 32768) (m0 : -2147483648 ≤ imm) (m1 : imm < 2147483648) (hz : SzOk w) (hrow : Hid (rowI op src imm = r)) (hn : r.cls ≠ 0) (a1 : Hid (standB r.dst dst = true)) (a2 : Hid (standB r.src src = true)) (b1 : Hid (beB r.dst dst = true)) (b2 : Hid (beB r.src src = true)) (b3 : Hid (beB r.off off = true)) (b4 : Hid (beB r.imm imm = true)) :
    Calls Tryd.prog 51 #[.agg #[.int .u8 op, .int .u8 dst, .int .u8 src, .int .i16 off, .int .i32 imm]] w fun e w' => e = .returned (.tuple #[rowV r, .int .i64 0]) ∧ Below w.heap.size w w' := by
  have hr := hid fun W (hW : SzOk W) => (hrow.out ▸ rowOf_any op dst src off imm W h0 h1 hW : Calls Tryd.prog 69 #[.agg #[.int .u8 op, .int .u8 dst, .int .u8 src, .int .i16 off, .int .i32 imm]] W fun e w' => e = .returned (rowV r) ∧ Below W.heap.size W w')
  have hz2 := hid ((hz.alloc (.cells #[.int .u8 op, .int .u8 dst, .int .u8 src, .int .i16 off, .int .i32 imm] 37)).alloc (.cells #[.int .i64 0, .int .i64 0, .int .i64 0, .bool false, .bool false, .int .i64 0, .int .i64 0, .int .i64 0, .int .i64 0] 84))
  clear hz hrow
  have hn : (r.cls == 0) = false := by simpa using hn
  go_enter Tryd.func51, Tryd.ntmps51
  go_wp2_with fail
  refine (hr.out _ hz2.out).mono ?_
  rintro e w1 ⟨rfl, b1⟩
  obtain ⟨hc, hf⟩ := bcell b1
  have hb1 : Below w.heap.size w w1 := (((Below.refl _ _).alloc (Nat.le_refl _) _).alloc (by simp) _).trans (b1.mono (by simp; omega))
  have hz : w.heap.size + 1 < w1.heap.size := by have := b1.size; simp at this; omega
  have hz' : w.heap.size < w1.heap.size := by omega
  clear b1 hr hz2
  unfold rowV
  go_wp2_with fail
  refine (mayStand_is _ _ _ a1.out _).mono ?_
  rintro e w' ⟨rfl, rfl⟩
  go_wp2_with fail
  refine (mayStand_is _ _ _ a2.out _).mono ?_
  rintro e w' ⟨rfl, rfl⟩
  go_wp2_with fail
  refine (mayBe_is _ _ _ b1.out _).mono ?_
  rintro e w' ⟨rfl, rfl⟩
  go_wp2_with fail
  refine (mayBe_is _ _ _ b2.out _).mono ?_
  rintro e w' ⟨rfl, rfl⟩
  go_wp2_with fail
  refine (mayBe_is _ _ _ b3.out _).mono ?_
  rintro e w' ⟨rfl, rfl⟩
  go_wp2_with fail
  refine (mayBe_is _ _ _ b4.out _).mono ?_
  rintro e w' ⟨rfl, rfl⟩
  go_wp2
  exact bodyPost_ret (v := .tuple #[rowV r, .int .i64 0]) (by simp [results, Tryd.results51, go_sem, hc, hz]; rfl) rfl ⟨rfl, ((((((((((hb1.setCell (by simp) _).setCell (by simp) _).setCell (by simp) _).setCell (by simp) _).setCell (by simp) _).setCell (by simp) _).setCell (by simp) _).setCell (by simp) _).setCell (by simp) _).alloc (by simp; omega) _)⟩

theorem take_any (op dst src off imm : Int) (w : World) (h0 : 0 ≤ op) (h1 : op < 256) (d0 : 0 ≤ dst) (d1 : dst < 256) (s0 : 0 ≤ src) (s1 : src < 256) (o0 : -32768 ≤ off) (o1 : off < 32768) (m0 : -2147483648 ≤ imm) (m1 : imm < 2147483648) (hz : SzOk w) :
    Calls Tryd.prog 51 #[.agg #[.int .u8 op, .int .u8 dst, .int .u8 src, .int .i16 off, .int .i32 imm]] w fun e w' => e = .returned (.tuple #[rowV (tkR (rowI op src imm) dst src off imm), .int .i64 (tkE (rowI op src imm) dst src off imm)]) ∧ Below w.heap.size w w' := by
  have hk := rowI_cls op src imm
  generalize hr : rowI op src imm = r at hk ⊢
  have hr' := hid hr
  rcases hk with rfl | hn
  · exact take_p0 op dst src off imm w h0 h1 d0 d1 s0 s1 o0 o1 m0 m1 hz hr'
  unfold tkR tkE
  rw [if_neg hn]
  cases a1 : standB r.dst dst
  · exact take_p1 r op dst src off imm w h0 h1 d0 d1 s0 s1 o0 o1 m0 m1 hz hr' hn (hid a1)
  cases a2 : standB r.src src
  · exact take_p2 r op dst src off imm w h0 h1 d0 d1 s0 s1 o0 o1 m0 m1 hz hr' hn (hid a1) (hid a2)
  cases b1 : beB r.dst dst
  · exact take_p3 r op dst src off imm w h0 h1 d0 d1 s0 s1 o0 o1 m0 m1 hz hr' hn (hid a1) (hid a2) (hid b1)
  cases b2 : beB r.src src
  · exact take_p4 r op dst src off imm w h0 h1 d0 d1 s0 s1 o0 o1 m0 m1 hz hr' hn (hid a1) (hid a2) (hid b1) (hid b2)
  cases b3 : beB r.off off
  · exact take_p5 r op dst src off imm w h0 h1 d0 d1 s0 s1 o0 o1 m0 m1 hz hr' hn (hid a1) (hid a2) (hid b1) (hid b2) (hid b3)
  cases b4 : beB r.imm imm
  · exact take_p6 r op dst src off imm w h0 h1 d0 d1 s0 s1 o0 o1 m0 m1 hz hr' hn (hid a1) (hid a2) (hid b1) (hid b2) (hid b3) (hid b4)
  · exact take_p7 r op dst src off imm w h0 h1 d0 d1 s0 s1 o0 o1 m0 m1 hz hr' hn (hid a1) (hid a2) (hid b1) (hid b2) (hid b3) (hid b4)

theorem of_any (op dst src off imm : Int) (w : World) (h0 : 0 ≤ op) (h1 : op < 256) (d0 : 0 ≤ dst) (d1 : dst < 256) (s0 : 0 ≤ src) (s1 : src < 256) (o0 : -32768 ≤ off) (o1 : off < 32768) (m0 : -2147483648 ≤ imm) (m1 : imm < 2147483648) (hz : SzOk w) :
    Calls Tryd.prog 22 #[.agg #[.int .u8 op, .int .u8 dst, .int .u8 src, .int .i16 off, .int .i32 imm]] w fun e w' => e = .returned (.tuple #[whV (tkR (rowI op src imm) dst src off imm), .int .i64 (tkE (rowI op src imm) dst src off imm)]) ∧ Below w.heap.size w w' := by
  have ht := hid fun W hW => take_any op dst src off imm W h0 h1 d0 d1 s0 s1 o0 o1 m0 m1 hW
  have hz2 := hid ((hz.alloc (.cells #[.int .u8 op, .int .u8 dst, .int .u8 src, .int .i16 off, .int .i32 imm] 37)).alloc (.cells #[.int .i64 0, .int .i64 0, .int .i64 0, .bool false, .bool false] 43))
  clear hz
  generalize tkR (rowI op src imm) dst src off imm = r at ht ⊢
  generalize tkE (rowI op src imm) dst src off imm = k at ht ⊢
  go_enter Tryd.func22, Tryd.ntmps22
  go_wp2_with fail
  refine (ht.out _ hz2.out).mono ?_
  rintro e w1 ⟨rfl, b1⟩
  obtain ⟨hc, hf⟩ := bcell b1
  have hb1 : Below w.heap.size w w1 := (((Below.refl _ _).alloc (Nat.le_refl _) _).alloc (by simp) _).trans (b1.mono (by simp; omega))
  have hz : w.heap.size + 1 < w1.heap.size := by have := b1.size; simp at this; omega
  have hz' : w.heap.size < w1.heap.size := by omega
  clear b1 ht hz2
  unfold rowV
  go_wp2
  exact bodyPost_ret (v := .tuple #[whV r, .int .i64 k]) (by simp [results, Tryd.results22, go_sem, hc, hz]; rfl) rfl ⟨rfl, ((((((hb1.setCell (by simp) _).setCell (by simp) _).setCell (by simp) _).setCell (by simp) _).setCell (by simp) _).alloc (by simp; omega) _)⟩
end Go.Proofs.YtdnkikgfiganaaaDoor
