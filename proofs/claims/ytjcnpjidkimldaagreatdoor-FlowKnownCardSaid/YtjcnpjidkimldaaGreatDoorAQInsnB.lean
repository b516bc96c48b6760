/-
  Plain rows: the chapter's table of instructions, as the landed code computes a row and as the document's own list has it, and that both are the same. No condition. Contracts of package insn's small functions, as the landed code has them. The contract of aluRow. The contract of jumpRow.
-/
import Derived.Test.YtjcnpjidkimldaaGreatDoorChecked
import Derived.WalkKit
import Derived.Laws.BitsAllLaws
import Derived.Laws.Bits64
import Derived.ProofKit
import Derived.Below
import Derived.Outline
import Derived.OneCell
import Derived.Deep.QuietTactic
import Derived.BigQuiet
namespace Go.Proofs.YtjcnpjidkimldaaGreatDoor.Is
set_option maxRecDepth 100000
open Go.RowKit

/-- A row as the code has it. -/
structure Rw where
  cls : Int
  op : Int
  size : Int
  wide : Bool
  reg : Bool
  dst : Int
  src : Int
  off : Int
  imm : Int
deriving DecidableEq
def r0 : Rw := ⟨0, 0, 0, false, false, 0, 0, 0, 0⟩
def whV (r : Rw) : Value := .agg #[.int .i64 r.cls, .int .i64 r.op, .int .i64 r.size, .bool r.wide, .bool r.reg]
def rowV (r : Rw) : Value := .agg #[.int .i64 r.cls, .int .i64 r.op, .int .i64 r.size, .bool r.wide, .bool r.reg, .int .i64 r.dst, .int .i64 r.src, .int .i64 r.off, .int .i64 r.imm]

def swapI (b : Int) : Rw := if b = 16 then ⟨2, 0, 2, false, false, 3, 0, 0, 1⟩ else if b = 32 then ⟨2, 0, 4, false, false, 3, 0, 0, 1⟩ else if b = 64 then ⟨2, 0, 8, false, false, 3, 0, 0, 1⟩ else r0
def constI (s : Int) : Rw := if s = 0 then ⟨10, 0, 0, false, false, 3, 1, 0, 1⟩ else if s = 1 then ⟨11, 0, 0, false, false, 3, 1, 0, 1⟩ else r0
def sizI (k : Int) : Int := if k = 0 then 4 else if k = 1 then 2 else if k = 2 then 1 else 8
def memI (op : Int) : Rw :=
  if op / 32 ≠ 3 then r0
  else if op % 8 = 1 then ⟨3, 0, sizI (op / 8 % 4), false, false, 3, 2, 1, 0⟩
  else if op % 8 = 2 then ⟨5, 0, sizI (op / 8 % 4), false, false, 2, 0, 1, 1⟩
  else ⟨4, 0, sizI (op / 8 % 4), false, false, 2, 2, 1, 0⟩
def aluR (op : Int) : Rw :=
  if op / 16 > 12 then r0
  else if op / 16 = 8 then (if op / 8 % 2 = 1 then r0 else ⟨1, op / 16, 0, op % 8 == 7, false, 3, 0, 0, 0⟩)
  else if op / 8 % 2 = 1 then ⟨1, op / 16, 0, op % 8 == 7, true, 3, 2, 0, 0⟩
  else ⟨1, op / 16, 0, op % 8 == 7, false, 3, 0, 0, 1⟩
def jmpR (op : Int) : Rw :=
  if op / 16 < 1 then r0 else if op / 16 > 7 ∧ op / 16 < 10 then r0 else if op / 16 > 13 then r0
  else if op / 8 % 2 = 1 then ⟨6, op / 16, 0, op % 8 == 5, true, 2, 2, 1, 0⟩
  else ⟨6, op / 16, 0, op % 8 == 5, false, 2, 0, 1, 1⟩
def rowI (op src imm : Int) : Rw :=
  if op = 215 then swapI imm
  else if op = 5 then ⟨7, 0, 0, false, false, 0, 0, 1, 0⟩
  else if op = 133 then ⟨8, 0, 0, false, false, 0, 0, 0, 1⟩
  else if op = 149 then ⟨9, 0, 0, false, false, 0, 0, 0, 0⟩
  else if op = 24 then constI src
  else if op % 8 = 1 ∨ op % 8 = 2 ∨ op % 8 = 3 then memI op
  else if op % 8 = 4 ∨ op % 8 = 7 then aluR op
  else if op % 8 = 6 ∨ op % 8 = 5 then jmpR op
  else r0

end Go.Proofs.YtjcnpjidkimldaaGreatDoor.Is

namespace Go.Proofs.YtjcnpjidkimldaaGreatDoor.Is
set_option maxRecDepth 100000
open Go.ChangeShapes Go.WideShapes Go.ChangeAt Go.RowKit

theorem hid {p : Prop} (h : p) : Hid p := h
theorem below_next {a b c : World} (h : Below a.heap.size a b) (k : Below b.heap.size b c) : Below a.heap.size a c := h.trans (k.mono h.size)
theorem ret_val {a b : Value} (h : a = b) : Ending.returned a = .returned b := by rw [h]

theorem u8_and7 (x : Int) (h0 : 0 ≤ x) (h1 : x < 256) : bits .and .u8 x 7 = x % 8 := by
  obtain ⟨n, rfl⟩ : ∃ n : Nat, x = n := ⟨x.toNat, by omega⟩
  have hn : n < 256 := by omega
  show IntKind.u8.wrap ((BitVec.ofInt 8 (n : Int) &&& BitVec.ofInt 8 (7 : Int)).toNat : Int) = _
  rw [BitVec.toNat_and, BitVec.ofInt_natCast, BitVec.toNat_ofNat, Nat.mod_eq_of_lt (by omega), show (BitVec.ofInt 8 (7 : Int)).toNat = 2 ^ 3 - 1 by decide, Nat.and_two_pow_sub_one_eq_mod, IntKind.wrap_u8]
  omega
theorem u8_and3 (x : Int) (h0 : 0 ≤ x) (h1 : x < 256) : bits .and .u8 x 3 = x % 4 := by
  obtain ⟨n, rfl⟩ : ∃ n : Nat, x = n := ⟨x.toNat, by omega⟩
  have hn : n < 256 := by omega
  show IntKind.u8.wrap ((BitVec.ofInt 8 (n : Int) &&& BitVec.ofInt 8 (3 : Int)).toNat : Int) = _
  rw [BitVec.toNat_and, BitVec.ofInt_natCast, BitVec.toNat_ofNat, Nat.mod_eq_of_lt (by omega), show (BitVec.ofInt 8 (3 : Int)).toNat = 2 ^ 2 - 1 by decide, Nat.and_two_pow_sub_one_eq_mod, IntKind.wrap_u8]
  omega
theorem u8_and8_t : ((List.range 256).all fun n => decide (bits .and .u8 (n : Int) 8 = if (n : Int) / 8 % 2 = 1 then 8 else 0)) = true := by kernel_rfl
theorem u8_and8 (x : Int) (h0 : 0 ≤ x) (h1 : x < 256) : bits .and .u8 x 8 = if x / 8 % 2 = 1 then 8 else 0 := by
  have h := u8_and8_t
  rw [List.all_eq_true] at h
  have hx := h x.toNat (List.mem_range.2 (by omega))
  rwa [decide_eq_true_eq, show ((x.toNat : Nat) : Int) = x by omega] at hx

theorem swapRow_any (b : Int) (w : World) : Calls Tryz.prog 169 #[.int .i32 b] w fun e w' => e = .returned (rowV (swapI b)) ∧ Below w.heap.size w w' := by
  by_cases h1 : b = 16
  · subst h1
    go_enter Tryz.func169, Tryz.ntmps169
    go_wp2
    exact bodyPost_ret (v := rowV (swapI 16)) (by simp [results, Tryz.results169, go_sem]; rfl) rfl ⟨rfl, (Below.refl _ _).alloc (Nat.le_refl _) _⟩
  by_cases h2 : b = 32
  · subst h2
    go_enter Tryz.func169, Tryz.ntmps169
    go_wp2
    exact bodyPost_ret (v := rowV (swapI 32)) (by simp [results, Tryz.results169, go_sem]; rfl) rfl ⟨rfl, (Below.refl _ _).alloc (Nat.le_refl _) _⟩
  by_cases h3 : b = 64
  · subst h3
    go_enter Tryz.func169, Tryz.ntmps169
    go_wp2
    exact bodyPost_ret (v := rowV (swapI 64)) (by simp [results, Tryz.results169, go_sem]; rfl) rfl ⟨rfl, (Below.refl _ _).alloc (Nat.le_refl _) _⟩
  have hr : swapI b = r0 := by unfold swapI; rw [if_neg h1, if_neg h2, if_neg h3]
  rw [hr]
  clear hr
  have e1 : (b == 16) = false := by simpa using h1
  have e2 : (b == 32) = false := by simpa using h2
  have e3 : (b == 64) = false := by simpa using h3
  clear h1 h2 h3
  go_enter Tryz.func169, Tryz.ntmps169
  go_wp2
  exact bodyPost_ret (v := rowV r0) (by simp [results, Tryz.results169, go_sem]; rfl) rfl ⟨rfl, (Below.refl _ _).alloc (Nat.le_refl _) _⟩

theorem constRow_any (b : Int) (w : World) : Calls Tryz.prog 170 #[.int .u8 b] w fun e w' => e = .returned (rowV (constI b)) ∧ Below w.heap.size w w' := by
  by_cases h1 : b = 0
  · subst h1
    go_enter Tryz.func170, Tryz.ntmps170
    go_wp2
    exact bodyPost_ret (v := rowV (constI 0)) (by simp [results, Tryz.results170, go_sem]; rfl) rfl ⟨rfl, (Below.refl _ _).alloc (Nat.le_refl _) _⟩
  by_cases h2 : b = 1
  · subst h2
    go_enter Tryz.func170, Tryz.ntmps170
    go_wp2
    exact bodyPost_ret (v := rowV (constI 1)) (by simp [results, Tryz.results170, go_sem]; rfl) rfl ⟨rfl, (Below.refl _ _).alloc (Nat.le_refl _) _⟩
  have hr : constI b = r0 := by unfold constI; rw [if_neg h1, if_neg h2]
  rw [hr]
  clear hr
  have e1 : (b == 0) = false := by simpa using h1
  have e2 : (b == 1) = false := by simpa using h2
  clear h1 h2
  go_enter Tryz.func170, Tryz.ntmps170
  go_wp2
  exact bodyPost_ret (v := rowV r0) (by simp [results, Tryz.results170, go_sem]; rfl) rfl ⟨rfl, (Below.refl _ _).alloc (Nat.le_refl _) _⟩

/-- The table of sizes, as start-up lays it. -/
def SzOk (w : World) : Prop := 0 < w.heap.size ∧ w.cell? ⟨0, 0, none⟩ = some (.int .i64 4) ∧ w.cell? ⟨0, 1, none⟩ = some (.int .i64 2) ∧ w.cell? ⟨0, 2, none⟩ = some (.int .i64 1) ∧ w.cell? ⟨0, 3, none⟩ = some (.int .i64 8)
theorem SzOk.below {a b : World} (h : SzOk a) (hb : Below a.heap.size a b) : SzOk b :=
  ⟨Nat.lt_of_lt_of_le h.1 hb.size, (hb.cell h.1).trans h.2.1, (hb.cell h.1).trans h.2.2.1, (hb.cell h.1).trans h.2.2.2.1, (hb.cell h.1).trans h.2.2.2.2⟩
theorem SzOk.alloc {a : World} (h : SzOk a) (o : Obj) : SzOk (a.alloc o) := h.below ((Below.refl _ _).alloc (Nat.le_refl _) o)
theorem four (x : Int) : x % 4 = 0 ∨ x % 4 = 1 ∨ x % 4 = 2 ∨ x % 4 = 3 := by omega

end Go.Proofs.YtjcnpjidkimldaaGreatDoor.Is

namespace Go.Proofs.YtjcnpjidkimldaaGreatDoor.Is
set_option maxRecDepth 100000
open Go.ChangeShapes Go.WideShapes Go.ChangeAt Go.RowKit

theorem alu_a (op : Int) (w : World) (h0 : 0 ≤ op) (h1 : op < 256) (ho : op / 16 > 12) : Calls Tryz.prog 172 #[.int .u8 op] w fun e w' => e = .returned (rowV (aluR op)) ∧ Below w.heap.size w w' := by
  have hr : aluR op = r0 := by
    unfold aluR
    rw [if_pos ho]
  rw [hr]
  clear hr
  have g1 := u8_and7 op h0 h1
  have g2 : bits .and .u8 op 8 = if op / 8 % 2 = 1 then 8 else 0 := u8_and8 op h0 h1
  have g3 : decide (12 < op / 16) = true := by simp; omega
  clear ho
  by_cases hg : op / 8 % 2 = 1
  all_goals simp only [hg, if_true, if_false] at g2
  all_goals
    clear hg
    go_enter Tryz.func172, Tryz.ntmps172
    go_wp2
    exact bodyPost_ret (v := rowV r0) (by simp [results, Tryz.results172, go_sem]; rfl) rfl ⟨rfl, ((Below.refl _ _).alloc (Nat.le_refl _) _).alloc (by simp) _⟩

theorem alu_b (op : Int) (w : World) (h0 : 0 ≤ op) (h1 : op < 256) (ho : op / 16 = 8) (hg : op / 8 % 2 = 1) : Calls Tryz.prog 172 #[.int .u8 op] w fun e w' => e = .returned (rowV (aluR op)) ∧ Below w.heap.size w w' := by
  have hr : aluR op = r0 := by
    unfold aluR
    rw [if_neg (by omega), if_pos ho, if_pos hg]
  rw [hr]
  clear hr
  have g1 := u8_and7 op h0 h1
  have g2 : bits .and .u8 op 8 = 8 := by rw [u8_and8 op h0 h1, if_pos hg]
  have g3 : decide (12 < op / 16) = false := by simp; omega
  have g4 : (op / 16 == 8) = true := by simp; omega
  clear ho hg
  go_enter Tryz.func172, Tryz.ntmps172
  go_wp2
  exact bodyPost_ret (v := rowV r0) (by simp [results, Tryz.results172, go_sem]; rfl) rfl ⟨rfl, ((Below.refl _ _).alloc (Nat.le_refl _) _).alloc (by simp) _⟩

theorem alu_c (op : Int) (w : World) (h0 : 0 ≤ op) (h1 : op < 256) (ho : op / 16 = 8) (hg : ¬ op / 8 % 2 = 1) : Calls Tryz.prog 172 #[.int .u8 op] w fun e w' => e = .returned (rowV (aluR op)) ∧ Below w.heap.size w w' := by
  have hr : aluR op = ⟨1, op / 16, 0, op % 8 == 7, false, 3, 0, 0, 0⟩ := by
    unfold aluR
    rw [if_neg (by omega), if_pos ho, if_neg hg]
  rw [hr]
  clear hr
  have g1 := u8_and7 op h0 h1
  have g2 : bits .and .u8 op 8 = 0 := by rw [u8_and8 op h0 h1, if_neg hg]
  have g3 : decide (12 < op / 16) = false := by simp; omega
  have g4 : (op / 16 == 8) = true := by simp; omega
  clear ho hg
  go_enter Tryz.func172, Tryz.ntmps172
  go_wp2
  exact bodyPost_ret (v := rowV ⟨1, op / 16, 0, op % 8 == 7, false, 3, 0, 0, 0⟩) (by simp [results, Tryz.results172, go_sem]; rfl) rfl ⟨rfl, ((Below.refl _ _).alloc (Nat.le_refl _) _).alloc (by simp) _⟩

theorem alu_d (op : Int) (w : World) (h0 : 0 ≤ op) (h1 : op < 256) (ho : ¬ op / 16 > 12) (hn : ¬ op / 16 = 8) (hg : op / 8 % 2 = 1) : Calls Tryz.prog 172 #[.int .u8 op] w fun e w' => e = .returned (rowV (aluR op)) ∧ Below w.heap.size w w' := by
  have hr : aluR op = ⟨1, op / 16, 0, op % 8 == 7, true, 3, 2, 0, 0⟩ := by
    unfold aluR
    rw [if_neg ho, if_neg hn, if_pos hg]
  rw [hr]
  clear hr
  have g1 := u8_and7 op h0 h1
  have g2 : bits .and .u8 op 8 = 8 := by rw [u8_and8 op h0 h1, if_pos hg]
  have g3 : decide (12 < op / 16) = false := by simp; omega
  have g4 : (op / 16 == 8) = false := by simp; omega
  clear ho hg hn
  go_enter Tryz.func172, Tryz.ntmps172
  go_wp2
  exact bodyPost_ret (v := rowV ⟨1, op / 16, 0, op % 8 == 7, true, 3, 2, 0, 0⟩) (by simp [results, Tryz.results172, go_sem]; rfl) rfl ⟨rfl, ((Below.refl _ _).alloc (Nat.le_refl _) _).alloc (by simp) _⟩

theorem alu_e (op : Int) (w : World) (h0 : 0 ≤ op) (h1 : op < 256) (ho : ¬ op / 16 > 12) (hn : ¬ op / 16 = 8) (hg : ¬ op / 8 % 2 = 1) : Calls Tryz.prog 172 #[.int .u8 op] w fun e w' => e = .returned (rowV (aluR op)) ∧ Below w.heap.size w w' := by
  have hr : aluR op = ⟨1, op / 16, 0, op % 8 == 7, false, 3, 0, 0, 1⟩ := by
    unfold aluR
    rw [if_neg ho, if_neg hn, if_neg hg]
  rw [hr]
  clear hr
  have g1 := u8_and7 op h0 h1
  have g2 : bits .and .u8 op 8 = 0 := by rw [u8_and8 op h0 h1, if_neg hg]
  have g3 : decide (12 < op / 16) = false := by simp; omega
  have g4 : (op / 16 == 8) = false := by simp; omega
  clear ho hg hn
  go_enter Tryz.func172, Tryz.ntmps172
  go_wp2
  exact bodyPost_ret (v := rowV ⟨1, op / 16, 0, op % 8 == 7, false, 3, 0, 0, 1⟩) (by simp [results, Tryz.results172, go_sem]; rfl) rfl ⟨rfl, ((Below.refl _ _).alloc (Nat.le_refl _) _).alloc (by simp) _⟩

theorem aluRow_any (op : Int) (w : World) (h0 : 0 ≤ op) (h1 : op < 256) : Calls Tryz.prog 172 #[.int .u8 op] w fun e w' => e = .returned (rowV (aluR op)) ∧ Below w.heap.size w w' := by
  by_cases ho : op / 16 > 12
  · exact alu_a op w h0 h1 ho
  by_cases hn : op / 16 = 8
  · by_cases hg : op / 8 % 2 = 1
    · exact alu_b op w h0 h1 hn hg
    · exact alu_c op w h0 h1 hn hg
  by_cases hg : op / 8 % 2 = 1
  · exact alu_d op w h0 h1 ho hn hg
  · exact alu_e op w h0 h1 ho hn hg

end Go.Proofs.YtjcnpjidkimldaaGreatDoor.Is

namespace Go.Proofs.YtjcnpjidkimldaaGreatDoor.Is
set_option maxRecDepth 100000
open Go.ChangeShapes Go.WideShapes Go.ChangeAt Go.RowKit

theorem jmp_a (op : Int) (w : World) (h0 : 0 ≤ op) (h1 : op < 256) (ho : op / 16 < 1) : Calls Tryz.prog 173 #[.int .u8 op] w fun e w' => e = .returned (rowV (jmpR op)) ∧ Below w.heap.size w w' := by
  have hr : jmpR op = r0 := by
    unfold jmpR
    rw [if_pos ho]
  rw [hr]
  clear hr
  have g1 := u8_and7 op h0 h1
  have g2 : bits .and .u8 op 8 = if op / 8 % 2 = 1 then 8 else 0 := u8_and8 op h0 h1
  have g3 : decide (op / 16 < 1) = true := by simp; omega
  clear ho
  by_cases hg : op / 8 % 2 = 1
  all_goals simp only [hg, if_true, if_false] at g2
  all_goals
    clear hg
    go_enter Tryz.func173, Tryz.ntmps173
    go_wp2
    exact bodyPost_ret (v := rowV r0) (by simp [results, Tryz.results173, go_sem]; rfl) rfl ⟨rfl, ((Below.refl _ _).alloc (Nat.le_refl _) _).alloc (by simp) _⟩

theorem jmp_b (op : Int) (w : World) (h0 : 0 ≤ op) (h1 : op < 256) (ho : op / 16 > 7 ∧ op / 16 < 10) : Calls Tryz.prog 173 #[.int .u8 op] w fun e w' => e = .returned (rowV (jmpR op)) ∧ Below w.heap.size w w' := by
  have hr : jmpR op = r0 := by
    unfold jmpR
    rw [if_neg (by omega), if_pos ho]
  rw [hr]
  clear hr
  have g1 := u8_and7 op h0 h1
  have g2 : bits .and .u8 op 8 = if op / 8 % 2 = 1 then 8 else 0 := u8_and8 op h0 h1
  have g3 : decide (op / 16 < 1) = false := by simp; omega
  have g4 : decide (7 < op / 16) = true := by simp; omega
  have g5 : decide (op / 16 < 10) = true := by simp; omega
  clear ho
  by_cases hg : op / 8 % 2 = 1
  all_goals simp only [hg, if_true, if_false] at g2
  all_goals
    clear hg
    go_enter Tryz.func173, Tryz.ntmps173
    go_wp2
    exact bodyPost_ret (v := rowV r0) (by simp [results, Tryz.results173, go_sem]; rfl) rfl ⟨rfl, ((Below.refl _ _).alloc (Nat.le_refl _) _).alloc (by simp) _⟩

theorem jmp_c (op : Int) (w : World) (h0 : 0 ≤ op) (h1 : op < 256) (ho : op / 16 > 13) : Calls Tryz.prog 173 #[.int .u8 op] w fun e w' => e = .returned (rowV (jmpR op)) ∧ Below w.heap.size w w' := by
  have hr : jmpR op = r0 := by
    unfold jmpR
    rw [if_neg (by omega), if_neg (by omega), if_pos ho]
  rw [hr]
  clear hr
  have g1 := u8_and7 op h0 h1
  have g2 : bits .and .u8 op 8 = if op / 8 % 2 = 1 then 8 else 0 := u8_and8 op h0 h1
  have g3 : decide (op / 16 < 1) = false := by simp; omega
  have g4 : decide (7 < op / 16) = true := by simp; omega
  have g5 : decide (op / 16 < 10) = false := by simp; omega
  have g6 : decide (13 < op / 16) = true := by simp; omega
  clear ho
  by_cases hg : op / 8 % 2 = 1
  all_goals simp only [hg, if_true, if_false] at g2
  all_goals
    clear hg
    go_enter Tryz.func173, Tryz.ntmps173
    go_wp2
    exact bodyPost_ret (v := rowV r0) (by simp [results, Tryz.results173, go_sem]; rfl) rfl ⟨rfl, ((Below.refl _ _).alloc (Nat.le_refl _) _).alloc (by simp) _⟩

theorem jmp_d1 (op : Int) (w : World) (h0 : 0 ≤ op) (h1 : op < 256) (ha : op / 16 ≥ 1) (hb : op / 16 ≤ 13) (hc : op / 16 ≥ 10) (hg : op / 8 % 2 = 1) : Calls Tryz.prog 173 #[.int .u8 op] w fun e w' => e = .returned (rowV (jmpR op)) ∧ Below w.heap.size w w' := by
  have hr : jmpR op = ⟨6, op / 16, 0, op % 8 == 5, true, 2, 2, 1, 0⟩ := by
    unfold jmpR
    rw [if_neg (by omega), if_neg (by omega), if_neg (by omega), if_pos hg]
  rw [hr]
  clear hr
  have g1 := u8_and7 op h0 h1
  have g2 : bits .and .u8 op 8 = 8 := by rw [u8_and8 op h0 h1, if_pos hg]
  have g3 : decide (op / 16 < 1) = false := by simp; omega
  have g4 : decide (7 < op / 16) = true := by simp; omega
  have g5 : decide (op / 16 < 10) = false := by simp; omega
  have g6 : decide (13 < op / 16) = false := by simp; omega
  clear ha hb hc hg
  go_enter Tryz.func173, Tryz.ntmps173
  go_wp2
  exact bodyPost_ret (v := rowV ⟨6, op / 16, 0, op % 8 == 5, true, 2, 2, 1, 0⟩) (by simp [results, Tryz.results173, go_sem]; rfl) rfl ⟨rfl, ((Below.refl _ _).alloc (Nat.le_refl _) _).alloc (by simp) _⟩

theorem jmp_d0 (op : Int) (w : World) (h0 : 0 ≤ op) (h1 : op < 256) (ha : op / 16 ≥ 1) (hb : op / 16 ≤ 13) (hc : op / 16 ≥ 10) (hg : ¬ op / 8 % 2 = 1) : Calls Tryz.prog 173 #[.int .u8 op] w fun e w' => e = .returned (rowV (jmpR op)) ∧ Below w.heap.size w w' := by
  have hr : jmpR op = ⟨6, op / 16, 0, op % 8 == 5, false, 2, 0, 1, 1⟩ := by
    unfold jmpR
    rw [if_neg (by omega), if_neg (by omega), if_neg (by omega), if_neg hg]
  rw [hr]
  clear hr
  have g1 := u8_and7 op h0 h1
  have g2 : bits .and .u8 op 8 = 0 := by rw [u8_and8 op h0 h1, if_neg hg]
  have g3 : decide (op / 16 < 1) = false := by simp; omega
  have g4 : decide (7 < op / 16) = true := by simp; omega
  have g5 : decide (op / 16 < 10) = false := by simp; omega
  have g6 : decide (13 < op / 16) = false := by simp; omega
  clear ha hb hc hg
  go_enter Tryz.func173, Tryz.ntmps173
  go_wp2
  exact bodyPost_ret (v := rowV ⟨6, op / 16, 0, op % 8 == 5, false, 2, 0, 1, 1⟩) (by simp [results, Tryz.results173, go_sem]; rfl) rfl ⟨rfl, ((Below.refl _ _).alloc (Nat.le_refl _) _).alloc (by simp) _⟩

theorem jmp_e1 (op : Int) (w : World) (h0 : 0 ≤ op) (h1 : op < 256) (ha : op / 16 ≥ 1) (hb : op / 16 ≤ 13) (hc : op / 16 ≤ 7) (hg : op / 8 % 2 = 1) : Calls Tryz.prog 173 #[.int .u8 op] w fun e w' => e = .returned (rowV (jmpR op)) ∧ Below w.heap.size w w' := by
  have hr : jmpR op = ⟨6, op / 16, 0, op % 8 == 5, true, 2, 2, 1, 0⟩ := by
    unfold jmpR
    rw [if_neg (by omega), if_neg (by omega), if_neg (by omega), if_pos hg]
  rw [hr]
  clear hr
  have g1 := u8_and7 op h0 h1
  have g2 : bits .and .u8 op 8 = 8 := by rw [u8_and8 op h0 h1, if_pos hg]
  have g3 : decide (op / 16 < 1) = false := by simp; omega
  have g4 : decide (7 < op / 16) = false := by simp; omega
  have g6 : decide (13 < op / 16) = false := by simp; omega
  clear ha hb hc hg
  go_enter Tryz.func173, Tryz.ntmps173
  go_wp2
  exact bodyPost_ret (v := rowV ⟨6, op / 16, 0, op % 8 == 5, true, 2, 2, 1, 0⟩) (by simp [results, Tryz.results173, go_sem]; rfl) rfl ⟨rfl, ((Below.refl _ _).alloc (Nat.le_refl _) _).alloc (by simp) _⟩

theorem jmp_e0 (op : Int) (w : World) (h0 : 0 ≤ op) (h1 : op < 256) (ha : op / 16 ≥ 1) (hb : op / 16 ≤ 13) (hc : op / 16 ≤ 7) (hg : ¬ op / 8 % 2 = 1) : Calls Tryz.prog 173 #[.int .u8 op] w fun e w' => e = .returned (rowV (jmpR op)) ∧ Below w.heap.size w w' := by
  have hr : jmpR op = ⟨6, op / 16, 0, op % 8 == 5, false, 2, 0, 1, 1⟩ := by
    unfold jmpR
    rw [if_neg (by omega), if_neg (by omega), if_neg (by omega), if_neg hg]
  rw [hr]
  clear hr
  have g1 := u8_and7 op h0 h1
  have g2 : bits .and .u8 op 8 = 0 := by rw [u8_and8 op h0 h1, if_neg hg]
  have g3 : decide (op / 16 < 1) = false := by simp; omega
  have g4 : decide (7 < op / 16) = false := by simp; omega
  have g6 : decide (13 < op / 16) = false := by simp; omega
  clear ha hb hc hg
  go_enter Tryz.func173, Tryz.ntmps173
  go_wp2
  exact bodyPost_ret (v := rowV ⟨6, op / 16, 0, op % 8 == 5, false, 2, 0, 1, 1⟩) (by simp [results, Tryz.results173, go_sem]; rfl) rfl ⟨rfl, ((Below.refl _ _).alloc (Nat.le_refl _) _).alloc (by simp) _⟩

theorem jumpRow_any (op : Int) (w : World) (h0 : 0 ≤ op) (h1 : op < 256) : Calls Tryz.prog 173 #[.int .u8 op] w fun e w' => e = .returned (rowV (jmpR op)) ∧ Below w.heap.size w w' := by
  by_cases h2 : op / 16 < 1
  · exact jmp_a op w h0 h1 h2
  by_cases h3 : op / 16 > 7 ∧ op / 16 < 10
  · exact jmp_b op w h0 h1 h3
  by_cases h4 : op / 16 > 13
  · exact jmp_c op w h0 h1 h4
  by_cases h5 : op / 16 ≤ 7
  · by_cases hg : op / 8 % 2 = 1
    · exact jmp_e1 op w h0 h1 (by omega) (by omega) h5 hg
    · exact jmp_e0 op w h0 h1 (by omega) (by omega) h5 hg
  · by_cases hg : op / 8 % 2 = 1
    · exact jmp_d1 op w h0 h1 (by omega) (by omega) (by omega) hg
    · exact jmp_d0 op w h0 h1 (by omega) (by omega) (by omega) hg

end Go.Proofs.YtjcnpjidkimldaaGreatDoor.Is
