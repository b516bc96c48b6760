/-
  Contracts of Encode, the code's and the document's own, and of 'same': bytes that are the same.
-/
import Derived.Test.YtkapbeipjjcalaaDoorInsnDc
namespace Go.Proofs.YtkapbeipjjcalaaDoor
set_option linter.unusedSimpArgs false
set_option linter.unusedVariables false
open Go.ChangeShapes Go.WideShapes Go.ChangeAt Go.RowKit

/-- A slice that holds just these bytes. -/
def ByteSl (w : World) (p : Option Addr) (n : Nat) (zs : List Int) : Prop :=
  zs.length = n ∧ (∀ z ∈ zs, 0 ≤ z ∧ z < 256) ∧ (n = 0 ∨ ∃ b off, p = some ⟨b, off, none⟩ ∧ b < w.heap.size ∧ ∀ j, j < n → w.cell? ⟨b, off + j, none⟩ = some (.int .u8 (zs.getD j 0)))
theorem ByteSl.below {w w' : World} {p : Option Addr} {n : Nat} {zs : List Int} (h : ByteSl w p n zs) (hb : Below w.heap.size w w') : ByteSl w' p n zs := by
  obtain ⟨h1, h2, h3⟩ := h
  refine ⟨h1, h2, ?_⟩
  rcases h3 with h3 | ⟨b, off, rfl, hlt, hc⟩
  · exact .inl h3
  · exact .inr ⟨b, off, rfl, Nat.lt_of_lt_of_le hlt hb.size, fun j hj => (hb.cell (p := ⟨b, off + j, none⟩) hlt).trans (hc j hj)⟩

theorem below_dn {B : Nat} {a w : World} (h : Below B a w) (n : Nat) : Below B a (w.drewN n) := ⟨h.os, h.tape, h.output, h.size, h.block⟩

def encB (op dst src off imm : Int) : List Int :=
  [op, src * 16 + dst, off % 65536 % 256, off % 65536 / 256, imm % 4294967296 % 256, imm % 4294967296 / 256 % 256, imm % 4294967296 / 65536 % 256, imm % 4294967296 / 16777216]
def bytesV (l : List Int) : Array Value := (l.map (Value.int .u8)).toArray
/-- What Encode leaves: eight bytes in a block of the call's own. -/
def EncPost (w : World) (l : List Int) (e : Ending) (w' : World) : Prop :=
  ∃ g, e = .returned (.tuple #[.slice (some ⟨g, 0, none⟩) 8 8, .int .i64 0]) ∧ Below w.heap.size w w' ∧ w.heap.size ≤ g ∧ g < w'.heap.size ∧ w'.heap[g]? = some (.cells (bytesV l) 5 (0, 0))
theorem u16_wrap (x : Int) : IntKind.u16.wrap x = x % 65536 := IntKind.wrap_u16 x
theorem u8_or16_t : ((List.range 16).all fun s => (List.range 16).all fun d => decide (bits .or .u8 ((s : Int) * 16) (d : Int) = (s : Int) * 16 + d)) = true := by kernel_rfl
theorem u8_or16 (s d : Int) (s0 : 0 ≤ s) (s1 : s ≤ 15) (d0 : 0 ≤ d) (d1 : d ≤ 15) : bits .or .u8 (s * 16) d = s * 16 + d := by
  have h := u8_or16_t
  rw [List.all_eq_true] at h
  have hs := h s.toNat (List.mem_range.2 (by omega))
  rw [List.all_eq_true] at hs
  have hd := hs d.toNat (List.mem_range.2 (by omega))
  rwa [decide_eq_true_eq, show ((s.toNat : Nat) : Int) = s by omega, show ((d.toNat : Nat) : Int) = d by omega] at hd
theorem heap_new {X : World} {O : Obj} {n : Nat} (h : X.heap.size = n) : (X.alloc O).heap[n]? = some O := h ▸ heap_alloc_new X O
theorem bytes8 {a0 a1 a2 a3 a4 a5 a6 a7 b0 b1 b2 b3 b4 b5 b6 b7 : Int} {t : TypeId} (h0 : a0 = b0) (h1 : a1 = b1) (h2 : a2 = b2) (h3 : a3 = b3) (h4 : a4 = b4) (h5 : a5 = b5) (h6 : a6 = b6) (h7 : a7 = b7) :
    some (Obj.cells #[.int .u8 a0, .int .u8 a1, .int .u8 a2, .int .u8 a3, .int .u8 a4, .int .u8 a5, .int .u8 a6, .int .u8 a7] t (0, 0)) = some (Obj.cells (bytesV [b0, b1, b2, b3, b4, b5, b6, b7]) t (0, 0)) := by
  subst h0 h1 h2 h3 h4 h5 h6 h7
  rfl

set_option maxRecDepth 100000 in
theorem encode_yes (op dst src off imm : Int) (w : World) (h0 : 0 ≤ op) (h1 : op < 256) (d0 : 0 ≤ dst) (d1 : dst ≤ 15) (s0 : 0 ≤ src) (s1 : src ≤ 15) (o0 : -32768 ≤ off) (o1 : off < 32768) (m0 : -2147483648 ≤ imm) (m1 : imm < 2147483648) : Calls Tryd.prog 16 #[.agg #[.int .u8 op, .int .u8 dst, .int .u8 src, .int .i16 off, .int .i32 imm]] w (EncPost w (encB op dst src off imm)) := by
  have g1 : decide (15 < dst) = false := by simp; omega
  have g2 : decide (15 < src) = false := by simp; omega
  have g3 := u8_or16 src dst s0 s1 d0 d1
  have g4 := u16_wrap off
  have g5 : off % 65536 / 256 % 256 = off % 65536 / 256 := by omega
  go_enter Tryd.func16, Tryd.ntmps16
  go_wp2
  go_quiet (fail)
  go_wp2
  go_ret2
  refine ⟨w.heap.size + 1, rfl, (below_dn ((Below.refl _ _).alloc (Nat.le_refl _) _) _).alloc (by simp) _, by omega, by simp, ?_⟩
  exact (heap_new (by simp)).trans (bytes8 rfl rfl (by omega) rfl (by omega) rfl rfl rfl)

theorem encode_no (op dst src off imm : Int) (w : World) (h0 : 0 ≤ op) (h1 : op < 256) (d0 : 0 ≤ dst) (d1 : dst < 256) (s0 : 0 ≤ src) (s1 : src < 256) (o0 : -32768 ≤ off) (o1 : off < 32768) (m0 : -2147483648 ≤ imm) (m1 : imm < 2147483648) (hx : 15 < dst ∨ 15 < src) : Calls Tryd.prog 16 #[.agg #[.int .u8 op, .int .u8 dst, .int .u8 src, .int .i16 off, .int .i32 imm]] w fun e w' => e = .returned (.tuple #[.slice none 0 0, .int .i64 21]) ∧ Below w.heap.size w w' := by
  by_cases hd : 15 < dst
  · have g1 : decide (15 < dst) = true := by simpa using hd
    clear hx hd
    go_enter Tryd.func16, Tryd.ntmps16
    go_wp2
    go_ret2
    exact ⟨rfl, (Below.refl _ _).alloc (Nat.le_refl _) _⟩
  · have g1 : decide (15 < dst) = false := by simpa using hd
    have g2 : decide (15 < src) = true := by simp; omega
    clear hx hd
    go_enter Tryd.func16, Tryd.ntmps16
    go_wp2
    go_ret2
    exact ⟨rfl, (Below.refl _ _).alloc (Nat.le_refl _) _⟩

end Go.Proofs.YtkapbeipjjcalaaDoor
