/-
  A program's shape, plainly: instructions, where they begin; instructions that lie in memory.
-/
import Derived.Test.YtodmikjpmcabiabDoorDPlc
namespace Go.Proofs.YtodmikjpmcabiabDoor
set_option linter.unusedSimpArgs false
set_option linter.unusedVariables false
set_option maxRecDepth 100000
open Go.ChangeShapes Go.WideShapes Go.ChangeAt Go.RowKit

structure I5 where
  op : Int
  dst : Int
  src : Int
  off : Int
  imm : Int
deriving DecidableEq
def I5.V (x : I5) : Value := .agg #[.int .u8 x.op, .int .u8 x.dst, .int .u8 x.src, .int .i16 x.off, .int .i32 x.imm]
def I5.ok (x : I5) : Prop := 0 ≤ x.op ∧ x.op < 256 ∧ 0 ≤ x.dst ∧ x.dst < 256 ∧ 0 ≤ x.src ∧ x.src < 256 ∧ -32768 ≤ x.off ∧ x.off < 32768 ∧ -2147483648 ≤ x.imm ∧ x.imm < 2147483648
def zI : I5 := ⟨0, 0, 0, 0, 0⟩
theorem zI_ok : zI.ok := by unfold I5.ok zI; decide
def at5 (c : List I5) (k : Nat) : I5 := c.getD k zI
def I5.e (x : I5) : Int := uE x.op x.dst x.src x.off x.imm
def I5.t (x : I5) : Rw := uT x.op x.dst x.src x.off x.imm
def I5.p (x : I5) : Int := uP x.op x.dst x.src x.off x.imm
def CdOk (c : List I5) : Prop := ∀ x ∈ c, x.ok
theorem at5_ok {c : List I5} (h : CdOk c) (k : Nat) : (at5 c k).ok := by
  unfold at5
  rw [List.getD_eq_getElem?_getD]
  cases hk : c[k]? with
  | none => exact zI_ok
  | some x => exact h x (List.mem_of_getElem? hk)
theorem p_cases (x : I5) : x.p = 0 ∨ x.p = 1 ∨ x.p = 2 := by
  unfold I5.p uP
  split
  · exact .inl rfl
  split
  · exact .inr (.inr rfl)
  split
  · exact .inr (.inr rfl)
  · exact .inr (.inl rfl)

theorem of_I (x : I5) (hx : x.ok) (w : World) (hz : SzOk w) : Calls Tryd.prog 36 #[x.V] w fun e w' => e = .returned (.tuple #[whV x.t, .int .i64 x.e]) ∧ Below w.heap.size w w' := by
  obtain ⟨a, b, c, d, e, f, g, h, i, j⟩ := hx
  exact of_any x.op x.dst x.src x.off x.imm w a b c d e f g h i j hz
theorem places_I (x : I5) (hx : x.ok) (w : World) (hz : SzOk w) : Calls Tryd.prog 38 #[x.V] w fun e w' => e = .returned (.int .i64 x.p) ∧ Below w.heap.size w w' := by
  obtain ⟨a, b, c, d, e, f, g, h, i, j⟩ := hx
  exact uplaces x.op x.dst x.src x.off x.imm w a b c d e f g h i j hz

/-- Is the place k a second half? -/
def hf (c : List I5) : Nat → Bool
  | 0 => false
  | k + 1 => !hf c k && ((at5 c k).p == 2)
def stB (c : List I5) (k : Nat) : Bool := !hf c k
def stepN (x : I5) : Nat := if x.p = 2 then 2 else 1
theorem stB_next {c : List I5} {k : Nat} (h : stB c k = true) : stB c (k + stepN (at5 c k)) = true ∧ (stepN (at5 c k) = 2 → stB c (k + 1) = false) := by
  unfold stB at h ⊢
  have h' : hf c k = false := by simpa using h
  unfold stepN
  by_cases hp : (at5 c k).p = 2
  · rw [if_pos hp]
    have h1 : hf c (k + 1) = true := by rw [hf, h', hp]; rfl
    refine ⟨?_, fun _ => by rw [h1]; rfl⟩
    rw [hf, h1]; rfl
  · rw [if_neg hp]
    refine ⟨?_, fun h => by omega⟩
    rw [hf, h']
    simp [hp]
/-- The cells of an instruction, from the place o of block b on. -/
def InsAt (w : World) (b o : Nat) (x : I5) : Prop :=
  w.cell? ⟨b, o, none⟩ = some (.int .u8 x.op) ∧ w.cell? ⟨b, o + 1, none⟩ = some (.int .u8 x.dst) ∧ w.cell? ⟨b, o + 2, none⟩ = some (.int .u8 x.src) ∧ w.cell? ⟨b, o + 3, none⟩ = some (.int .i16 x.off) ∧ w.cell? ⟨b, o + 4, none⟩ = some (.int .i32 x.imm)
theorem InsAt.kept {w w' : World} {n b o : Nat} {x : I5} (h : InsAt w b o x) (hb : Below n w w') (hl : b < n) : InsAt w' b o x := by
  obtain ⟨a0, a1, a2, a3, a4⟩ := h
  exact ⟨(hb.cell (p := ⟨b, o, none⟩) hl).trans a0, (hb.cell (p := ⟨b, o + 1, none⟩) hl).trans a1, (hb.cell (p := ⟨b, o + 2, none⟩) hl).trans a2, (hb.cell (p := ⟨b, o + 3, none⟩) hl).trans a3, (hb.cell (p := ⟨b, o + 4, none⟩) hl).trans a4⟩
/-- A slice that reads as this code, in memory below n₀. -/
def CdSl (n₀ : Nat) (w : World) (p : Option Addr) (n : Nat) (c : List I5) : Prop :=
  c.length = n ∧ CdOk c ∧ n < 11728124029440 ∧ (n = 0 ∨ ∃ b off, p = some ⟨b, off, none⟩ ∧ b < n₀ ∧ ∀ j, j < n → InsAt w b (off + j * 5) (at5 c j))
theorem CdSl.kept {n₀ m : Nat} {w w' : World} {p : Option Addr} {n : Nat} {c : List I5} (h : CdSl n₀ w p n c) (hb : Below m w w') (hm : n₀ ≤ m) : CdSl n₀ w' p n c := by
  obtain ⟨h1, h2, h3, h4⟩ := h
  refine ⟨h1, h2, h3, h4.imp id ?_⟩
  rintro ⟨b, off, e, hl, hc⟩
  exact ⟨b, off, e, hl, fun j hj => (hc j hj).kept hb (by omega)⟩
theorem CdSl.wide {n₀ m : Nat} {w : World} {p : Option Addr} {n : Nat} {c : List I5} (h : CdSl n₀ w p n c) (hm : n₀ ≤ m) : CdSl m w p n c := by
  obtain ⟨h1, h2, h3, h4⟩ := h
  refine ⟨h1, h2, h3, h4.imp id ?_⟩
  rintro ⟨b, off, e, hl, hc⟩
  exact ⟨b, off, e, by omega, hc⟩
end Go.Proofs.YtodmikjpmcabiabDoor
