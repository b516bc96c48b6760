/-
  Plain: what is known of registers and slots; when it may be, what it holds, in what it is, what joins two; no program. Plain: slots and states; when they may be, what they hold, in what they are, what joins two; no program. States' and views' cells; registers and slots held against each other.
-/
import Derived.Test.YtjcnpjidkimldaaGreatDoorAScJ0
import Derived.Test.YtjcnpjidkimldaaGreatDoorAMeG
import Derived.Test.YtjcnpjidkimldaaGreatDoorAMeF
import Derived.DeepKeys
namespace Go.Proofs.YtjcnpjidkimldaaGreatDoor
set_option linter.unusedSimpArgs false
set_option linter.unusedVariables false
set_option maxRecDepth 100000
open Go.RowKit Me

abbrev B8 := BitVec 8
/-- A byte as a number. -/
def vb (x : B8) : Int := (x.toNat : Int)
theorem vb_ge (x : B8) : 0 ≤ vb x := by unfold vb; omega
theorem vb_lt (x : B8) : vb x < 256 := by unfold vb; have := x.isLt; omega
theorem vb_nat (x : B8) : (vb x).toNat = x.toNat := by unfold vb; omega
theorem vb_inj {x y : B8} : vb x = vb y ↔ x = y := by
  unfold vb
  constructor
  · intro h; exact BitVec.eq_of_toNat_eq (by omega)
  · intro h; rw [h]
def sub8 (x y : B8) : Bool := x &&& ~~~y == 0#8
/-- What is known of a register: kind, whether it is the packet's length, map, numbers, ends. -/
structure Rg where
  k : Int
  l : Bool
  m : Int
  s : Sc
  lo : Int
  hi : Int
deriving DecidableEq
def r0 : Rg := ⟨0, false, 0, sc0, 0, 0⟩
def ROk (r : Rg) : Prop := (0 ≤ r.k ∧ r.k < 256) ∧ (-9223372036854775808 ≤ r.m ∧ r.m < 9223372036854775808) ∧ (-9223372036854775808 ≤ r.lo ∧ r.lo < 9223372036854775808) ∧ (-9223372036854775808 ≤ r.hi ∧ r.hi < 9223372036854775808)
theorem r0_ok : ROk r0 := by unfold ROk r0; simp
def rB (a b : Rg) : Bool := decide (a = b)
theorem rB_iff (a b : Rg) : rB a b = true ↔ a = b := by unfold rB; rw [decide_eq_true_eq]
def nearB (r : Rg) : Bool := decide (-1048576 ≤ r.lo) && (decide (r.lo ≤ r.hi) && decide (r.hi ≤ 1048576))
def rMay (r : Rg) : Bool :=
  if r.k = 0 ∨ r.k = 2 then rB r ⟨r.k, false, 0, sc0, 0, 0⟩
  else if r.k = 1 then rB r ⟨1, r.l, 0, r.s, 0, 0⟩ && (mayX r.s && !(r.l && decide (65535 < r.s.2.2.toNat)))
  else if r.k = 3 ∨ r.k = 4 then rB r ⟨r.k, false, 0, sc0, r.lo, r.hi⟩ && nearB r
  else if r.k = 5 ∨ r.k = 7 then rB r ⟨r.k, false, r.m, sc0, 0, 0⟩ && decide (0 ≤ r.m)
  else if r.k = 6 then rB r ⟨6, false, r.m, sc0, r.lo, r.hi⟩ && (decide (0 ≤ r.m) && nearB r)
  else false
def isM (r : Rg) (m : Int) : Bool :=
  if r.k = 1 then decide (r.s = ofX 0#64) else if r.k = 6 ∨ r.k = 7 then rB r ⟨r.k, false, m, sc0, 0, 0⟩ else false
def rIn (a b : Rg) : Bool :=
  if b.k = 0 then true
  else if b.k = 7 then isM a b.m
  else if a.k ≠ b.k then false
  else if a.k = 1 then inX a.s b.s && (a.l || !b.l)
  else a.m == b.m && (decide (b.lo ≤ a.lo) && decide (a.hi ≤ b.hi))
/-! ### Scalars -/
/-! ### Registers -/
end Go.Proofs.YtjcnpjidkimldaaGreatDoor

namespace Go.Proofs.YtjcnpjidkimldaaGreatDoor
set_option linter.unusedSimpArgs false
set_option linter.unusedVariables false
set_option maxRecDepth 100000
open Go.RowKit Me

/-- What is known of a slot. -/
structure Sk where
  h : B8
  r : Rg
deriving DecidableEq
def k0 : Sk := ⟨0#8, r0⟩
def anyR : Rg := ⟨1, false, 0, allX, 0, 0⟩
def sure (x : Sk) : B8 := if x.r.k = 0 then x.h else if x.r.k = 1 then 255#8 else 0#8
def kMay (x : Sk) : Bool := rB x.r r0 || (rMay x.r && (x.h == 255#8))
def kIn (a b : Sk) : Bool :=
  if b.r.k = 0 then sub8 b.h (sure a)
  else if a.r.k = 0 then (a.h == 255#8) && rB b.r anyR
  else rIn a.r b.r
/-! ### States -/
structure St where
  rg : Nat → Rg
  sk : Nat → Sk
  p : Int
def st0 : St := ⟨fun _ => r0, fun _ => k0, 0⟩
def lenB (p : Int) : Bool := decide (0 ≤ p) && decide (p ≤ 65535)
def allR (f : Nat → Bool) : Bool := (List.range 11).all f
def allK (f : Nat → Bool) : Bool := (List.range 64).all f
theorem allR_iff (f : Nat → Bool) : allR f = true ↔ ∀ k, k < 11 → f k = true := by simp [allR, List.all_eq_true, List.mem_range]
theorem allK_iff (f : Nat → Bool) : allK f = true ↔ ∀ k, k < 64 → f k = true := by simp [allK, List.all_eq_true, List.mem_range]
def sMay (S : St) : Bool := allR (fun k => rMay (S.rg k)) && (allK (fun k => kMay (S.sk k)) && lenB S.p)
def sIn (A B : St) : Bool := sMay A && (sMay B && (decide (B.p ≤ A.p) && (allR (fun k => rIn (A.rg k) (B.rg k)) && allK (fun k => kIn (A.sk k) (B.sk k)))))
def begS : St := ⟨fun k => if k = 1 then ⟨2, false, 0, sc0, 0, 0⟩ else if k = 10 then ⟨4, false, 0, sc0, 512, 512⟩ else r0, fun _ => k0, 0⟩
def StOk (S : St) : Prop := (∀ k, k < 11 → ROk (S.rg k)) ∧ (∀ k, k < 64 → ROk (S.sk k).r) ∧ (-9223372036854775808 ≤ S.p ∧ S.p < 9223372036854775808)
end Go.Proofs.YtjcnpjidkimldaaGreatDoor

namespace Go.Proofs.YtjcnpjidkimldaaGreatDoor
set_option linter.unusedSimpArgs false
set_option linter.unusedVariables false
set_option maxRecDepth 100000
set_option maxRecDepth 100000
open Go.ChangeShapes Go.WideShapes Go.ChangeAt Go.RowKit Me

def rC (r : Rg) : List Value := [.int .u8 r.k, .bool r.l, .int .i64 r.m, .int .u64 (ub r.s.1.1), .int .u64 (ub r.s.1.2), .int .u64 (ub r.s.2.1), .int .u64 (ub r.s.2.2), .int .i64 r.lo, .int .i64 r.hi]
def rV (r : Rg) : Value := .agg #[.int .u8 r.k, .bool r.l, .int .i64 r.m, .int .u64 (ub r.s.1.1), .int .u64 (ub r.s.1.2), .int .u64 (ub r.s.2.1), .int .u64 (ub r.s.2.2), .int .i64 r.lo, .int .i64 r.hi]
def kC (x : Sk) : List Value := .int .u8 (vb x.h) :: rC x.r
def kV (x : Sk) : Value := .agg #[.int .u8 (vb x.h), .int .u8 x.r.k, .bool x.r.l, .int .i64 x.r.m, .int .u64 (ub x.r.s.1.1), .int .u64 (ub x.r.s.1.2), .int .u64 (ub x.r.s.2.1), .int .u64 (ub x.r.s.2.2), .int .i64 x.r.lo, .int .i64 x.r.hi]
theorem rC_len (r : Rg) : (rC r).length = 9 := rfl
theorem kC_len (x : Sk) : (kC x).length = 10 := rfl
def regC (f : Nat → Rg) : List Value := (List.range 11).flatMap fun k => rC (f k)
def stkC (f : Nat → Sk) : List Value := (List.range 64).flatMap fun k => kC (f k)
def stC (S : St) : List Value := regC S.rg ++ (stkC S.sk ++ [.int .i64 S.p])
def stV (S : St) : Value := .agg (stC S).toArray
theorem regC_len (f : Nat → Rg) : (regC f).length = 99 := flat_len _ 9 11 (fun k _ => rC_len _)
theorem stkC_len (f : Nat → Sk) : (stkC f).length = 640 := flat_len _ 10 64 (fun k _ => kC_len _)
theorem stC_len (S : St) : (stC S).length = 740 := by unfold stC; simp [regC_len, stkC_len]
theorem stC_reg (S : St) (i j : Nat) (hi : i < 11) (hj : j < 9) : (stC S)[i * 9 + j]? = (rC (S.rg i))[j]? := by
  unfold stC
  rw [List.getElem?_append_left (by rw [regC_len]; omega)]
  exact flat_at _ 9 11 (fun k _ => rC_len _) i j hi hj
theorem stC_slot (S : St) (i j : Nat) (hi : i < 64) (hj : j < 10) : (stC S)[99 + (i * 10 + j)]? = (kC (S.sk i))[j]? := by
  unfold stC
  rw [List.getElem?_append_right (by rw [regC_len]; omega), regC_len, Nat.add_sub_cancel_left, List.getElem?_append_left (by rw [stkC_len]; omega)]
  exact flat_at _ 10 64 (fun k _ => kC_len _) i j hi hj
theorem stC_pkt (S : St) : (stC S)[739]? = some (.int .i64 S.p) := by
  unfold stC
  rw [List.getElem?_append_right (by rw [regC_len]; omega), regC_len, List.getElem?_append_right (by rw [stkC_len]; omega), stkC_len]
  rfl
theorem range_reg {w : World} {g : Nat} {S : St} (hr : w.rangeAt g 0 (stC S)) (k : Nat) (hk : k < 11) : w.rangeAt g (k * 9) (rC (S.rg k)) := fun j v hv => by
  have hj : j < 9 := by have := (List.getElem?_eq_some_iff.1 hv).1; rwa [rC_len] at this
  have := hr (k * 9 + j) v (by rw [stC_reg S k j hk hj]; exact hv)
  rwa [Nat.zero_add] at this
theorem range_slot {w : World} {g : Nat} {S : St} (hr : w.rangeAt g 0 (stC S)) (k : Nat) (hk : k < 64) : w.rangeAt g (99 + k * 10) (kC (S.sk k)) := fun j v hv => by
  have hj : j < 10 := by have := (List.getElem?_eq_some_iff.1 hv).1; rwa [kC_len] at this
  have := hr (99 + (k * 10 + j)) v (by rw [stC_slot S k j hk hj]; exact hv)
  rwa [Nat.zero_add, ← Nat.add_assoc] at this
theorem range_pkt {w : World} {g : Nat} {S : St} (hr : w.rangeAt g 0 (stC S)) : w.cell? ⟨g, 739, none⟩ = some (.int .i64 S.p) := by
  have := hr 739 _ (stC_pkt S)
  rwa [Nat.zero_add] at this
/-! ### Comparisons -/
def rLit (r : Rg) : List Lit := [.int .u8 r.k, .bool r.l, .int .i64 r.m, .int .u64 (ub r.s.1.1), .int .u64 (ub r.s.1.2), .int .u64 (ub r.s.2.1), .int .u64 (ub r.s.2.2), .int .i64 r.lo, .int .i64 r.hi]
theorem rLit_inj {a b : Rg} (h : rLit a = rLit b) : a = b := by
  obtain ⟨k, l, m, ⟨⟨s1, s2⟩, s3, s4⟩, lo, hi⟩ := a
  obtain ⟨k', l', m', ⟨⟨s1', s2'⟩, s3', s4'⟩, lo', hi'⟩ := b
  simp only [rLit, List.cons.injEq, Lit.int.injEq, Lit.bool.injEq, true_and, and_true, ub_inj] at h
  obtain ⟨e0, e1, e2, e3, e4, e5, e6, e7, e8⟩ := h
  subst e0 e1 e2 e3 e4 e5 e6 e7 e8
  rfl
theorem yb4 : Tryz.prog.cellsOf 4 = 1 := by kernel_rfl
theorem y24 : Tryz.prog.cellsOf 35 = 2 := by kernel_rfl
theorem y26 : Tryz.prog.cellsOf 37 = 2 := by kernel_rfl
theorem y28 : Tryz.prog.cellsOf 39 = 4 := by kernel_rfl
theorem y30 : Tryz.prog.cellsOf 41 = 9 := by kernel_rfl
theorem yl_bool (D : Nat) (x : Bool) : Tryz.prog.keyLits (D + 1) 4 [.bool x] = some [.bool x] := by
  simp [Program.keyLits, Tryz.underlying4, Lit.wf]
theorem yl_ub (D : Nat) (x : B64) : Tryz.prog.keyLits (D + 1) 33 [.int .u64 (ub x)] = some [.int .u64 (ub x)] := kl_u64 D (ub x) ⟨ub_ge x, ub_lt x⟩
theorem yl_tn (D : Nat) (x y : B64) : Tryz.prog.keyLits (D + 2) 35 [.int .u64 (ub x), .int .u64 (ub y)] = some [.int .u64 (ub x), .int .u64 (ub y)] := by
  unfold Program.keyLits
  simp [Tryz.underlying35, c23, y24, yl_ub D]
theorem yl_sp (D : Nat) (x y : B64) : Tryz.prog.keyLits (D + 2) 37 [.int .u64 (ub x), .int .u64 (ub y)] = some [.int .u64 (ub x), .int .u64 (ub y)] := by
  unfold Program.keyLits
  simp [Tryz.underlying37, c23, y26, yl_ub D]
theorem yl_sc (D : Nat) (s : Sc) : Tryz.prog.keyLits (D + 3) 39 [.int .u64 (ub s.1.1), .int .u64 (ub s.1.2), .int .u64 (ub s.2.1), .int .u64 (ub s.2.2)] = some [.int .u64 (ub s.1.1), .int .u64 (ub s.1.2), .int .u64 (ub s.2.1), .int .u64 (ub s.2.2)] := by
  unfold Program.keyLits
  simp [Tryz.underlying39, y24, y26, y28, yl_tn D, yl_sp D]
theorem yl_r (D : Nat) (r : Rg) (h : ROk r) : Tryz.prog.keyLits (D + 4) 41 (rC r) = some (rLit r) := by
  obtain ⟨h1, h2, h3, h4⟩ := h
  unfold Program.keyLits
  simp [Tryz.underlying41, rC, rLit, y30, y28, yb4, c5, c3, c2, kl_u8 (D + 2) _ h1, yl_bool (D + 2), kl_i64 (D + 2) _ h2, yl_sc D r.s, kl_i64' (D + 2) _ h3, kl_i64' (D + 2) _ h4]
theorem yformed30 (r : Rg) : (rV r).formed Tryz.prog 41 = true := by
  simp [Value.formed, rV, Tryz.underlying41, y30]
theorem ykt30 : Tryz.prog.keyTypeAt 5 41 = true := by kernel_rfl
theorem yeqIn_r (a b : Rg) (ha : ROk a) (hb : ROk b) (W : World) : (Op.equalIn 10000 41 (rV a) (rV b)).run Tryz.prog W = .ok (rB a b) W := by
  obtain ⟨r, h1, h2⟩ := run_equalIn_deep (P := Tryz.prog) 9995 5 _ ykt30 W 4 4 (rV a) (rV b) (rLit a) (rLit b) (yformed30 a) (yformed30 b) (yl_r 0 a ha) (yl_r 0 b hb)
  rw [h1]
  congr 1
  rw [Bool.eq_iff_iff, h2, rB_iff]
  exact ⟨fun e => rLit_inj e, fun e => by rw [e]⟩
theorem eq_r (a b : Rg) (ha : ROk a) (hb : ROk b) (W : World) : (binOp .eql 41 (rV a) (rV b)).run Tryz.prog W = .ok (.bool (rB a b)) W := by
  rw [rV, rV, run_eql_struct, ← rV, ← rV, yeqIn_r a b ha hb]
  rfl
theorem bld_r0 (W : World) : (Instr.build 41 #[]).run Tryz.prog W = .ok (rV r0) W := by kernel_rfl
theorem bld_r_k (k : Int) (W : World) : (Instr.build 41 #[(0, .int .u8 k)]).run Tryz.prog W = .ok (.agg #[.int .u8 k, .bool false, .int .i64 0, .int .u64 0, .int .u64 0, .int .u64 0, .int .u64 0, .int .i64 0, .int .i64 0]) W := by kernel_rfl
end Go.Proofs.YtjcnpjidkimldaaGreatDoor
