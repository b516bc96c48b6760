/-
  Plain: what is known of registers and slots; when it may be, what it holds, in what it is, what joins two; no program. Plain: slots and states; when they may be, what they hold, in what they are, what joins two; no program. States' and views' cells; registers and slots held against each other.
-/
import Derived.Test.YtodmikjpmcabiaaJScJ0
import Derived.Test.YtodmikjpmcabiaaJMeG
import Derived.Test.YtodmikjpmcabiaaJMeF
import Derived.DeepKeys
namespace Go.Proofs.Ytodmikjpmcabiaa
set_option linter.unusedSimpArgs false
set_option linter.unusedVariables false
set_option maxRecDepth 100000
open Go.RowKit Me

abbrev B8 := BitVec 8
/-- A byte as a number. -/
def vb (x : B8) : Int := (x.toNat : Int)
theorem vb_ge (x : B8) : 0 ≤ vb x := by unfold vb; omega
theorem vb_lt (x : B8) : vb x < 256 := by unfold vb; have := x.isLt; omega
theorem vb_nat (x : B8) : (vb x).toNat = x.toNat := by unfold vb; omega
theorem vb_inj {x y : B8} : vb x = vb y ↔ x = y := by
  unfold vb
  constructor
  · intro h; exact BitVec.eq_of_toNat_eq (by omega)
  · intro h; rw [h]
theorem vb_of (n : Int) (h0 : 0 ≤ n) (h1 : n < 256) : ∃ x : B8, n = vb x :=
  ⟨BitVec.ofNat 8 n.toNat, by unfold vb; rw [BitVec.toNat_ofNat]; omega⟩
def sub8 (x y : B8) : Bool := x &&& ~~~y == 0#8
/-- What is known of a register: kind, whether it is the packet's length, map, numbers, ends. -/
structure Rg where
  k : Int
  l : Bool
  m : Int
  s : Sc
  lo : Int
  hi : Int
deriving DecidableEq
def r0 : Rg := ⟨0, false, 0, sc0, 0, 0⟩
def ROk (r : Rg) : Prop := (0 ≤ r.k ∧ r.k < 256) ∧ (-9223372036854775808 ≤ r.m ∧ r.m < 9223372036854775808) ∧ (-9223372036854775808 ≤ r.lo ∧ r.lo < 9223372036854775808) ∧ (-9223372036854775808 ≤ r.hi ∧ r.hi < 9223372036854775808)
theorem r0_ok : ROk r0 := by unfold ROk r0; simp
def rB (a b : Rg) : Bool := decide (a = b)
theorem rB_iff (a b : Rg) : rB a b = true ↔ a = b := by unfold rB; rw [decide_eq_true_eq]
theorem rB_self (a : Rg) : rB a a = true := (rB_iff a a).2 rfl
def nearB (r : Rg) : Bool := decide (-1048576 ≤ r.lo) && (decide (r.lo ≤ r.hi) && decide (r.hi ≤ 1048576))
def rMay (r : Rg) : Bool :=
  if r.k = 0 ∨ r.k = 2 then rB r ⟨r.k, false, 0, sc0, 0, 0⟩
  else if r.k = 1 then rB r ⟨1, r.l, 0, r.s, 0, 0⟩ && (mayX r.s && !(r.l && decide (65535 < r.s.2.2.toNat)))
  else if r.k = 3 ∨ r.k = 4 then rB r ⟨r.k, false, 0, sc0, r.lo, r.hi⟩ && nearB r
  else if r.k = 5 ∨ r.k = 7 then rB r ⟨r.k, false, r.m, sc0, 0, 0⟩ && decide (0 ≤ r.m)
  else if r.k = 6 then rB r ⟨6, false, r.m, sc0, r.lo, r.hi⟩ && (decide (0 ≤ r.m) && nearB r)
  else false
def zm (m : Int) : Rg := ⟨7, false, m, sc0, 0, 0⟩
def isM (r : Rg) (m : Int) : Bool :=
  if r.k = 1 then decide (r.s = ofX 0#64) else if r.k = 6 ∨ r.k = 7 then rB r ⟨r.k, false, m, sc0, 0, 0⟩ else false
def nb (n : Int) : B64 := BitVec.ofNat 64 n.toNat
theorem nb_ub (x : B64) : nb (ub x) = x := by
  unfold nb
  rw [ub_nat]
  apply BitVec.eq_of_toNat_eq
  rw [BitVec.toNat_ofNat]
  have := x.isLt
  omega
def rHolds (r : Rg) (v : Vl) (p : Int) : Bool :=
  if r.k = 0 then true
  else if r.k = 1 then v.k == 1 && (hasX r.s (nb v.n) && (!r.l || v.n == p))
  else if r.k = 7 then decide (v = ⟨1, 0, 0, 0⟩) || decide (v = ⟨6, r.m, v.n, 0⟩)
  else v.k == r.k && (v.m == r.m && (decide (r.lo ≤ v.o) && decide (v.o ≤ r.hi)))
def rIn (a b : Rg) : Bool :=
  if b.k = 0 then true
  else if b.k = 7 then isM a b.m
  else if a.k ≠ b.k then false
  else if a.k = 1 then inX a.s b.s && (a.l || !b.l)
  else a.m == b.m && (decide (b.lo ≤ a.lo) && decide (a.hi ≤ b.hi))
def rJoin (a b : Rg) : Rg :=
  if a.k = b.k ∧ a.m = b.m then ⟨a.k, a.l && b.l, a.m, joinX a.s b.s, min a.lo b.lo, max a.hi b.hi⟩
  else if (isM a (max a.m b.m) && isM b (max a.m b.m)) = true then zm (max a.m b.m) else r0

/-! ### Scalars -/
theorem joS_zero : joinX sc0 sc0 = sc0 := by decide +kernel
/-! ### Registers -/
/-- What may be, by its kind. -/
inductive Rm : Rg → Prop
  | none : Rm r0
  | num (l : Bool) (s : Sc) : mayX s = true → (l = true → s.2.2.toNat ≤ 65535) → Rm ⟨1, l, 0, s, 0, 0⟩
  | ctx : Rm ⟨2, false, 0, sc0, 0, 0⟩
  | far (k lo hi : Int) : (k = 3 ∨ k = 4) → -1048576 ≤ lo → lo ≤ hi → hi ≤ 1048576 → Rm ⟨k, false, 0, sc0, lo, hi⟩
  | ref (m : Int) : 0 ≤ m → Rm ⟨5, false, m, sc0, 0, 0⟩
  | maybe (m : Int) : 0 ≤ m → Rm ⟨7, false, m, sc0, 0, 0⟩
  | cell (m lo hi : Int) : 0 ≤ m → -1048576 ≤ lo → lo ≤ hi → hi ≤ 1048576 → Rm ⟨6, false, m, sc0, lo, hi⟩
theorem rMay_iff (r : Rg) : rMay r = true ↔ Rm r := by
  constructor
  · intro h
    obtain ⟨k, l, m, s, lo, hi⟩ := r
    unfold rMay at h
    dsimp only at h
    by_cases h1 : k = 0 ∨ k = 2
    · rw [if_pos h1, rB_iff] at h
      injection h with _ e1 e2 e3 e4 e5
      subst e1 e2 e3 e4 e5
      rcases h1 with rfl | rfl
      · exact .none
      · exact .ctx
    rw [if_neg h1] at h
    by_cases h2 : k = 1
    · subst h2
      rw [if_pos rfl] at h
      simp only [Bool.and_eq_true, rB_iff, Bool.not_eq_true', Bool.and_eq_false_iff, decide_eq_false_iff_not] at h
      obtain ⟨e, h2, h3⟩ := h
      injection e with _ e1 e2 e3 e4 e5
      subst e2 e4 e5
      refine .num l s h2 fun hl => ?_
      rcases h3 with h3 | h3
      · rw [hl] at h3; cases h3
      · omega
    rw [if_neg h2] at h
    by_cases h3 : k = 3 ∨ k = 4
    · rw [if_pos h3] at h
      simp only [Bool.and_eq_true, rB_iff, nearB, decide_eq_true_eq] at h
      obtain ⟨e, h4, h5, h6⟩ := h
      injection e with _ e1 e2 e3 e4 e5
      subst e1 e2 e3
      exact .far k lo hi h3 h4 h5 h6
    rw [if_neg h3] at h
    by_cases h4 : k = 5 ∨ k = 7
    · rw [if_pos h4] at h
      simp only [Bool.and_eq_true, rB_iff, decide_eq_true_eq] at h
      obtain ⟨e, h5⟩ := h
      injection e with _ e1 e2 e3 e4 e5
      subst e1 e3 e4 e5
      rcases h4 with rfl | rfl
      · exact .ref m h5
      · exact .maybe m h5
    rw [if_neg h4] at h
    by_cases h5 : k = 6
    · subst h5
      rw [if_pos rfl] at h
      simp only [Bool.and_eq_true, rB_iff, nearB, decide_eq_true_eq] at h
      obtain ⟨e, h4, h5, h6, h7⟩ := h
      injection e with _ e1 e2 e3 e4 e5
      subst e1 e3
      exact .cell m lo hi h4 h5 h6 h7
    · rw [if_neg h5] at h; cases h
  · intro h
    cases h with
    | none => decide +kernel
    | num l s h1 h2 =>
      unfold rMay
      dsimp only
      rw [if_neg (by decide), if_pos rfl, rB_self, h1]
      cases l
      · rfl
      · have := h2 rfl
        simp; omega
    | ctx => decide +kernel
    | far k lo hi h1 h2 h3 h4 =>
      unfold rMay nearB
      dsimp only
      rw [if_neg (by omega), if_neg (by omega), if_pos h1, rB_self]
      simp; omega
    | ref m h1 => unfold rMay; dsimp only; rw [if_neg (by decide), if_neg (by decide), if_neg (by decide), if_pos (by decide), rB_self]; simpa using h1
    | maybe m h1 => unfold rMay; dsimp only; rw [if_neg (by decide), if_neg (by decide), if_neg (by decide), if_pos (by decide), rB_self]; simpa using h1
    | cell m lo hi h1 h2 h3 h4 =>
      unfold rMay nearB
      dsimp only
      rw [if_neg (by decide), if_neg (by decide), if_neg (by decide), if_neg (by decide), if_pos rfl, rB_self]
      simp; omega

theorem isM_zero (l : Bool) (m : Int) : isM ⟨1, l, 0, ofX 0#64, 0, 0⟩ m = true := by unfold isM; simp
theorem isM_cell (m : Int) : isM ⟨6, false, m, sc0, 0, 0⟩ m = true := by unfold isM; simp [rB]
theorem isM_self (m : Int) : isM (zm m) m = true := by unfold isM zm; simp [rB]
theorem rJoin_same {a b : Rg} (hs : a.k = b.k ∧ a.m = b.m) : rJoin a b = ⟨a.k, a.l && b.l, a.m, joinX a.s b.s, min a.lo b.lo, max a.hi b.hi⟩ := by unfold rJoin; rw [if_pos hs]
theorem rJoin_zm {a b : Rg} {m : Int} (hs : a.k ≠ b.k) (hm : max a.m b.m = m) (h1 : isM a m = true) (h2 : isM b m = true) : rJoin a b = zm m := by
  unfold rJoin; rw [if_neg (fun h => hs h.1), hm, if_pos (by rw [h1, h2]; rfl)]
theorem rj_num (l l' : Bool) (s s' : Sc) : rJoin ⟨1, l, 0, s, 0, 0⟩ ⟨1, l', 0, s', 0, 0⟩ = ⟨1, l && l', 0, joinX s s', 0, 0⟩ := rJoin_same (a := ⟨1, l, 0, s, 0, 0⟩) (b := ⟨1, l', 0, s', 0, 0⟩) ⟨rfl, rfl⟩
theorem rj_sp (k m lo hi lo' hi' : Int) : rJoin ⟨k, false, m, sc0, lo, hi⟩ ⟨k, false, m, sc0, lo', hi'⟩ = ⟨k, false, m, sc0, min lo lo', max hi hi'⟩ := by
  rw [rJoin_same (a := ⟨k, false, m, sc0, lo, hi⟩) (b := ⟨k, false, m, sc0, lo', hi'⟩) ⟨rfl, rfl⟩]
  simp only [joS_zero, Bool.and_self]
theorem rj_mz (l : Bool) (m : Int) (h : 0 ≤ m) : rJoin ⟨7, false, m, sc0, 0, 0⟩ ⟨1, l, 0, ofX 0#64, 0, 0⟩ = zm m := rJoin_zm (by dsimp only; omega) (by dsimp only; omega) (isM_self m) (isM_zero _ m)
theorem rj_zm (l : Bool) (m : Int) (h : 0 ≤ m) : rJoin ⟨1, l, 0, ofX 0#64, 0, 0⟩ ⟨7, false, m, sc0, 0, 0⟩ = zm m := rJoin_zm (by dsimp only; omega) (by dsimp only; omega) (isM_zero _ m) (isM_self m)
theorem rj_mc (m : Int) : rJoin ⟨7, false, m, sc0, 0, 0⟩ ⟨6, false, m, sc0, 0, 0⟩ = zm m := rJoin_zm (by dsimp only; omega) (by dsimp only; omega) (isM_self m) (isM_cell m)
theorem rj_cm (m : Int) : rJoin ⟨6, false, m, sc0, 0, 0⟩ ⟨7, false, m, sc0, 0, 0⟩ = zm m := rJoin_zm (by dsimp only; omega) (by dsimp only; omega) (isM_cell m) (isM_self m)
theorem rj_zc (l : Bool) (m : Int) (h : 0 ≤ m) : rJoin ⟨1, l, 0, ofX 0#64, 0, 0⟩ ⟨6, false, m, sc0, 0, 0⟩ = zm m := rJoin_zm (by dsimp only; omega) (by dsimp only; omega) (isM_zero _ m) (isM_cell m)
theorem rj_cz (l : Bool) (m : Int) (h : 0 ≤ m) : rJoin ⟨6, false, m, sc0, 0, 0⟩ ⟨1, l, 0, ofX 0#64, 0, 0⟩ = zm m := rJoin_zm (by dsimp only; omega) (by dsimp only; omega) (isM_cell m) (isM_zero _ m)
end Go.Proofs.Ytodmikjpmcabiaa

namespace Go.Proofs.Ytodmikjpmcabiaa
set_option linter.unusedSimpArgs false
set_option linter.unusedVariables false
set_option maxRecDepth 100000
open Go.RowKit Me

/-- What is known of a slot. -/
structure Sk where
  h : B8
  r : Rg
deriving DecidableEq
def k0 : Sk := ⟨0#8, r0⟩
def anyR : Rg := ⟨1, false, 0, allX, 0, 0⟩
def sure (x : Sk) : B8 := if x.r.k = 0 then x.h else if x.r.k = 1 then 255#8 else 0#8
def kMay (x : Sk) : Bool := rB x.r r0 || (rMay x.r && (x.h == 255#8))
def byI (n : Int) : B8 := BitVec.ofNat 8 n.toNat
def kHolds (x : Sk) (s : Sl) (p : Int) : Bool :=
  if x.r.k = 0 then (x.h == 0#8) || (decide (s.v = v0) && sub8 x.h (byI s.h))
  else if s.v = v0 then (s.h == 255) && rHolds x.r ⟨1, 0, numL s.b, 0⟩ p
  else rHolds x.r s.v p
def kIn (a b : Sk) : Bool :=
  if b.r.k = 0 then sub8 b.h (sure a)
  else if a.r.k = 0 then (a.h == 255#8) && rB b.r anyR
  else rIn a.r b.r
def kJoin (a b : Sk) : Sk := if (rJoin a.r b.r).k = 0 then ⟨sure a &&& sure b, r0⟩ else ⟨255#8, rJoin a.r b.r⟩
theorem kMay_iff (x : Sk) : kMay x = true ↔ x.r = r0 ∨ (x.r.k ≠ 0 ∧ Rm x.r ∧ x.h = 255#8) := by
  unfold kMay
  simp only [Bool.or_eq_true, Bool.and_eq_true, rB_iff, rMay_iff, beq_iff_eq]
  constructor
  · rintro (h | ⟨h1, h2⟩)
    · exact .inl h
    · by_cases e : x.r.k = 0
      · left
        revert e
        generalize x.r = r at h1
        cases h1 <;> simp <;> omega
      · exact .inr ⟨e, h1, h2⟩
  · rintro (h | ⟨h0, h1, h2⟩)
    · exact .inl h
    · exact .inr ⟨h1, h2⟩
theorem kMay_Rm {x : Sk} (h : kMay x = true) : Rm x.r := by
  rcases (kMay_iff x).1 h with e | ⟨_, e, _⟩
  · rw [e]; exact .none
  · exact e
theorem Rm_none {r : Rg} (h : Rm r) (k : r.k = 0) : r = r0 := by
  cases h <;> simp [r0] at k ⊢ <;> omega
/-! ### States -/
structure St where
  rg : Nat → Rg
  sk : Nat → Sk
  p : Int
structure Vw where
  vs : Nat → Vl
  fr : Nat → Sl
  p : Int
def st0 : St := ⟨fun _ => r0, fun _ => k0, 0⟩
def lenB (p : Int) : Bool := decide (0 ≤ p) && decide (p ≤ 65535)
def allR (f : Nat → Bool) : Bool := (List.range 11).all f
def allK (f : Nat → Bool) : Bool := (List.range 64).all f
theorem allR_iff (f : Nat → Bool) : allR f = true ↔ ∀ k, k < 11 → f k = true := by simp [allR, List.all_eq_true, List.mem_range]
theorem allK_iff (f : Nat → Bool) : allK f = true ↔ ∀ k, k < 64 → f k = true := by simp [allK, List.all_eq_true, List.mem_range]
def sMay (S : St) : Bool := allR (fun k => rMay (S.rg k)) && (allK (fun k => kMay (S.sk k)) && lenB S.p)
def wMay (V : Vw) : Bool := allR (fun k => mayB (V.vs k)) && (rightF V.fr && lenB V.p)
def sHolds (S : St) (V : Vw) : Bool := sMay S && (wMay V && (decide (S.p ≤ V.p) && (allR (fun k => rHolds (S.rg k) (V.vs k) V.p) && allK (fun k => kHolds (S.sk k) (V.fr k) V.p))))
def sIn (A B : St) : Bool := sMay A && (sMay B && (decide (B.p ≤ A.p) && (allR (fun k => rIn (A.rg k) (B.rg k)) && allK (fun k => kIn (A.sk k) (B.sk k)))))
def sJoin (A B : St) : St := if (sMay A && sMay B) = true then ⟨fun k => rJoin (A.rg k) (B.rg k), fun k => kJoin (A.sk k) (B.sk k), min A.p B.p⟩ else st0
def begS : St := ⟨fun k => if k = 1 then ⟨2, false, 0, sc0, 0, 0⟩ else if k = 10 then ⟨4, false, 0, sc0, 512, 512⟩ else r0, fun _ => k0, 0⟩
def StOk (S : St) : Prop := (∀ k, k < 11 → ROk (S.rg k)) ∧ (∀ k, k < 64 → ROk (S.sk k).r) ∧ (-9223372036854775808 ≤ S.p ∧ S.p < 9223372036854775808)
def VwOk (V : Vw) : Prop := (∀ k, k < 11 → VOk (V.vs k)) ∧ FOk V.fr ∧ (-9223372036854775808 ≤ V.p ∧ V.p < 9223372036854775808)
theorem sMay_iff (S : St) : sMay S = true ↔ (∀ k, k < 11 → Rm (S.rg k)) ∧ (∀ k, k < 64 → kMay (S.sk k) = true) ∧ 0 ≤ S.p ∧ S.p ≤ 65535 := by
  unfold sMay lenB
  simp only [Bool.and_eq_true, allR_iff, allK_iff, rMay_iff, decide_eq_true_eq]
theorem wMay_iff (V : Vw) : wMay V = true ↔ (∀ k, k < 11 → mayB (V.vs k) = true) ∧ rightF V.fr = true ∧ 0 ≤ V.p ∧ V.p ≤ 65535 := by
  unfold wMay lenB
  simp only [Bool.and_eq_true, allR_iff, decide_eq_true_eq]
end Go.Proofs.Ytodmikjpmcabiaa

namespace Go.Proofs.Ytodmikjpmcabiaa
set_option linter.unusedSimpArgs false
set_option linter.unusedVariables false
set_option maxRecDepth 100000
set_option maxRecDepth 100000
open Go.ChangeShapes Go.WideShapes Go.ChangeAt Go.RowKit Me

def rC (r : Rg) : List Value := [.int .u8 r.k, .bool r.l, .int .i64 r.m, .int .u64 (ub r.s.1.1), .int .u64 (ub r.s.1.2), .int .u64 (ub r.s.2.1), .int .u64 (ub r.s.2.2), .int .i64 r.lo, .int .i64 r.hi]
def rV (r : Rg) : Value := .agg #[.int .u8 r.k, .bool r.l, .int .i64 r.m, .int .u64 (ub r.s.1.1), .int .u64 (ub r.s.1.2), .int .u64 (ub r.s.2.1), .int .u64 (ub r.s.2.2), .int .i64 r.lo, .int .i64 r.hi]
theorem rV_is (r : Rg) : rV r = .agg (rC r).toArray := rfl
def kC (x : Sk) : List Value := .int .u8 (vb x.h) :: rC x.r
def kV (x : Sk) : Value := .agg #[.int .u8 (vb x.h), .int .u8 x.r.k, .bool x.r.l, .int .i64 x.r.m, .int .u64 (ub x.r.s.1.1), .int .u64 (ub x.r.s.1.2), .int .u64 (ub x.r.s.2.1), .int .u64 (ub x.r.s.2.2), .int .i64 x.r.lo, .int .i64 x.r.hi]
theorem rC_len (r : Rg) : (rC r).length = 9 := rfl
theorem kC_len (x : Sk) : (kC x).length = 10 := rfl
def regC (f : Nat → Rg) : List Value := (List.range 11).flatMap fun k => rC (f k)
def stkC (f : Nat → Sk) : List Value := (List.range 64).flatMap fun k => kC (f k)
def valC (f : Nat → Vl) : List Value := (List.range 11).flatMap fun k => vC (f k)
def stC (S : St) : List Value := regC S.rg ++ (stkC S.sk ++ [.int .i64 S.p])
def stV (S : St) : Value := .agg (stC S).toArray
def vwC (V : Vw) : List Value := valC V.vs ++ (fC V.fr ++ [.int .i64 V.p])
def vwV (V : Vw) : Value := .agg (vwC V).toArray
theorem vC_len (v : Vl) : (vC v).length = 4 := rfl
theorem regC_len (f : Nat → Rg) : (regC f).length = 99 := flat_len _ 9 11 (fun k _ => rC_len _)
theorem stkC_len (f : Nat → Sk) : (stkC f).length = 640 := flat_len _ 10 64 (fun k _ => kC_len _)
theorem valC_len (f : Nat → Vl) : (valC f).length = 44 := flat_len _ 4 11 (fun k _ => vC_len _)
theorem stC_len (S : St) : (stC S).length = 740 := by unfold stC; simp [regC_len, stkC_len]
theorem vwC_len (V : Vw) (h : FOk V.fr) : (vwC V).length = 877 := by unfold vwC; simp [valC_len, fC_len h]
theorem stC_reg (S : St) (i j : Nat) (hi : i < 11) (hj : j < 9) : (stC S)[i * 9 + j]? = (rC (S.rg i))[j]? := by
  unfold stC
  rw [List.getElem?_append_left (by rw [regC_len]; omega)]
  exact flat_at _ 9 11 (fun k _ => rC_len _) i j hi hj
theorem stC_slot (S : St) (i j : Nat) (hi : i < 64) (hj : j < 10) : (stC S)[99 + (i * 10 + j)]? = (kC (S.sk i))[j]? := by
  unfold stC
  rw [List.getElem?_append_right (by rw [regC_len]; omega), regC_len, Nat.add_sub_cancel_left, List.getElem?_append_left (by rw [stkC_len]; omega)]
  exact flat_at _ 10 64 (fun k _ => kC_len _) i j hi hj
theorem stC_pkt (S : St) : (stC S)[739]? = some (.int .i64 S.p) := by
  unfold stC
  rw [List.getElem?_append_right (by rw [regC_len]; omega), regC_len, List.getElem?_append_right (by rw [stkC_len]; omega), stkC_len]
  rfl
theorem vwC_val (V : Vw) (i j : Nat) (hi : i < 11) (hj : j < 4) : (vwC V)[i * 4 + j]? = (vC (V.vs i))[j]? := by
  unfold vwC
  rw [List.getElem?_append_left (by rw [valC_len]; omega)]
  exact flat_at _ 4 11 (fun k _ => vC_len _) i j hi hj
theorem vwC_slot (V : Vw) (h : FOk V.fr) (i j : Nat) (hi : i < 64) (hj : j < 13) : (vwC V)[44 + (i * 13 + j)]? = (sC (V.fr i))[j]? := by
  unfold vwC
  rw [List.getElem?_append_right (by rw [valC_len]; omega), valC_len, Nat.add_sub_cancel_left, List.getElem?_append_left (by rw [fC_len h]; omega)]
  exact flat_at _ 13 64 (fun k hk => sC_len (h k hk)) i j hi hj
theorem vwC_fr (V : Vw) (h : FOk V.fr) (j : Nat) (hj : j < 832) : (vwC V)[44 + j]? = (fC V.fr)[j]? := by
  unfold vwC
  rw [List.getElem?_append_right (by rw [valC_len]; omega), valC_len, Nat.add_sub_cancel_left, List.getElem?_append_left (by rw [fC_len h]; omega)]
theorem vwC_pkt (V : Vw) (h : FOk V.fr) : (vwC V)[876]? = some (.int .i64 V.p) := by
  unfold vwC
  rw [List.getElem?_append_right (by rw [valC_len]; omega), valC_len, List.getElem?_append_right (by rw [fC_len h]; omega), fC_len h]
  rfl
theorem range_reg {w : World} {g : Nat} {S : St} (hr : w.rangeAt g 0 (stC S)) (k : Nat) (hk : k < 11) : w.rangeAt g (k * 9) (rC (S.rg k)) := fun j v hv => by
  have hj : j < 9 := by have := (List.getElem?_eq_some_iff.1 hv).1; rwa [rC_len] at this
  have := hr (k * 9 + j) v (by rw [stC_reg S k j hk hj]; exact hv)
  rwa [Nat.zero_add] at this
theorem range_slot {w : World} {g : Nat} {S : St} (hr : w.rangeAt g 0 (stC S)) (k : Nat) (hk : k < 64) : w.rangeAt g (99 + k * 10) (kC (S.sk k)) := fun j v hv => by
  have hj : j < 10 := by have := (List.getElem?_eq_some_iff.1 hv).1; rwa [kC_len] at this
  have := hr (99 + (k * 10 + j)) v (by rw [stC_slot S k j hk hj]; exact hv)
  rwa [Nat.zero_add, ← Nat.add_assoc] at this
theorem range_pkt {w : World} {g : Nat} {S : St} (hr : w.rangeAt g 0 (stC S)) : w.cell? ⟨g, 739, none⟩ = some (.int .i64 S.p) := by
  have := hr 739 _ (stC_pkt S)
  rwa [Nat.zero_add] at this
theorem range_val {w : World} {g : Nat} {V : Vw} (hr : w.rangeAt g 0 (vwC V)) (k : Nat) (hk : k < 11) : w.rangeAt g (k * 4) (vC (V.vs k)) := fun j v hv => by
  have hj : j < 4 := by have := (List.getElem?_eq_some_iff.1 hv).1; rwa [vC_len] at this
  have := hr (k * 4 + j) v (by rw [vwC_val V k j hk hj]; exact hv)
  rwa [Nat.zero_add] at this
theorem range_fslot {w : World} {g : Nat} {V : Vw} (h : FOk V.fr) (hr : w.rangeAt g 0 (vwC V)) (k : Nat) (hk : k < 64) : w.rangeAt g (44 + k * 13) (sC (V.fr k)) := fun j v hv => by
  have hj : j < 13 := by have := (List.getElem?_eq_some_iff.1 hv).1; rwa [sC_len (h k hk)] at this
  have := hr (44 + (k * 13 + j)) v (by rw [vwC_slot V h k j hk hj]; exact hv)
  rwa [Nat.zero_add, ← Nat.add_assoc] at this
theorem range_frame {w : World} {g : Nat} {V : Vw} (h : FOk V.fr) (hr : w.rangeAt g 0 (vwC V)) : w.rangeAt g 44 (fC V.fr) := fun j v hv => by
  have hj : j < 832 := by have := (List.getElem?_eq_some_iff.1 hv).1; rwa [fC_len h] at this
  have := hr (44 + j) v (by rw [vwC_fr V h j hj]; exact hv)
  rwa [Nat.zero_add] at this
theorem range_vpkt {w : World} {g : Nat} {V : Vw} (h : FOk V.fr) (hr : w.rangeAt g 0 (vwC V)) : w.cell? ⟨g, 876, none⟩ = some (.int .i64 V.p) := by
  have := hr 876 _ (vwC_pkt V h)
  rwa [Nat.zero_add] at this

/-! ### Comparisons -/
def rLit (r : Rg) : List Lit := [.int .u8 r.k, .bool r.l, .int .i64 r.m, .int .u64 (ub r.s.1.1), .int .u64 (ub r.s.1.2), .int .u64 (ub r.s.2.1), .int .u64 (ub r.s.2.2), .int .i64 r.lo, .int .i64 r.hi]
theorem rLit_inj {a b : Rg} (h : rLit a = rLit b) : a = b := by
  obtain ⟨k, l, m, ⟨⟨s1, s2⟩, s3, s4⟩, lo, hi⟩ := a
  obtain ⟨k', l', m', ⟨⟨s1', s2'⟩, s3', s4'⟩, lo', hi'⟩ := b
  simp only [rLit, List.cons.injEq, Lit.int.injEq, Lit.bool.injEq, true_and, and_true, ub_inj] at h
  obtain ⟨e0, e1, e2, e3, e4, e5, e6, e7, e8⟩ := h
  subst e0 e1 e2 e3 e4 e5 e6 e7 e8
  rfl
theorem yb4 : Try.prog.cellsOf 4 = 1 := by kernel_rfl
theorem y24 : Try.prog.cellsOf 24 = 2 := by kernel_rfl
theorem y26 : Try.prog.cellsOf 26 = 2 := by kernel_rfl
theorem y28 : Try.prog.cellsOf 28 = 4 := by kernel_rfl
theorem y30 : Try.prog.cellsOf 30 = 9 := by kernel_rfl
theorem y33 : Try.prog.cellsOf 33 = 10 := by kernel_rfl
theorem y36 : Try.prog.cellsOf 36 = 740 := by kernel_rfl
theorem yl_bool (D : Nat) (x : Bool) : Try.prog.keyLits (D + 1) 4 [.bool x] = some [.bool x] := by
  simp [Program.keyLits, Try.underlying4, Lit.wf]
theorem yl_ub (D : Nat) (x : B64) : Try.prog.keyLits (D + 1) 22 [.int .u64 (ub x)] = some [.int .u64 (ub x)] := kl_u64 D (ub x) ⟨ub_ge x, ub_lt x⟩
theorem yl_tn (D : Nat) (x y : B64) : Try.prog.keyLits (D + 2) 24 [.int .u64 (ub x), .int .u64 (ub y)] = some [.int .u64 (ub x), .int .u64 (ub y)] := by
  unfold Program.keyLits
  simp [Try.underlying24, c23, y24, yl_ub D]
theorem yl_sp (D : Nat) (x y : B64) : Try.prog.keyLits (D + 2) 26 [.int .u64 (ub x), .int .u64 (ub y)] = some [.int .u64 (ub x), .int .u64 (ub y)] := by
  unfold Program.keyLits
  simp [Try.underlying26, c23, y26, yl_ub D]
theorem yl_sc (D : Nat) (s : Sc) : Try.prog.keyLits (D + 3) 28 [.int .u64 (ub s.1.1), .int .u64 (ub s.1.2), .int .u64 (ub s.2.1), .int .u64 (ub s.2.2)] = some [.int .u64 (ub s.1.1), .int .u64 (ub s.1.2), .int .u64 (ub s.2.1), .int .u64 (ub s.2.2)] := by
  unfold Program.keyLits
  simp [Try.underlying28, y24, y26, y28, yl_tn D, yl_sp D]
theorem yl_r (D : Nat) (r : Rg) (h : ROk r) : Try.prog.keyLits (D + 4) 30 (rC r) = some (rLit r) := by
  obtain ⟨h1, h2, h3, h4⟩ := h
  unfold Program.keyLits
  simp [Try.underlying30, rC, rLit, y30, y28, yb4, c5, c3, c2, kl_u8 (D + 2) _ h1, yl_bool (D + 2), kl_i64 (D + 2) _ h2, yl_sc D r.s, kl_i64' (D + 2) _ h3, kl_i64' (D + 2) _ h4]
theorem yformed30 (r : Rg) : (rV r).formed Try.prog 30 = true := by
  simp [Value.formed, rV, Try.underlying30, y30]
theorem ykt30 : Try.prog.keyTypeAt 5 30 = true := by kernel_rfl
theorem yeqIn_r (a b : Rg) (ha : ROk a) (hb : ROk b) (W : World) : (Op.equalIn 10000 30 (rV a) (rV b)).run Try.prog W = .ok (rB a b) W := by
  obtain ⟨r, h1, h2⟩ := run_equalIn_deep (P := Try.prog) 9995 5 _ ykt30 W 4 4 (rV a) (rV b) (rLit a) (rLit b) (yformed30 a) (yformed30 b) (yl_r 0 a ha) (yl_r 0 b hb)
  rw [h1]
  congr 1
  rw [Bool.eq_iff_iff, h2, rB_iff]
  exact ⟨fun e => rLit_inj e, fun e => by rw [e]⟩
theorem eq_r (a b : Rg) (ha : ROk a) (hb : ROk b) (W : World) : (binOp .eql 30 (rV a) (rV b)).run Try.prog W = .ok (.bool (rB a b)) W := by
  rw [rV, rV, run_eql_struct, ← rV, ← rV, yeqIn_r a b ha hb]
  rfl
theorem bld_r0 (W : World) : (Instr.build 30 #[]).run Try.prog W = .ok (rV r0) W := by kernel_rfl
theorem bld_r_k (k : Int) (W : World) : (Instr.build 30 #[(0, .int .u8 k)]).run Try.prog W = .ok (.agg #[.int .u8 k, .bool false, .int .i64 0, .int .u64 0, .int .u64 0, .int .u64 0, .int .u64 0, .int .i64 0, .int .i64 0]) W := by kernel_rfl
end Go.Proofs.Ytodmikjpmcabiaa
