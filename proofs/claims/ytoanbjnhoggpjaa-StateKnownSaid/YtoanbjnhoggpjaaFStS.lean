/-
  Plain: what is known of registers and slots; when it may be, what it holds, in what it is, what joins two; no program. Plain: slots and states; when they may be, what they hold, in what they are, what joins two; no program. States' and views' cells; registers and slots held against each other.
-/
import Derived.Test.YtoanbjnhoggpjaaFScJ0
import Derived.Test.YtoanbjnhoggpjaaFMeG
import Derived.Test.YtoanbjnhoggpjaaFMeF
import Derived.DeepKeys
namespace Go.Proofs.Ytoanbjnhoggpjaa
set_option linter.unusedSimpArgs false
set_option linter.unusedVariables false
set_option maxRecDepth 100000
open Go.RowKit Me

abbrev B8 := BitVec 8
/-- A byte as a number. -/
def vb (x : B8) : Int := (x.toNat : Int)
theorem vb_ge (x : B8) : 0 ≤ vb x := by unfold vb; omega
theorem vb_lt (x : B8) : vb x < 256 := by unfold vb; have := x.isLt; omega
theorem vb_nat (x : B8) : (vb x).toNat = x.toNat := by unfold vb; omega
theorem vb_inj {x y : B8} : vb x = vb y ↔ x = y := by
  unfold vb
  constructor
  · intro h; exact BitVec.eq_of_toNat_eq (by omega)
  · intro h; rw [h]
theorem vb_of (n : Int) (h0 : 0 ≤ n) (h1 : n < 256) : ∃ x : B8, n = vb x :=
  ⟨BitVec.ofNat 8 n.toNat, by unfold vb; rw [BitVec.toNat_ofNat]; omega⟩
def sub8 (x y : B8) : Bool := x &&& ~~~y == 0#8
theorem sub8_iff (x y : B8) : sub8 x y = true ↔ x &&& ~~~y = 0#8 := by unfold sub8; rw [beq_iff_eq]
theorem sub8_bits (x y : B8) : sub8 x y = true ↔ ∀ j, j < 8 → x.getLsbD j = true → y.getLsbD j = true := by
  rw [sub8_iff]
  constructor
  · intro h j hj hx
    have := congrArg (fun z : B8 => z.getLsbD j) h
    simp only [BitVec.getLsbD_and, BitVec.getLsbD_not, hx, BitVec.getLsbD_zero, hj, decide_true, Bool.true_and, Bool.not_eq_false'] at this
    exact this
  · intro h
    apply BitVec.eq_of_getLsbD_eq
    intro j hj
    have := h j hj
    simp only [BitVec.getLsbD_and, BitVec.getLsbD_not, BitVec.getLsbD_zero, hj, decide_true, Bool.true_and]
    revert this
    cases x.getLsbD j <;> cases y.getLsbD j <;> simp
theorem sub8_refl (x : B8) : sub8 x x = true := (sub8_bits x x).2 fun _ _ h => h
theorem sub8_trans {x y z : B8} (h : sub8 x y = true) (k : sub8 y z = true) : sub8 x z = true :=
  (sub8_bits x z).2 fun j hj e => (sub8_bits y z).1 k j hj ((sub8_bits x y).1 h j hj e)
theorem sub8_and_l (x y : B8) : sub8 (x &&& y) x = true := (sub8_bits _ _).2 fun j hj e => by
  rw [BitVec.getLsbD_and, Bool.and_eq_true] at e; exact e.1
theorem sub8_and_r (x y : B8) : sub8 (x &&& y) y = true := (sub8_bits _ _).2 fun j hj e => by
  rw [BitVec.getLsbD_and, Bool.and_eq_true] at e; exact e.2
theorem sub8_and {x y z : B8} (h : sub8 z x = true) (k : sub8 z y = true) : sub8 z (x &&& y) = true := (sub8_bits _ _).2 fun j hj e => by
  rw [BitVec.getLsbD_and, (sub8_bits _ _).1 h j hj e, (sub8_bits _ _).1 k j hj e]; rfl
theorem sub8_zero (y : B8) : sub8 0#8 y = true := (sub8_bits _ _).2 fun j hj e => by simp at e
theorem sub8_all (x : B8) : sub8 x 255#8 = true := (sub8_bits _ _).2 fun j hj _ => by
  have : j = 0 ∨ j = 1 ∨ j = 2 ∨ j = 3 ∨ j = 4 ∨ j = 5 ∨ j = 6 ∨ j = 7 := by omega
  rcases this with rfl | rfl | rfl | rfl | rfl | rfl | rfl | rfl <;> decide

/-- What is known of a register: kind, whether it is the packet's length, map, numbers, ends. -/
structure Rg where
  k : Int
  l : Bool
  m : Int
  s : Sc
  lo : Int
  hi : Int
deriving DecidableEq
def r0 : Rg := ⟨0, false, 0, sc0, 0, 0⟩
def ROk (r : Rg) : Prop := (0 ≤ r.k ∧ r.k < 256) ∧ (-9223372036854775808 ≤ r.m ∧ r.m < 9223372036854775808) ∧ (-9223372036854775808 ≤ r.lo ∧ r.lo < 9223372036854775808) ∧ (-9223372036854775808 ≤ r.hi ∧ r.hi < 9223372036854775808)
theorem r0_ok : ROk r0 := by unfold ROk r0; simp
def rB (a b : Rg) : Bool := decide (a = b)
theorem rB_iff (a b : Rg) : rB a b = true ↔ a = b := by unfold rB; rw [decide_eq_true_eq]
theorem rB_self (a : Rg) : rB a a = true := (rB_iff a a).2 rfl
def nearB (r : Rg) : Bool := decide (-1048576 ≤ r.lo) && (decide (r.lo ≤ r.hi) && decide (r.hi ≤ 1048576))
def rMay (r : Rg) : Bool :=
  if r.k = 0 ∨ r.k = 2 then rB r ⟨r.k, false, 0, sc0, 0, 0⟩
  else if r.k = 1 then rB r ⟨1, r.l, 0, r.s, 0, 0⟩ && (mayX r.s && !(r.l && decide (65535 < r.s.2.2.toNat)))
  else if r.k = 3 ∨ r.k = 4 then rB r ⟨r.k, false, 0, sc0, r.lo, r.hi⟩ && nearB r
  else if r.k = 5 ∨ r.k = 7 then rB r ⟨r.k, false, r.m, sc0, 0, 0⟩ && decide (0 ≤ r.m)
  else if r.k = 6 then rB r ⟨6, false, r.m, sc0, r.lo, r.hi⟩ && (decide (0 ≤ r.m) && nearB r)
  else false
def zm (m : Int) : Rg := ⟨7, false, m, sc0, 0, 0⟩
def isM (r : Rg) (m : Int) : Bool :=
  if r.k = 1 then decide (r.s = ofX 0#64) else if r.k = 6 ∨ r.k = 7 then rB r ⟨r.k, false, m, sc0, 0, 0⟩ else false
def nb (n : Int) : B64 := BitVec.ofNat 64 n.toNat
theorem nb_ub (x : B64) : nb (ub x) = x := by
  unfold nb
  rw [ub_nat]
  apply BitVec.eq_of_toNat_eq
  rw [BitVec.toNat_ofNat]
  have := x.isLt
  omega
def vz (k : Int) : Vl := ⟨k, 0, 0, 0⟩
def rHolds (r : Rg) (v : Vl) (p : Int) : Bool :=
  if r.k = 0 then true
  else if r.k = 1 then v.k == 1 && (hasX r.s (nb v.n) && (!r.l || v.n == p))
  else if r.k = 7 then decide (v = ⟨1, 0, 0, 0⟩) || decide (v = ⟨6, r.m, v.n, 0⟩)
  else v.k == r.k && (v.m == r.m && (decide (r.lo ≤ v.o) && decide (v.o ≤ r.hi)))
def rIn (a b : Rg) : Bool :=
  if b.k = 0 then true
  else if b.k = 7 then isM a b.m
  else if a.k ≠ b.k then false
  else if a.k = 1 then inX a.s b.s && (a.l || !b.l)
  else a.m == b.m && (decide (b.lo ≤ a.lo) && decide (a.hi ≤ b.hi))
def rJoin (a b : Rg) : Rg :=
  if a.k = b.k ∧ a.m = b.m then ⟨a.k, a.l && b.l, a.m, joinX a.s b.s, min a.lo b.lo, max a.hi b.hi⟩
  else if (isM a (max a.m b.m) && isM b (max a.m b.m)) = true then zm (max a.m b.m) else r0

/-! ### Scalars -/
theorem inX_iff (a b : Sc) : inX a b = true ↔ mayX a = true ∧ mayX b = true ∧ leX a b := by
  unfold inX inSp leX
  simp only [Bool.and_eq_true, decide_eq_true_eq]
  constructor
  · rintro ⟨h1, h2, h3, h4⟩
    exact ⟨h1, h2, h3, by simp_all⟩
  · rintro ⟨h1, h2, h3, h4, h5⟩
    exact ⟨h1, h2, h3, by have := (mayX_parts h1).2.2; simp_all⟩
theorem hasX_iff (a : Sc) (n : B64) : hasX a n = true ↔ mayX a = true ∧ hasB a n := by
  unfold hasX hasB Lies
  simp only [Bool.and_eq_true, decide_eq_true_eq]
theorem inX_has {a b : Sc} (h : inX a b = true) {n : B64} (k : hasX a n = true) : hasX b n = true := by
  obtain ⟨h1, h2, h3⟩ := (inX_iff _ _).1 h
  exact (hasX_iff _ _).2 ⟨h2, leX_has h3 ((hasX_iff _ _).1 k).2⟩
theorem inX_refl {a : Sc} (h : mayX a = true) : inX a a = true := inX_of h h (may_le h)
theorem inX_trans {a b c : Sc} (h : inX a b = true) (k : inX b c = true) : inX a c = true := by
  obtain ⟨h1, h2, h3⟩ := (inX_iff _ _).1 h
  obtain ⟨k1, k2, k3⟩ := (inX_iff _ _).1 k
  exact inX_of h1 k2 (leX_trans h3 k3)
theorem joinT_in {a b : Tn} (ha : tmay a = true) (hb : tmay b = true) : tin a (joinT a b) = true ∧ tin b (joinT a b) = true := by
  refine ⟨(tin_iff _ _).2 ⟨ha, join_may a b, fun i hi e => ?_, (hs_iff _ _).2 fun i hi => ?_⟩, (tin_iff _ _).2 ⟨hb, join_may a b, fun i hi e => ?_, (hs_iff _ _).2 fun i hi => ?_⟩⟩
  all_goals
    have m1 := may_bit ha i
    have m2 := may_bit hb i
    (try revert e)
    unfold joinT butT
    simp only [bt_and, bt_not _ _ hi, bt_or, bt_xor] <;>
    (revert m1 m2
     cases bt a.1 i <;> cases bt a.2 i <;> cases bt b.1 i <;> cases bt b.2 i <;> simp)
theorem joinT_least {a b c : Tn} (h : tin a c = true) (k : tin b c = true) : tin (joinT a b) c = true := by
  obtain ⟨h1, h2, h3, h4⟩ := (tin_iff _ _).1 h
  obtain ⟨k1, k2, k3, k4⟩ := (tin_iff _ _).1 k
  refine (tin_iff _ _).2 ⟨join_may a b, h2, fun i hi e => ?_, (hs_iff _ _).2 fun i hi => ?_⟩
  all_goals
    have m1 := may_bit h1 i
    have m2 := may_bit k1 i
    have e3 := h3 i hi
    have e4 := (hs_iff _ _).1 h4 i hi
    have e5 := k3 i hi
    have e6 := (hs_iff _ _).1 k4 i hi
    (try revert e)
    unfold joinT butT
    simp only [bt_and, bt_not _ _ hi, bt_or, bt_xor]
    revert m1 m2 e3 e4 e5 e6
    cases bt a.1 i <;> cases bt a.2 i <;> cases bt b.1 i <;> cases bt b.2 i <;> cases bt c.1 i <;> cases bt c.2 i <;> simp
theorem joinSp_is {a b : Tn} (ha : mayS a = true) (hb : mayS b = true) : joinSp a b = (bmin a.1 b.1, bmax a.2 b.2) := by
  unfold joinSp; rw [if_pos ha, if_pos hb]
theorem joS_ex {a b : Sc} (ha : mayX a = true) (hb : mayX b = true) : mayX (joinX a b) = true ∧ leX a (joinX a b) ∧ leX b (joinX a b) ∧ leX (joinX a b) (joinT a.1 b.1, joinSp a.2 b.2) := by
  obtain ⟨a1, a2, a3⟩ := mayX_parts ha
  obtain ⟨b1, b2, b3⟩ := mayX_parts hb
  obtain ⟨t1, t2⟩ := joinT_in a1 b1
  have hsp := joinSp_is a3 b3
  have la : leX a (joinT a.1 b.1, joinSp a.2 b.2) := by
    refine ⟨t1, ?_, ?_⟩ <;> rw [hsp] <;> dsimp only
    · rw [bmin_toNat]; omega
    · rw [bmax_toNat]; omega
  have lb : leX b (joinT a.1 b.1, joinSp a.2 b.2) := by
    refine ⟨t2, ?_, ?_⟩ <;> rw [hsp] <;> dsimp only
    · rw [bmin_toNat]; omega
    · rw [bmax_toNat]; omega
  obtain ⟨y, hy, ly⟩ := settle_above ha la
  obtain ⟨z, hz, lz⟩ := settle_above hb lb
  have : y = z := by rw [hy] at hz; exact Option.some.inj hz
  subst this
  have e : joinX a b = y := by unfold joinX; simp only [ha, hb, Bool.and_self, if_true, hy]; rfl
  rw [e]
  exact ⟨settled hy, ly, lz, settle_le hy⟩
theorem joS_in {a b : Sc} (ha : mayX a = true) (hb : mayX b = true) : mayX (joinX a b) = true ∧ inX a (joinX a b) = true ∧ inX b (joinX a b) = true := by
  obtain ⟨h1, h2, h3, _⟩ := joS_ex ha hb
  exact ⟨h1, inX_of ha h1 h2, inX_of hb h1 h3⟩
theorem joS_least {a b c : Sc} (h : inX a c = true) (k : inX b c = true) : inX (joinX a b) c = true := by
  obtain ⟨h1, h2, h3⟩ := (inX_iff _ _).1 h
  obtain ⟨k1, k2, k3⟩ := (inX_iff _ _).1 k
  obtain ⟨j1, _, _, j4⟩ := joS_ex h1 k1
  refine inX_of j1 h2 (leX_trans j4 ⟨joinT_least h3.1 k3.1, ?_, ?_⟩)
  all_goals
    rw [joinSp_is (mayX_parts h1).2.2 (mayX_parts k1).2.2]
    dsimp only
    have := h3.2
    have := k3.2
  · rw [bmin_toNat]; omega
  · rw [bmax_toNat]; omega
theorem joS_hi {a b : Sc} (ha : mayX a = true) (hb : mayX b = true) (n : Nat) (h1 : a.2.2.toNat ≤ n) (h2 : b.2.2.toNat ≤ n) : (joinX a b).2.2.toNat ≤ n := by
  obtain ⟨_, _, _, j⟩ := joS_ex ha hb
  have := j.2.2
  rw [joinSp_is (mayX_parts ha).2.2 (mayX_parts hb).2.2] at this
  dsimp only at this
  rw [bmax_toNat] at this
  omega
theorem joS_zero : joinX sc0 sc0 = sc0 := by decide +kernel
theorem allX_top {a : Sc} (ha : mayX a = true) : leX a allX := by
  refine ⟨(tin_iff _ _).2 ⟨(mayX_parts ha).1, by decide, fun i hi _ => ?_, ?_⟩, Nat.zero_le _, ?_⟩
  · exact of_decide_eq_true (p := bt allX.1.2 i = true) (by
      have : ∀ i : Fin 64, bt allX.1.2 i.val = true := by decide +kernel
      exact decide_eq_true (this ⟨i, hi⟩))
  · exact allT_has _
  · have := a.2.2.isLt
    show a.2.2.toNat ≤ 18446744073709551615
    omega
theorem allX_in {a : Sc} (ha : mayX a = true) : inX a allX = true := inX_of ha allX_may (allX_top ha)
theorem allX_only {a : Sc} (h : inX allX a = true) : a = allX := by
  obtain ⟨_, h2, h3⟩ := (inX_iff _ _).1 h
  exact leX_anti (allX_top h2) h3
theorem zero_only {a : Sc} (h : inX a (ofX 0#64) = true) : a = ofX 0#64 := by
  obtain ⟨h1, h2, h3⟩ := (inX_iff _ _).1 h
  apply may_single h1
  have e1 := h3.2.1
  have e2 := h3.2.2
  have e3 := (mayX_parts h1).2.1
  have z : (ofX 0#64).2.2.toNat = 0 := rfl
  exact tn_ext (by show a.2.1.toNat = 0; omega) (by show a.2.2.toNat = 0; omega)
theorem zero_has {n : B64} (h : hasX (ofX 0#64) n = true) : n = 0#64 := by
  have := ((hasX_iff _ _).1 h).2.2
  unfold Lies at this
  have z : (ofX 0#64).2.2.toNat = 0 := rfl
  exact BitVec.eq_of_toNat_eq (by show n.toNat = 0; omega)
theorem zero_has0 : hasX (ofX 0#64) 0#64 = true := (hasX_iff _ _).2 ⟨ofX_may _, ofX_has _⟩
theorem joS_zz : joinX (ofX 0#64) (ofX 0#64) = ofX 0#64 := by decide +kernel

/-! ### Registers -/
/-- What may be, by its kind. -/
inductive Rm : Rg → Prop
  | none : Rm r0
  | num (l : Bool) (s : Sc) : mayX s = true → (l = true → s.2.2.toNat ≤ 65535) → Rm ⟨1, l, 0, s, 0, 0⟩
  | ctx : Rm ⟨2, false, 0, sc0, 0, 0⟩
  | far (k lo hi : Int) : (k = 3 ∨ k = 4) → -1048576 ≤ lo → lo ≤ hi → hi ≤ 1048576 → Rm ⟨k, false, 0, sc0, lo, hi⟩
  | ref (m : Int) : 0 ≤ m → Rm ⟨5, false, m, sc0, 0, 0⟩
  | maybe (m : Int) : 0 ≤ m → Rm ⟨7, false, m, sc0, 0, 0⟩
  | cell (m lo hi : Int) : 0 ≤ m → -1048576 ≤ lo → lo ≤ hi → hi ≤ 1048576 → Rm ⟨6, false, m, sc0, lo, hi⟩
theorem rMay_iff (r : Rg) : rMay r = true ↔ Rm r := by
  constructor
  · intro h
    obtain ⟨k, l, m, s, lo, hi⟩ := r
    unfold rMay at h
    dsimp only at h
    by_cases h1 : k = 0 ∨ k = 2
    · rw [if_pos h1, rB_iff] at h
      injection h with _ e1 e2 e3 e4 e5
      subst e1 e2 e3 e4 e5
      rcases h1 with rfl | rfl
      · exact .none
      · exact .ctx
    rw [if_neg h1] at h
    by_cases h2 : k = 1
    · subst h2
      rw [if_pos rfl] at h
      simp only [Bool.and_eq_true, rB_iff, Bool.not_eq_true', Bool.and_eq_false_iff, decide_eq_false_iff_not] at h
      obtain ⟨e, h2, h3⟩ := h
      injection e with _ e1 e2 e3 e4 e5
      subst e2 e4 e5
      refine .num l s h2 fun hl => ?_
      rcases h3 with h3 | h3
      · rw [hl] at h3; cases h3
      · omega
    rw [if_neg h2] at h
    by_cases h3 : k = 3 ∨ k = 4
    · rw [if_pos h3] at h
      simp only [Bool.and_eq_true, rB_iff, nearB, decide_eq_true_eq] at h
      obtain ⟨e, h4, h5, h6⟩ := h
      injection e with _ e1 e2 e3 e4 e5
      subst e1 e2 e3
      exact .far k lo hi h3 h4 h5 h6
    rw [if_neg h3] at h
    by_cases h4 : k = 5 ∨ k = 7
    · rw [if_pos h4] at h
      simp only [Bool.and_eq_true, rB_iff, decide_eq_true_eq] at h
      obtain ⟨e, h5⟩ := h
      injection e with _ e1 e2 e3 e4 e5
      subst e1 e3 e4 e5
      rcases h4 with rfl | rfl
      · exact .ref m h5
      · exact .maybe m h5
    rw [if_neg h4] at h
    by_cases h5 : k = 6
    · subst h5
      rw [if_pos rfl] at h
      simp only [Bool.and_eq_true, rB_iff, nearB, decide_eq_true_eq] at h
      obtain ⟨e, h4, h5, h6, h7⟩ := h
      injection e with _ e1 e2 e3 e4 e5
      subst e1 e3
      exact .cell m lo hi h4 h5 h6 h7
    · rw [if_neg h5] at h; cases h
  · intro h
    cases h with
    | none => decide +kernel
    | num l s h1 h2 =>
      unfold rMay
      dsimp only
      rw [if_neg (by decide), if_pos rfl, rB_self, h1]
      cases l
      · rfl
      · have := h2 rfl
        simp; omega
    | ctx => decide +kernel
    | far k lo hi h1 h2 h3 h4 =>
      unfold rMay nearB
      dsimp only
      rw [if_neg (by omega), if_neg (by omega), if_pos h1, rB_self]
      simp; omega
    | ref m h1 => unfold rMay; dsimp only; rw [if_neg (by decide), if_neg (by decide), if_neg (by decide), if_pos (by decide), rB_self]; simpa using h1
    | maybe m h1 => unfold rMay; dsimp only; rw [if_neg (by decide), if_neg (by decide), if_neg (by decide), if_pos (by decide), rB_self]; simpa using h1
    | cell m lo hi h1 h2 h3 h4 =>
      unfold rMay nearB
      dsimp only
      rw [if_neg (by decide), if_neg (by decide), if_neg (by decide), if_neg (by decide), if_pos rfl, rB_self]
      simp; omega

/-- Being in, by kinds. -/
inductive Ri : Rg → Rg → Prop
  | none (a : Rg) : Ri a r0
  | num (l l' : Bool) (s s' : Sc) : inX s s' = true → (l' = true → l = true) → Ri ⟨1, l, 0, s, 0, 0⟩ ⟨1, l', 0, s', 0, 0⟩
  | ctx : Ri ⟨2, false, 0, sc0, 0, 0⟩ ⟨2, false, 0, sc0, 0, 0⟩
  | far (k lo hi lo' hi' : Int) : (k = 3 ∨ k = 4) → lo' ≤ lo → hi ≤ hi' → Ri ⟨k, false, 0, sc0, lo, hi⟩ ⟨k, false, 0, sc0, lo', hi'⟩
  | ref (m : Int) : Ri ⟨5, false, m, sc0, 0, 0⟩ ⟨5, false, m, sc0, 0, 0⟩
  | maybe (m : Int) : Ri ⟨7, false, m, sc0, 0, 0⟩ ⟨7, false, m, sc0, 0, 0⟩
  | cell (m lo hi lo' hi' : Int) : lo' ≤ lo → hi ≤ hi' → Ri ⟨6, false, m, sc0, lo, hi⟩ ⟨6, false, m, sc0, lo', hi'⟩
  | zero (l : Bool) (m : Int) : Ri ⟨1, l, 0, ofX 0#64, 0, 0⟩ ⟨7, false, m, sc0, 0, 0⟩
  | cell0 (m : Int) : Ri ⟨6, false, m, sc0, 0, 0⟩ ⟨7, false, m, sc0, 0, 0⟩
theorem isM_cases {a : Rg} (ha : Rm a) {m : Int} (h : isM a m = true) : (∃ l, a = ⟨1, l, 0, ofX 0#64, 0, 0⟩) ∨ a = ⟨6, false, m, sc0, 0, 0⟩ ∨ a = zm m := by
  cases ha with
  | none => exact absurd h (by unfold isM r0; simp)
  | num l s h1 h2 => unfold isM at h; simp at h; subst h; exact .inl ⟨l, rfl⟩
  | ctx => exact absurd h (by unfold isM; simp)
  | far k lo hi h1 h2 h3 h4 => exact absurd h (by unfold isM; dsimp only; rw [if_neg (by omega), if_neg (by omega)]; simp)
  | ref m' h1 => exact absurd h (by unfold isM; simp)
  | maybe m' h1 => unfold isM at h; simp [rB] at h; subst h; exact .inr (.inr rfl)
  | cell m' lo hi h1 h2 h3 h4 => unfold isM at h; simp [rB] at h; obtain ⟨rfl, rfl, rfl⟩ := h; exact .inr (.inl rfl)
theorem isM_zero (l : Bool) (m : Int) : isM ⟨1, l, 0, ofX 0#64, 0, 0⟩ m = true := by unfold isM; simp
theorem isM_cell (m : Int) : isM ⟨6, false, m, sc0, 0, 0⟩ m = true := by unfold isM; simp [rB]
theorem isM_self (m : Int) : isM (zm m) m = true := by unfold isM zm; simp [rB]
theorem Ri_of {a b : Rg} (ha : Rm a) (hb : Rm b) (h : rIn a b = true) : Ri a b := by
  cases hb with
  | none => exact .none a
  | maybe m hm =>
    have h' : isM a m = true := h
    rcases isM_cases ha h' with ⟨l, rfl⟩ | rfl | rfl
    · exact .zero l m
    · exact .cell0 m
    · exact .maybe m
  | num l s h1 h2 =>
    unfold rIn at h
    dsimp only at h
    rw [if_neg (by decide), if_neg (by decide)] at h
    cases ha <;> simp [r0] at h <;> (try omega)
    exact .num _ _ _ _ h.1 (fun e => by subst e; simpa using h.2)
  | ctx =>
    unfold rIn at h
    dsimp only at h
    rw [if_neg (by decide), if_neg (by decide)] at h
    cases ha <;> simp [r0] at h <;> (try omega)
    exact .ctx
  | far k lo hi h1 h2 h3 h4 =>
    unfold rIn at h
    dsimp only at h
    rw [if_neg (by omega), if_neg (by omega)] at h
    cases ha <;> simp [r0] at h <;> (try omega)
    obtain ⟨rfl, h⟩ := h
    split at h
    · omega
    · exact .far _ _ _ _ _ h1 (by first | omega | (simp at h; omega)) (by first | omega | (simp at h; omega))
  | ref m hm =>
    unfold rIn at h
    dsimp only at h
    rw [if_neg (by decide), if_neg (by decide)] at h
    cases ha <;> simp [r0] at h <;> (try omega)
    subst h
    exact .ref _
  | cell m lo hi h1 h2 h3 h4 =>
    unfold rIn at h
    dsimp only at h
    rw [if_neg (by decide), if_neg (by decide)] at h
    cases ha <;> simp [r0] at h <;> (try omega)
    obtain ⟨rfl, h⟩ := h
    exact .cell _ _ _ _ _ h.1 h.2
theorem of_Ri {a b : Rg} (h : Ri a b) : rIn a b = true := by
  cases h with
  | none => unfold rIn r0; simp
  | num l l' s s' h1 h2 => unfold rIn; simp [h1]; cases l' <;> simp_all
  | ctx => unfold rIn; simp
  | far k lo hi lo' hi' h1 h2 h3 => unfold rIn; dsimp only; rw [if_neg (by omega), if_neg (by omega), if_neg (by omega), if_neg (by omega)]; simp [h2, h3]
  | ref m => unfold rIn; simp
  | maybe m => unfold rIn; dsimp only; rw [if_neg (by decide), if_pos rfl]; exact isM_self m
  | cell m lo hi lo' hi' h1 h2 => unfold rIn; simp [h1, h2]
  | zero l m => unfold rIn; dsimp only; rw [if_neg (by decide), if_pos rfl]; exact isM_zero l m
  | cell0 m => unfold rIn; dsimp only; rw [if_neg (by decide), if_pos rfl]; exact isM_cell m
theorem Ri_refl {a : Rg} (h : Rm a) : Ri a a := by
  cases h with
  | none => exact .none _
  | num l s h1 h2 => exact .num _ _ _ _ (inX_refl h1) id
  | ctx => exact .ctx
  | far k lo hi h1 h2 h3 h4 => exact .far _ _ _ _ _ h1 (Int.le_refl _) (Int.le_refl _)
  | ref m h1 => exact .ref _
  | maybe m h1 => exact .maybe _
  | cell m lo hi h1 h2 h3 h4 => exact .cell _ _ _ _ _ (Int.le_refl _) (Int.le_refl _)
theorem Rm_le {a : Rg} (h : Rm a) : a.lo ≤ a.hi := by cases h <;> (try simp [r0]) <;> (try omega)
theorem Rm_m {a : Rg} (h : Rm a) : 0 ≤ a.m := by cases h <;> (try simp [r0]) <;> (try omega)
theorem Ri_trans' {a b b' c : Rg} (ha : Rm a) (h : Ri a b) (k : Ri b' c) (e : b = b') : Ri a c := by
  cases k with
  | none => exact .none _
  | num l l' s s' h1 h2 =>
    cases h <;> simp [r0] at e <;> (try omega)
    rename_i hx hy
    obtain ⟨e1, e2⟩ := e
    subst e1 e2
    exact .num _ _ _ _ (inX_trans hx h1) (fun q => hy (h2 q))
  | ctx =>
    cases h <;> simp [r0] at e <;> (try omega)
    exact .ctx
  | far k lo hi lo' hi' h1 h2 h3 =>
    cases h <;> simp [r0] at e <;> (try omega)
    rename_i g1 g2 g3
    obtain ⟨e1, e2, e3⟩ := e
    subst e1 e2 e3
    exact .far _ _ _ _ _ h1 (by omega) (by omega)
  | ref m =>
    cases h <;> simp [r0] at e <;> (try omega)
    subst e
    exact .ref _
  | maybe m =>
    cases h <;> simp [r0] at e <;> (try omega)
    all_goals subst e
    · exact .maybe _
    · exact .zero _ _
    · exact .cell0 _
  | cell m lo hi lo' hi' h1 h2 =>
    cases h <;> simp [r0] at e <;> (try omega)
    rename_i g1 g2
    obtain ⟨e1, e2, e3⟩ := e
    subst e1 e2 e3
    exact .cell _ _ _ _ _ (by omega) (by omega)
  | zero l m =>
    cases h <;> simp [r0] at e <;> (try omega)
    rename_i hx hy
    obtain ⟨e1, e2⟩ := e
    subst e2
    have := zero_only hx
    subst this
    exact .zero _ _
  | cell0 m =>
    cases h with
    | far k lo hi lo' hi' h1 h2 h3 => simp at e; omega
    | cell m' lo hi lo' hi' h1 h2 =>
      simp at e
      obtain ⟨e1, e2, e3⟩ := e
      subst e1 e2 e3
      have := Rm_le ha
      dsimp only at this
      have x1 : lo = 0 := by omega
      have x2 : hi = 0 := by omega
      subst x1 x2
      exact .cell0 _
    | _ => simp [r0] at e
theorem Ri_trans {a b c : Rg} (ha : Rm a) (h : Ri a b) (k : Ri b c) : Ri a c := Ri_trans' ha h k rfl
theorem rHolds_in {a b : Rg} {v : Vl} {p : Int} (hv : mayB v = true) (hok : VOk v) (h : rHolds a v p = true) (k : Ri a b) : rHolds b v p = true := by
  cases k with
  | none => unfold rHolds r0; simp
  | num l l' s s' h1 h2 =>
    unfold rHolds at h ⊢
    simp only [Int.reduceEq, if_false, if_true, Bool.and_eq_true] at h ⊢
    obtain ⟨e1, e2, e3⟩ := h
    refine ⟨e1, inX_has h1 e2, ?_⟩
    cases l' with
    | false => rfl
    | true => rw [h2 rfl] at e3; exact e3
  | ctx => exact h
  | far k lo hi lo' hi' h1 h2 h3 =>
    unfold rHolds at h ⊢
    dsimp only at h ⊢
    rw [if_neg (by omega), if_neg (by omega), if_neg (by omega)] at h ⊢
    simp only [Bool.and_eq_true, decide_eq_true_eq] at h ⊢
    exact ⟨h.1, h.2.1, by omega, by omega⟩
  | ref m => exact h
  | maybe m => exact h
  | cell m lo hi lo' hi' h1 h2 =>
    unfold rHolds at h ⊢
    dsimp only at h ⊢
    rw [if_neg (by omega), if_neg (by omega), if_neg (by omega)] at h ⊢
    simp only [Bool.and_eq_true, decide_eq_true_eq] at h ⊢
    exact ⟨h.1, h.2.1, by omega, by omega⟩
  | zero l m =>
    unfold rHolds at h ⊢
    simp only [Int.reduceEq, if_false, if_true, Bool.and_eq_true, beq_iff_eq] at h ⊢
    obtain ⟨e1, e2, e3⟩ := h
    have z := zero_has e2
    obtain ⟨vk, vm, vn, vo⟩ := v
    dsimp only at e1 z
    subst e1
    unfold VOk at hok
    dsimp only at hok
    have zn : vn = 0 := by
      have := congrArg BitVec.toNat z
      unfold nb at this
      rw [BitVec.toNat_ofNat] at this
      have : vn.toNat % 18446744073709551616 = 0 := this
      omega
    unfold mayB at hv
    simp at hv
    obtain ⟨rfl, rfl⟩ := hv
    subst zn
    rw [decide_eq_true rfl]
    rfl
  | cell0 m =>
    unfold rHolds at h ⊢
    simp only [Int.reduceEq, if_false, if_true, Bool.and_eq_true, beq_iff_eq, decide_eq_true_eq] at h ⊢
    obtain ⟨e1, e2, e3, e4⟩ := h
    obtain ⟨vk, vm, vn, vo⟩ := v
    dsimp only at e1 e2 e3 e4
    have : vo = 0 := by omega
    subst e1 e2 this
    simp
theorem Ri_isM {a : Rg} (ha : Rm a) {m : Int} (h : isM a m = true) : Ri a (zm m) := by
  rcases isM_cases ha h with ⟨l, rfl⟩ | rfl | rfl
  · exact .zero l m
  · exact .cell0 m
  · exact .maybe m
theorem rJoin_up {a b : Rg} (ha : Rm a) (hb : Rm b) : Rm (rJoin a b) ∧ Ri a (rJoin a b) ∧ Ri b (rJoin a b) := by
  by_cases hs : a.k = b.k ∧ a.m = b.m
  · have e : rJoin a b = ⟨a.k, a.l && b.l, a.m, joinX a.s b.s, min a.lo b.lo, max a.hi b.hi⟩ := by unfold rJoin; rw [if_pos hs]
    rw [e]
    clear e
    cases ha with
    | none => cases hb <;> simp [r0] at hs <;> first | omega | (exact ⟨by simp [r0, joS_zero]; exact Rm.none, by simp [r0, joS_zero]; exact Ri.none _, by simp [r0, joS_zero]; exact Ri.none _⟩)
    | num l s h1 h2 =>
      cases hb with
      | num l' s' g1 g2 =>
        obtain ⟨j1, j2, j3⟩ := joS_in h1 g1
        simp only [Int.min_self, Int.max_self]
        refine ⟨.num _ _ j1 fun q => ?_, .num _ _ _ _ j2 fun q => ?_, .num _ _ _ _ j3 fun q => ?_⟩
        · rw [Bool.and_eq_true] at q
          exact joS_hi h1 g1 _ (h2 q.1) (g2 q.2)
        · rw [Bool.and_eq_true] at q; exact q.1
        · rw [Bool.and_eq_true] at q; exact q.2
      | _ => simp [r0] at hs; try omega
    | ctx => cases hb <;> simp [r0] at hs <;> first | omega | (simp only [Int.min_self, Int.max_self, joS_zero, Bool.and_self]; exact ⟨.ctx, .ctx, .ctx⟩)
    | far k lo hi h1 h2 h3 h4 =>
      cases hb with
      | far k' lo' hi' g1 g2 g3 g4 =>
        dsimp only at hs
        obtain ⟨rfl, _⟩ := hs
        simp only [joS_zero, Bool.and_self]
        exact ⟨.far _ _ _ h1 (by omega) (by omega) (by omega), .far _ _ _ _ _ h1 (by omega) (by omega), .far _ _ _ _ _ h1 (by omega) (by omega)⟩
      | _ => simp [r0] at hs; try omega
    | ref m h1 => cases hb <;> simp [r0] at hs <;> first | omega | (subst hs; simp only [Int.min_self, Int.max_self, joS_zero, Bool.and_self]; exact ⟨.ref _ h1, .ref _, .ref _⟩)
    | maybe m h1 => cases hb <;> simp [r0] at hs <;> first | omega | (subst hs; simp only [Int.min_self, Int.max_self, joS_zero, Bool.and_self]; exact ⟨.maybe _ h1, .maybe _, .maybe _⟩)
    | cell m lo hi h1 h2 h3 h4 =>
      cases hb with
      | cell m' lo' hi' g1 g2 g3 g4 =>
        dsimp only at hs
        obtain ⟨_, rfl⟩ := hs
        simp only [joS_zero, Bool.and_self]
        exact ⟨.cell _ _ _ h1 (by omega) (by omega) (by omega), .cell _ _ _ _ _ (by omega) (by omega), .cell _ _ _ _ _ (by omega) (by omega)⟩
      | _ => simp [r0] at hs; try omega
  · by_cases hM : (isM a (max a.m b.m) && isM b (max a.m b.m)) = true
    · have e : rJoin a b = zm (max a.m b.m) := by unfold rJoin; rw [if_neg hs, if_pos hM]
      rw [e]
      rw [Bool.and_eq_true] at hM
      have := Rm_m ha
      exact ⟨.maybe _ (by omega), Ri_isM ha hM.1, Ri_isM hb hM.2⟩
    · have e : rJoin a b = r0 := by unfold rJoin; rw [if_neg hs, if_neg hM]
      rw [e]
      exact ⟨.none, .none _, .none _⟩
theorem rJoin_same {a b : Rg} (hs : a.k = b.k ∧ a.m = b.m) : rJoin a b = ⟨a.k, a.l && b.l, a.m, joinX a.s b.s, min a.lo b.lo, max a.hi b.hi⟩ := by unfold rJoin; rw [if_pos hs]
theorem rJoin_zm {a b : Rg} {m : Int} (hs : a.k ≠ b.k) (hm : max a.m b.m = m) (h1 : isM a m = true) (h2 : isM b m = true) : rJoin a b = zm m := by
  unfold rJoin; rw [if_neg (fun h => hs h.1), hm, if_pos (by rw [h1, h2]; rfl)]
theorem rj_num (l l' : Bool) (s s' : Sc) : rJoin ⟨1, l, 0, s, 0, 0⟩ ⟨1, l', 0, s', 0, 0⟩ = ⟨1, l && l', 0, joinX s s', 0, 0⟩ := rJoin_same (a := ⟨1, l, 0, s, 0, 0⟩) (b := ⟨1, l', 0, s', 0, 0⟩) ⟨rfl, rfl⟩
theorem rj_sp (k m lo hi lo' hi' : Int) : rJoin ⟨k, false, m, sc0, lo, hi⟩ ⟨k, false, m, sc0, lo', hi'⟩ = ⟨k, false, m, sc0, min lo lo', max hi hi'⟩ := by
  rw [rJoin_same (a := ⟨k, false, m, sc0, lo, hi⟩) (b := ⟨k, false, m, sc0, lo', hi'⟩) ⟨rfl, rfl⟩]
  simp only [joS_zero, Bool.and_self]
theorem rj_mz (l : Bool) (m : Int) (h : 0 ≤ m) : rJoin ⟨7, false, m, sc0, 0, 0⟩ ⟨1, l, 0, ofX 0#64, 0, 0⟩ = zm m := rJoin_zm (by dsimp only; omega) (by dsimp only; omega) (isM_self m) (isM_zero _ m)
theorem rj_zm (l : Bool) (m : Int) (h : 0 ≤ m) : rJoin ⟨1, l, 0, ofX 0#64, 0, 0⟩ ⟨7, false, m, sc0, 0, 0⟩ = zm m := rJoin_zm (by dsimp only; omega) (by dsimp only; omega) (isM_zero _ m) (isM_self m)
theorem rj_mc (m : Int) : rJoin ⟨7, false, m, sc0, 0, 0⟩ ⟨6, false, m, sc0, 0, 0⟩ = zm m := rJoin_zm (by dsimp only; omega) (by dsimp only; omega) (isM_self m) (isM_cell m)
theorem rj_cm (m : Int) : rJoin ⟨6, false, m, sc0, 0, 0⟩ ⟨7, false, m, sc0, 0, 0⟩ = zm m := rJoin_zm (by dsimp only; omega) (by dsimp only; omega) (isM_cell m) (isM_self m)
theorem rj_zc (l : Bool) (m : Int) (h : 0 ≤ m) : rJoin ⟨1, l, 0, ofX 0#64, 0, 0⟩ ⟨6, false, m, sc0, 0, 0⟩ = zm m := rJoin_zm (by dsimp only; omega) (by dsimp only; omega) (isM_zero _ m) (isM_cell m)
theorem rj_cz (l : Bool) (m : Int) (h : 0 ≤ m) : rJoin ⟨6, false, m, sc0, 0, 0⟩ ⟨1, l, 0, ofX 0#64, 0, 0⟩ = zm m := rJoin_zm (by dsimp only; omega) (by dsimp only; omega) (isM_cell m) (isM_zero _ m)
theorem rJoin_least' {a b c c' : Rg} (ha : Rm a) (hb : Rm b) (hc : Rm c) (h : Ri a c) (k : Ri b c') (e : c = c') : Ri (rJoin a b) c := by
  cases h with
  | none => exact .none _
  | num l l' s s' h1 h2 =>
    cases k <;> (try (simp [r0] at e; done)) <;> (try (simp at e; omega))
    rename_i hx hy
    simp at e
    obtain ⟨e1, e2⟩ := e
    subst e1 e2
    rw [rj_num]
    exact .num _ _ _ _ (joS_least h1 hx) (fun q => by rw [h2 q, hy q]; rfl)
  | ctx =>
    cases k <;> (try (simp [r0] at e; done)) <;> (try omega)
    · simp only [rj_sp]; exact .ctx
    · simp at e; omega
  | far kk lo hi lo' hi' h1 h2 h3 =>
    cases k <;> simp [r0] at e <;> (try omega)
    obtain ⟨e1, e2, e3⟩ := e
    subst e1 e2 e3
    rw [rj_sp]
    exact .far _ _ _ _ _ h1 (by omega) (by omega)
  | ref m =>
    cases k <;> simp [r0] at e <;> (try omega)
    subst e
    rw [rj_sp]
    exact .ref _
  | maybe m =>
    have hm := Rm_m hc
    dsimp only at hm
    cases k <;> simp [r0] at e <;> (try omega)
    all_goals subst e
    · rw [rj_sp]
      exact .maybe _
    · rw [rj_mz _ _ hm]
      exact .maybe _
    · rw [rj_mc]
      exact .maybe _
  | cell m lo hi lo' hi' h1 h2 =>
    cases k <;> simp [r0] at e <;> (try omega)
    obtain ⟨e1, e2, e3⟩ := e
    subst e1 e2 e3
    rw [rj_sp]
    exact .cell _ _ _ _ _ (by omega) (by omega)
  | zero l m =>
    have hm := Rm_m hc
    dsimp only at hm
    cases k <;> simp [r0] at e <;> (try omega)
    all_goals subst e
    · rw [rj_zm _ _ hm]
      exact .maybe _
    · rw [rj_num, joS_zz]
      exact .zero _ _
    · rw [rj_zc _ _ hm]
      exact .maybe _
  | cell0 m =>
    have hm := Rm_m hc
    dsimp only at hm
    cases k <;> simp [r0] at e <;> (try omega)
    all_goals subst e
    · rw [rj_cm]
      exact .maybe _
    · rw [rj_cz _ _ hm]
      exact .maybe _
    · rw [rj_sp]
      exact .cell0 _
theorem rJoin_least {a b c : Rg} (ha : Rm a) (hb : Rm b) (hc : Rm c) (h : Ri a c) (k : Ri b c) : Ri (rJoin a b) c := rJoin_least' ha hb hc h k rfl
theorem rJoin_ok {a b : Rg} (ha : Rm a) (hb : Rm b) : Rm (rJoin a b) := (rJoin_up ha hb).1
end Go.Proofs.Ytoanbjnhoggpjaa

namespace Go.Proofs.Ytoanbjnhoggpjaa
set_option linter.unusedSimpArgs false
set_option linter.unusedVariables false
set_option maxRecDepth 100000
open Go.RowKit Me

/-- What is known of a slot. -/
structure Sk where
  h : B8
  r : Rg
deriving DecidableEq
def k0 : Sk := ⟨0#8, r0⟩
def anyR : Rg := ⟨1, false, 0, allX, 0, 0⟩
def sure (x : Sk) : B8 := if x.r.k = 0 then x.h else if x.r.k = 1 then 255#8 else 0#8
def kMay (x : Sk) : Bool := rB x.r r0 || (rMay x.r && (x.h == 255#8))
def byI (n : Int) : B8 := BitVec.ofNat 8 n.toNat
def kHolds (x : Sk) (s : Sl) (p : Int) : Bool :=
  if x.r.k = 0 then (x.h == 0#8) || (decide (s.v = v0) && sub8 x.h (byI s.h))
  else if s.v = v0 then (s.h == 255) && rHolds x.r ⟨1, 0, numL s.b, 0⟩ p
  else rHolds x.r s.v p
def kIn (a b : Sk) : Bool :=
  if b.r.k = 0 then sub8 b.h (sure a)
  else if a.r.k = 0 then (a.h == 255#8) && rB b.r anyR
  else rIn a.r b.r
def kJoin (a b : Sk) : Sk := if (rJoin a.r b.r).k = 0 then ⟨sure a &&& sure b, r0⟩ else ⟨255#8, rJoin a.r b.r⟩
theorem kMay_iff (x : Sk) : kMay x = true ↔ x.r = r0 ∨ (x.r.k ≠ 0 ∧ Rm x.r ∧ x.h = 255#8) := by
  unfold kMay
  simp only [Bool.or_eq_true, Bool.and_eq_true, rB_iff, rMay_iff, beq_iff_eq]
  constructor
  · rintro (h | ⟨h1, h2⟩)
    · exact .inl h
    · by_cases e : x.r.k = 0
      · left
        revert e
        generalize x.r = r at h1
        cases h1 <;> simp <;> omega
      · exact .inr ⟨e, h1, h2⟩
  · rintro (h | ⟨h0, h1, h2⟩)
    · exact .inl h
    · exact .inr ⟨h1, h2⟩
theorem kMay_Rm {x : Sk} (h : kMay x = true) : Rm x.r := by
  rcases (kMay_iff x).1 h with e | ⟨_, e, _⟩
  · rw [e]; exact .none
  · exact e
theorem Rm_none {r : Rg} (h : Rm r) (k : r.k = 0) : r = r0 := by
  cases h <;> simp [r0] at k ⊢ <;> omega
theorem kind_up {a b : Rg} (h : Ri a b) (hb : b.k ≠ 0) : a.k ≠ 0 := by
  cases h <;> simp [r0] at hb ⊢ <;> omega
theorem kind_num {a b : Rg} (h : Ri a b) (hb : b.k = 1) : a.k = 1 := by
  cases h <;> simp [r0] at hb ⊢ <;> omega
theorem kHolds_in {a b : Sk} {s : Sl} {p : Int} (ha : kMay a = true) (hb' : kMay b = true) (hr : rightS s = true) (hs : SOk s) (h : kHolds a s p = true) (k : kIn a b = true) : kHolds b s p = true := by
  have ra := kMay_Rm ha
  have rb := kMay_Rm hb'
  have hN := numL_bd s.b hs.2.2.1
  rw [hs.2.1] at hN
  have okN : VOk ⟨1, 0, numL s.b, 0⟩ := by
    have h1 := hN.1
    have h2 := hN.2
    unfold VOk
    dsimp only
    omega
  have mN : mayB ⟨1, 0, numL s.b, 0⟩ = true := by unfold mayB; simp
  have adr : s.v ≠ v0 → mayB s.v = true ∧ s.v.k ≠ 1 := by
    intro e
    unfold rightS at hr
    rw [if_neg e] at hr
    simp only [Bool.and_eq_true, adrB] at hr
    exact ⟨hr.1, by have := hr.2.1.2; simpa using this⟩
  unfold kHolds at h ⊢
  unfold kIn at k
  by_cases b0 : b.r.k = 0
  · rw [if_pos b0] at k ⊢
    rw [Bool.or_eq_true, Bool.and_eq_true, beq_iff_eq, decide_eq_true_eq]
    have zero : sub8 b.h 0#8 = true → b.h = 0#8 := fun e => by
      have := (sub8_iff _ _).1 e
      rw [show (~~~0#8 : B8) = BitVec.allOnes 8 from rfl, BitVec.and_allOnes] at this
      exact this
    unfold sure at k
    by_cases a0 : a.r.k = 0
    · rw [if_pos a0] at k h
      rw [Bool.or_eq_true, Bool.and_eq_true, beq_iff_eq, decide_eq_true_eq] at h
      rcases h with h | ⟨h1, h2⟩
      · rw [h] at k; exact .inl (zero k)
      · exact .inr ⟨h1, sub8_trans k h2⟩
    · rw [if_neg a0] at k h
      by_cases a1 : a.r.k = 1
      · by_cases e : s.v = v0
        · rw [if_pos e, Bool.and_eq_true, beq_iff_eq] at h
          rw [h.1]
          exact .inr ⟨e, sub8_all _⟩
        · rw [if_neg e] at h
          unfold rHolds at h
          rw [if_neg a0, if_pos a1, Bool.and_eq_true, beq_iff_eq] at h
          exact absurd h.1 (adr e).2
      · rw [if_neg a1] at k
        exact .inl (zero k)
  · rw [if_neg b0] at k ⊢
    by_cases a0 : a.r.k = 0
    · rw [if_pos a0] at k h
      rw [Bool.and_eq_true, beq_iff_eq, rB_iff] at k
      obtain ⟨k1, k2⟩ := k
      rw [Bool.or_eq_true, Bool.and_eq_true, beq_iff_eq, decide_eq_true_eq, k1] at h
      rcases h with h | ⟨h1, h2⟩
      · exact absurd h (by decide)
      · rw [if_pos h1, k2]
        have e : s.h = 255 := by
          have h3 := (sub8_iff _ _).1 h2
          have h4 : byI s.h = 255#8 := by
            have h5 : ~~~(byI s.h) = 0#8 := by
              rw [show (255#8 : B8) = BitVec.allOnes 8 from rfl, BitVec.allOnes_and] at h3
              exact h3
            have := congrArg (fun z : B8 => ~~~z) h5
            simpa using this
          have := congrArg BitVec.toNat h4
          unfold byI at this
          rw [BitVec.toNat_ofNat] at this
          have hh := hs.1
          have : s.h.toNat % 256 = 255 := this
          omega
        rw [e]
        unfold rHolds anyR
        simp only [Int.reduceEq, if_false, if_true]
        rw [(hasX_iff _ _).2 ⟨allX_may, allX_has _⟩]
        rfl
    · rw [if_neg a0] at k h
      have i := Ri_of ra rb k
      by_cases e : s.v = v0
      · rw [if_pos e, Bool.and_eq_true] at h ⊢
        exact ⟨h.1, rHolds_in mN okN h.2 i⟩
      · rw [if_neg e] at h ⊢
        exact rHolds_in (adr e).1 hs.2.2.2 h i
theorem kIn_refl {a : Sk} (h : kMay a = true) : kIn a a = true := by
  unfold kIn
  by_cases a0 : a.r.k = 0
  · rw [if_pos a0]; unfold sure; rw [if_pos a0]; exact sub8_refl _
  · rw [if_neg a0, if_neg a0]; exact of_Ri (Ri_refl (kMay_Rm h))
theorem sub8_none {x : B8} (h : sub8 255#8 0#8 = true) : False := by revert h; decide
theorem any_up' {b c : Rg} (h : Ri b c) (hb : b = anyR) (hc : c.k ≠ 0) : c = anyR := by
  cases h with
  | none => exact absurd rfl hc
  | num l l' s s' h1 h2 =>
    unfold anyR at hb ⊢
    injection hb with _ e1 _ e3 _ _
    subst e1 e3
    have e := allX_only h1
    subst e
    cases l' with
    | false => rfl
    | true => exact absurd (h2 rfl) (by decide)
  | zero l m =>
    unfold anyR at hb
    injection hb with _ _ _ e3 _ _
    exact absurd e3 (by decide +kernel)
  | far k lo hi lo' hi' h1 h2 h3 =>
    unfold anyR at hb
    injection hb with e0 _ _ _ _ _
    omega
  | _ =>
    unfold anyR at hb
    injection hb with e0 _ _ _ _ _
    omega
theorem any_up {b c : Rg} (h : Ri b c) (hb : b = anyR) (hc : c.k ≠ 0) : c = anyR := any_up' h hb hc
theorem kIn_trans {a b c : Sk} (ha : kMay a = true) (hb' : kMay b = true) (hc : kMay c = true) (h : kIn a b = true) (k : kIn b c = true) : kIn a c = true := by
  have ra := kMay_Rm ha
  have rb := kMay_Rm hb'
  have rc := kMay_Rm hc
  unfold kIn at h k ⊢
  by_cases c0 : c.r.k = 0
  · rw [if_pos c0] at k ⊢
    by_cases b0 : b.r.k = 0
    · rw [if_pos b0] at h
      refine sub8_trans k ?_
      unfold sure at k ⊢
      rw [if_pos b0]
      exact h
    · rw [if_neg b0] at h
      refine sub8_trans k ?_
      by_cases a0 : a.r.k = 0
      · rw [if_pos a0, Bool.and_eq_true, beq_iff_eq] at h
        have : sure a = 255#8 := by unfold sure; rw [if_pos a0, h.1]
        rw [this]; exact sub8_all _
      · rw [if_neg a0] at h
        have i := Ri_of ra rb h
        by_cases b1 : b.r.k = 1
        · have : sure a = 255#8 := by unfold sure; rw [if_neg a0, if_pos (kind_num i b1)]
          rw [this]; exact sub8_all _
        · have : sure b = 0#8 := by unfold sure; rw [if_neg b0, if_neg b1]
          rw [this]; exact sub8_zero _
  · rw [if_neg c0] at k ⊢
    by_cases b0 : b.r.k = 0
    · rw [if_pos b0, Bool.and_eq_true, beq_iff_eq, rB_iff] at k
      rw [if_pos b0, k.1] at h
      unfold sure at h
      by_cases a0 : a.r.k = 0
      · rw [if_pos a0] at h ⊢
        rw [Bool.and_eq_true, beq_iff_eq, rB_iff]
        refine ⟨?_, k.2⟩
        have h3 := (sub8_iff _ _).1 h
        have h5 : ~~~a.h = 0#8 := by
          rw [show (255#8 : B8) = BitVec.allOnes 8 from rfl, BitVec.allOnes_and] at h3
          exact h3
        have := congrArg (fun z : B8 => ~~~z) h5
        simpa using this
      · rw [if_neg a0] at h ⊢
        by_cases a1 : a.r.k = 1
        · rw [k.2]
          have e : ∃ l s, mayX s = true ∧ a.r = ⟨1, l, 0, s, 0, 0⟩ := by
            revert a1
            generalize a.r = r at ra
            cases ra <;> simp [r0] <;> (try omega) <;> assumption
          obtain ⟨l, s, ms, e⟩ := e
          rw [e]
          exact of_Ri (.num _ _ _ _ (allX_in ms) (fun q => by cases q))
        · rw [if_neg a1] at h
          exact absurd h (by decide)
    · rw [if_neg b0] at h k
      by_cases a0 : a.r.k = 0
      · rw [if_pos a0, Bool.and_eq_true, rB_iff] at h ⊢
        exact ⟨h.1, any_up (Ri_of rb rc k) h.2 c0⟩
      · rw [if_neg a0] at h ⊢
        exact of_Ri (Ri_trans ra (Ri_of ra rb h) (Ri_of rb rc k))
theorem rJoin_r0l (b : Rg) : (rJoin r0 b).k = 0 := by
  unfold rJoin
  split
  · rfl
  · rw [if_neg]
    · rfl
    · have : isM r0 (max r0.m b.m) = false := by unfold isM r0; simp
      rw [this]; simp
theorem rJoin_r0r (a : Rg) : (rJoin a r0).k = 0 := by
  unfold rJoin
  split
  · rename_i h; rw [h.1]; rfl
  · rw [if_neg]
    · rfl
    · have : isM r0 (max a.m r0.m) = false := by unfold isM r0; simp
      rw [this]; simp
theorem kJoin_ok {a b : Sk} (ha : kMay a = true) (hb' : kMay b = true) : kMay (kJoin a b) = true := by
  rw [kMay_iff]
  unfold kJoin
  by_cases e : (rJoin a.r b.r).k = 0
  · rw [if_pos e]; exact .inl rfl
  · rw [if_neg e]; exact .inr ⟨e, rJoin_ok (kMay_Rm ha) (kMay_Rm hb'), rfl⟩
theorem kJoin_up {a b : Sk} (ha : kMay a = true) (hb' : kMay b = true) : kIn a (kJoin a b) = true ∧ kIn b (kJoin a b) = true := by
  have ra := kMay_Rm ha
  have rb := kMay_Rm hb'
  unfold kJoin kIn
  by_cases e : (rJoin a.r b.r).k = 0
  · rw [if_pos e]
    rw [if_pos (show r0.k = 0 from rfl), if_pos (show r0.k = 0 from rfl)]
    exact ⟨sub8_and_l _ _, sub8_and_r _ _⟩
  · rw [if_neg e]
    dsimp only
    rw [if_neg e, if_neg e]
    obtain ⟨_, u1, u2⟩ := rJoin_up ra rb
    rw [if_neg (kind_up u1 e), if_neg (kind_up u2 e)]
    exact ⟨of_Ri u1, of_Ri u2⟩
theorem sure_not {x : Sk} (h0 : x.r.k ≠ 0) (h1 : x.r.k ≠ 1) : sure x = 0#8 := by unfold sure; rw [if_neg h0, if_neg h1]
theorem join_kind1 {a b : Rg} (ha : Rm a) (hb' : Rm b) (h1 : a.k = 1) (h2 : b.k = 1) : (rJoin a b).k = 1 := by
  have m1 : a.m = 0 := by revert h1; cases ha <;> simp [r0] <;> omega
  have m2 : b.m = 0 := by revert h2; cases hb' <;> simp [r0] <;> omega
  rw [rJoin_same ⟨by rw [h1, h2], by rw [m1, m2]⟩]
  exact h1
theorem kJoin_least {a b c : Sk} (ha : kMay a = true) (hb' : kMay b = true) (hc : kMay c = true) (h : kIn a c = true) (k : kIn b c = true) : kIn (kJoin a b) c = true := by
  have ra := kMay_Rm ha
  have rb := kMay_Rm hb'
  have rc := kMay_Rm hc
  unfold kIn at h k
  by_cases c0 : c.r.k = 0
  · rw [if_pos c0] at h k
    unfold kIn
    rw [if_pos c0]
    unfold kJoin
    by_cases e : (rJoin a.r b.r).k = 0
    · rw [if_pos e]
      show sub8 c.h (sure ⟨sure a &&& sure b, r0⟩) = true
      rw [show sure ⟨sure a &&& sure b, r0⟩ = sure a &&& sure b from rfl]
      exact sub8_and h k
    · rw [if_neg e]
      by_cases e1 : (rJoin a.r b.r).k = 1
      · have : sure ⟨255#8, rJoin a.r b.r⟩ = 255#8 := by unfold sure; dsimp only; rw [if_neg e, if_pos e1]
        rw [this]; exact sub8_all _
      · obtain ⟨_, u1, u2⟩ := rJoin_up ra rb
        have n1 := kind_up u1 e
        have n2 := kind_up u2 e
        have : sure a = 0#8 ∨ sure b = 0#8 := by
          by_cases q1 : a.r.k = 1
          · by_cases q2 : b.r.k = 1
            · exact absurd (join_kind1 ra rb q1 q2) e1
            · exact .inr (sure_not n2 q2)
          · exact .inl (sure_not n1 q1)
        rcases this with q | q
        · rw [q] at h; exact sub8_trans h (sub8_zero _)
        · rw [q] at k; exact sub8_trans k (sub8_zero _)
  · rw [if_neg c0] at h k
    have num : ∀ {x : Rg}, Rm x → Ri x anyR → x.k = 1 := fun _ i => kind_num i rfl
    by_cases a0 : a.r.k = 0
    · rw [if_pos a0, Bool.and_eq_true, beq_iff_eq, rB_iff] at h
      have ea := Rm_none ra a0
      have sa : sure a = 255#8 := by unfold sure; rw [if_pos a0, h.1]
      have sb : sure b = 255#8 := by
        by_cases b0 : b.r.k = 0
        · rw [if_pos b0, Bool.and_eq_true, beq_iff_eq] at k
          unfold sure; rw [if_pos b0, k.1]
        · rw [if_neg b0, h.2] at k
          unfold sure
          rw [if_neg b0, if_pos (num rb (Ri_of rb (by rw [← h.2]; exact rc) k))]
      unfold kIn kJoin
      rw [ea, if_neg c0, if_pos (rJoin_r0l _)]
      rw [if_pos (show r0.k = 0 from rfl), Bool.and_eq_true, beq_iff_eq, rB_iff, sa, sb]
      exact ⟨by decide, h.2⟩
    · rw [if_neg a0] at h
      by_cases b0 : b.r.k = 0
      · rw [if_pos b0, Bool.and_eq_true, beq_iff_eq, rB_iff] at k
        have eb := Rm_none rb b0
        have sb : sure b = 255#8 := by unfold sure; rw [if_pos b0, k.1]
        have sa : sure a = 255#8 := by
          rw [k.2] at h
          unfold sure
          rw [if_neg a0, if_pos (num ra (Ri_of ra (by rw [← k.2]; exact rc) h))]
        unfold kIn kJoin
        rw [eb, if_neg c0, if_pos (rJoin_r0r _)]
        rw [if_pos (show r0.k = 0 from rfl), Bool.and_eq_true, beq_iff_eq, rB_iff, sa, sb]
        exact ⟨by decide, k.2⟩
      · rw [if_neg b0] at k
        have i := rJoin_least ra rb rc (Ri_of ra rc h) (Ri_of rb rc k)
        have e := kind_up i c0
        unfold kIn kJoin
        rw [if_neg e, if_neg c0]
        dsimp only
        rw [if_neg e]
        exact of_Ri i

/-! ### States -/
structure St where
  rg : Nat → Rg
  sk : Nat → Sk
  p : Int
structure Vw where
  vs : Nat → Vl
  fr : Nat → Sl
  p : Int
def st0 : St := ⟨fun _ => r0, fun _ => k0, 0⟩
def lenB (p : Int) : Bool := decide (0 ≤ p) && decide (p ≤ 65535)
def allR (f : Nat → Bool) : Bool := (List.range 11).all f
def allK (f : Nat → Bool) : Bool := (List.range 64).all f
theorem allR_iff (f : Nat → Bool) : allR f = true ↔ ∀ k, k < 11 → f k = true := by simp [allR, List.all_eq_true, List.mem_range]
theorem allK_iff (f : Nat → Bool) : allK f = true ↔ ∀ k, k < 64 → f k = true := by simp [allK, List.all_eq_true, List.mem_range]
def sMay (S : St) : Bool := allR (fun k => rMay (S.rg k)) && (allK (fun k => kMay (S.sk k)) && lenB S.p)
def wMay (V : Vw) : Bool := allR (fun k => mayB (V.vs k)) && (rightF V.fr && lenB V.p)
def sHolds (S : St) (V : Vw) : Bool := sMay S && (wMay V && (decide (S.p ≤ V.p) && (allR (fun k => rHolds (S.rg k) (V.vs k) V.p) && allK (fun k => kHolds (S.sk k) (V.fr k) V.p))))
def sIn (A B : St) : Bool := sMay A && (sMay B && (decide (B.p ≤ A.p) && (allR (fun k => rIn (A.rg k) (B.rg k)) && allK (fun k => kIn (A.sk k) (B.sk k)))))
def sJoin (A B : St) : St := if (sMay A && sMay B) = true then ⟨fun k => rJoin (A.rg k) (B.rg k), fun k => kJoin (A.sk k) (B.sk k), min A.p B.p⟩ else st0
def begS : St := ⟨fun k => if k = 1 then ⟨2, false, 0, sc0, 0, 0⟩ else if k = 10 then ⟨4, false, 0, sc0, 512, 512⟩ else r0, fun _ => k0, 0⟩
def StOk (S : St) : Prop := (∀ k, k < 11 → ROk (S.rg k)) ∧ (∀ k, k < 64 → ROk (S.sk k).r) ∧ (-9223372036854775808 ≤ S.p ∧ S.p < 9223372036854775808)
def VwOk (V : Vw) : Prop := (∀ k, k < 11 → VOk (V.vs k)) ∧ FOk V.fr ∧ (-9223372036854775808 ≤ V.p ∧ V.p < 9223372036854775808)
theorem sMay_iff (S : St) : sMay S = true ↔ (∀ k, k < 11 → Rm (S.rg k)) ∧ (∀ k, k < 64 → kMay (S.sk k) = true) ∧ 0 ≤ S.p ∧ S.p ≤ 65535 := by
  unfold sMay lenB
  simp only [Bool.and_eq_true, allR_iff, allK_iff, rMay_iff, decide_eq_true_eq]
theorem sHolds_iff (S : St) (V : Vw) : sHolds S V = true ↔ sMay S = true ∧ wMay V = true ∧ S.p ≤ V.p ∧ (∀ k, k < 11 → rHolds (S.rg k) (V.vs k) V.p = true) ∧ (∀ k, k < 64 → kHolds (S.sk k) (V.fr k) V.p = true) := by
  unfold sHolds
  simp only [Bool.and_eq_true, allR_iff, allK_iff, decide_eq_true_eq]
theorem sIn_iff (A B : St) : sIn A B = true ↔ sMay A = true ∧ sMay B = true ∧ B.p ≤ A.p ∧ (∀ k, k < 11 → Ri (A.rg k) (B.rg k)) ∧ (∀ k, k < 64 → kIn (A.sk k) (B.sk k) = true) := by
  unfold sIn
  simp only [Bool.and_eq_true, allR_iff, allK_iff, decide_eq_true_eq]
  constructor
  · rintro ⟨h1, h2, h3, h4, h5⟩
    exact ⟨h1, h2, h3, fun k hk => Ri_of (((sMay_iff A).1 h1).1 k hk) (((sMay_iff B).1 h2).1 k hk) (h4 k hk), h5⟩
  · rintro ⟨h1, h2, h3, h4, h5⟩
    exact ⟨h1, h2, h3, fun k hk => of_Ri (h4 k hk), h5⟩
theorem wMay_iff (V : Vw) : wMay V = true ↔ (∀ k, k < 11 → mayB (V.vs k) = true) ∧ rightF V.fr = true ∧ 0 ≤ V.p ∧ V.p ≤ 65535 := by
  unfold wMay lenB
  simp only [Bool.and_eq_true, allR_iff, decide_eq_true_eq]
theorem right_at {F : Nat → Sl} (h : rightF F = true) (k : Nat) (hk : k < 64) : rightS (F k) = true := by
  unfold rightF at h
  exact List.all_eq_true.1 h k (List.mem_range.2 hk)
theorem sHolds_in {A B : St} {V : Vw} (hV : VwOk V) (h : sHolds A V = true) (k : sIn A B = true) : sHolds B V = true := by
  obtain ⟨h1, h2, h3, h4, h5⟩ := (sHolds_iff _ _).1 h
  obtain ⟨k1, k2, k3, k4, k5⟩ := (sIn_iff _ _).1 k
  obtain ⟨w1, w2, w3⟩ := (wMay_iff _).1 h2
  obtain ⟨a1, a2, a3⟩ := (sMay_iff _).1 k1
  obtain ⟨b1, b2, b3⟩ := (sMay_iff _).1 k2
  refine (sHolds_iff _ _).2 ⟨k2, h2, by omega, fun i hi => rHolds_in (w1 i hi) (hV.1 i hi) (h4 i hi) (k4 i hi), fun i hi => kHolds_in (a2 i hi) (b2 i hi) (right_at w2 i hi) (hV.2.1 i hi) (h5 i hi) (k5 i hi)⟩
theorem sJoin_is {A B : St} (ha : sMay A = true) (hb' : sMay B = true) : sJoin A B = ⟨fun k => rJoin (A.rg k) (B.rg k), fun k => kJoin (A.sk k) (B.sk k), min A.p B.p⟩ := by
  unfold sJoin; simp only [ha, hb', Bool.and_self, if_true]
theorem sJoin_up {A B : St} (ha : sMay A = true) (hb' : sMay B = true) : sMay (sJoin A B) = true ∧ sIn A (sJoin A B) = true ∧ sIn B (sJoin A B) = true := by
  rw [sJoin_is ha hb']
  obtain ⟨a1, a2, a3⟩ := (sMay_iff _).1 ha
  obtain ⟨b1, b2, b3⟩ := (sMay_iff _).1 hb'
  have m : sMay ⟨fun k => rJoin (A.rg k) (B.rg k), fun k => kJoin (A.sk k) (B.sk k), min A.p B.p⟩ = true :=
    (sMay_iff _).2 ⟨fun k hk => rJoin_ok (a1 k hk) (b1 k hk), fun k hk => kJoin_ok (a2 k hk) (b2 k hk), by dsimp only; omega⟩
  exact ⟨m, (sIn_iff _ _).2 ⟨ha, m, by dsimp only; omega, fun k hk => (rJoin_up (a1 k hk) (b1 k hk)).2.1, fun k hk => (kJoin_up (a2 k hk) (b2 k hk)).1⟩,
    (sIn_iff _ _).2 ⟨hb', m, by dsimp only; omega, fun k hk => (rJoin_up (a1 k hk) (b1 k hk)).2.2, fun k hk => (kJoin_up (a2 k hk) (b2 k hk)).2⟩⟩
theorem sIn_may {A B : St} (h : sIn A B = true) : sMay A = true ∧ sMay B = true := by
  obtain ⟨h1, h2, _⟩ := (sIn_iff _ _).1 h
  exact ⟨h1, h2⟩
theorem sIn_self (A : St) : sIn A A = sMay A := by
  rw [Bool.eq_iff_iff]
  constructor
  · intro h; exact (sIn_may h).1
  · intro h
    obtain ⟨a1, a2, a3⟩ := (sMay_iff _).1 h
    exact (sIn_iff _ _).2 ⟨h, h, Int.le_refl _, fun k hk => Ri_refl (a1 k hk), fun k hk => kIn_refl (a2 k hk)⟩
theorem sIn_trans {A B C : St} (h : sIn A B = true) (k : sIn B C = true) : sIn A C = true := by
  obtain ⟨h1, h2, h3, h4, h5⟩ := (sIn_iff _ _).1 h
  obtain ⟨k1, k2, k3, k4, k5⟩ := (sIn_iff _ _).1 k
  obtain ⟨a1, a2, a3⟩ := (sMay_iff _).1 h1
  obtain ⟨b1, b2, b3⟩ := (sMay_iff _).1 h2
  obtain ⟨c1, c2, c3⟩ := (sMay_iff _).1 k2
  exact (sIn_iff _ _).2 ⟨h1, k2, by omega, fun i hi => Ri_trans (a1 i hi) (h4 i hi) (k4 i hi), fun i hi => kIn_trans (a2 i hi) (b2 i hi) (c2 i hi) (h5 i hi) (k5 i hi)⟩
theorem sJoin_least {A B C : St} (h : sIn A C = true) (k : sIn B C = true) : sIn (sJoin A B) C = true := by
  obtain ⟨h1, h2, h3, h4, h5⟩ := (sIn_iff _ _).1 h
  obtain ⟨k1, k2, k3, k4, k5⟩ := (sIn_iff _ _).1 k
  obtain ⟨a1, a2, a3⟩ := (sMay_iff _).1 h1
  obtain ⟨b1, b2, b3⟩ := (sMay_iff _).1 k1
  obtain ⟨c1, c2, c3⟩ := (sMay_iff _).1 k2
  have m := (sJoin_up h1 k1).1
  rw [sJoin_is h1 k1] at m ⊢
  exact (sIn_iff _ _).2 ⟨m, k2, by dsimp only; omega, fun i hi => rJoin_least (a1 i hi) (b1 i hi) (c1 i hi) (h4 i hi) (k4 i hi), fun i hi => kJoin_least (a2 i hi) (b2 i hi) (c2 i hi) (h5 i hi) (k5 i hi)⟩
end Go.Proofs.Ytoanbjnhoggpjaa

namespace Go.Proofs.Ytoanbjnhoggpjaa
set_option linter.unusedSimpArgs false
set_option linter.unusedVariables false
set_option maxRecDepth 100000
set_option maxRecDepth 100000
open Go.ChangeShapes Go.WideShapes Go.ChangeAt Go.RowKit Me

def rC (r : Rg) : List Value := [.int .u8 r.k, .bool r.l, .int .i64 r.m, .int .u64 (ub r.s.1.1), .int .u64 (ub r.s.1.2), .int .u64 (ub r.s.2.1), .int .u64 (ub r.s.2.2), .int .i64 r.lo, .int .i64 r.hi]
def rV (r : Rg) : Value := .agg #[.int .u8 r.k, .bool r.l, .int .i64 r.m, .int .u64 (ub r.s.1.1), .int .u64 (ub r.s.1.2), .int .u64 (ub r.s.2.1), .int .u64 (ub r.s.2.2), .int .i64 r.lo, .int .i64 r.hi]
theorem rV_is (r : Rg) : rV r = .agg (rC r).toArray := rfl
def kC (x : Sk) : List Value := .int .u8 (vb x.h) :: rC x.r
def kV (x : Sk) : Value := .agg #[.int .u8 (vb x.h), .int .u8 x.r.k, .bool x.r.l, .int .i64 x.r.m, .int .u64 (ub x.r.s.1.1), .int .u64 (ub x.r.s.1.2), .int .u64 (ub x.r.s.2.1), .int .u64 (ub x.r.s.2.2), .int .i64 x.r.lo, .int .i64 x.r.hi]
theorem kV_is (x : Sk) : kV x = .agg (kC x).toArray := rfl
theorem rC_len (r : Rg) : (rC r).length = 9 := rfl
theorem kC_len (x : Sk) : (kC x).length = 10 := rfl
def regC (f : Nat → Rg) : List Value := (List.range 11).flatMap fun k => rC (f k)
def stkC (f : Nat → Sk) : List Value := (List.range 64).flatMap fun k => kC (f k)
def valC (f : Nat → Vl) : List Value := (List.range 11).flatMap fun k => vC (f k)
def stC (S : St) : List Value := regC S.rg ++ (stkC S.sk ++ [.int .i64 S.p])
def stV (S : St) : Value := .agg (stC S).toArray
def vwC (V : Vw) : List Value := valC V.vs ++ (fC V.fr ++ [.int .i64 V.p])
def vwV (V : Vw) : Value := .agg (vwC V).toArray
theorem vC_len (v : Vl) : (vC v).length = 4 := rfl
theorem regC_len (f : Nat → Rg) : (regC f).length = 99 := flat_len _ 9 11 (fun k _ => rC_len _)
theorem stkC_len (f : Nat → Sk) : (stkC f).length = 640 := flat_len _ 10 64 (fun k _ => kC_len _)
theorem valC_len (f : Nat → Vl) : (valC f).length = 44 := flat_len _ 4 11 (fun k _ => vC_len _)
theorem stC_len (S : St) : (stC S).length = 740 := by unfold stC; simp [regC_len, stkC_len]
theorem vwC_len (V : Vw) (h : FOk V.fr) : (vwC V).length = 877 := by unfold vwC; simp [valC_len, fC_len h]
theorem stC_reg (S : St) (i j : Nat) (hi : i < 11) (hj : j < 9) : (stC S)[i * 9 + j]? = (rC (S.rg i))[j]? := by
  unfold stC
  rw [List.getElem?_append_left (by rw [regC_len]; omega)]
  exact flat_at _ 9 11 (fun k _ => rC_len _) i j hi hj
theorem stC_slot (S : St) (i j : Nat) (hi : i < 64) (hj : j < 10) : (stC S)[99 + (i * 10 + j)]? = (kC (S.sk i))[j]? := by
  unfold stC
  rw [List.getElem?_append_right (by rw [regC_len]; omega), regC_len, Nat.add_sub_cancel_left, List.getElem?_append_left (by rw [stkC_len]; omega)]
  exact flat_at _ 10 64 (fun k _ => kC_len _) i j hi hj
theorem stC_pkt (S : St) : (stC S)[739]? = some (.int .i64 S.p) := by
  unfold stC
  rw [List.getElem?_append_right (by rw [regC_len]; omega), regC_len, List.getElem?_append_right (by rw [stkC_len]; omega), stkC_len]
  rfl
theorem vwC_val (V : Vw) (i j : Nat) (hi : i < 11) (hj : j < 4) : (vwC V)[i * 4 + j]? = (vC (V.vs i))[j]? := by
  unfold vwC
  rw [List.getElem?_append_left (by rw [valC_len]; omega)]
  exact flat_at _ 4 11 (fun k _ => vC_len _) i j hi hj
theorem vwC_slot (V : Vw) (h : FOk V.fr) (i j : Nat) (hi : i < 64) (hj : j < 13) : (vwC V)[44 + (i * 13 + j)]? = (sC (V.fr i))[j]? := by
  unfold vwC
  rw [List.getElem?_append_right (by rw [valC_len]; omega), valC_len, Nat.add_sub_cancel_left, List.getElem?_append_left (by rw [fC_len h]; omega)]
  exact flat_at _ 13 64 (fun k hk => sC_len (h k hk)) i j hi hj
theorem vwC_fr (V : Vw) (h : FOk V.fr) (j : Nat) (hj : j < 832) : (vwC V)[44 + j]? = (fC V.fr)[j]? := by
  unfold vwC
  rw [List.getElem?_append_right (by rw [valC_len]; omega), valC_len, Nat.add_sub_cancel_left, List.getElem?_append_left (by rw [fC_len h]; omega)]
theorem vwC_pkt (V : Vw) (h : FOk V.fr) : (vwC V)[876]? = some (.int .i64 V.p) := by
  unfold vwC
  rw [List.getElem?_append_right (by rw [valC_len]; omega), valC_len, List.getElem?_append_right (by rw [fC_len h]; omega), fC_len h]
  rfl
theorem range_reg {w : World} {g : Nat} {S : St} (hr : w.rangeAt g 0 (stC S)) (k : Nat) (hk : k < 11) : w.rangeAt g (k * 9) (rC (S.rg k)) := fun j v hv => by
  have hj : j < 9 := by have := (List.getElem?_eq_some_iff.1 hv).1; rwa [rC_len] at this
  have := hr (k * 9 + j) v (by rw [stC_reg S k j hk hj]; exact hv)
  rwa [Nat.zero_add] at this
theorem range_slot {w : World} {g : Nat} {S : St} (hr : w.rangeAt g 0 (stC S)) (k : Nat) (hk : k < 64) : w.rangeAt g (99 + k * 10) (kC (S.sk k)) := fun j v hv => by
  have hj : j < 10 := by have := (List.getElem?_eq_some_iff.1 hv).1; rwa [kC_len] at this
  have := hr (99 + (k * 10 + j)) v (by rw [stC_slot S k j hk hj]; exact hv)
  rwa [Nat.zero_add, ← Nat.add_assoc] at this
theorem range_pkt {w : World} {g : Nat} {S : St} (hr : w.rangeAt g 0 (stC S)) : w.cell? ⟨g, 739, none⟩ = some (.int .i64 S.p) := by
  have := hr 739 _ (stC_pkt S)
  rwa [Nat.zero_add] at this
theorem range_val {w : World} {g : Nat} {V : Vw} (hr : w.rangeAt g 0 (vwC V)) (k : Nat) (hk : k < 11) : w.rangeAt g (k * 4) (vC (V.vs k)) := fun j v hv => by
  have hj : j < 4 := by have := (List.getElem?_eq_some_iff.1 hv).1; rwa [vC_len] at this
  have := hr (k * 4 + j) v (by rw [vwC_val V k j hk hj]; exact hv)
  rwa [Nat.zero_add] at this
theorem range_fslot {w : World} {g : Nat} {V : Vw} (h : FOk V.fr) (hr : w.rangeAt g 0 (vwC V)) (k : Nat) (hk : k < 64) : w.rangeAt g (44 + k * 13) (sC (V.fr k)) := fun j v hv => by
  have hj : j < 13 := by have := (List.getElem?_eq_some_iff.1 hv).1; rwa [sC_len (h k hk)] at this
  have := hr (44 + (k * 13 + j)) v (by rw [vwC_slot V h k j hk hj]; exact hv)
  rwa [Nat.zero_add, ← Nat.add_assoc] at this
theorem range_frame {w : World} {g : Nat} {V : Vw} (h : FOk V.fr) (hr : w.rangeAt g 0 (vwC V)) : w.rangeAt g 44 (fC V.fr) := fun j v hv => by
  have hj : j < 832 := by have := (List.getElem?_eq_some_iff.1 hv).1; rwa [fC_len h] at this
  have := hr (44 + j) v (by rw [vwC_fr V h j hj]; exact hv)
  rwa [Nat.zero_add] at this
theorem range_vpkt {w : World} {g : Nat} {V : Vw} (h : FOk V.fr) (hr : w.rangeAt g 0 (vwC V)) : w.cell? ⟨g, 876, none⟩ = some (.int .i64 V.p) := by
  have := hr 876 _ (vwC_pkt V h)
  rwa [Nat.zero_add] at this

/-! ### Comparisons -/
def rLit (r : Rg) : List Lit := [.int .u8 r.k, .bool r.l, .int .i64 r.m, .int .u64 (ub r.s.1.1), .int .u64 (ub r.s.1.2), .int .u64 (ub r.s.2.1), .int .u64 (ub r.s.2.2), .int .i64 r.lo, .int .i64 r.hi]
theorem rLit_inj {a b : Rg} (h : rLit a = rLit b) : a = b := by
  obtain ⟨k, l, m, ⟨⟨s1, s2⟩, s3, s4⟩, lo, hi⟩ := a
  obtain ⟨k', l', m', ⟨⟨s1', s2'⟩, s3', s4'⟩, lo', hi'⟩ := b
  simp only [rLit, List.cons.injEq, Lit.int.injEq, Lit.bool.injEq, true_and, and_true, ub_inj] at h
  obtain ⟨e0, e1, e2, e3, e4, e5, e6, e7, e8⟩ := h
  subst e0 e1 e2 e3 e4 e5 e6 e7 e8
  rfl
theorem yb4 : Try.prog.cellsOf 4 = 1 := by kernel_rfl
theorem y24 : Try.prog.cellsOf 24 = 2 := by kernel_rfl
theorem y26 : Try.prog.cellsOf 26 = 2 := by kernel_rfl
theorem y28 : Try.prog.cellsOf 28 = 4 := by kernel_rfl
theorem y30 : Try.prog.cellsOf 31 = 9 := by kernel_rfl
theorem y33 : Try.prog.cellsOf 34 = 10 := by kernel_rfl
theorem y36 : Try.prog.cellsOf 37 = 740 := by kernel_rfl
theorem yl_bool (D : Nat) (x : Bool) : Try.prog.keyLits (D + 1) 4 [.bool x] = some [.bool x] := by
  simp [Program.keyLits, Try.underlying4, Lit.wf]
theorem yl_ub (D : Nat) (x : B64) : Try.prog.keyLits (D + 1) 22 [.int .u64 (ub x)] = some [.int .u64 (ub x)] := kl_u64 D (ub x) ⟨ub_ge x, ub_lt x⟩
theorem yl_tn (D : Nat) (x y : B64) : Try.prog.keyLits (D + 2) 24 [.int .u64 (ub x), .int .u64 (ub y)] = some [.int .u64 (ub x), .int .u64 (ub y)] := by
  unfold Program.keyLits
  simp [Try.underlying24, c23, y24, yl_ub D]
theorem yl_sp (D : Nat) (x y : B64) : Try.prog.keyLits (D + 2) 26 [.int .u64 (ub x), .int .u64 (ub y)] = some [.int .u64 (ub x), .int .u64 (ub y)] := by
  unfold Program.keyLits
  simp [Try.underlying26, c23, y26, yl_ub D]
theorem yl_sc (D : Nat) (s : Sc) : Try.prog.keyLits (D + 3) 28 [.int .u64 (ub s.1.1), .int .u64 (ub s.1.2), .int .u64 (ub s.2.1), .int .u64 (ub s.2.2)] = some [.int .u64 (ub s.1.1), .int .u64 (ub s.1.2), .int .u64 (ub s.2.1), .int .u64 (ub s.2.2)] := by
  unfold Program.keyLits
  simp [Try.underlying28, y24, y26, y28, yl_tn D, yl_sp D]
theorem yl_r (D : Nat) (r : Rg) (h : ROk r) : Try.prog.keyLits (D + 4) 31 (rC r) = some (rLit r) := by
  obtain ⟨h1, h2, h3, h4⟩ := h
  unfold Program.keyLits
  simp [Try.underlying31, rC, rLit, y30, y28, yb4, c5, c3, c2, kl_u8 (D + 2) _ h1, yl_bool (D + 2), kl_i64 (D + 2) _ h2, yl_sc D r.s, kl_i64' (D + 2) _ h3, kl_i64' (D + 2) _ h4]
theorem yformed30 (r : Rg) : (rV r).formed Try.prog 31 = true := by
  simp [Value.formed, rV, Try.underlying31, y30]
theorem ykt30 : Try.prog.keyTypeAt 5 31 = true := by kernel_rfl
theorem yeqIn_r (a b : Rg) (ha : ROk a) (hb : ROk b) (W : World) : (Op.equalIn 10000 31 (rV a) (rV b)).run Try.prog W = .ok (rB a b) W := by
  obtain ⟨r, h1, h2⟩ := run_equalIn_deep (P := Try.prog) 9995 5 _ ykt30 W 4 4 (rV a) (rV b) (rLit a) (rLit b) (yformed30 a) (yformed30 b) (yl_r 0 a ha) (yl_r 0 b hb)
  rw [h1]
  congr 1
  rw [Bool.eq_iff_iff, h2, rB_iff]
  exact ⟨fun e => rLit_inj e, fun e => by rw [e]⟩
theorem eq_r (a b : Rg) (ha : ROk a) (hb : ROk b) (W : World) : (binOp .eql 31 (rV a) (rV b)).run Try.prog W = .ok (.bool (rB a b)) W := by
  rw [rV, rV, run_eql_struct, ← rV, ← rV, yeqIn_r a b ha hb]
  rfl
theorem bld_r0 (W : World) : (Instr.build 31 #[]).run Try.prog W = .ok (rV r0) W := by kernel_rfl
theorem bld_r_k (k : Int) (W : World) : (Instr.build 31 #[(0, .int .u8 k)]).run Try.prog W = .ok (.agg #[.int .u8 k, .bool false, .int .i64 0, .int .u64 0, .int .u64 0, .int .u64 0, .int .u64 0, .int .i64 0, .int .i64 0]) W := by kernel_rfl
end Go.Proofs.Ytoanbjnhoggpjaa
