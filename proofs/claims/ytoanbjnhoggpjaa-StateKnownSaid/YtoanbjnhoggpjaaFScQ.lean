/-
  Plain scalars: halves, operations, what they hold.
-/
import Derived.Test.YtoanbjnhoggpjaaFScP
import Derived.Test.YtoanbjnhoggpjaaFSpTp
import Derived.Test.YtoanbjnhoggpjaaFTnMr
namespace Go.Proofs.Ytoanbjnhoggpjaa
set_option linter.unusedSimpArgs false
set_option linter.unusedVariables false
set_option maxRecDepth 100000
open Go.RowKit

def allT : Tn := (0#64, 18446744073709551615#64)
def lowT (t : Tn) (l : Nat) : Tn := (t.1 &&& lowB l, t.2 &&& lowB l)
def allX : Sc := (allT, allT)
def belowX (c : Bool) : Sc := if c then allX else ((0#64, 4294967295#64), (0#64, 4294967295#64))
def ofX (n : B64) : Sc := ((n, 0#64), (n, n))
def halfX (s : Sc) : Sc := if s.2.2.toNat ≤ 4294967295 then s else (settle (lowT s.1 32, (0#64, 4294967295#64))).getD sc0
def halfW (c : Bool) (s : Sc) : Sc := if c then s else halfX s
def singleX (s : Sc) : Bool := s.2.1 == s.2.2
def shX (op : Int) (c : Bool) (t : Tn) (k : Nat) : Tn :=
  if op = 6 then (t.1 <<< k, t.2 <<< k) else if op = 7 then (t.1 >>> k, t.2 >>> k)
  else if op = 12 then (arB (64 - sizeW c) k (sizeW c) t.1, arB (64 - sizeW c) k (sizeW c) t.2) else allT
def bitsX (op : Int) (c : Bool) (a b : Sc) : Tn :=
  if op = 0 then sumT a.1 b.1 else if op = 1 then subT a.1 b.1 else if op = 2 then mulT a.1 b.1 else if op = 4 then orT a.1 b.1
  else if op = 5 then andT a.1 b.1 else if op = 10 then xorT a.1 b.1 else if op = 8 then subT t0 a.1 else if op = 11 then b.1
  else if singleX b then shX op c a.1 (b.2.1.toNat % sizeW c) else allT
/-- The tnum and the span of a result, ahead of settling. -/
def rawX (op : Int) (c : Bool) (a b : Sc) : Sc := (lowT (bitsX op c (halfW c a) (halfW c b)) (sizeW c), aluT op c (halfW c a).2 (halfW c b).2)
def opIs (op : Int) : Prop := 0 ≤ op ∧ op ≤ 12
instance (op : Int) : Decidable (opIs op) := by unfold opIs; infer_instance
def scAluE (op : Int) (a b : Sc) : Int := if mayX a = true ∧ mayX b = true then (if opIs op then 0 else 20) else 1
def scAluT (op : Int) (c : Bool) (a b : Sc) : Sc := if (mayX a = true ∧ mayX b = true) ∧ opIs op then (settle (rawX op c a b)).getD (belowX c) else sc0

theorem mayX_parts {x : Sc} (h : mayX x = true) : tmay x.1 = true ∧ x.2.1.toNat ≤ x.2.2.toNat ∧ mayS x.2 = true := by
  obtain ⟨o, s⟩ := (mayX_iff x).1 h
  obtain ⟨m1, m2, m3⟩ := scOk_may o
  rw [show endsP x = x.2 from congrArg Prod.snd s] at m3
  exact ⟨m1, m3, decide_eq_true m3⟩
theorem mayX_hull {x : Sc} (h : mayX x = true) : x.1.1.toNat ≤ x.2.1.toNat ∧ x.2.2.toNat ≤ (x.1.1 ||| x.1.2).toNat := by
  obtain ⟨o, s⟩ := (mayX_iff x).1 h
  obtain ⟨e1, e2⟩ := meetP_toNat x.2 (hull x.1)
  have k : endsP x = x.2 := congrArg Prod.snd s
  unfold endsP at k
  rw [k] at e1 e2
  unfold hull at e1 e2
  dsimp only at e1 e2
  omega
/-- What is settled and has one number. -/
theorem settle_bits_one {x : Sc} {n : B64} (h : hasB x n) (h0 : x.1.2 = 0#64) : settle x = some (ofX n) := by
  obtain ⟨y, e, hy⟩ := settle_has h
  have hl := settle_le e
  have hm := settled e
  rw [e]
  have y2 : y.1.2 = 0#64 := b_ext fun i hi => by
    obtain ⟨_, _, k, _⟩ := (tin_iff _ _).1 hl.1
    rw [bt_zero]
    cases hb : bt y.1.2 i
    · rfl
    · have := k i hi hb
      rw [h0, bt_zero] at this
      cases this
  have y1 : y.1.1 = n := b_ext fun i hi => by
    have := hs_bit ((has_iff _ _).1 hy.1).2 i hi
    rw [y2, bt_zero] at this
    rw [this]; simp
  obtain ⟨u1, u2⟩ := mayX_hull hm
  obtain ⟨l1, l2⟩ := hy.2
  rw [y2, y1] at u2
  rw [y1] at u1
  have o : n ||| 0#64 = n := BitVec.or_zero
  rw [o] at u2
  congr 1
  refine Prod.ext (Prod.ext y1 y2) (tn_ext ?_ ?_)
  · show y.2.1.toNat = n.toNat; omega
  · show y.2.2.toNat = n.toNat; omega
theorem rg_one (n : B64) : rgT n n = (n, 0#64) := by
  have h : (rgT n n).2 = 0#64 := by
    have := rg_eq n n
    rw [beq_self_eq_true, eq_comm, beq_iff_eq] at this
    exact this
  have h1 : (rgT n n).1 = n := b_ext fun i hi => by
    have := hs_bit ((has_iff _ _).1 (rg_lo n n)).2 i hi
    rw [h, bt_zero] at this
    rw [this]; simp
  exact Prod.ext h1 h
theorem settle_span_one {x : Sc} {n : B64} (h : hasB x n) (h0 : x.2 = (n, n)) : settle x = some (ofX n) := by
  obtain ⟨y, e, hy⟩ := settle_has h
  have hl := settle_le e
  have hm := settled e
  rw [e]
  have y2 : y.2 = (n, n) := by
    have k1 := hl.2.1
    have k2 := hl.2.2
    obtain ⟨l1, l2⟩ := hy.2
    rw [h0] at k1 k2
    apply tn_ext
    · show y.2.1.toNat = n.toNat; dsimp only at k1; omega
    · show y.2.2.toNat = n.toNat; dsimp only at k2; omega
  obtain ⟨o, s⟩ := (mayX_iff y).1 hm
  obtain ⟨m1, m2, m3⟩ := scOk_may o
  have s1 : meetT y.1 (rgX y) = y.1 := congrArg Prod.fst s
  have s2 : endsP y = y.2 := congrArg Prod.snd s
  have r : rgX y = (n, 0#64) := by unfold rgX; rw [s2, y2]; exact rg_one n
  rw [r] at s1
  have z : y.1.2 = 0#64 := by
    have := congrArg Prod.snd s1
    rw [← this]
    show y.1.2 &&& 0#64 = 0#64
    exact BitVec.and_zero
  have y1 : y.1.1 = n := b_ext fun i hi => by
    have := hs_bit ((has_iff _ _).1 hy.1).2 i hi
    rw [z, bt_zero] at this
    rw [this]; simp
  congr 1
  exact Prod.ext (Prod.ext y1 z) y2
theorem ofX_has (n : B64) : hasB (ofX n) n := by
  refine ⟨?_, Nat.le_refl _, Nat.le_refl _⟩
  rw [has_iff, hs_iff]
  refine ⟨may_of fun i hi => ?_, fun i hi => ?_⟩
  · show (bt n i && bt 0#64 i) = false
    rw [bt_zero]; simp
  · show bt n i = (bt n i && !bt 0#64 i)
    rw [bt_zero]; simp
theorem ofX_may (n : B64) : mayX (ofX n) = true := by
  rw [mayX_settle]
  exact settle_bits_one (ofX_has n) rfl
theorem lowB_top (c : Bool) : lowB (sizeW c) = topW c := by cases c <;> decide
theorem low_top (c : Bool) {n : B64} (h : n.toNat < modW c) : n &&& lowB (sizeW c) = n := by
  rw [lowB_top]
  apply BitVec.eq_of_toNat_eq
  rw [and_top]
  exact Nat.mod_eq_of_lt h
theorem allT_has (n : B64) : Hs allT n := by
  show n &&& ~~~18446744073709551615#64 = 0#64
  rw [show (~~~18446744073709551615#64 : B64) = 0#64 by decide, BitVec.and_zero]
theorem allT_may : tmay allT = true := by decide
theorem allX_has (n : B64) : hasB allX n := ⟨(has_iff _ _).2 ⟨allT_may, allT_has n⟩, Nat.zero_le _, by have := n.isLt; show n.toNat ≤ 18446744073709551615; omega⟩
theorem top32_has {n : B64} (h : n.toNat ≤ 4294967295) : Hs (0#64, 4294967295#64) n := by
  have e : n &&& lowB (sizeW false) = n := low_top false (by show n.toNat < 4294967296; omega)
  refine b_ext fun i hi => ?_
  show bt (n &&& ~~~4294967295#64) i = bt 0#64 i
  have hb : bt n i = (bt n i && bt (lowB 32) i) := by
    have h2 : bt (n &&& lowB (sizeW false)) i = bt n i := congrArg (fun z => bt z i) e
    rw [bt_and] at h2
    exact h2.symm
  rw [bt_and, bt_not _ _ hi, bt_zero, hb, show (4294967295#64 : B64) = lowB 32 by decide]
  cases bt n i <;> cases bt (lowB 32) i <;> rfl
theorem belowX_has (c : Bool) {n : B64} (h : n.toNat < modW c) : hasB (belowX c) n := by
  cases c
  · exact ⟨(has_iff _ _).2 ⟨by decide, top32_has (by have : n.toNat < 4294967296 := h; omega)⟩, Nat.zero_le _, by have : n.toNat < 4294967296 := h; show n.toNat ≤ 4294967295; omega⟩
  · exact allX_has n
/-- A half holds the halves. -/
theorem halfX_has {s : Sc} (hm : mayX s = true) {x : B64} (h : hasB s x) : hasB (halfX s) (x &&& topW false) ∧ mayX (halfX s) = true := by
  unfold halfX
  by_cases e : s.2.2.toNat ≤ 4294967295
  · rw [if_pos e]
    have hx : x &&& topW false = x := by
      have := low_top false (n := x) (by have := h.2.2; show x.toNat < 4294967296; omega)
      rw [lowB_top] at this
      exact this
    rw [hx]
    exact ⟨h, hm⟩
  · rw [if_neg e]
    have hb : hasB (lowT s.1 32, (0#64, 4294967295#64)) (x &&& topW false) := by
      refine ⟨(has_iff _ _).2 ⟨cut_may (mayX_parts hm).1 32, ?_⟩, Nat.zero_le _, ?_⟩
      · have := cut_hs ((has_iff _ _).1 h.1).2 32
        rw [show topW false = lowB 32 by decide]
        exact this
      · show (x &&& topW false).toNat ≤ 4294967295
        rw [and_top]
        have : x.toNat % 4294967296 < 4294967296 := Nat.mod_lt _ (by decide)
        show x.toNat % 4294967296 ≤ 4294967295
        omega
    obtain ⟨y, e2, hy⟩ := settle_has hb
    rw [e2]
    exact ⟨hy, settled e2⟩
theorem sc0_may : mayX sc0 = true := ofX_may 0#64
theorem getD_may {x : Option Sc} {d : Sc} (h : ∀ y, x = some y → mayX y = true) (hd : mayX d = true) : mayX (x.getD d) = true := by
  cases x with
  | none => exact hd
  | some y => exact h y rfl
theorem allX_may : mayX allX = true := by
  rw [mayX_iff]
  unfold scOk scN endsP rgX endsP meetP hull rgT butT LL
  decide +kernel
theorem belowX_may (c : Bool) : mayX (belowX c) = true := by
  cases c
  · rw [mayX_iff]; decide +kernel
  · exact allX_may
theorem halfX_may {s : Sc} (hm : mayX s = true) : mayX (halfX s) = true := by
  unfold halfX
  by_cases e : s.2.2.toNat ≤ 4294967295
  · rw [if_pos e]; exact hm
  · rw [if_neg e]; exact getD_may (fun y h => settled h) sc0_may
theorem halfW_may (c : Bool) {s : Sc} (hm : mayX s = true) : mayX (halfW c s) = true := by
  cases c
  · exact halfX_may hm
  · exact hm
theorem and_topT (x : B64) : x &&& topW true = x := by
  rw [show topW true = BitVec.allOnes 64 from rfl]; exact BitVec.and_allOnes
theorem halfW_has (c : Bool) {s : Sc} (hm : mayX s = true) {x : B64} (h : hasB s x) : hasB (halfW c s) (x &&& topW c) := by
  cases c
  · exact (halfX_has hm h).1
  · show hasB s (x &&& topW true)
    rw [and_topT]; exact h
theorem shl_hs {t : Tn} {x : B64} (h : Hs t x) (n : Nat) : Hs (t.1 <<< n, t.2 <<< n) (x <<< n) := b_ext fun i hi => by
  dsimp only
  rw [bt_and, bt_not _ _ hi, bt_shl _ _ _ hi, bt_shl _ _ _ hi, bt_shl _ _ _ hi]
  by_cases h6 : n ≤ i
  · rw [hs_bit h _ (by omega)]; simp [h6]
  · simp [h6]
theorem shl_may {t : Tn} (h : tmay t = true) (n : Nat) : tmay (t.1 <<< n, t.2 <<< n) = true := may_of fun i hi => by
  dsimp only
  rw [bt_shl _ _ _ hi, bt_shl _ _ _ hi]
  have := may_bit h (i - n)
  revert this
  cases decide (n ≤ i) <;> simp
theorem sizeW_two (c : Bool) : sizeW c = 32 ∨ sizeW c = 64 := by cases c <;> simp [sizeW]
theorem shX_may (op : Int) (c : Bool) {t : Tn} (h : tmay t = true) (k : Nat) (hk : k < sizeW c) : tmay (shX op c t k) = true := by
  unfold shX
  split
  · exact shl_may h k
  split
  · exact shr_may h k
  split
  · exact ar_may h (sizeW c) k (sizeW_two c) hk
  · exact allT_may
theorem sizeW_pos (c : Bool) : 0 < sizeW c := by cases c <;> decide
theorem bitsX_may (op : Int) (c : Bool) {a b : Sc} (ha : tmay a.1 = true) (hb : tmay b.1 = true) : tmay (bitsX op c a b) = true := by
  unfold bitsX
  split
  · exact but_may _ _
  split
  · exact but_may _ _
  split
  · exact mul_may _ _
  split
  · exact but_may _ _
  split
  · exact but_may _ _
  split
  · exact but_may _ _
  split
  · exact but_may _ _
  split
  · exact hb
  split
  · exact shX_may _ _ ha _ (Nat.mod_lt _ (sizeW_pos c))
  · exact allT_may
theorem drB_itr (c : Bool) (x : B64) (hx : x.toNat < modW c) : ∀ k, drB (1#64 <<< (sizeW c - 1)) x k = itr (sizeW c) x k
  | 0 => rfl
  | k + 1 => by
    have ih := drB_itr c x hx k
    show drB (1#64 <<< (sizeW c - 1)) x k / 2#64 + (drB (1#64 <<< (sizeW c - 1)) x k &&& 1#64 <<< (sizeW c - 1)) = stp (sizeW c) (itr (sizeW c) x k)
    rw [ih]
    have hb : ∀ i, sizeW c ≤ i → bt x i = false := fun i hi => by
      unfold bt
      rw [BitVec.getLsbD]
      refine Nat.testBit_lt_two_pow (Nat.lt_of_lt_of_le hx ?_)
      rw [modW_pow]
      exact Nat.pow_le_pow_right (by decide) hi
    have e : (itr (sizeW c) x k) / 2#64 = (itr (sizeW c) x k) >>> 1 := by
      apply BitVec.eq_of_toNat_eq
      rw [BitVec.toNat_udiv, BitVec.toNat_ushiftRight, Nat.shiftRight_eq_div_pow]; rfl
    unfold stp
    rw [e]
    apply BitVec.add_eq_or_of_and_eq_zero
    apply b_ext
    intro i hi
    have hs2 : (sizeW c) = 32 ∨ (sizeW c) = 64 := sizeW_two c
    rw [bt_and, bt_shr, bt_and, bt_shl _ _ _ hi, one_bit, bt_zero]
    by_cases h1 : i = sizeW c - 1
    · have : bt (itr (sizeW c) x k) (1 + i) = false := by
        by_cases h6 : 1 + i < 64
        · rw [itr_bit _ hs2 x hb k (1 + i) h6, decide_eq_false (by omega)]; rfl
        · exact bt_out _ _ (by omega)
      rw [this]; rfl
    · have : (decide (sizeW c - 1 ≤ i) && decide (i - (sizeW c - 1) = 0)) = false := by
        rw [Bool.and_eq_false_iff]
        by_cases h2 : sizeW c - 1 ≤ i
        · right; exact decide_eq_false (by omega)
        · left; exact decide_eq_false h2
      rw [this]; simp
theorem hi_bits (c : Bool) {x : B64} (hx : x.toNat < modW c) : ∀ i, sizeW c ≤ i → bt x i = false := fun i hi => by
  unfold bt
  rw [BitVec.getLsbD]
  refine Nat.testBit_lt_two_pow (Nat.lt_of_lt_of_le hx ?_)
  rw [modW_pow]
  exact Nat.pow_le_pow_right (by decide) hi
theorem t0_hs : Hs t0 0#64 := by unfold Hs t0; simp
theorem top_idem (c : Bool) (x : B64) : x &&& topW c &&& topW c = x &&& topW c := by rw [BitVec.and_assoc, BitVec.and_self]
/-- What the tnum of an operation holds. -/
theorem bits_sound (op : Int) (h0 : 0 ≤ op) (h1 : op ≤ 12) (c : Bool) (a b : Sc) (ha : tmay a.1 = true) (hb : tmay b.1 = true) (x y : B64) (hx : hasB a x) (hy : hasB b y)
    (lx : x.toNat < modW c) (ly : y.toNat < modW c) (ln : (oneC op.toNat c x y).toNat < modW c) : thas (lowT (bitsX op c a b) (sizeW c)) (oneC op.toNat c x y) = true := by
  rw [has_iff]
  refine ⟨cut_may (bitsX_may op c ha hb) _, ?_⟩
  have HX := ((has_iff _ _).1 hx.1).2
  have HY := ((has_iff _ _).1 hy.1).2
  have key : ∀ m : B64, Hs (bitsX op c a b) m → m &&& lowB (sizeW c) = oneC op.toNat c x y → Hs (lowT (bitsX op c a b) (sizeW c)) (oneC op.toNat c x y) := by
    intro m h e
    rw [← e]
    exact cut_hs h _
  have lt := lowB_top c
  have keep := low_top c ln
  have sh : ∀ z : Tn, (singleX b = true → Hs z (oneC op.toNat c x y)) → Hs (if singleX b = true then z else allT) (oneC op.toNat c x y) := by
    intro z hz
    by_cases e : singleX b = true
    · rw [if_pos e]; exact hz e
    · rw [if_neg e]; exact allT_has _
  have one : singleX b = true → y = b.2.1 := by
    intro e
    unfold singleX at e
    rw [beq_iff_eq] at e
    have l := hy.2
    unfold Lies at l
    rw [← e] at l
    exact BitVec.eq_of_toNat_eq (by omega)
  have cnt : shB c y = y.toNat % sizeW c := by
    unfold shB; rw [BitVec.toNat_umod]; cases c <;> rfl
  have sk := shB_lt c y
  obtain rfl | rfl | rfl | rfl | rfl | rfl | rfl | rfl | rfl | rfl | rfl | rfl | rfl : op = 0 ∨ op = 1 ∨ op = 2 ∨ op = 3 ∨ op = 4 ∨ op = 5 ∨ op = 6 ∨ op = 7 ∨ op = 8 ∨ op = 9 ∨ op = 10 ∨ op = 11 ∨ op = 12 := by omega
  · exact key _ (sum_sound ha hb HX HY) (by rw [lt]; rfl)
  · exact key _ (sub_sound ha hb HX HY) (by rw [lt]; rfl)
  · exact key _ (mul_sound ha hb HX HY) (by rw [lt]; rfl)
  · exact key (oneC 3 c x y) (sh _ fun _ => allT_has _) keep
  · exact key _ (or_sound ha hb HX HY) keep
  · exact key _ (and_sound ha hb HX HY) keep
  · refine key (if singleX b = true then x <<< shB c y else oneC 6 c x y) ?_ ?_
    · show Hs (if singleX b = true then shX 6 c a.1 (b.2.1.toNat % sizeW c) else allT) _
      by_cases e : singleX b = true
      · rw [if_pos e, if_pos e, ← one e, ← cnt]; exact shl_hs HX _
      · rw [if_neg e, if_neg e]; exact allT_has _
    · by_cases e : singleX b = true
      · rw [if_pos e, lt]
        show _ = x * (1#64 <<< shB c y) &&& topW c
        congr 1
        apply BitVec.eq_of_toNat_eq
        rw [BitVec.toNat_shiftLeft, Nat.shiftLeft_eq, BitVec.toNat_mul, sh_pow, cnt]
      · rw [if_neg e]; exact keep
  · refine key (oneC 7 c x y) (sh _ fun e => ?_) keep
    have v : oneC 7 c x y = x >>> (b.2.1.toNat % sizeW c) := by
      show x / (1#64 <<< shB c y) = _
      apply BitVec.eq_of_toNat_eq
      rw [BitVec.toNat_udiv, sh_pow, BitVec.toNat_ushiftRight, Nat.shiftRight_eq_div_pow, ← one e]
    show Hs (shX 7 c a.1 (b.2.1.toNat % sizeW c)) (oneC 7 c x y)
    rw [v]
    exact shr_hs HX _
  · refine key _ (sub_sound (by decide) ha t0_hs HX) (by rw [lt]; rfl)
  · exact key (oneC 9 c x y) (sh _ fun _ => allT_has _) keep
  · exact key _ (xor_sound ha hb HX HY) keep
  · exact key _ HY keep
  · refine key (oneC 12 c x y) (sh _ fun e => ?_) keep
    have v : oneC 12 c x y = arB (64 - sizeW c) (b.2.1.toNat % sizeW c) (sizeW c) x := by
      show drB (1#64 <<< (sizeW c - 1)) x (shB c y) = _
      rw [drB_itr c x lx, cnt, ← one e]
      exact itr_ar _ (sizeW_two c) x (hi_bits c lx) _ (Nat.mod_lt _ (sizeW_pos c))
    show Hs (shX 12 c a.1 (b.2.1.toNat % sizeW c)) (oneC 12 c x y)
    rw [v]
    exact ar_hs HX _ _ (sizeW_two c) (Nat.mod_lt _ (sizeW_pos c))
theorem and_lt (c : Bool) (x : B64) : (x &&& topW c).toNat < modW c := by rw [and_top]; exact Nat.mod_lt _ (modW_pos c)
theorem raw_sound (op : Int) (ho : opIs op) (c : Bool) {a b : Sc} (ha : mayX a = true) (hb : mayX b = true) {x y : B64} (hx : hasB a x) (hy : hasB b y) : hasB (rawX op c a b) (oneB op.toNat c x y) := by
  have ha' := halfW_may c ha
  have hb' := halfW_may c hb
  have kx := halfW_has c ha hx
  have ky := halfW_has c hb hy
  have hok : aluOk op (halfW c a).2 (halfW c b).2 := ⟨ho.1, ho.2, (mayX_parts ha').2.2, (mayX_parts hb').2.2⟩
  have s := alu_sound op c _ _ hok _ _ kx.2 ky.2
  have e : oneB op.toNat c (x &&& topW c) (y &&& topW c) = oneC op.toNat c (x &&& topW c) (y &&& topW c) := by unfold oneB; rw [top_idem, top_idem]
  rw [e] at s
  have ln : (oneC op.toNat c (x &&& topW c) (y &&& topW c)).toNat < modW c := by have := s.1.2; omega
  exact ⟨bits_sound op ho.1 ho.2 c _ _ (mayX_parts ha').1 (mayX_parts hb').1 _ _ kx ky (and_lt c x) (and_lt c y) ln, s.1⟩
/-- An operation's answer holds what it makes of the numbers that are held. -/
theorem scAlu_sound (op : Int) (ho : opIs op) (c : Bool) {a b : Sc} (ha : mayX a = true) (hb : mayX b = true) {x y : B64} (hx : hasB a x) (hy : hasB b y) :
    hasB (scAluT op c a b) (oneB op.toNat c x y) ∧ mayX (scAluT op c a b) = true := by
  unfold scAluT
  rw [if_pos ⟨⟨ha, hb⟩, ho⟩]
  obtain ⟨z, e, hz⟩ := settle_has (raw_sound op ho c ha hb hx hy)
  rw [e]
  exact ⟨hz, settled e⟩
theorem halfW_one (c : Bool) (x : B64) : halfW c (ofX x) = ofX (x &&& topW c) := by
  cases c
  · show halfX (ofX x) = _
    unfold halfX
    by_cases e : (ofX x).2.2.toNat ≤ 4294967295
    · rw [if_pos e]
      have hx := low_top false (n := x) (by have : x.toNat ≤ 4294967295 := e; show x.toNat < 4294967296; omega)
      rw [lowB_top] at hx
      rw [hx]
    · rw [if_neg e]
      have h := (halfX_has (ofX_may x) (ofX_has x)).1
      unfold halfX at h
      rw [if_neg e] at h
      have hb : hasB (lowT (ofX x).1 32, (0#64, 4294967295#64)) (x &&& topW false) := by
        cases es : settle (lowT (ofX x).1 32, (0#64, 4294967295#64)) with
        | some y => rw [es] at h; exact (settle_hasB es _).1 h
        | none =>
          exfalso
          refine settle_no es (x &&& topW false) ⟨(has_iff _ _).2 ⟨cut_may (mayX_parts (ofX_may x)).1 32, ?_⟩, Nat.zero_le _, ?_⟩
          · have := cut_hs ((has_iff _ _).1 (ofX_has x).1).2 32
            rw [show topW false = lowB 32 by decide]
            exact this
          · have := and_lt false x
            have e2 : modW false = 4294967296 := rfl
            show (x &&& topW false).toNat ≤ 4294967295
            omega
      rw [settle_bits_one hb (by show 0#64 &&& lowB 32 = 0#64; simp)]
      rfl
  · show ofX x = ofX (x &&& topW true)
    rw [and_topT]
theorem sum_one0 {a b : Tn} (ha : a.2 = 0#64) (hb : b.2 = 0#64) : (sumT a b).2 = 0#64 := by
  unfold sumT butT
  dsimp only
  rw [ha, hb]
  simp
theorem mulN_one0 {a b : Tn} (ha : a.2 = 0#64) (hb : b.2 = 0#64) : ∀ k, (mulN a b k).2 = 0#64
  | 0 => rfl
  | k + 1 => by
    have ih := mulN_one0 ha hb k
    show (mulStep a b k (mulN a b k)).2 = 0#64
    unfold mulStep
    dsimp only
    rw [ha, bt_zero, if_neg (by decide)]
    split
    · exact sum_one0 ih (by unfold upT; rw [hb]; simp)
    · exact ih
/-- Of single numbers it is just that. -/
theorem scAlu_one (op : Int) (ho : opIs op) (c : Bool) (x y : B64) : scAluT op c (ofX x) (ofX y) = ofX (oneB op.toNat c x y) := by
  have hr := raw_sound op ho c (ofX_may x) (ofX_may y) (ofX_has x) (ofX_has y)
  unfold scAluT
  rw [if_pos ⟨⟨ofX_may x, ofX_may y⟩, ho⟩]
  have fin : settle (rawX op c (ofX x) (ofX y)) = some (ofX (oneB op.toNat c x y)) := by
    have e : oneB op.toNat c (x &&& topW c) (y &&& topW c) = oneB op.toNat c x y := by unfold oneB; rw [top_idem, top_idem]
    obtain ⟨_, k⟩ := alu_one op c (x &&& topW c) (y &&& topW c)
    obtain ⟨_, k2⟩ := k (by have := ho.1; omega) (by have := ho.2; omega)
    rw [e] at k2
    rcases k2 with k2 | ⟨_, h26, _⟩
    · refine settle_span_one hr ?_
      unfold rawX
      rw [halfW_one, halfW_one]
      exact k2
    · refine settle_bits_one hr ?_
      unfold rawX
      rw [halfW_one, halfW_one]
      rcases h26 with rfl | rfl
      · show (mulN (x &&& topW c, 0#64) (y &&& topW c, 0#64) 64).2 &&& lowB (sizeW c) = 0#64
        rw [mulN_one0 rfl rfl]; simp
      · show (bitsX 6 c (ofX (x &&& topW c)) (ofX (y &&& topW c))).2 &&& lowB (sizeW c) = 0#64
        have : bitsX 6 c (ofX (x &&& topW c)) (ofX (y &&& topW c)) = shX 6 c (x &&& topW c, 0#64) ((y &&& topW c).toNat % sizeW c) := by
          unfold bitsX
          rw [if_neg (by decide), if_neg (by decide), if_neg (by decide), if_neg (by decide), if_neg (by decide), if_neg (by decide), if_neg (by decide), if_neg (by decide), if_pos (by unfold singleX ofX; simp)]
          rfl
        rw [this]
        show 0#64 <<< _ &&& lowB (sizeW c) = 0#64
        simp
  rw [fin]
  rfl
end Go.Proofs.Ytoanbjnhoggpjaa
