import Derived.Test.YtodmikjpmcabiaaGreatZScP
import Derived.Test.YtodmikjpmcabiaaGreatZSpTp
import Derived.Test.YtodmikjpmcabiaaGreatZTnMr
namespace Go.Proofs.YtodmikjpmcabiaaGreat
set_option linter.unusedSimpArgs false
set_option linter.unusedVariables false
set_option maxRecDepth 100000
open Go.RowKit

def allT : Tn := (0#64, 18446744073709551615#64)
def lowT (t : Tn) (l : Nat) : Tn := (t.1 &&& lowB l, t.2 &&& lowB l)
def allX : Sc := (allT, allT)
def belowX (c : Bool) : Sc := if c then allX else ((0#64, 4294967295#64), (0#64, 4294967295#64))
def ofX (n : B64) : Sc := ((n, 0#64), (n, n))
def halfX (s : Sc) : Sc := if s.2.2.toNat ≤ 4294967295 then s else (settle (lowT s.1 32, (0#64, 4294967295#64))).getD sc0
def halfW (c : Bool) (s : Sc) : Sc := if c then s else halfX s
def singleX (s : Sc) : Bool := s.2.1 == s.2.2
def shX (op : Int) (c : Bool) (t : Tn) (k : Nat) : Tn :=
  if op = 6 then (t.1 <<< k, t.2 <<< k) else if op = 7 then (t.1 >>> k, t.2 >>> k)
  else if op = 12 then (arB (64 - sizeW c) k (sizeW c) t.1, arB (64 - sizeW c) k (sizeW c) t.2) else allT
def bitsX (op : Int) (c : Bool) (a b : Sc) : Tn :=
  if op = 0 then sumT a.1 b.1 else if op = 1 then subT a.1 b.1 else if op = 2 then mulT a.1 b.1 else if op = 4 then orT a.1 b.1
  else if op = 5 then andT a.1 b.1 else if op = 10 then xorT a.1 b.1 else if op = 8 then subT t0 a.1 else if op = 11 then b.1
  else if singleX b then shX op c a.1 (b.2.1.toNat % sizeW c) else allT
def rawX (op : Int) (c : Bool) (a b : Sc) : Sc := (lowT (bitsX op c (halfW c a) (halfW c b)) (sizeW c), aluT op c (halfW c a).2 (halfW c b).2)
def opIs (op : Int) : Prop := 0 ≤ op ∧ op ≤ 12
instance (op : Int) : Decidable (opIs op) := by unfold opIs; infer_instance
def scAluE (op : Int) (a b : Sc) : Int := if mayX a = true ∧ mayX b = true then (if opIs op then 0 else 20) else 1
def scAluT (op : Int) (c : Bool) (a b : Sc) : Sc := if (mayX a = true ∧ mayX b = true) ∧ opIs op then (settle (rawX op c a b)).getD (belowX c) else sc0

theorem mayX_parts {x : Sc} (h : mayX x = true) : tmay x.1 = true ∧ x.2.1.toNat ≤ x.2.2.toNat ∧ mayS x.2 = true := by
  obtain ⟨o, s⟩ := (mayX_iff x).1 h
  obtain ⟨m1, m2, m3⟩ := scOk_may o
  rw [show endsP x = x.2 from congrArg Prod.snd s] at m3
  exact ⟨m1, m3, decide_eq_true m3⟩
theorem mayX_hull {x : Sc} (h : mayX x = true) : x.1.1.toNat ≤ x.2.1.toNat ∧ x.2.2.toNat ≤ (x.1.1 ||| x.1.2).toNat := by
  obtain ⟨o, s⟩ := (mayX_iff x).1 h
  obtain ⟨e1, e2⟩ := meetP_toNat x.2 (hull x.1)
  have k : endsP x = x.2 := congrArg Prod.snd s
  unfold endsP at k
  rw [k] at e1 e2
  unfold hull at e1 e2
  dsimp only at e1 e2
  omega
theorem settle_bits_one {x : Sc} {n : B64} (h : hasB x n) (h0 : x.1.2 = 0#64) : settle x = some (ofX n) := by
  obtain ⟨y, e, hy⟩ := settle_has h
  have hl := settle_le e
  have hm := settled e
  rw [e]
  have y2 : y.1.2 = 0#64 := b_ext fun i hi => by
    obtain ⟨_, _, k, _⟩ := (tin_iff _ _).1 hl.1
    rw [bt_zero]
    cases hb : bt y.1.2 i
    · rfl
    · have := k i hi hb
      rw [h0, bt_zero] at this
      cases this
  have y1 : y.1.1 = n := b_ext fun i hi => by
    have := hs_bit ((has_iff _ _).1 hy.1).2 i hi
    rw [y2, bt_zero] at this
    rw [this]; simp
  obtain ⟨u1, u2⟩ := mayX_hull hm
  obtain ⟨l1, l2⟩ := hy.2
  rw [y2, y1] at u2
  rw [y1] at u1
  have o : n ||| 0#64 = n := BitVec.or_zero
  rw [o] at u2
  congr 1
  refine Prod.ext (Prod.ext y1 y2) (tn_ext ?_ ?_)
  · show y.2.1.toNat = n.toNat; omega
  · show y.2.2.toNat = n.toNat; omega
theorem rg_one (n : B64) : rgT n n = (n, 0#64) := by
  have h : (rgT n n).2 = 0#64 := by
    have := rg_eq n n
    rw [beq_self_eq_true, eq_comm, beq_iff_eq] at this
    exact this
  have h1 : (rgT n n).1 = n := b_ext fun i hi => by
    have := hs_bit ((has_iff _ _).1 (rg_lo n n)).2 i hi
    rw [h, bt_zero] at this
    rw [this]; simp
  exact Prod.ext h1 h
theorem ofX_has (n : B64) : hasB (ofX n) n := by
  refine ⟨?_, Nat.le_refl _, Nat.le_refl _⟩
  rw [has_iff, hs_iff]
  refine ⟨may_of fun i hi => ?_, fun i hi => ?_⟩
  · show (bt n i && bt 0#64 i) = false
    rw [bt_zero]; simp
  · show bt n i = (bt n i && !bt 0#64 i)
    rw [bt_zero]; simp
theorem ofX_may (n : B64) : mayX (ofX n) = true := by
  rw [mayX_settle]
  exact settle_bits_one (ofX_has n) rfl
theorem allT_may : tmay allT = true := by decide
theorem sc0_may : mayX sc0 = true := ofX_may 0#64
theorem getD_may {x : Option Sc} {d : Sc} (h : ∀ y, x = some y → mayX y = true) (hd : mayX d = true) : mayX (x.getD d) = true := by
  cases x with
  | none => exact hd
  | some y => exact h y rfl
theorem halfX_may {s : Sc} (hm : mayX s = true) : mayX (halfX s) = true := by
  unfold halfX
  by_cases e : s.2.2.toNat ≤ 4294967295
  · rw [if_pos e]; exact hm
  · rw [if_neg e]; exact getD_may (fun y h => settled h) sc0_may
theorem halfW_may (c : Bool) {s : Sc} (hm : mayX s = true) : mayX (halfW c s) = true := by
  cases c
  · exact halfX_may hm
  · exact hm
theorem shl_may {t : Tn} (h : tmay t = true) (n : Nat) : tmay (t.1 <<< n, t.2 <<< n) = true := may_of fun i hi => by
  dsimp only
  rw [bt_shl _ _ _ hi, bt_shl _ _ _ hi]
  have := may_bit h (i - n)
  revert this
  cases decide (n ≤ i) <;> simp
theorem sizeW_two (c : Bool) : sizeW c = 32 ∨ sizeW c = 64 := by cases c <;> simp [sizeW]
theorem shX_may (op : Int) (c : Bool) {t : Tn} (h : tmay t = true) (k : Nat) (hk : k < sizeW c) : tmay (shX op c t k) = true := by
  unfold shX
  split
  · exact shl_may h k
  split
  · exact shr_may h k
  split
  · exact ar_may h (sizeW c) k (sizeW_two c) hk
  · exact allT_may
theorem sizeW_pos (c : Bool) : 0 < sizeW c := by cases c <;> decide
theorem bitsX_may (op : Int) (c : Bool) {a b : Sc} (ha : tmay a.1 = true) (hb : tmay b.1 = true) : tmay (bitsX op c a b) = true := by
  unfold bitsX
  split
  · exact but_may _ _
  split
  · exact but_may _ _
  split
  · exact mul_may _ _
  split
  · exact but_may _ _
  split
  · exact but_may _ _
  split
  · exact but_may _ _
  split
  · exact but_may _ _
  split
  · exact hb
  split
  · exact shX_may _ _ ha _ (Nat.mod_lt _ (sizeW_pos c))
  · exact allT_may
end Go.Proofs.YtodmikjpmcabiaaGreat
