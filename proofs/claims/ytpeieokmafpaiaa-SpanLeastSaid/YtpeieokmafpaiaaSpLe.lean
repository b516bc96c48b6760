/-
  Plain, and helpers: of few numbers each nothing is told that is no need.
-/
import Derived.Test.YtpeieokmafpaiaaSpV
import Derived.Test.YtpeieokmafpaiaaSpT
import Derived.Test.YtpeieokmafpaiaaSpX
import Derived.Deep.RegionLaw
namespace Go.Proofs.Ytpeieokmafpaiaa
set_option linter.unusedSimpArgs false
set_option linter.unusedVariables false
open Go.ChangeShapes Go.WideShapes Go.ChangeAt Go.RowKit

def CutR (R : Act → World → Prop) : Exit → Act → World → Prop
  | .normal, a, w => R a w
  | _, _, _ => False
theorem CutR.imp {R : Act → World → Prop} {Q : Exit → Act → World → Prop} (h : ∀ a w, R a w → Q .normal a w) : ∀ e a w, CutR R e a w → Q e a w := fun e a w hr => by
  cases e <;> first | exact h a w hr | exact hr.elim
theorem cutA2 {P : Program} {c : Code} {Q : Exit → Act → World → Prop} {a : Act} {w : World} {A : Nat → Nat → Act} {F : Nat → Nat → World → Prop} (h1 : Code.wp P c (CutR fun a' W' => ∃ g h : Nat, F g h W' ∧ a' = A g h) a w) (h2 : ∀ g h W, F g h W → Q .normal (A g h) W) : Code.wp P c Q a w :=
  Code.wp_mono (CutR.imp fun a' W' ⟨g, h, hF, e⟩ => e ▸ h2 g h W' hF) h1
/-- The boxes of SpanLeast ahead of its loops. -/
structure LI (w : World) (op : Int) (c : Bool) (A B : Tn) (X Y : B64) (s : Nat) (R : Tn) (g : Nat) (a : Tn) (h : Nat) (b : Tn) (wr : World) : Prop where
  gi : GI w op c A B X Y wr
  sc : BC wr s R
  ac : BC wr g a
  bc : BC wr h b
  ng : w.heap.size < g
  nh : w.heap.size < h
  ns : w.heap.size < s
  gs : s < g
  hs : s < h
  gh : g ≠ h
section
variable {w : World} {op : Int} {c : Bool} {A B : Tn} {X Y : B64} {s : Nat} {R : Tn} {g : Nat} {a : Tn} {h : Nat} {b : Tn} {wr : World}
theorem LI.next (I : LI w op c A B X Y s R g a h b wr) {w' : World} (hb : Below wr.heap.size wr w') : LI w op c A B X Y s R g a h b w' :=
  ⟨I.gi.next hb, I.sc.below hb, I.ac.below hb, I.bc.below hb, I.ng, I.nh, I.ns, I.gs, I.hs, I.gh⟩
theorem GI.put (I : GI w op c A B X Y wr) {k : Nat} (hk : w.heap.size < k) (u : Tn) : GI w op c A B X Y (put2 wr k u) := by
  have e := put2_heap wr k u (b' := w.heap.size) (by omega)
  have cell : ∀ (o : Nat) (v : Value), wr.cell? ⟨w.heap.size, o, none⟩ = some v → (put2 wr k u).cell? ⟨w.heap.size, o, none⟩ = some v := fun o v hv => (World.cell?_of_block (w := wr) (a := ⟨w.heap.size, o, none⟩) e).trans hv
  exact ⟨by rw [put2_size]; exact I.lt, cell _ _ I.g0, cell _ _ I.g1, cell _ _ I.g2, cell _ _ I.g3, cell _ _ I.g4, cell _ _ I.g5, cell _ _ I.g6, cell _ _ I.g7, put2_below u I.bel (Nat.le_of_lt hk)⟩
theorem LI.puta (I : LI w op c A B X Y s R g a h b wr) (u : Tn) : LI w op c A B X Y s R g u h b (put2 wr g u) :=
  ⟨I.gi.put I.ng u, I.sc.other (Nat.ne_of_lt I.gs) u, I.ac.put u, I.bc.other I.gh.symm u, I.ng, I.nh, I.ns, I.gs, I.hs, I.gh⟩
theorem LI.putb (I : LI w op c A B X Y s R g a h b wr) (u : Tn) : LI w op c A B X Y s R g a h u (put2 wr h u) :=
  ⟨I.gi.put I.nh u, I.sc.other (Nat.ne_of_lt I.hs) u, I.ac.other I.gh u, I.bc.put u, I.ng, I.nh, I.ns, I.gs, I.hs, I.gh⟩
/-- .. and with what is wanted. -/
structure WI (w : World) (op : Int) (c : Bool) (A B : Tn) (X Y : B64) (s : Nat) (R : Tn) (g : Nat) (a : Tn) (h : Nat) (b : Tn) (v : Nat) (m : Tn) (wr : World) : Prop where
  li : LI w op c A B X Y s R g a h b wr
  vc : BC wr v m
  nv : w.heap.size < v
  sv : s < v
  gv : g < v
  hv : h < v
theorem WI.next {v : Nat} {m : Tn} (I : WI w op c A B X Y s R g a h b v m wr) {w' : World} (hb : Below wr.heap.size wr w') : WI w op c A B X Y s R g a h b v m w' :=
  ⟨I.li.next hb, I.vc.below hb, I.nv, I.sv, I.gv, I.hv⟩
theorem WI.put {v : Nat} {m : Tn} (I : WI w op c A B X Y s R g a h b v m wr) (u : Tn) : WI w op c A B X Y s R g a h b v u (put2 wr v u) :=
  ⟨⟨I.li.gi.put I.nv u, I.li.sc.other (Nat.ne_of_lt I.sv) u, I.li.ac.other (Nat.ne_of_lt I.gv) u, I.li.bc.other (Nat.ne_of_lt I.hv) u, I.li.ng, I.li.nh, I.li.ns, I.li.gs, I.li.hs, I.li.gh⟩, I.vc.put u, I.nv, I.sv, I.gv, I.hv⟩
end
/-- What is wanted behind so many results. -/
def Pw (N : Nat → Nat → B64) (R : Tn) (nb j l : Nat) (m : Tn) : Prop :=
  (∀ i k, (i < j ∧ k < nb) ∨ (i = j ∧ k < l) → m.1.toNat ≤ (N i k).toNat ∧ (N i k).toNat ≤ m.2.toNat) ∧ R.1.toNat ≤ m.1.toNat ∧ m.2.toNat ≤ R.2.toNat
theorem Pw.start (N : Nat → Nat → B64) (R : Tn) (nb : Nat) : Pw N R nb 0 0 (18446744073709551615#64, 0#64) :=
  ⟨fun i k h => by omega, by have := R.1.isLt; show _ ≤ 18446744073709551615; omega, Nat.zero_le _⟩
theorem Pw.step {N : Nat → Nat → B64} {R : Tn} {nb j l : Nat} {m : Tn} (h : Pw N R nb j l m) (h1 : R.1.toNat ≤ (N j l).toNat) (h2 : (N j l).toNat ≤ R.2.toNat) : Pw N R nb j (l + 1) (bmin m.1 (N j l), bmax m.2 (N j l)) := by
  obtain ⟨a1, a2, a3⟩ := h
  unfold Pw
  dsimp only
  rw [bmin_toNat, bmax_toNat]
  refine ⟨fun i k hk => ?_, by omega, by omega⟩
  by_cases e : i = j ∧ k = l
  · obtain ⟨rfl, rfl⟩ := e
    omega
  · have := a1 i k (by omega)
    omega
theorem Pw.row {N : Nat → Nat → B64} {R : Tn} {nb j : Nat} {m : Tn} (h : Pw N R nb j nb m) : Pw N R nb (j + 1) 0 m :=
  ⟨fun i k hk => h.1 i k (by omega), h.2⟩
theorem Pw.done {N : Nat → Nat → B64} {R : Tn} {na nb : Nat} {m : Tn} (h : Pw N R nb na 0 m) (e1 : ∃ i k, i < na ∧ k < nb ∧ (N i k).toNat = R.1.toNat) (e2 : ∃ i k, i < na ∧ k < nb ∧ (N i k).toNat = R.2.toNat) : m = R := by
  obtain ⟨i, k, hi, hk, e⟩ := e1
  obtain ⟨i2, k2, hi2, hk2, e2⟩ := e2
  have a := h.1 i k (.inl ⟨hi, hk⟩)
  have b := h.1 i2 k2 (.inl ⟨hi2, hk2⟩)
  exact Prod.ext (BitVec.eq_of_toNat_eq (by have := h.2.1; omega)) (BitVec.eq_of_toNat_eq (by have := h.2.2; omega))
/-- All results of two spans, and their ends. -/
theorem all_res (op : Nat) (hop : op ≤ 11) (hn : op ≠ 2 ∧ op ≠ 6 ∧ op ≠ 7 ∧ op ≠ 9) (c : Bool) (a b : Tn) (ha : a.1.toNat ≤ a.2.toNat) (hb : b.1.toNat ≤ b.2.toNat) (la : a.2.toNat < modW c) (lb : b.2.toNat < modW c) :
    (∀ i k, i < (a.2 - a.1).toNat + 1 → k < (b.2 - b.1).toNat + 1 → (resS op c a b).1.toNat ≤ (oneB op c (a.1 + BitVec.ofNat 64 i) (b.1 + BitVec.ofNat 64 k)).toNat ∧ (oneB op c (a.1 + BitVec.ofNat 64 i) (b.1 + BitVec.ofNat 64 k)).toNat ≤ (resS op c a b).2.toNat) ∧
    (∃ i k, i < (a.2 - a.1).toNat + 1 ∧ k < (b.2 - b.1).toNat + 1 ∧ (oneB op c (a.1 + BitVec.ofNat 64 i) (b.1 + BitVec.ofNat 64 k)).toNat = (resS op c a b).1.toNat) ∧
    (∃ i k, i < (a.2 - a.1).toNat + 1 ∧ k < (b.2 - b.1).toNat + 1 ∧ (oneB op c (a.1 + BitVec.ofNat 64 i) (b.1 + BitVec.ofNat 64 k)).toNat = (resS op c a b).2.toNat) := by
  obtain ⟨s, _⟩ := res_sound op (by omega) c a b ha hb la lb
  obtain ⟨⟨x, y, hx, hy, e⟩, ⟨x2, y2, hx2, hy2, e2⟩⟩ := res_tight op hop c a b ha hb la lb hn
  have wa := width a ha
  have wb := width b hb
  have v : ∀ (t : Tn), t.1.toNat ≤ t.2.toNat → t.2.toNat < modW c → ∀ i, i < (t.2 - t.1).toNat + 1 → (t.1 + BitVec.ofNat 64 i).toNat % modW c = t.1.toNat + i ∧ Lies t (t.1.toNat + i) := by
    intro t ht lt i hi
    rw [width t ht] at hi
    have := t.2.isLt
    have hm := modW_le c
    rw [add64, BitVec.toNat_ofNat, show 2 ^ 64 = 18446744073709551616 from rfl, Nat.mod_eq_of_lt (a := i) (by omega), Nat.mod_eq_of_lt (a := t.1.toNat + i) (by omega), Nat.mod_eq_of_lt (by omega)]
    exact ⟨rfl, by omega, by omega⟩
  have o : ∀ i k, i < (a.2 - a.1).toNat + 1 → k < (b.2 - b.1).toNat + 1 → (oneB op c (a.1 + BitVec.ofNat 64 i) (b.1 + BitVec.ofNat 64 k)).toNat = opN op c (a.1.toNat + i) (b.1.toNat + k) := by
    intro i k hi hk
    rw [oneB_is op (by omega), (v a ha la i hi).1, (v b hb lb k hk).1]
  have back : ∀ (t : Tn) (x : Nat), t.1.toNat ≤ t.2.toNat → Lies t x → x - t.1.toNat < (t.2 - t.1).toNat + 1 ∧ t.1.toNat + (x - t.1.toNat) = x := by
    intro t x ht hx
    rw [width t ht]
    unfold Lies at hx
    omega
  refine ⟨fun i k hi hk => ?_, ?_, ?_⟩
  · rw [o i k hi hk]
    exact s _ _ (v a ha la i hi).2 (v b hb lb k hk).2
  · obtain ⟨i1, i2⟩ := back a x ha hx
    obtain ⟨k1, k2⟩ := back b y hb hy
    exact ⟨_, _, i1, k1, by rw [o _ _ i1 k1, i2, k2]; exact e⟩
  · obtain ⟨i1, i2⟩ := back a x2 ha hx2
    obtain ⟨k1, k2⟩ := back b y2 hb hy2
    exact ⟨_, _, i1, k1, by rw [o _ _ i1 k1, i2, k2]; exact e2⟩
section
variable {w : World} {op : Int} {c : Bool} {A B : Tn} {X Y : B64} {s : Nat} {R : Tn} {wr : World} {t t' : TypeId}
theorem LI.start1 (I : GI w op c A B X Y wr) (J : BC wr s R) (hs : w.heap.size < s) : LI w op c A B X Y s R wr.heap.size A (wr.heap.size + 1) B (((wr.alloc (.cells #[.int .u64 (ub A.1), .int .u64 (ub A.2)] t)).alloc (.cells #[.int .u64 (ub B.1), .int .u64 (ub B.2)] t')).drew) := by
  have hl := J.lt
  have e1 := BC.new (w := wr) (a := A) (t := t) rfl
  have s1 : (wr.alloc (.cells #[.int .u64 (ub A.1), .int .u64 (ub A.2)] t)).heap.size = wr.heap.size + 1 := by simp
  have b1 : Below wr.heap.size wr (wr.alloc (.cells #[.int .u64 (ub A.1), .int .u64 (ub A.2)] t)) := (Below.refl _ _).alloc (Nat.le_refl _) _
  generalize wr.alloc (.cells #[.int .u64 (ub A.1), .int .u64 (ub A.2)] t) = u1 at *
  have e2 := BC.new (w := u1) (a := B) (t := t') s1.symm
  have b2 : Below u1.heap.size u1 (u1.alloc (.cells #[.int .u64 (ub B.1), .int .u64 (ub B.2)] t')) := (Below.refl _ _).alloc (Nat.le_refl _) _
  have d := fun (W : World) => below_dr W
  exact ⟨((I.next b1).next b2).next (d _), ((J.below b1).below b2).below (d _), (e1.below b2).below (d _), e2.below (d _), by omega, by omega, hs, hl, by omega, by omega⟩
theorem LI.start2 (I : GI w op c A B X Y wr) (J : BC wr s R) (hs : w.heap.size < s) : LI w op c A B X Y s R (wr.heap.size + 1) A wr.heap.size B (((wr.alloc (.cells #[.int .u64 (ub B.1), .int .u64 (ub B.2)] t)).alloc (.cells #[.int .u64 (ub A.1), .int .u64 (ub A.2)] t')).drew) := by
  have hl := J.lt
  have e1 := BC.new (w := wr) (a := B) (t := t) rfl
  have s1 : (wr.alloc (.cells #[.int .u64 (ub B.1), .int .u64 (ub B.2)] t)).heap.size = wr.heap.size + 1 := by simp
  have b1 : Below wr.heap.size wr (wr.alloc (.cells #[.int .u64 (ub B.1), .int .u64 (ub B.2)] t)) := (Below.refl _ _).alloc (Nat.le_refl _) _
  generalize wr.alloc (.cells #[.int .u64 (ub B.1), .int .u64 (ub B.2)] t) = u1 at *
  have e2 := BC.new (w := u1) (a := A) (t := t') s1.symm
  have b2 : Below u1.heap.size u1 (u1.alloc (.cells #[.int .u64 (ub A.1), .int .u64 (ub A.2)] t')) := (Below.refl _ _).alloc (Nat.le_refl _) _
  have d := fun (W : World) => below_dr W
  exact ⟨((I.next b1).next b2).next (d _), ((J.below b1).below b2).below (d _), e2.below (d _), (e1.below b2).below (d _), by omega, by omega, hs, by omega, hl, by omega⟩
theorem WI.start {g : Nat} {a : Tn} {h : Nat} {b : Tn} (I : LI w op c A B X Y s R g a h b wr) (m : Tn) : WI w op c A B X Y s R g a h b wr.heap.size m (wr.alloc (.cells #[.int .u64 (ub m.1), .int .u64 (ub m.2)] t)) :=
  ⟨I.next ((Below.refl _ _).alloc (Nat.le_refl _) _), BC.new rfl, I.gi.lt, I.sc.lt, I.ac.lt, I.bc.lt⟩
end
theorem ofn (j : Nat) (h : j < 100) : (BitVec.ofNat 64 j).toNat = j := by rw [BitVec.toNat_ofNat]; exact Nat.mod_eq_of_lt (by omega)
theorem ofn_ub (j : Nat) (h : j < 100) : ub (BitVec.ofNat 64 j) = (j : Int) := by unfold ub; rw [ofn j h]
theorem ofn_succ (j : Nat) (h : j < 99) : BitVec.ofNat 64 j + 1#64 = BitVec.ofNat 64 (j + 1) := by
  apply BitVec.eq_of_toNat_eq
  rw [add64, ofn j (by omega), ofn (j + 1) (by omega), show (1#64 : B64).toNat = 1 from rfl]
  omega
end Go.Proofs.Ytpeieokmafpaiaa
