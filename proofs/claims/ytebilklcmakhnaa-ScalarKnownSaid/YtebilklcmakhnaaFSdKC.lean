/-
  The words' operation is the spans'; what turned bytes hold. What one operation makes of two numbers is held (the laws' sound). Contract of Swap, as the landed code has it. ScalarKnown: the document's examples (closed). ScalarKnown: the law's walk, and what is handed in. No condition.
-/
import Derived.Test.YtebilklcmakhnaaFScV
import Derived.Test.YtebilklcmakhnaaFScI
import Derived.Test.YtebilklcmakhnaaFScR
import Derived.Test.YtebilklcmakhnaaFScZ
import Derived.Test.YtebilklcmakhnaaFClK
import Derived.Deep.RegionLaw
import Derived.Deep.RegionHeld3
import Derived.Lib.SmallJoins
namespace Go.Proofs.Ytebilklcmakhnaa
set_option linter.unusedSimpArgs false
set_option linter.unusedVariables false
set_option maxRecDepth 100000
open Go.RowKit

theorem md_is (c : Bool) : Wd.MD c = ((modW c : Nat) : Int) := by cases c <;> rfl
theorem fit_is (c : Bool) (z : B64) : ub z % Wd.MD c = ub (z &&& topW c) := by
  rw [md_is]; unfold ub; rw [and_top]; exact (Int.natCast_emod _ _).symm
theorem fit_keep (c : Bool) {z : B64} (h : z.toNat < modW c) : ub z % Wd.MD c = ub z := by
  rw [md_is]; unfold ub; exact Int.emod_eq_of_lt (by omega) (by omega)
theorem cnt_is (c : Bool) (y : B64) : (ub y % Wd.SZ c).toNat = shB c y := by
  unfold shB ub
  rw [BitVec.toNat_umod]
  cases c
  · show ((y.toNat : Int) % 32).toNat = y.toNat % 32; omega
  · show ((y.toNat : Int) % 64).toNat = y.toNat % 64; omega
theorem floor_neg (x M d : Int) (hd : 0 < d) (h0 : 0 ≤ M - 1 - x) : (x - M) / d = -1 - (M - 1 - x) / d := by
  have h := Int.mul_ediv_add_emod (M - 1 - x) d
  have r0 := Int.emod_nonneg (M - 1 - x) (Int.ne_of_gt hd)
  have r1 := Int.emod_lt_of_pos (M - 1 - x) hd
  refine ((Int.ediv_emod_unique hd (r := d - 1 - (M - 1 - x) % d)).2 ⟨?_, by omega, by omega⟩).1
  rw [Int.mul_sub, Int.mul_neg, Int.mul_one]
  omega
theorem ansI_is (op : Int) (h0 : 0 ≤ op) (h1 : op ≤ 12) (c : Bool) (x y : B64) (hx : x.toNat < modW c) (hy : y.toNat < modW c) (hn : (oneC op.toNat c x y).toNat < modW c) : Wd.ansI op c (ub x) (ub y) % Wd.MD c = ub (oneC op.toNat c x y) := by
  have sh : ∀ z : B64, z <<< shB c y = z * (1#64 <<< shB c y) := fun z => by
    apply BitVec.eq_of_toNat_eq
    rw [BitVec.toNat_shiftLeft, Nat.shiftLeft_eq, BitVec.toNat_mul, sh_pow]
    unfold shB
    rw [BitVec.toNat_umod]
    cases c <;> rfl
  obtain rfl | rfl | rfl | rfl | rfl | rfl | rfl | rfl | rfl | rfl | rfl | rfl | rfl : op = 0 ∨ op = 1 ∨ op = 2 ∨ op = 3 ∨ op = 4 ∨ op = 5 ∨ op = 6 ∨ op = 7 ∨ op = 8 ∨ op = 9 ∨ op = 10 ∨ op = 11 ∨ op = 12 := by omega
  · show (ub x + ub y) % 18446744073709551616 % Wd.MD c = ub ((x + y) &&& topW c); rw [ub_add, fit_is]
  · show (ub x - ub y) % 18446744073709551616 % Wd.MD c = ub ((x - y) &&& topW c); rw [ub_sub, fit_is]
  · show (ub x * ub y) % 18446744073709551616 % Wd.MD c = ub ((x * y) &&& topW c); rw [ub_mul, fit_is]
  · show (if ub y = 0 then 0 else ub x / ub y) % Wd.MD c = _
    have e : (if ub y = 0 then 0 else ub x / ub y) = ub (oneC 3 c x y) := by
      show _ = ub (if y = 0#64 then 0#64 else x / y)
      by_cases hz : y = 0#64
      · rw [if_pos hz, hz]; rfl
      · rw [if_neg hz, if_neg (ub_ne0 hz)]; unfold ub; rw [BitVec.toNat_udiv]; exact (Int.natCast_ediv _ _).symm
    rw [e]
    exact fit_keep c hn
  · show bits .or .u64 (ub x) (ub y) % Wd.MD c = _; rw [ub_or]; exact fit_keep c hn
  · show bits .and .u64 (ub x) (ub y) % Wd.MD c = _; rw [ub_and]; exact fit_keep c hn
  · show (ub x * 2 ^ (ub y % Wd.SZ c).toNat) % 18446744073709551616 % Wd.MD c = ub ((x * (1#64 <<< shB c y)) &&& topW c)
    rw [cnt_is, ub_shl, fit_is, sh]
  · show ub x / 2 ^ (ub y % Wd.SZ c).toNat % Wd.MD c = _
    rw [cnt_is, ub_shr]
    have e : x >>> shB c y = oneC 7 c x y := by
      show _ = x / (1#64 <<< shB c y)
      apply BitVec.eq_of_toNat_eq
      rw [BitVec.toNat_udiv, sh_pow, BitVec.toNat_ushiftRight, Nat.shiftRight_eq_div_pow]
      unfold shB
      rw [BitVec.toNat_umod]
      cases c <;> rfl
    rw [e]
    exact fit_keep c hn
  · show (-ub x) % 18446744073709551616 % Wd.MD c = ub ((0#64 - x) &&& topW c)
    have e : (-ub x) % 18446744073709551616 = ub (0#64 - x) := by rw [← ub_sub, show ub 0#64 = 0 from rfl, Int.zero_sub]
    rw [e, fit_is]
  · show (if ub y = 0 then ub x else ub x % ub y) % Wd.MD c = _
    have e : (if ub y = 0 then ub x else ub x % ub y) = ub (oneC 9 c x y) := by
      show _ = ub (if y = 0#64 then x else x % y)
      by_cases hz : y = 0#64
      · rw [if_pos hz, hz]; rfl
      · rw [if_neg hz, if_neg (ub_ne0 hz)]; unfold ub; rw [BitVec.toNat_umod]; exact (Int.natCast_emod _ _).symm
    rw [e]
    exact fit_keep c hn
  · show bits .xor .u64 (ub x) (ub y) % Wd.MD c = _; rw [ub_xor]; exact fit_keep c hn
  · show ub y % Wd.MD c = _; exact fit_keep c hn
  · show (Wd.sgnI c (ub x) / 2 ^ (ub y % Wd.SZ c).toNat) % 18446744073709551616 % Wd.MD c = ub (drB (1#64 <<< (sizeW c - 1)) x (shB c y))
    rw [cnt_is]
    have e := drB_is c x hx (shB c y)
    have p : (0 : Int) < 2 ^ shB c y := Int.pow_pos (by decide)
    have pn : ((2 : Int) ^ shB c y) = ((2 ^ shB c y : Nat) : Int) := by simp
    unfold ub
    rw [e, md_is]
    unfold Wd.sgnI drawN
    rw [md_is]
    have ml := modW_le c
    have w2 := modW_two c
    by_cases hs : x.toNat < modW c / 2
    · rw [if_pos hs, if_pos (by omega), pn, ← Int.natCast_ediv]
      have : x.toNat / 2 ^ shB c y ≤ x.toNat := Nat.div_le_self _ _
      generalize x.toNat / 2 ^ shB c y = z at *
      clear e hn
      generalize modW c = M at *
      rcases w2 with rfl | rfl <;> omega
    · rw [if_neg hs, if_neg (by omega), floor_neg _ _ _ p (by omega), pn]
      have q : ((modW c : Nat) : Int) - 1 - (x.toNat : Int) = ((modW c - 1 - x.toNat : Nat) : Int) := by omega
      rw [q, ← Int.natCast_ediv]
      have : (modW c - 1 - x.toNat) / 2 ^ shB c y ≤ modW c - 1 - x.toNat := Nat.div_le_self _ _
      generalize (modW c - 1 - x.toNat) / 2 ^ shB c y = z at *
      clear e hn q
      generalize modW c = M at *
      rcases w2 with rfl | rfl <;> omega
/-- The words' operation is the spans'. -/
theorem alu_is (op : Int) (h0 : 0 ≤ op) (h1 : op ≤ 12) (c : Bool) (x y : B64) : Wd.aluI op c (ub x) (ub y) = ub (oneB op.toNat c x y) := by
  unfold Wd.aluI
  rw [fit_is, fit_is]
  refine ansI_is op h0 h1 c _ _ (and_lt c x) (and_lt c y) ?_
  have h := oneB_is op.toNat (by omega) c x y
  have := raw_sound op ⟨h0, h1⟩ c (ofX_may x) (ofX_may y) (ofX_has x) (ofX_has y)
  have hl := halfW_one c x
  have e : oneC op.toNat c (x &&& topW c) (y &&& topW c) = oneB op.toNat c x y := rfl
  rw [e]
  have hok : aluOk op (x, x) (y, y) := ⟨h0, h1, decide_eq_true (Nat.le_refl _), decide_eq_true (Nat.le_refl _)⟩
  have s := alu_sound op c (x, x) (y, y) hok x y ⟨Nat.le_refl _, Nat.le_refl _⟩ ⟨Nat.le_refl _, Nat.le_refl _⟩
  have := s.1.2
  omega

/-- Bytes turned about. -/
def swB (k : Nat) (x : B64) : B64 := BitVec.ofNat 64 (Wd.rev k (ub x)).toNat
def revN : Nat → Nat → Nat
  | 0, _ => 0
  | k + 1, a => revN k a * 256 + a / 256 ^ k % 256
theorem rev_nat (a : Nat) : ∀ k, Wd.rev k (a : Int) = ((revN k a : Nat) : Int)
  | 0 => rfl
  | k + 1 => by
    show Wd.rev k (a : Int) * 256 + (a : Int) / 256 ^ k % 256 = _
    rw [rev_nat a k, revN, Int.natCast_add, Int.natCast_mul, Int.natCast_emod, Int.natCast_ediv]
    simp
theorem revN_lt (a : Nat) : ∀ k, revN k a < 256 ^ k
  | 0 => by simp [revN]
  | k + 1 => by
    have := revN_lt a k
    rw [revN, Nat.pow_succ]
    have : a / 256 ^ k % 256 < 256 := Nat.mod_lt _ (by decide)
    omega
theorem sw_toNat (k : Nat) (hk : k ≤ 8) (x : B64) : (swB k x).toNat = revN k x.toNat := by
  unfold swB ub
  rw [rev_nat, Int.toNat_natCast, BitVec.toNat_ofNat]
  apply Nat.mod_eq_of_lt
  have h1 := revN_lt x.toNat k
  have h2 : 256 ^ k ≤ 256 ^ 8 := Nat.pow_le_pow_right (by decide) hk
  have h3 : (256 : Nat) ^ 8 = 2 ^ 64 := by decide
  omega
theorem sw_ub (k : Nat) (hk : k ≤ 8) (x : B64) : ub (swB k x) = Wd.rev k (ub x) := by
  unfold ub
  rw [sw_toNat k hk, rev_nat]
theorem revN_bit (a : Nat) : ∀ k i, (revN k a).testBit i = (decide (i < 8 * k) && a.testBit (8 * (k - 1 - i / 8) + i % 8))
  | 0, i => by simp [revN]
  | k + 1, i => by
    rw [revN, Nat.mul_comm, show (256 : Nat) = 2 ^ 8 from rfl, Nat.testBit_two_pow_mul_add _ (Nat.mod_lt _ (by decide))]
    by_cases h : i < 8
    · rw [if_pos h, Nat.testBit_mod_two_pow, ← Nat.pow_mul, Nat.testBit_div_two_pow, decide_eq_true h, decide_eq_true (show i < 8 * (k + 1) by omega)]
      congr 2
      omega
    · rw [if_neg h, revN_bit a k (i - 8)]
      by_cases h2 : i < 8 * (k + 1)
      · rw [decide_eq_true h2, decide_eq_true (show i - 8 < 8 * k by omega)]
        congr 2
        omega
      · rw [decide_eq_false h2, decide_eq_false (show ¬ i - 8 < 8 * k by omega)]; rfl
theorem sw_bit (k : Nat) (hk : k ≤ 8) (x : B64) (i : Nat) : bt (swB k x) i = (decide (i < 8 * k) && bt x (8 * (k - 1 - i / 8) + i % 8)) := by
  unfold bt
  rw [BitVec.getLsbD, BitVec.getLsbD, sw_toNat k hk, revN_bit]
theorem sw_hs {t : Tn} {x : B64} (h : Hs t x) (k : Nat) (hk : k ≤ 8) : Hs (swB k t.1, swB k t.2) (swB k x) := (hs_iff _ _).2 fun i hi => by
  dsimp only
  rw [sw_bit k hk, sw_bit k hk, sw_bit k hk]
  by_cases h2 : i < 8 * k
  · rw [decide_eq_true h2, Bool.true_and, Bool.true_and, Bool.true_and]
    exact hs_bit h _ (by omega)
  · rw [decide_eq_false h2]; rfl
theorem sw_may {t : Tn} (h : tmay t = true) (k : Nat) (hk : k ≤ 8) : tmay (swB k t.1, swB k t.2) = true := may_of fun i hi => by
  dsimp only
  rw [sw_bit k hk, sw_bit k hk]
  have := may_bit h (8 * (k - 1 - i / 8) + i % 8)
  revert this
  cases decide (i < 8 * k) <;> simp
theorem belowI_k (k : Nat) (hk : k = 2 ∨ k = 4 ∨ k = 8) : (belowI (8 * k : Nat)).2.1 = 0#64 ∧ (belowI (8 * k : Nat)).2.2.toNat = 256 ^ k - 1 := by
  rcases hk with rfl | rfl | rfl
  · decide +kernel
  · decide +kernel
  · decide +kernel
def swpX (k : Nat) (s : Sc) : Sc := ((swB k s.1.1, swB k s.1.2), (belowI (8 * k : Nat)).2)
/-- The turned number is held. -/
theorem swp_has (k : Nat) (hk : k = 2 ∨ k = 4 ∨ k = 8) {s : Sc} {x : B64} (h : hasB s x) : hasB (optS (settle (swpX k s))) (swB k x) ∧ mayX (optS (settle (swpX k s))) = true := by
  have k8 : k ≤ 8 := by omega
  obtain ⟨b1, b2⟩ := belowI_k k hk
  have hb : hasB (swpX k s) (swB k x) := by
    refine ⟨(has_iff _ _).2 ⟨sw_may ((has_iff _ _).1 h.1).1 k k8, sw_hs ((has_iff _ _).1 h.1).2 k k8⟩, ?_, ?_⟩
    · show (belowI (8 * k : Nat)).2.1.toNat ≤ _
      rw [b1]; exact Nat.zero_le _
    · show _ ≤ (belowI (8 * k : Nat)).2.2.toNat
      rw [b2, sw_toNat k k8]
      have := revN_lt x.toNat k
      omega
  obtain ⟨y, e, hy⟩ := settle_has hb
  rw [e]
  exact ⟨hy, settled e⟩
end Go.Proofs.Ytebilklcmakhnaa

namespace Go.Proofs.Ytebilklcmakhnaa
set_option linter.unusedSimpArgs false
set_option linter.unusedVariables false
set_option maxRecDepth 100000
open Go.ChangeShapes Go.WideShapes Go.ChangeAt Go.RowKit

theorem cutG {P : Program} {c : Code} {Q : Exit → Act → World → Prop} {a : Act} {w : World} {A : Nat → Act} {F : Nat → World → Prop} (h1 : Code.wp P c (CutX fun a' W' => ∃ g : Nat, F g W' ∧ a' = A g) a w) (h2 : ∀ g W, F g W → Q .normal (A g) W) : Code.wp P c Q a w :=
  Code.wp_mono (CutX.imp fun a' W' ⟨g, hF, e⟩ => e ▸ h2 g W' hF) h1
theorem below_dr_alloc (w : World) (o : Obj) : Below w.drew.heap.size w.drew (w.alloc o).drew := ((Below.refl w.drew.heap.size w.drew).alloc (Nat.le_refl _) o)
structure NS (n : Nat) (w : World) (b : Nat) (x : Sc) : Prop where
  le : n ≤ b
  sc : SC w b x
theorem eqS {w : World} {b : Nat} {x : Sc} (h : SC w b x) : ∃ g, b = g := ⟨b, rfl⟩
theorem SmC.otherS {w : World} {b e : Nat} {op : Int} {c : Bool} {x y : Sc} (h : SmC w b op c x y) (hbc : b ≠ e) (u : Sc) : SmC (putS w e u) b op c x y := by
  have e1 := putS_heap w e u hbc
  have g : ∀ k, (putS w e u).cell? ⟨b, k, none⟩ = w.cell? ⟨b, k, none⟩ := fun k => World.cell?_of_block (w := w) (a := ⟨b, k, none⟩) e1
  exact ⟨by rw [putS_size]; exact h.lt, (g 0).trans h.c0, (g 1).trans h.c1, (g 2).trans h.c2, (g 3).trans h.c3, (g 4).trans h.c4, (g 5).trans h.c5, (g 6).trans h.c6, (g 7).trans h.c7, (g 8).trans h.c8, (g 9).trans h.c9⟩
set_option maxHeartbeats 8000000 in
theorem sound_na (op : Int) (c : Bool) (a b : Sc) (x y : B64) (ha : mayX a = false) (w : World) : Calls Try.prog 13 #[sumV op c a b, .int .u64 (ub x), .int .u64 (ub y)] w fun e w' => e = .returned (.bool true) ∧ Below w.heap.size w w' := by
  have X1 := fun W => cAlu_any op c a b W
  have X2 := fun W => Wd.ralu_any op c (ub x) (ub y) W (ub_ge x) (ub_lt x) (ub_ge y) (ub_lt y)
  have X3 := fun W => cMay_any a W
  rw [ha] at X3
  rw [show scAluT op c a b = sc0 from if_neg (fun k => by rw [ha] at k; exact absurd k.1.1 (by decide)), show scAluE op a b = 1 from if_neg (fun k => by rw [ha] at k; exact absurd k.1 (by decide))] at X1
  clear ha
  generalize Wd.aluI op c (ub x) (ub y) = N at *
  generalize Wd.aluE op = E at *
  have Q0 : ∀ W, (binOp .neq 28 (sv sc0) (.agg #[.int .u64 0, .int .u64 0, .int .u64 0, .int .u64 0])).run Try.prog W = .ok (.bool false) W := fun W => neq_sc sc0 sc0 W
  generalize sc0 = Z at *
  unfold sv at X1 X3 Q0
  unfold sumV
  try dsimp only at X1 X3
  replace X1 := hid X1
  replace X2 := hid X2
  replace X3 := hid X3
  go_enter Try.func13, Try.ntmps13
  go_wp2_with fail
  refine (X1.out _).mono ?_
  rintro e w1 ⟨rfl, z⟩
  have JM : SmC w1 (w.heap.size) op c a b := (SmC.new rfl).below z
  have B := below_next (bel_alloc (Below.refl w.heap.size w)) z
  clear z
  have JM0 := JM.c0
  have JM1 := JM.c1
  have JM2 := JM.c2
  have JM3 := JM.c3
  have JM4 := JM.c4
  have JM5 := JM.c5
  have JM6 := JM.c6
  have JM7 := JM.c7
  have JM8 := JM.c8
  have JM9 := JM.c9
  have JMl := JM.lt
  have lb := B.size
  go_wp2_with fail
  clear JM0 JM1 JM2 JM3 JM4 JM5 JM6 JM7 JM8 JM9 JMl lb
  have JT : SC (w1.alloc (.cells #[.int .u64 (ub Z.1.1), .int .u64 (ub Z.1.2), .int .u64 (ub Z.2.1), .int .u64 (ub Z.2.2)] 28)) (w1.heap.size) Z := (SC.new (x := Z) rfl)
  have gq1JM : w.heap.size < w1.heap.size := JM.lt
  replace JM := (JM.alloc (.cells #[.int .u64 (ub Z.1.1), .int .u64 (ub Z.1.2), .int .u64 (ub Z.2.1), .int .u64 (ub Z.2.2)] 28))
  replace B := (bel_alloc (o := (.cells #[.int .u64 (ub Z.1.1), .int .u64 (ub Z.1.2), .int .u64 (ub Z.2.1), .int .u64 (ub Z.2.2)] 28)) B)
  generalize (w1.alloc (.cells #[.int .u64 (ub Z.1.1), .int .u64 (ub Z.1.2), .int .u64 (ub Z.2.1), .int .u64 (ub Z.2.2)] 28)) = w2 at *
  have JM0 := JM.c0
  have JM1 := JM.c1
  have JM2 := JM.c2
  have JM3 := JM.c3
  have JM4 := JM.c4
  have JM5 := JM.c5
  have JM6 := JM.c6
  have JM7 := JM.c7
  have JM8 := JM.c8
  have JM9 := JM.c9
  have JMl := JM.lt
  have JT0 := JT.c0
  have JT1 := JT.c1
  have JT2 := JT.c2
  have JT3 := JT.c3
  have JTl := JT.lt
  have lb := B.size
  go_wp2_with fail
  refine (X2.out _).mono ?_
  rintro e w_ ⟨rfl, rfl⟩
  clear JM0 JM1 JM2 JM3 JM4 JM5 JM6 JM7 JM8 JM9 JMl JT0 JT1 JT2 JT3 JTl lb
  have JM0 := JM.c0
  have JM1 := JM.c1
  have JM2 := JM.c2
  have JM3 := JM.c3
  have JM4 := JM.c4
  have JM5 := JM.c5
  have JM6 := JM.c6
  have JM7 := JM.c7
  have JM8 := JM.c8
  have JM9 := JM.c9
  have JMl := JM.lt
  have JT0 := JT.c0
  have JT1 := JT.c1
  have JT2 := JT.c2
  have JT3 := JT.c3
  have JTl := JT.lt
  have lb := B.size
  go_wp2_with fail
  refine (X3.out _).mono ?_
  rintro e w3 ⟨rfl, z⟩
  clear JM0 JM1 JM2 JM3 JM4 JM5 JM6 JM7 JM8 JM9 JMl JT0 JT1 JT2 JT3 JTl lb
  replace JM := JM.below z
  replace JT := JT.below z
  replace B := below_next B z
  clear z
  have JM0 := JM.c0
  have JM1 := JM.c1
  have JM2 := JM.c2
  have JM3 := JM.c3
  have JM4 := JM.c4
  have JM5 := JM.c5
  have JM6 := JM.c6
  have JM7 := JM.c7
  have JM8 := JM.c8
  have JM9 := JM.c9
  have JMl := JM.lt
  have JT0 := JT.c0
  have JT1 := JT.c1
  have JT2 := JT.c2
  have JT3 := JT.c3
  have JTl := JT.lt
  have lb := B.size
  go_wp2
  go_ret
  exact ⟨rfl, B⟩
set_option maxHeartbeats 8000000 in
theorem sound_nb (op : Int) (c : Bool) (a b : Sc) (x y : B64) (ha : mayX a = true) (hb : mayX b = false) (w : World) : Calls Try.prog 13 #[sumV op c a b, .int .u64 (ub x), .int .u64 (ub y)] w fun e w' => e = .returned (.bool true) ∧ Below w.heap.size w w' := by
  have X1 := fun W => cAlu_any op c a b W
  have X2 := fun W => Wd.ralu_any op c (ub x) (ub y) W (ub_ge x) (ub_lt x) (ub_ge y) (ub_lt y)
  have X3 := fun W => cMay_any a W
  have X4 := fun W => cMay_any b W
  rw [ha] at X3
  rw [hb] at X4
  rw [show scAluT op c a b = sc0 from if_neg (fun k => by rw [hb] at k; exact absurd k.1.2 (by decide)), show scAluE op a b = 1 from if_neg (fun k => by rw [hb] at k; exact absurd k.2 (by decide))] at X1
  clear ha hb
  generalize Wd.aluI op c (ub x) (ub y) = N at *
  generalize Wd.aluE op = E at *
  have Q0 : ∀ W, (binOp .neq 28 (sv sc0) (.agg #[.int .u64 0, .int .u64 0, .int .u64 0, .int .u64 0])).run Try.prog W = .ok (.bool false) W := fun W => neq_sc sc0 sc0 W
  generalize sc0 = Z at *
  unfold sv at X1 X3 X4 Q0
  unfold sumV
  try dsimp only at X1 X3 X4
  replace X1 := hid X1
  replace X2 := hid X2
  replace X3 := hid X3
  replace X4 := hid X4
  go_enter Try.func13, Try.ntmps13
  go_wp2_with fail
  refine (X1.out _).mono ?_
  rintro e w1 ⟨rfl, z⟩
  have JM : SmC w1 (w.heap.size) op c a b := (SmC.new rfl).below z
  have B := below_next (bel_alloc (Below.refl w.heap.size w)) z
  clear z
  have JM0 := JM.c0
  have JM1 := JM.c1
  have JM2 := JM.c2
  have JM3 := JM.c3
  have JM4 := JM.c4
  have JM5 := JM.c5
  have JM6 := JM.c6
  have JM7 := JM.c7
  have JM8 := JM.c8
  have JM9 := JM.c9
  have JMl := JM.lt
  have lb := B.size
  go_wp2_with fail
  clear JM0 JM1 JM2 JM3 JM4 JM5 JM6 JM7 JM8 JM9 JMl lb
  have JT : SC (w1.alloc (.cells #[.int .u64 (ub Z.1.1), .int .u64 (ub Z.1.2), .int .u64 (ub Z.2.1), .int .u64 (ub Z.2.2)] 28)) (w1.heap.size) Z := (SC.new (x := Z) rfl)
  have gq1JM : w.heap.size < w1.heap.size := JM.lt
  replace JM := (JM.alloc (.cells #[.int .u64 (ub Z.1.1), .int .u64 (ub Z.1.2), .int .u64 (ub Z.2.1), .int .u64 (ub Z.2.2)] 28))
  replace B := (bel_alloc (o := (.cells #[.int .u64 (ub Z.1.1), .int .u64 (ub Z.1.2), .int .u64 (ub Z.2.1), .int .u64 (ub Z.2.2)] 28)) B)
  generalize (w1.alloc (.cells #[.int .u64 (ub Z.1.1), .int .u64 (ub Z.1.2), .int .u64 (ub Z.2.1), .int .u64 (ub Z.2.2)] 28)) = w2 at *
  have JM0 := JM.c0
  have JM1 := JM.c1
  have JM2 := JM.c2
  have JM3 := JM.c3
  have JM4 := JM.c4
  have JM5 := JM.c5
  have JM6 := JM.c6
  have JM7 := JM.c7
  have JM8 := JM.c8
  have JM9 := JM.c9
  have JMl := JM.lt
  have JT0 := JT.c0
  have JT1 := JT.c1
  have JT2 := JT.c2
  have JT3 := JT.c3
  have JTl := JT.lt
  have lb := B.size
  go_wp2_with fail
  refine (X2.out _).mono ?_
  rintro e w_ ⟨rfl, rfl⟩
  clear JM0 JM1 JM2 JM3 JM4 JM5 JM6 JM7 JM8 JM9 JMl JT0 JT1 JT2 JT3 JTl lb
  have JM0 := JM.c0
  have JM1 := JM.c1
  have JM2 := JM.c2
  have JM3 := JM.c3
  have JM4 := JM.c4
  have JM5 := JM.c5
  have JM6 := JM.c6
  have JM7 := JM.c7
  have JM8 := JM.c8
  have JM9 := JM.c9
  have JMl := JM.lt
  have JT0 := JT.c0
  have JT1 := JT.c1
  have JT2 := JT.c2
  have JT3 := JT.c3
  have JTl := JT.lt
  have lb := B.size
  go_wp2_with fail
  refine (X3.out _).mono ?_
  rintro e w3 ⟨rfl, z⟩
  clear JM0 JM1 JM2 JM3 JM4 JM5 JM6 JM7 JM8 JM9 JMl JT0 JT1 JT2 JT3 JTl lb
  replace JM := JM.below z
  replace JT := JT.below z
  replace B := below_next B z
  clear z
  have JM0 := JM.c0
  have JM1 := JM.c1
  have JM2 := JM.c2
  have JM3 := JM.c3
  have JM4 := JM.c4
  have JM5 := JM.c5
  have JM6 := JM.c6
  have JM7 := JM.c7
  have JM8 := JM.c8
  have JM9 := JM.c9
  have JMl := JM.lt
  have JT0 := JT.c0
  have JT1 := JT.c1
  have JT2 := JT.c2
  have JT3 := JT.c3
  have JTl := JT.lt
  have lb := B.size
  go_wp2_with fail
  refine (X4.out _).mono ?_
  rintro e w4 ⟨rfl, z⟩
  clear JM0 JM1 JM2 JM3 JM4 JM5 JM6 JM7 JM8 JM9 JMl JT0 JT1 JT2 JT3 JTl lb
  replace JM := JM.below z
  replace JT := JT.below z
  replace B := below_next B z
  clear z
  have JM0 := JM.c0
  have JM1 := JM.c1
  have JM2 := JM.c2
  have JM3 := JM.c3
  have JM4 := JM.c4
  have JM5 := JM.c5
  have JM6 := JM.c6
  have JM7 := JM.c7
  have JM8 := JM.c8
  have JM9 := JM.c9
  have JMl := JM.lt
  have JT0 := JT.c0
  have JT1 := JT.c1
  have JT2 := JT.c2
  have JT3 := JT.c3
  have JTl := JT.lt
  have lb := B.size
  go_wp2
  go_ret
  exact ⟨rfl, B⟩
set_option maxHeartbeats 8000000 in
theorem sound_no (op : Int) (c : Bool) (a b : Sc) (x y : B64) (ha : mayX a = true) (hb : mayX b = true) (ho : ¬ opIs op) (w : World) : Calls Try.prog 13 #[sumV op c a b, .int .u64 (ub x), .int .u64 (ub y)] w fun e w' => e = .returned (.bool true) ∧ Below w.heap.size w w' := by
  have X1 := fun W => cAlu_any op c a b W
  have X2 := fun W => Wd.ralu_any op c (ub x) (ub y) W (ub_ge x) (ub_lt x) (ub_ge y) (ub_lt y)
  have X3 := fun W => cMay_any a W
  have X4 := fun W => cMay_any b W
  rw [ha] at X3
  rw [hb] at X4
  rw [show scAluT op c a b = sc0 from if_neg (fun k => ho k.2), show scAluE op a b = 20 from (if_pos ⟨ha, hb⟩).trans (if_neg ho)] at X1
  rw [show Wd.aluE op = 20 from if_neg ho] at X2
  clear ha hb ho
  generalize Wd.aluI op c (ub x) (ub y) = N at *
  have Q0 : ∀ W, (binOp .neq 28 (sv sc0) (.agg #[.int .u64 0, .int .u64 0, .int .u64 0, .int .u64 0])).run Try.prog W = .ok (.bool false) W := fun W => neq_sc sc0 sc0 W
  generalize sc0 = Z at *
  unfold sv at X1 X3 X4 Q0
  unfold sumV
  try dsimp only at X1 X3 X4
  replace X1 := hid X1
  replace X2 := hid X2
  replace X3 := hid X3
  replace X4 := hid X4
  go_enter Try.func13, Try.ntmps13
  go_wp2_with fail
  refine (X1.out _).mono ?_
  rintro e w1 ⟨rfl, z⟩
  have JM : SmC w1 (w.heap.size) op c a b := (SmC.new rfl).below z
  have B := below_next (bel_alloc (Below.refl w.heap.size w)) z
  clear z
  have JM0 := JM.c0
  have JM1 := JM.c1
  have JM2 := JM.c2
  have JM3 := JM.c3
  have JM4 := JM.c4
  have JM5 := JM.c5
  have JM6 := JM.c6
  have JM7 := JM.c7
  have JM8 := JM.c8
  have JM9 := JM.c9
  have JMl := JM.lt
  have lb := B.size
  go_wp2_with fail
  clear JM0 JM1 JM2 JM3 JM4 JM5 JM6 JM7 JM8 JM9 JMl lb
  have JT : SC (w1.alloc (.cells #[.int .u64 (ub Z.1.1), .int .u64 (ub Z.1.2), .int .u64 (ub Z.2.1), .int .u64 (ub Z.2.2)] 28)) (w1.heap.size) Z := (SC.new (x := Z) rfl)
  have gq1JM : w.heap.size < w1.heap.size := JM.lt
  replace JM := (JM.alloc (.cells #[.int .u64 (ub Z.1.1), .int .u64 (ub Z.1.2), .int .u64 (ub Z.2.1), .int .u64 (ub Z.2.2)] 28))
  replace B := (bel_alloc (o := (.cells #[.int .u64 (ub Z.1.1), .int .u64 (ub Z.1.2), .int .u64 (ub Z.2.1), .int .u64 (ub Z.2.2)] 28)) B)
  generalize (w1.alloc (.cells #[.int .u64 (ub Z.1.1), .int .u64 (ub Z.1.2), .int .u64 (ub Z.2.1), .int .u64 (ub Z.2.2)] 28)) = w2 at *
  have JM0 := JM.c0
  have JM1 := JM.c1
  have JM2 := JM.c2
  have JM3 := JM.c3
  have JM4 := JM.c4
  have JM5 := JM.c5
  have JM6 := JM.c6
  have JM7 := JM.c7
  have JM8 := JM.c8
  have JM9 := JM.c9
  have JMl := JM.lt
  have JT0 := JT.c0
  have JT1 := JT.c1
  have JT2 := JT.c2
  have JT3 := JT.c3
  have JTl := JT.lt
  have lb := B.size
  go_wp2_with fail
  refine (X2.out _).mono ?_
  rintro e w_ ⟨rfl, rfl⟩
  clear JM0 JM1 JM2 JM3 JM4 JM5 JM6 JM7 JM8 JM9 JMl JT0 JT1 JT2 JT3 JTl lb
  have JM0 := JM.c0
  have JM1 := JM.c1
  have JM2 := JM.c2
  have JM3 := JM.c3
  have JM4 := JM.c4
  have JM5 := JM.c5
  have JM6 := JM.c6
  have JM7 := JM.c7
  have JM8 := JM.c8
  have JM9 := JM.c9
  have JMl := JM.lt
  have JT0 := JT.c0
  have JT1 := JT.c1
  have JT2 := JT.c2
  have JT3 := JT.c3
  have JTl := JT.lt
  have lb := B.size
  go_wp2_with fail
  refine (X3.out _).mono ?_
  rintro e w3 ⟨rfl, z⟩
  clear JM0 JM1 JM2 JM3 JM4 JM5 JM6 JM7 JM8 JM9 JMl JT0 JT1 JT2 JT3 JTl lb
  replace JM := JM.below z
  replace JT := JT.below z
  replace B := below_next B z
  clear z
  have JM0 := JM.c0
  have JM1 := JM.c1
  have JM2 := JM.c2
  have JM3 := JM.c3
  have JM4 := JM.c4
  have JM5 := JM.c5
  have JM6 := JM.c6
  have JM7 := JM.c7
  have JM8 := JM.c8
  have JM9 := JM.c9
  have JMl := JM.lt
  have JT0 := JT.c0
  have JT1 := JT.c1
  have JT2 := JT.c2
  have JT3 := JT.c3
  have JTl := JT.lt
  have lb := B.size
  go_wp2_with fail
  refine (X4.out _).mono ?_
  rintro e w4 ⟨rfl, z⟩
  clear JM0 JM1 JM2 JM3 JM4 JM5 JM6 JM7 JM8 JM9 JMl JT0 JT1 JT2 JT3 JTl lb
  replace JM := JM.below z
  replace JT := JT.below z
  replace B := below_next B z
  clear z
  have JM0 := JM.c0
  have JM1 := JM.c1
  have JM2 := JM.c2
  have JM3 := JM.c3
  have JM4 := JM.c4
  have JM5 := JM.c5
  have JM6 := JM.c6
  have JM7 := JM.c7
  have JM8 := JM.c8
  have JM9 := JM.c9
  have JMl := JM.lt
  have JT0 := JT.c0
  have JT1 := JT.c1
  have JT2 := JT.c2
  have JT3 := JT.c3
  have JTl := JT.lt
  have lb := B.size
  go_wp2
  go_ret
  exact ⟨rfl, B⟩
set_option maxHeartbeats 8000000 in
theorem sound_ha (op : Int) (c : Bool) (a b : Sc) (x y : B64) (ha : mayX a = true) (hb : mayX b = true) (ho : opIs op) (h1 : hasX a x = false) (w : World) : Calls Try.prog 13 #[sumV op c a b, .int .u64 (ub x), .int .u64 (ub y)] w fun e w' => e = .returned (.bool true) ∧ Below w.heap.size w w' := by
  have X1 := fun W => cAlu_any op c a b W
  have X2 := fun W => Wd.ralu_any op c (ub x) (ub y) W (ub_ge x) (ub_lt x) (ub_ge y) (ub_lt y)
  have X3 := fun W => cMay_any a W
  have X4 := fun W => cMay_any b W
  have X5 := fun W => cHas_any a x W
  rw [ha] at X3
  rw [hb] at X4
  rw [show scAluE op a b = 0 from (if_pos ⟨ha, hb⟩).trans (if_pos ho)] at X1
  rw [show Wd.aluE op = 0 from if_pos ho, alu_is op ho.1 ho.2 c x y] at X2
  rw [h1] at X5
  clear ha hb ho h1
  generalize scAluT op c a b = Z at *
  generalize oneB op.toNat c x y = n at *
  unfold sv at X1 X3 X4 X5
  unfold sumV
  try dsimp only at X1 X3 X4 X5
  replace X1 := hid X1
  replace X2 := hid X2
  replace X3 := hid X3
  replace X4 := hid X4
  replace X5 := hid X5
  go_enter Try.func13, Try.ntmps13
  go_wp2_with fail
  refine (X1.out _).mono ?_
  rintro e w1 ⟨rfl, z⟩
  have JM : SmC w1 (w.heap.size) op c a b := (SmC.new rfl).below z
  have B := below_next (bel_alloc (Below.refl w.heap.size w)) z
  clear z
  have JM0 := JM.c0
  have JM1 := JM.c1
  have JM2 := JM.c2
  have JM3 := JM.c3
  have JM4 := JM.c4
  have JM5 := JM.c5
  have JM6 := JM.c6
  have JM7 := JM.c7
  have JM8 := JM.c8
  have JM9 := JM.c9
  have JMl := JM.lt
  have lb := B.size
  go_wp2_with fail
  clear JM0 JM1 JM2 JM3 JM4 JM5 JM6 JM7 JM8 JM9 JMl lb
  have JT : SC (w1.alloc (.cells #[.int .u64 (ub Z.1.1), .int .u64 (ub Z.1.2), .int .u64 (ub Z.2.1), .int .u64 (ub Z.2.2)] 28)) (w1.heap.size) Z := (SC.new (x := Z) rfl)
  have gq1JM : w.heap.size < w1.heap.size := JM.lt
  replace JM := (JM.alloc (.cells #[.int .u64 (ub Z.1.1), .int .u64 (ub Z.1.2), .int .u64 (ub Z.2.1), .int .u64 (ub Z.2.2)] 28))
  replace B := (bel_alloc (o := (.cells #[.int .u64 (ub Z.1.1), .int .u64 (ub Z.1.2), .int .u64 (ub Z.2.1), .int .u64 (ub Z.2.2)] 28)) B)
  generalize (w1.alloc (.cells #[.int .u64 (ub Z.1.1), .int .u64 (ub Z.1.2), .int .u64 (ub Z.2.1), .int .u64 (ub Z.2.2)] 28)) = w2 at *
  have JM0 := JM.c0
  have JM1 := JM.c1
  have JM2 := JM.c2
  have JM3 := JM.c3
  have JM4 := JM.c4
  have JM5 := JM.c5
  have JM6 := JM.c6
  have JM7 := JM.c7
  have JM8 := JM.c8
  have JM9 := JM.c9
  have JMl := JM.lt
  have JT0 := JT.c0
  have JT1 := JT.c1
  have JT2 := JT.c2
  have JT3 := JT.c3
  have JTl := JT.lt
  have lb := B.size
  go_wp2_with fail
  refine (X2.out _).mono ?_
  rintro e w_ ⟨rfl, rfl⟩
  clear JM0 JM1 JM2 JM3 JM4 JM5 JM6 JM7 JM8 JM9 JMl JT0 JT1 JT2 JT3 JTl lb
  have JM0 := JM.c0
  have JM1 := JM.c1
  have JM2 := JM.c2
  have JM3 := JM.c3
  have JM4 := JM.c4
  have JM5 := JM.c5
  have JM6 := JM.c6
  have JM7 := JM.c7
  have JM8 := JM.c8
  have JM9 := JM.c9
  have JMl := JM.lt
  have JT0 := JT.c0
  have JT1 := JT.c1
  have JT2 := JT.c2
  have JT3 := JT.c3
  have JTl := JT.lt
  have lb := B.size
  go_wp2_with fail
  refine (X3.out _).mono ?_
  rintro e w3 ⟨rfl, z⟩
  clear JM0 JM1 JM2 JM3 JM4 JM5 JM6 JM7 JM8 JM9 JMl JT0 JT1 JT2 JT3 JTl lb
  replace JM := JM.below z
  replace JT := JT.below z
  replace B := below_next B z
  clear z
  have JM0 := JM.c0
  have JM1 := JM.c1
  have JM2 := JM.c2
  have JM3 := JM.c3
  have JM4 := JM.c4
  have JM5 := JM.c5
  have JM6 := JM.c6
  have JM7 := JM.c7
  have JM8 := JM.c8
  have JM9 := JM.c9
  have JMl := JM.lt
  have JT0 := JT.c0
  have JT1 := JT.c1
  have JT2 := JT.c2
  have JT3 := JT.c3
  have JTl := JT.lt
  have lb := B.size
  go_wp2_with fail
  refine (X4.out _).mono ?_
  rintro e w4 ⟨rfl, z⟩
  clear JM0 JM1 JM2 JM3 JM4 JM5 JM6 JM7 JM8 JM9 JMl JT0 JT1 JT2 JT3 JTl lb
  replace JM := JM.below z
  replace JT := JT.below z
  replace B := below_next B z
  clear z
  have JM0 := JM.c0
  have JM1 := JM.c1
  have JM2 := JM.c2
  have JM3 := JM.c3
  have JM4 := JM.c4
  have JM5 := JM.c5
  have JM6 := JM.c6
  have JM7 := JM.c7
  have JM8 := JM.c8
  have JM9 := JM.c9
  have JMl := JM.lt
  have JT0 := JT.c0
  have JT1 := JT.c1
  have JT2 := JT.c2
  have JT3 := JT.c3
  have JTl := JT.lt
  have lb := B.size
  go_wp2_with fail
  refine (X5.out _).mono ?_
  rintro e w5 ⟨rfl, z⟩
  clear JM0 JM1 JM2 JM3 JM4 JM5 JM6 JM7 JM8 JM9 JMl JT0 JT1 JT2 JT3 JTl lb
  replace JM := JM.below z
  replace JT := JT.below z
  replace B := below_next B z
  clear z
  have JM0 := JM.c0
  have JM1 := JM.c1
  have JM2 := JM.c2
  have JM3 := JM.c3
  have JM4 := JM.c4
  have JM5 := JM.c5
  have JM6 := JM.c6
  have JM7 := JM.c7
  have JM8 := JM.c8
  have JM9 := JM.c9
  have JMl := JM.lt
  have JT0 := JT.c0
  have JT1 := JT.c1
  have JT2 := JT.c2
  have JT3 := JT.c3
  have JTl := JT.lt
  have lb := B.size
  go_wp2
  go_ret
  exact ⟨rfl, B⟩
set_option maxHeartbeats 8000000 in
theorem sound_hb (op : Int) (c : Bool) (a b : Sc) (x y : B64) (ha : mayX a = true) (hb : mayX b = true) (ho : opIs op) (h1 : hasX a x = true) (h2 : hasX b y = false) (w : World) : Calls Try.prog 13 #[sumV op c a b, .int .u64 (ub x), .int .u64 (ub y)] w fun e w' => e = .returned (.bool true) ∧ Below w.heap.size w w' := by
  have X1 := fun W => cAlu_any op c a b W
  have X2 := fun W => Wd.ralu_any op c (ub x) (ub y) W (ub_ge x) (ub_lt x) (ub_ge y) (ub_lt y)
  have X3 := fun W => cMay_any a W
  have X4 := fun W => cMay_any b W
  have X5 := fun W => cHas_any a x W
  rw [ha] at X3
  rw [hb] at X4
  rw [show scAluE op a b = 0 from (if_pos ⟨ha, hb⟩).trans (if_pos ho)] at X1
  rw [show Wd.aluE op = 0 from if_pos ho, alu_is op ho.1 ho.2 c x y] at X2
  have X6 := fun W => cHas_any b y W
  rw [h1] at X5
  rw [h2] at X6
  clear ha hb ho h1 h2
  generalize scAluT op c a b = Z at *
  generalize oneB op.toNat c x y = n at *
  unfold sv at X1 X3 X4 X5 X6
  unfold sumV
  try dsimp only at X1 X3 X4 X5 X6
  replace X1 := hid X1
  replace X2 := hid X2
  replace X3 := hid X3
  replace X4 := hid X4
  replace X5 := hid X5
  replace X6 := hid X6
  go_enter Try.func13, Try.ntmps13
  go_wp2_with fail
  refine (X1.out _).mono ?_
  rintro e w1 ⟨rfl, z⟩
  have JM : SmC w1 (w.heap.size) op c a b := (SmC.new rfl).below z
  have B := below_next (bel_alloc (Below.refl w.heap.size w)) z
  clear z
  have JM0 := JM.c0
  have JM1 := JM.c1
  have JM2 := JM.c2
  have JM3 := JM.c3
  have JM4 := JM.c4
  have JM5 := JM.c5
  have JM6 := JM.c6
  have JM7 := JM.c7
  have JM8 := JM.c8
  have JM9 := JM.c9
  have JMl := JM.lt
  have lb := B.size
  go_wp2_with fail
  clear JM0 JM1 JM2 JM3 JM4 JM5 JM6 JM7 JM8 JM9 JMl lb
  have JT : SC (w1.alloc (.cells #[.int .u64 (ub Z.1.1), .int .u64 (ub Z.1.2), .int .u64 (ub Z.2.1), .int .u64 (ub Z.2.2)] 28)) (w1.heap.size) Z := (SC.new (x := Z) rfl)
  have gq1JM : w.heap.size < w1.heap.size := JM.lt
  replace JM := (JM.alloc (.cells #[.int .u64 (ub Z.1.1), .int .u64 (ub Z.1.2), .int .u64 (ub Z.2.1), .int .u64 (ub Z.2.2)] 28))
  replace B := (bel_alloc (o := (.cells #[.int .u64 (ub Z.1.1), .int .u64 (ub Z.1.2), .int .u64 (ub Z.2.1), .int .u64 (ub Z.2.2)] 28)) B)
  generalize (w1.alloc (.cells #[.int .u64 (ub Z.1.1), .int .u64 (ub Z.1.2), .int .u64 (ub Z.2.1), .int .u64 (ub Z.2.2)] 28)) = w2 at *
  have JM0 := JM.c0
  have JM1 := JM.c1
  have JM2 := JM.c2
  have JM3 := JM.c3
  have JM4 := JM.c4
  have JM5 := JM.c5
  have JM6 := JM.c6
  have JM7 := JM.c7
  have JM8 := JM.c8
  have JM9 := JM.c9
  have JMl := JM.lt
  have JT0 := JT.c0
  have JT1 := JT.c1
  have JT2 := JT.c2
  have JT3 := JT.c3
  have JTl := JT.lt
  have lb := B.size
  go_wp2_with fail
  refine (X2.out _).mono ?_
  rintro e w_ ⟨rfl, rfl⟩
  clear JM0 JM1 JM2 JM3 JM4 JM5 JM6 JM7 JM8 JM9 JMl JT0 JT1 JT2 JT3 JTl lb
  have JM0 := JM.c0
  have JM1 := JM.c1
  have JM2 := JM.c2
  have JM3 := JM.c3
  have JM4 := JM.c4
  have JM5 := JM.c5
  have JM6 := JM.c6
  have JM7 := JM.c7
  have JM8 := JM.c8
  have JM9 := JM.c9
  have JMl := JM.lt
  have JT0 := JT.c0
  have JT1 := JT.c1
  have JT2 := JT.c2
  have JT3 := JT.c3
  have JTl := JT.lt
  have lb := B.size
  go_wp2_with fail
  refine (X3.out _).mono ?_
  rintro e w3 ⟨rfl, z⟩
  clear JM0 JM1 JM2 JM3 JM4 JM5 JM6 JM7 JM8 JM9 JMl JT0 JT1 JT2 JT3 JTl lb
  replace JM := JM.below z
  replace JT := JT.below z
  replace B := below_next B z
  clear z
  have JM0 := JM.c0
  have JM1 := JM.c1
  have JM2 := JM.c2
  have JM3 := JM.c3
  have JM4 := JM.c4
  have JM5 := JM.c5
  have JM6 := JM.c6
  have JM7 := JM.c7
  have JM8 := JM.c8
  have JM9 := JM.c9
  have JMl := JM.lt
  have JT0 := JT.c0
  have JT1 := JT.c1
  have JT2 := JT.c2
  have JT3 := JT.c3
  have JTl := JT.lt
  have lb := B.size
  go_wp2_with fail
  refine (X4.out _).mono ?_
  rintro e w4 ⟨rfl, z⟩
  clear JM0 JM1 JM2 JM3 JM4 JM5 JM6 JM7 JM8 JM9 JMl JT0 JT1 JT2 JT3 JTl lb
  replace JM := JM.below z
  replace JT := JT.below z
  replace B := below_next B z
  clear z
  have JM0 := JM.c0
  have JM1 := JM.c1
  have JM2 := JM.c2
  have JM3 := JM.c3
  have JM4 := JM.c4
  have JM5 := JM.c5
  have JM6 := JM.c6
  have JM7 := JM.c7
  have JM8 := JM.c8
  have JM9 := JM.c9
  have JMl := JM.lt
  have JT0 := JT.c0
  have JT1 := JT.c1
  have JT2 := JT.c2
  have JT3 := JT.c3
  have JTl := JT.lt
  have lb := B.size
  go_wp2_with fail
  refine (X5.out _).mono ?_
  rintro e w5 ⟨rfl, z⟩
  clear JM0 JM1 JM2 JM3 JM4 JM5 JM6 JM7 JM8 JM9 JMl JT0 JT1 JT2 JT3 JTl lb
  replace JM := JM.below z
  replace JT := JT.below z
  replace B := below_next B z
  clear z
  have JM0 := JM.c0
  have JM1 := JM.c1
  have JM2 := JM.c2
  have JM3 := JM.c3
  have JM4 := JM.c4
  have JM5 := JM.c5
  have JM6 := JM.c6
  have JM7 := JM.c7
  have JM8 := JM.c8
  have JM9 := JM.c9
  have JMl := JM.lt
  have JT0 := JT.c0
  have JT1 := JT.c1
  have JT2 := JT.c2
  have JT3 := JT.c3
  have JTl := JT.lt
  have lb := B.size
  go_wp2_with fail
  refine (X6.out _).mono ?_
  rintro e w6 ⟨rfl, z⟩
  clear JM0 JM1 JM2 JM3 JM4 JM5 JM6 JM7 JM8 JM9 JMl JT0 JT1 JT2 JT3 JTl lb
  replace JM := JM.below z
  replace JT := JT.below z
  replace B := below_next B z
  clear z
  have JM0 := JM.c0
  have JM1 := JM.c1
  have JM2 := JM.c2
  have JM3 := JM.c3
  have JM4 := JM.c4
  have JM5 := JM.c5
  have JM6 := JM.c6
  have JM7 := JM.c7
  have JM8 := JM.c8
  have JM9 := JM.c9
  have JMl := JM.lt
  have JT0 := JT.c0
  have JT1 := JT.c1
  have JT2 := JT.c2
  have JT3 := JT.c3
  have JTl := JT.lt
  have lb := B.size
  go_wp2
  go_ret
  exact ⟨rfl, B⟩
set_option maxHeartbeats 8000000 in
theorem sound_ok (op : Int) (c : Bool) (a b : Sc) (x y : B64) (ha : mayX a = true) (hb : mayX b = true) (ho : opIs op) (h1 : hasX a x = true) (h2 : hasX b y = true) (w : World) : Calls Try.prog 13 #[sumV op c a b, .int .u64 (ub x), .int .u64 (ub y)] w fun e w' => e = .returned (.bool true) ∧ Below w.heap.size w w' := by
  have X1 := fun W => cAlu_any op c a b W
  have X2 := fun W => Wd.ralu_any op c (ub x) (ub y) W (ub_ge x) (ub_lt x) (ub_ge y) (ub_lt y)
  have X3 := fun W => cMay_any a W
  have X4 := fun W => cMay_any b W
  have X5 := fun W => cHas_any a x W
  rw [ha] at X3
  rw [hb] at X4
  rw [show scAluE op a b = 0 from (if_pos ⟨ha, hb⟩).trans (if_pos ho)] at X1
  rw [show Wd.aluE op = 0 from if_pos ho, alu_is op ho.1 ho.2 c x y] at X2
  have X6 := fun W => cHas_any b y W
  have S := scAlu_sound op ho c ha hb ((hasX_iff a x).1 h1).2 ((hasX_iff b y).1 h2).2
  have X7 := fun W => cOf_any x W
  have X8 := fun W => cOf_any y W
  have X9 := fun W => cAlu_any op c (ofX x) (ofX y) W
  rw [scAlu_one op ho c x y, show scAluE op (ofX x) (ofX y) = 0 from (if_pos ⟨ofX_may x, ofX_may y⟩).trans (if_pos ho)] at X9
  have X10 := fun W => cMay_any (scAluT op c a b) W
  rw [S.2] at X10
  have X11 := fun W => cHas_any (scAluT op c a b) (oneB op.toNat c x y) W
  rw [(hasX_iff _ _).2 ⟨S.2, S.1⟩] at X11
  have X12 := fun W => cOf_any (oneB op.toNat c x y) W
  have Q1 := fun W => eq_sc (ofX (oneB op.toNat c x y)) (ofX (oneB op.toNat c x y)) W
  rw [beq_self_eq_true] at Q1
  rw [h1] at X5
  rw [h2] at X6
  clear ha hb ho h1 h2 S
  generalize scAluT op c a b = Z at *
  generalize ofX (oneB op.toNat c x y) = O at *
  generalize oneB op.toNat c x y = n at *
  generalize ofX x = P at *
  generalize ofX y = Q at *
  unfold sv at X1 X3 X4 X5 X6 X7 X8 X9 X10 X11 X12 Q1
  unfold sumV
  try dsimp only at X1 X3 X4 X5 X6 X7 X8 X9 X10 X11 X12
  replace X1 := hid X1
  replace X2 := hid X2
  replace X3 := hid X3
  replace X4 := hid X4
  replace X5 := hid X5
  replace X6 := hid X6
  replace X7 := hid X7
  replace X8 := hid X8
  replace X9 := hid X9
  replace X10 := hid X10
  replace X11 := hid X11
  replace X12 := hid X12
  go_enter Try.func13, Try.ntmps13
  go_wp2_with fail
  refine (X1.out _).mono ?_
  rintro e w1 ⟨rfl, z⟩
  have JM : SmC w1 (w.heap.size) op c a b := (SmC.new rfl).below z
  have B := below_next (bel_alloc (Below.refl w.heap.size w)) z
  clear z
  have JM0 := JM.c0
  have JM1 := JM.c1
  have JM2 := JM.c2
  have JM3 := JM.c3
  have JM4 := JM.c4
  have JM5 := JM.c5
  have JM6 := JM.c6
  have JM7 := JM.c7
  have JM8 := JM.c8
  have JM9 := JM.c9
  have JMl := JM.lt
  have lb := B.size
  go_wp2_with fail
  clear JM0 JM1 JM2 JM3 JM4 JM5 JM6 JM7 JM8 JM9 JMl lb
  have JT : SC (w1.alloc (.cells #[.int .u64 (ub Z.1.1), .int .u64 (ub Z.1.2), .int .u64 (ub Z.2.1), .int .u64 (ub Z.2.2)] 28)) (w1.heap.size) Z := (SC.new (x := Z) rfl)
  have gq1JM : w.heap.size < w1.heap.size := JM.lt
  replace JM := (JM.alloc (.cells #[.int .u64 (ub Z.1.1), .int .u64 (ub Z.1.2), .int .u64 (ub Z.2.1), .int .u64 (ub Z.2.2)] 28))
  replace B := (bel_alloc (o := (.cells #[.int .u64 (ub Z.1.1), .int .u64 (ub Z.1.2), .int .u64 (ub Z.2.1), .int .u64 (ub Z.2.2)] 28)) B)
  generalize (w1.alloc (.cells #[.int .u64 (ub Z.1.1), .int .u64 (ub Z.1.2), .int .u64 (ub Z.2.1), .int .u64 (ub Z.2.2)] 28)) = w2 at *
  have JM0 := JM.c0
  have JM1 := JM.c1
  have JM2 := JM.c2
  have JM3 := JM.c3
  have JM4 := JM.c4
  have JM5 := JM.c5
  have JM6 := JM.c6
  have JM7 := JM.c7
  have JM8 := JM.c8
  have JM9 := JM.c9
  have JMl := JM.lt
  have JT0 := JT.c0
  have JT1 := JT.c1
  have JT2 := JT.c2
  have JT3 := JT.c3
  have JTl := JT.lt
  have lb := B.size
  go_wp2_with fail
  refine (X2.out _).mono ?_
  rintro e w_ ⟨rfl, rfl⟩
  clear JM0 JM1 JM2 JM3 JM4 JM5 JM6 JM7 JM8 JM9 JMl JT0 JT1 JT2 JT3 JTl lb
  have JM0 := JM.c0
  have JM1 := JM.c1
  have JM2 := JM.c2
  have JM3 := JM.c3
  have JM4 := JM.c4
  have JM5 := JM.c5
  have JM6 := JM.c6
  have JM7 := JM.c7
  have JM8 := JM.c8
  have JM9 := JM.c9
  have JMl := JM.lt
  have JT0 := JT.c0
  have JT1 := JT.c1
  have JT2 := JT.c2
  have JT3 := JT.c3
  have JTl := JT.lt
  have lb := B.size
  go_wp2_with fail
  refine (X3.out _).mono ?_
  rintro e w3 ⟨rfl, z⟩
  clear JM0 JM1 JM2 JM3 JM4 JM5 JM6 JM7 JM8 JM9 JMl JT0 JT1 JT2 JT3 JTl lb
  replace JM := JM.below z
  replace JT := JT.below z
  replace B := below_next B z
  clear z
  have JM0 := JM.c0
  have JM1 := JM.c1
  have JM2 := JM.c2
  have JM3 := JM.c3
  have JM4 := JM.c4
  have JM5 := JM.c5
  have JM6 := JM.c6
  have JM7 := JM.c7
  have JM8 := JM.c8
  have JM9 := JM.c9
  have JMl := JM.lt
  have JT0 := JT.c0
  have JT1 := JT.c1
  have JT2 := JT.c2
  have JT3 := JT.c3
  have JTl := JT.lt
  have lb := B.size
  go_wp2_with fail
  refine (X4.out _).mono ?_
  rintro e w4 ⟨rfl, z⟩
  clear JM0 JM1 JM2 JM3 JM4 JM5 JM6 JM7 JM8 JM9 JMl JT0 JT1 JT2 JT3 JTl lb
  replace JM := JM.below z
  replace JT := JT.below z
  replace B := below_next B z
  clear z
  have JM0 := JM.c0
  have JM1 := JM.c1
  have JM2 := JM.c2
  have JM3 := JM.c3
  have JM4 := JM.c4
  have JM5 := JM.c5
  have JM6 := JM.c6
  have JM7 := JM.c7
  have JM8 := JM.c8
  have JM9 := JM.c9
  have JMl := JM.lt
  have JT0 := JT.c0
  have JT1 := JT.c1
  have JT2 := JT.c2
  have JT3 := JT.c3
  have JTl := JT.lt
  have lb := B.size
  go_wp2_with fail
  refine (X5.out _).mono ?_
  rintro e w5 ⟨rfl, z⟩
  clear JM0 JM1 JM2 JM3 JM4 JM5 JM6 JM7 JM8 JM9 JMl JT0 JT1 JT2 JT3 JTl lb
  replace JM := JM.below z
  replace JT := JT.below z
  replace B := below_next B z
  clear z
  have JM0 := JM.c0
  have JM1 := JM.c1
  have JM2 := JM.c2
  have JM3 := JM.c3
  have JM4 := JM.c4
  have JM5 := JM.c5
  have JM6 := JM.c6
  have JM7 := JM.c7
  have JM8 := JM.c8
  have JM9 := JM.c9
  have JMl := JM.lt
  have JT0 := JT.c0
  have JT1 := JT.c1
  have JT2 := JT.c2
  have JT3 := JT.c3
  have JTl := JT.lt
  have lb := B.size
  go_wp2_with fail
  refine (X6.out _).mono ?_
  rintro e w6 ⟨rfl, z⟩
  clear JM0 JM1 JM2 JM3 JM4 JM5 JM6 JM7 JM8 JM9 JMl JT0 JT1 JT2 JT3 JTl lb
  replace JM := JM.below z
  replace JT := JT.below z
  replace B := below_next B z
  clear z
  have JM0 := JM.c0
  have JM1 := JM.c1
  have JM2 := JM.c2
  have JM3 := JM.c3
  have JM4 := JM.c4
  have JM5 := JM.c5
  have JM6 := JM.c6
  have JM7 := JM.c7
  have JM8 := JM.c8
  have JM9 := JM.c9
  have JMl := JM.lt
  have JT0 := JT.c0
  have JT1 := JT.c1
  have JT2 := JT.c2
  have JT3 := JT.c3
  have JTl := JT.lt
  have lb := B.size
  go_wp2_with fail
  clear JM0 JM1 JM2 JM3 JM4 JM5 JM6 JM7 JM8 JM9 JMl JT0 JT1 JT2 JT3 JTl lb
  have q0 := JM.c0
  have q1 := JM.c1
  have keepB : ∀ W, Below w6.heap.size w6 W → W.cell? ⟨w.heap.size, 0, none⟩ = some (.int .i64 op) ∧ W.cell? ⟨w.heap.size, 1, none⟩ = some (.bool c) ∧ Below w6.heap.size w6 W := fun W hW => ⟨cn hW q0, cn hW q1, hW⟩
  have hb0 : Below w6.heap.size w6 w6 := Below.refl _ _
  apply cutG (F := fun g W' => SmC W' (w.heap.size) op c a b ∧ SC W' (w1.heap.size) Z ∧ SC W' g (O) ∧ Below w.heap.size w W')
  · go_region_held3 (fun w' => w'.cell? ⟨w.heap.size, 0, none⟩ = some (.int .i64 op) ∧ w'.cell? ⟨w.heap.size, 1, none⟩ = some (.bool c) ∧ Below w6.heap.size w6 w')
      ((refine keepB _ ?_; go_split_ands; first | (with_reducible assumption) | (with_reducible exact below_dr _) | (with_reducible exact below_next (by assumption) bq) | (with_reducible exact bel_alloc (by assumption)) | (with_reducible exact Below.drew (bel_alloc (by assumption))) | exact Below.setCell (Below.setCell (Below.setCell (Below.setCell (by with_reducible assumption) N.le _) N.le _) N.le _) N.le _))
      (first | (go_at_call 25; go_split_ands; (with_reducible refine (X7.out _).mono ?_); rintro e wq ⟨rfl, bq⟩; have hB7 := below_next (a := w6) (by with_reducible assumption) bq; (first | (have N : NS w6.heap.size wq _ sc0 := ⟨(by first | exact Nat.le_refl _ | exact Below.size (by assumption)), (SC.new rfl).below bq⟩) | (have N : NS w6.heap.size wq _ sc0 := ⟨(by first | exact Nat.le_refl _ | exact Below.size (by assumption)), ((SC.new rfl).below (below_dr _)).below bq⟩) | (have N : NS w6.heap.size wq _ sc0 := ⟨N.le, N.sc.below bq⟩) | skip); (try have n0 := N.sc.c0); (try have n1 := N.sc.c1); (try have n2 := N.sc.c2); (try have n3 := N.sc.c3); (try have nl := N.sc.lt); (try have nf0 := N.sc.f0); (try have nf1 := N.sc.f1); (try have nf2 := N.sc.f2); (try have nf3 := N.sc.f3)) | (go_at_call 25; go_split_ands; (with_reducible refine (X8.out _).mono ?_); rintro e wq ⟨rfl, bq⟩; have hB7 := below_next (a := w6) (by with_reducible assumption) bq; (first | (have N : NS w6.heap.size wq _ sc0 := ⟨(by first | exact Nat.le_refl _ | exact Below.size (by assumption)), (SC.new rfl).below bq⟩) | (have N : NS w6.heap.size wq _ sc0 := ⟨(by first | exact Nat.le_refl _ | exact Below.size (by assumption)), ((SC.new rfl).below (below_dr _)).below bq⟩) | (have N : NS w6.heap.size wq _ sc0 := ⟨N.le, N.sc.below bq⟩) | skip); (try have n0 := N.sc.c0); (try have n1 := N.sc.c1); (try have n2 := N.sc.c2); (try have n3 := N.sc.c3); (try have nl := N.sc.lt); (try have nf0 := N.sc.f0); (try have nf1 := N.sc.f1); (try have nf2 := N.sc.f2); (try have nf3 := N.sc.f3)) | (go_at_call 24; go_split_ands; (with_reducible refine (X9.out _).mono ?_); rintro e wq ⟨rfl, bq⟩; have hB7 := below_next (a := w6) (by with_reducible assumption) bq; (first | (have N : NS w6.heap.size wq _ sc0 := ⟨(by first | exact Nat.le_refl _ | exact Below.size (by assumption)), (SC.new rfl).below bq⟩) | (have N : NS w6.heap.size wq _ sc0 := ⟨(by first | exact Nat.le_refl _ | exact Below.size (by assumption)), ((SC.new rfl).below (below_dr _)).below bq⟩) | (have N : NS w6.heap.size wq _ sc0 := ⟨N.le, N.sc.below bq⟩) | skip); (try have n0 := N.sc.c0); (try have n1 := N.sc.c1); (try have n2 := N.sc.c2); (try have n3 := N.sc.c3); (try have nl := N.sc.lt); (try have nf0 := N.sc.f0); (try have nf1 := N.sc.f1); (try have nf2 := N.sc.f2); (try have nf3 := N.sc.f3)))
    all_goals
      go_split_ands
      first
        | (have hE := eqS N.sc; obtain ⟨g, hg⟩ := hE)
        | (have hE : ∃ g : Nat, wq.heap.size = g := ⟨_, rfl⟩; obtain ⟨g, hg⟩ := hE)
      refine ⟨g, ⟨JM.below (by with_reducible assumption), JT.below (by with_reducible assumption), ?_, below_next B (by with_reducible assumption)⟩, ?_⟩
      · rw [← hg]
        first | exact N.sc.put (O) | exact SC.new rfl
      · first | (rw [hg]; done) | (rw [hg]; exact rfl)
  clear keepB hb0 q0 q1 JM JT B
  intro g7 w7 ⟨JM, JT, JO, B⟩
  have JM0 := JM.c0
  have JM1 := JM.c1
  have JM2 := JM.c2
  have JM3 := JM.c3
  have JM4 := JM.c4
  have JM5 := JM.c5
  have JM6 := JM.c6
  have JM7 := JM.c7
  have JM8 := JM.c8
  have JM9 := JM.c9
  have JMl := JM.lt
  have JT0 := JT.c0
  have JT1 := JT.c1
  have JT2 := JT.c2
  have JT3 := JT.c3
  have JTl := JT.lt
  have JO0 := JO.c0
  have JO1 := JO.c1
  have JO2 := JO.c2
  have JO3 := JO.c3
  have JOl := JO.lt
  have lb := B.size
  go_wp2_with fail
  clear JM0 JM1 JM2 JM3 JM4 JM5 JM6 JM7 JM8 JM9 JMl JT0 JT1 JT2 JT3 JTl JO0 JO1 JO2 JO3 JOl lb
  have q0 := JT.c0
  have q1 := JT.c1
  have q2 := JT.c2
  have q3 := JT.c3
  have q4 := JO.c0
  have q5 := JO.c1
  have q6 := JO.c2
  have q7 := JO.c3
  try dsimp only at q0 q1 q2 q3 q4 q5 q6 q7
  go_region_held3 (fun w' => w'.cell? ⟨w1.heap.size, 0, none⟩ = some (.int .u64 (ub Z.1.1)) ∧ w'.cell? ⟨w1.heap.size, 1, none⟩ = some (.int .u64 (ub Z.1.2)) ∧ w'.cell? ⟨w1.heap.size, 2, none⟩ = some (.int .u64 (ub Z.2.1)) ∧ w'.cell? ⟨w1.heap.size, 3, none⟩ = some (.int .u64 (ub Z.2.2)) ∧ w'.cell? ⟨g7, 0, none⟩ = some (.int .u64 (ub O.1.1)) ∧ w'.cell? ⟨g7, 1, none⟩ = some (.int .u64 (ub O.1.2)) ∧ w'.cell? ⟨g7, 2, none⟩ = some (.int .u64 (ub O.2.1)) ∧ w'.cell? ⟨g7, 3, none⟩ = some (.int .u64 (ub O.2.2)) ∧ Below w7.heap.size w7 w')
    (first | (go_split_ands; with_reducible exact ⟨by with_reducible assumption, by with_reducible assumption, by with_reducible assumption, by with_reducible assumption, by with_reducible assumption, by with_reducible assumption, by with_reducible assumption, by with_reducible assumption, by with_reducible assumption⟩) | (with_reducible exact ⟨cn bq (by with_reducible assumption), cn bq (by with_reducible assumption), cn bq (by with_reducible assumption), cn bq (by with_reducible assumption), cn bq (by with_reducible assumption), cn bq (by with_reducible assumption), cn bq (by with_reducible assumption), cn bq (by with_reducible assumption), below_next (by with_reducible assumption) bq⟩) | (with_reducible exact ⟨cn (below_dr w7) q0, cn (below_dr w7) q1, cn (below_dr w7) q2, cn (below_dr w7) q3, cn (below_dr w7) q4, cn (below_dr w7) q5, cn (below_dr w7) q6, cn (below_dr w7) q7, below_dr w7⟩))
    (first | (go_at_call 18; go_split_ands; (with_reducible refine (X10.out _).mono ?_); rintro e wq ⟨rfl, bq⟩) | (go_at_call 14; go_split_ands; (with_reducible refine (X11.out _).mono ?_); rintro e wq ⟨rfl, bq⟩) | (go_at_call 25; go_split_ands; (with_reducible refine (X12.out _).mono ?_); rintro e wq ⟨rfl, bq⟩))
  go_split_ands
  have zq : Below w7.heap.size w7 wq := by with_reducible assumption
  replace JM := JM.below zq
  replace JT := JT.below zq
  replace JO := JO.below zq
  replace B := below_next B zq
  clear zq bq q0 q1 q2 q3 q4 q5 q6 q7
  skip
  have JM0 := JM.c0
  have JM1 := JM.c1
  have JM2 := JM.c2
  have JM3 := JM.c3
  have JM4 := JM.c4
  have JM5 := JM.c5
  have JM6 := JM.c6
  have JM7 := JM.c7
  have JM8 := JM.c8
  have JM9 := JM.c9
  have JMl := JM.lt
  have JT0 := JT.c0
  have JT1 := JT.c1
  have JT2 := JT.c2
  have JT3 := JT.c3
  have JTl := JT.lt
  have JO0 := JO.c0
  have JO1 := JO.c1
  have JO2 := JO.c2
  have JO3 := JO.c3
  have JOl := JO.lt
  have lb := B.size
  go_wp2
  go_ret
  exact ⟨rfl, B⟩
theorem sound_true (op : Int) (c : Bool) (a b : Sc) (x y : B64) (w : World) : Calls Try.prog 13 #[sumV op c a b, .int .u64 (ub x), .int .u64 (ub y)] w fun e w' => e = .returned (.bool true) ∧ Below w.heap.size w w' := by
  cases ha : mayX a
  · exact sound_na op c a b x y ha w
  · cases hb : mayX b
    · exact sound_nb op c a b x y ha hb w
    · by_cases ho : opIs op
      · cases h1 : hasX a x
        · exact sound_ha op c a b x y ha hb ho h1 w
        · cases h2 : hasX b y
          · exact sound_hb op c a b x y ha hb ho h1 h2 w
          · exact sound_ok op c a b x y ha hb ho h1 h2 w
      · exact sound_no op c a b x y ha hb ho w
end Go.Proofs.Ytebilklcmakhnaa

namespace Go.Proofs.Ytebilklcmakhnaa
set_option linter.unusedSimpArgs false
set_option linter.unusedVariables false
set_option maxRecDepth 100000
open Go.ChangeShapes Go.WideShapes Go.ChangeAt Go.RowKit

def swpE (bits : Int) (x : Sc) : Int := if (bits = 16 ∨ bits = 32 ∨ bits = 64) ∧ mayX x = true then 0 else 1
set_option maxHeartbeats 8000000 in
theorem cSwap_none (bits : Int) (x : Sc) (h16 : ¬ bits = 16) (h32 : ¬ bits = 32) (h64 : ¬ bits = 64) (w : World) : Calls Try.prog 15 #[.int .i64 bits, sv x] w fun e w' => e = .returned (.tuple #[sv sc0, .int .i64 1]) ∧ Below w.heap.size w w' := by
  have X1 := fun (n : B64) W => Wd.swap_none bits (ub n) W h16 h32 h64
  clear h16 h32 h64
  obtain ⟨⟨v, m⟩, l, h⟩ := x
  unfold sv
  dsimp only
  replace X1 := hid (X1 v)
  go_enter Try.func15, Try.ntmps15
  go_wp2_with fail
  have JX : SC ((w.alloc (.cells #[.int .u64 (ub v), .int .u64 (ub m), .int .u64 (ub l), .int .u64 (ub h)] 28)).alloc (.cells #[.int .u64 0, .int .u64 0, .int .u64 0, .int .u64 0] 28)) (w.heap.size) ((v, m), l, h) := ((SC.new (x := ((v, m), l, h)) rfl).alloc _)
  have JR : SC ((w.alloc (.cells #[.int .u64 (ub v), .int .u64 (ub m), .int .u64 (ub l), .int .u64 (ub h)] 28)).alloc (.cells #[.int .u64 0, .int .u64 0, .int .u64 0, .int .u64 0] 28)) (w.heap.size + 1) sc0 := (SC.new (x := sc0) (by simp))
  have B : Below w.heap.size w ((w.alloc (.cells #[.int .u64 (ub v), .int .u64 (ub m), .int .u64 (ub l), .int .u64 (ub h)] 28)).alloc (.cells #[.int .u64 0, .int .u64 0, .int .u64 0, .int .u64 0] 28)) := (bel_alloc (bel_alloc (Below.refl _ _)))
  generalize ((w.alloc (.cells #[.int .u64 (ub v), .int .u64 (ub m), .int .u64 (ub l), .int .u64 (ub h)] 28)).alloc (.cells #[.int .u64 0, .int .u64 0, .int .u64 0, .int .u64 0] 28)) = w00 at *
  have JX0 := JX.c0
  have JX1 := JX.c1
  have JX2 := JX.c2
  have JX3 := JX.c3
  have JXl := JX.lt
  have JR0 := JR.c0
  have JR1 := JR.c1
  have JR2 := JR.c2
  have JR3 := JR.c3
  have JRl := JR.lt
  have JRf0 := JR.f0
  have JRf1 := JR.f1
  have JRf2 := JR.f2
  have JRf3 := JR.f3
  have lb := B.size
  go_wp2_with fail
  refine (X1.out _).mono ?_
  rintro e w_ ⟨rfl, rfl⟩
  clear JX0 JX1 JX2 JX3 JXl JR0 JR1 JR2 JR3 JRl JRf0 JRf1 JRf2 JRf3 lb
  have JX0 := JX.c0
  have JX1 := JX.c1
  have JX2 := JX.c2
  have JX3 := JX.c3
  have JXl := JX.lt
  have JR0 := JR.c0
  have JR1 := JR.c1
  have JR2 := JR.c2
  have JR3 := JR.c3
  have JRl := JR.lt
  have JRf0 := JR.f0
  have JRf1 := JR.f1
  have JRf2 := JR.f2
  have JRf3 := JR.f3
  have lb := B.size
  go_wp2
  exact bodyPost_ret (v := .tuple #[sv sc0, .int .i64 1]) (by simp [results, Try.results15, go_sem, JX0, JX1, JX2, JX3, JXl, JR0, JR1, JR2, JR3, JRl]; try first | rfl | exact ⟨rfl, rfl⟩) rfl ⟨rfl, putS_below sc0 B (by omega)⟩
set_option maxHeartbeats 8000000 in
theorem cSwap_bad (k : Nat) (hk : k = 2 ∨ k = 4 ∨ k = 8) (x : Sc) (hm : mayX x = false) (w : World) : Calls Try.prog 15 #[.int .i64 (8 * k : Nat), sv x] w fun e w' => e = .returned (.tuple #[sv sc0, .int .i64 1]) ∧ Below w.heap.size w w' := by
  have X1 := fun W => Wd.swap_some k hk (ub x.1.1) W (ub_ge _) (ub_lt _)
  have X2 := fun W => cMay_any x W
  rw [hm] at X2
  generalize Wd.rev k (ub x.1.1) = N at *
  generalize ((8 * k : Nat) : Int) = b at *
  clear hm hk
  obtain ⟨⟨v, m⟩, l, h⟩ := x
  unfold sv at X2 ⊢
  dsimp only at X1 X2 ⊢
  replace X1 := hid X1
  replace X2 := hid X2
  go_enter Try.func15, Try.ntmps15
  go_wp2_with fail
  have JX : SC ((w.alloc (.cells #[.int .u64 (ub v), .int .u64 (ub m), .int .u64 (ub l), .int .u64 (ub h)] 28)).alloc (.cells #[.int .u64 0, .int .u64 0, .int .u64 0, .int .u64 0] 28)) (w.heap.size) ((v, m), l, h) := ((SC.new (x := ((v, m), l, h)) rfl).alloc _)
  have JR : SC ((w.alloc (.cells #[.int .u64 (ub v), .int .u64 (ub m), .int .u64 (ub l), .int .u64 (ub h)] 28)).alloc (.cells #[.int .u64 0, .int .u64 0, .int .u64 0, .int .u64 0] 28)) (w.heap.size + 1) sc0 := (SC.new (x := sc0) (by simp))
  have B : Below w.heap.size w ((w.alloc (.cells #[.int .u64 (ub v), .int .u64 (ub m), .int .u64 (ub l), .int .u64 (ub h)] 28)).alloc (.cells #[.int .u64 0, .int .u64 0, .int .u64 0, .int .u64 0] 28)) := (bel_alloc (bel_alloc (Below.refl _ _)))
  generalize ((w.alloc (.cells #[.int .u64 (ub v), .int .u64 (ub m), .int .u64 (ub l), .int .u64 (ub h)] 28)).alloc (.cells #[.int .u64 0, .int .u64 0, .int .u64 0, .int .u64 0] 28)) = w00 at *
  have JX0 := JX.c0
  have JX1 := JX.c1
  have JX2 := JX.c2
  have JX3 := JX.c3
  have JXl := JX.lt
  have JR0 := JR.c0
  have JR1 := JR.c1
  have JR2 := JR.c2
  have JR3 := JR.c3
  have JRl := JR.lt
  have JRf0 := JR.f0
  have JRf1 := JR.f1
  have JRf2 := JR.f2
  have JRf3 := JR.f3
  have lb := B.size
  go_wp2_with fail
  refine (X1.out _).mono ?_
  rintro e w_ ⟨rfl, rfl⟩
  clear JX0 JX1 JX2 JX3 JXl JR0 JR1 JR2 JR3 JRl JRf0 JRf1 JRf2 JRf3 lb
  have JX0 := JX.c0
  have JX1 := JX.c1
  have JX2 := JX.c2
  have JX3 := JX.c3
  have JXl := JX.lt
  have JR0 := JR.c0
  have JR1 := JR.c1
  have JR2 := JR.c2
  have JR3 := JR.c3
  have JRl := JR.lt
  have JRf0 := JR.f0
  have JRf1 := JR.f1
  have JRf2 := JR.f2
  have JRf3 := JR.f3
  have lb := B.size
  go_wp2_with fail
  refine (X2.out _).mono ?_
  rintro e w1 ⟨rfl, z⟩
  clear JX0 JX1 JX2 JX3 JXl JR0 JR1 JR2 JR3 JRl JRf0 JRf1 JRf2 JRf3 lb
  replace JX := JX.below z
  replace JR := JR.below z
  replace B := below_next B z
  clear z
  have JX0 := JX.c0
  have JX1 := JX.c1
  have JX2 := JX.c2
  have JX3 := JX.c3
  have JXl := JX.lt
  have JR0 := JR.c0
  have JR1 := JR.c1
  have JR2 := JR.c2
  have JR3 := JR.c3
  have JRl := JR.lt
  have JRf0 := JR.f0
  have JRf1 := JR.f1
  have JRf2 := JR.f2
  have JRf3 := JR.f3
  have lb := B.size
  go_wp2
  exact bodyPost_ret (v := .tuple #[sv sc0, .int .i64 1]) (by simp [results, Try.results15, go_sem, JX0, JX1, JX2, JX3, JXl, JR0, JR1, JR2, JR3, JRl]; try first | rfl | exact ⟨rfl, rfl⟩) rfl ⟨rfl, putS_below sc0 B (by omega)⟩
set_option maxHeartbeats 8000000 in
theorem cSwap_ok (k : Nat) (hk : k = 2 ∨ k = 4 ∨ k = 8) (x : Sc) (hm : mayX x = true) (w : World) : Calls Try.prog 15 #[.int .i64 (8 * k : Nat), sv x] w fun e w' => e = .returned (.tuple #[sv (optS (settle (swpX k x))), .int .i64 0]) ∧ Below w.heap.size w w' := by
  have k8 : k ≤ 8 := by omega
  have X1 := fun W => Wd.swap_some k hk (ub x.1.1) W (ub_ge _) (ub_lt _)
  have X2 := fun W => cMay_any x W
  have X3 := fun W => Wd.swap_some k hk (ub x.1.2) W (ub_ge _) (ub_lt _)
  have X4 := fun W => cBelow_any ((8 * k : Nat) : Int) W
  have X5 := fun W => cSettle_any (swB k x.1.1, swB k x.1.2) (belowI (8 * k : Nat)).2 W
  rw [show ((swB k x.1.1, swB k x.1.2), (belowI (8 * k : Nat)).2) = swpX k x from rfl] at X5
  rw [← sw_ub k k8] at X1 X3
  rw [hm] at X2
  generalize (settle (swpX k x)).isSome = K at *
  generalize optS (settle (swpX k x)) = P at *
  generalize swB k x.1.1 = V at *
  generalize swB k x.1.2 = U at *
  generalize belowI ((8 * k : Nat) : Int) = Y at *
  generalize ((8 * k : Nat) : Int) = b at *
  have HF := fun W => fld2 Y W
  clear hm hk k8
  obtain ⟨⟨v, m⟩, l, h⟩ := x
  unfold sv at X2 X4 X5 ⊢
  unfold tv at X5
  dsimp only at X1 X2 X3 X4 X5 ⊢
  replace X1 := hid X1
  replace X2 := hid X2
  replace X3 := hid X3
  replace X4 := hid X4
  replace X5 := hid X5
  go_enter Try.func15, Try.ntmps15
  go_wp2_with fail
  have JX : SC ((w.alloc (.cells #[.int .u64 (ub v), .int .u64 (ub m), .int .u64 (ub l), .int .u64 (ub h)] 28)).alloc (.cells #[.int .u64 0, .int .u64 0, .int .u64 0, .int .u64 0] 28)) (w.heap.size) ((v, m), l, h) := ((SC.new (x := ((v, m), l, h)) rfl).alloc _)
  have JR : SC ((w.alloc (.cells #[.int .u64 (ub v), .int .u64 (ub m), .int .u64 (ub l), .int .u64 (ub h)] 28)).alloc (.cells #[.int .u64 0, .int .u64 0, .int .u64 0, .int .u64 0] 28)) (w.heap.size + 1) sc0 := (SC.new (x := sc0) (by simp))
  have B : Below w.heap.size w ((w.alloc (.cells #[.int .u64 (ub v), .int .u64 (ub m), .int .u64 (ub l), .int .u64 (ub h)] 28)).alloc (.cells #[.int .u64 0, .int .u64 0, .int .u64 0, .int .u64 0] 28)) := (bel_alloc (bel_alloc (Below.refl _ _)))
  generalize ((w.alloc (.cells #[.int .u64 (ub v), .int .u64 (ub m), .int .u64 (ub l), .int .u64 (ub h)] 28)).alloc (.cells #[.int .u64 0, .int .u64 0, .int .u64 0, .int .u64 0] 28)) = w00 at *
  have JX0 := JX.c0
  have JX1 := JX.c1
  have JX2 := JX.c2
  have JX3 := JX.c3
  have JXl := JX.lt
  have JR0 := JR.c0
  have JR1 := JR.c1
  have JR2 := JR.c2
  have JR3 := JR.c3
  have JRl := JR.lt
  have JRf0 := JR.f0
  have JRf1 := JR.f1
  have JRf2 := JR.f2
  have JRf3 := JR.f3
  have lb := B.size
  go_wp2_with fail
  refine (X1.out _).mono ?_
  rintro e w_ ⟨rfl, rfl⟩
  clear JX0 JX1 JX2 JX3 JXl JR0 JR1 JR2 JR3 JRl JRf0 JRf1 JRf2 JRf3 lb
  have JX0 := JX.c0
  have JX1 := JX.c1
  have JX2 := JX.c2
  have JX3 := JX.c3
  have JXl := JX.lt
  have JR0 := JR.c0
  have JR1 := JR.c1
  have JR2 := JR.c2
  have JR3 := JR.c3
  have JRl := JR.lt
  have JRf0 := JR.f0
  have JRf1 := JR.f1
  have JRf2 := JR.f2
  have JRf3 := JR.f3
  have lb := B.size
  go_wp2_with fail
  refine (X2.out _).mono ?_
  rintro e w1 ⟨rfl, z⟩
  clear JX0 JX1 JX2 JX3 JXl JR0 JR1 JR2 JR3 JRl JRf0 JRf1 JRf2 JRf3 lb
  replace JX := JX.below z
  replace JR := JR.below z
  replace B := below_next B z
  clear z
  have JX0 := JX.c0
  have JX1 := JX.c1
  have JX2 := JX.c2
  have JX3 := JX.c3
  have JXl := JX.lt
  have JR0 := JR.c0
  have JR1 := JR.c1
  have JR2 := JR.c2
  have JR3 := JR.c3
  have JRl := JR.lt
  have JRf0 := JR.f0
  have JRf1 := JR.f1
  have JRf2 := JR.f2
  have JRf3 := JR.f3
  have lb := B.size
  go_wp2_with fail
  refine (X3.out _).mono ?_
  rintro e w_ ⟨rfl, rfl⟩
  clear JX0 JX1 JX2 JX3 JXl JR0 JR1 JR2 JR3 JRl JRf0 JRf1 JRf2 JRf3 lb
  have JX0 := JX.c0
  have JX1 := JX.c1
  have JX2 := JX.c2
  have JX3 := JX.c3
  have JXl := JX.lt
  have JR0 := JR.c0
  have JR1 := JR.c1
  have JR2 := JR.c2
  have JR3 := JR.c3
  have JRl := JR.lt
  have JRf0 := JR.f0
  have JRf1 := JR.f1
  have JRf2 := JR.f2
  have JRf3 := JR.f3
  have lb := B.size
  go_wp2_with fail
  refine (X4.out _).mono ?_
  rintro e w2 ⟨rfl, z⟩
  clear JX0 JX1 JX2 JX3 JXl JR0 JR1 JR2 JR3 JRl JRf0 JRf1 JRf2 JRf3 lb
  replace JX := JX.below z
  replace JR := JR.below z
  replace B := below_next B z
  clear z
  have JX0 := JX.c0
  have JX1 := JX.c1
  have JX2 := JX.c2
  have JX3 := JX.c3
  have JXl := JX.lt
  have JR0 := JR.c0
  have JR1 := JR.c1
  have JR2 := JR.c2
  have JR3 := JR.c3
  have JRl := JR.lt
  have JRf0 := JR.f0
  have JRf1 := JR.f1
  have JRf2 := JR.f2
  have JRf3 := JR.f3
  have lb := B.size
  go_wp2_with fail
  refine (X5.out _).mono ?_
  rintro e w3 ⟨rfl, z⟩
  clear JX0 JX1 JX2 JX3 JXl JR0 JR1 JR2 JR3 JRl JRf0 JRf1 JRf2 JRf3 lb
  replace JX := JX.below z
  replace JR := JR.below z
  replace B := below_next B z
  clear z
  have JX0 := JX.c0
  have JX1 := JX.c1
  have JX2 := JX.c2
  have JX3 := JX.c3
  have JXl := JX.lt
  have JR0 := JR.c0
  have JR1 := JR.c1
  have JR2 := JR.c2
  have JR3 := JR.c3
  have JRl := JR.lt
  have JRf0 := JR.f0
  have JRf1 := JR.f1
  have JRf2 := JR.f2
  have JRf3 := JR.f3
  have lb := B.size
  go_wp2
  exact bodyPost_ret (v := .tuple #[sv P, .int .i64 0]) (by simp [results, Try.results15, go_sem, JX0, JX1, JX2, JX3, JXl, JR0, JR1, JR2, JR3, JRl]; try first | rfl | exact ⟨rfl, rfl⟩) rfl ⟨rfl, bel_alloc (putS_below P B (by omega))⟩
end Go.Proofs.Ytebilklcmakhnaa

namespace Go.Proofs.Ytebilklcmakhnaa
set_option linter.unusedSimpArgs false
set_option linter.unusedVariables false
set_option maxRecDepth 100000
open Go.ChangeShapes Go.WideShapes Go.ChangeAt Go.RowKit

theorem kn1 : settle ((1#64, 0#64), (2#64, 3#64)) = none := by decide +kernel
theorem kn2 : scAluT 0 true ((0#64, 7#64), (0#64, 7#64)) (ofX 8#64) = ((8#64, 7#64), (8#64, 15#64)) := by decide +kernel
theorem kn2e : scAluE 0 ((0#64, 7#64), (0#64, 7#64)) (ofX 8#64) = 0 := by decide +kernel
theorem kn3 : (scAluT 7 false allX (ofX 28#64)).2 = (0#64, 15#64) := by decide +kernel
theorem kn3e : scAluE 7 allX (ofX 28#64) = 0 := by decide +kernel
theorem kn4 : refT 2 true allX (ofX 9#64) false = (((0#64, 15#64), (0#64, 9#64)), ofX 9#64, true) := by decide +kernel
theorem kn5 : refT 1 true allX (ofX 3#64) true = (ofX 3#64, ofX 3#64, true) := by decide +kernel
theorem kn6 : refT 4 true allX (ofX 3#64) false = (((0#64, 18446744073709551612#64), (0#64, 18446744073709551612#64)), ofX 3#64, true) := by decide +kernel
theorem kn7 : optS (settle (swpX 2 (belowI 8))) = ((0#64, 65280#64), (0#64, 65280#64)) := by decide +kernel
theorem kn7m : mayX (belowI 8) = true := by decide +kernel
theorem kn8 : scAluT 13 true ((0#64, 7#64), (0#64, 7#64)) ((0#64, 7#64), (0#64, 7#64)) = sc0 := by decide +kernel
theorem kn8e : scAluE 13 ((0#64, 7#64), (0#64, 7#64)) ((0#64, 7#64), (0#64, 7#64)) = 20 := by decide +kernel
theorem kn9 : scAluT 0 true ((1#64, 0#64), (0#64, 0#64)) ((0#64, 7#64), (0#64, 7#64)) = sc0 := by decide +kernel
theorem kn9e : scAluE 0 ((1#64, 0#64), (0#64, 0#64)) ((0#64, 7#64), (0#64, 7#64)) = 1 := by decide +kernel
set_option maxHeartbeats 16000000 in
theorem known_walk (w : World) : Calls Try.prog 7 #[] w fun e w' => e = .returned (.bool true) ∧ Below w.heap.size w w' := by
  obtain ⟨D, hD⟩ : ∃ z : Sc, z = ((0#64, 7#64), (0#64, 7#64)) := ⟨_, rfl⟩
  obtain ⟨U, hU⟩ : ∃ z : Sc, z = ((8#64, 7#64), (8#64, 15#64)) := ⟨_, rfl⟩
  obtain ⟨G, hG⟩ : ∃ z : Sc, z = scAluT 7 false allX (ofX 28#64) := ⟨_, rfl⟩
  obtain ⟨I, hI⟩ : ∃ z : Sc, z = ((0#64, 15#64), (0#64, 9#64)) := ⟨_, rfl⟩
  obtain ⟨L, hL⟩ : ∃ z : Sc, z = ((0#64, 18446744073709551612#64), (0#64, 18446744073709551612#64)) := ⟨_, rfl⟩
  obtain ⟨O, hO⟩ : ∃ z : Sc, z = ((0#64, 65280#64), (0#64, 65280#64)) := ⟨_, rfl⟩
  obtain ⟨Z, hZ⟩ : ∃ z : Sc, z = sc0 := ⟨_, rfl⟩
  have XA : ∀ W, Calls Try.prog 23 #[.agg #[.int .u64 1, .int .u64 0], .agg #[.int .u64 2, .int .u64 3]] W fun e w' => e = .returned (.tuple #[sv Z, .bool false]) ∧ Below W.heap.size W w' := by
    intro W
    have h := cSettle_any (1#64, 0#64) (2#64, 3#64) W
    rw [kn1, show optS none = sc0 from rfl, ← hZ] at h
    exact h
  have XB := fun W => cAll_any W
  have N7 : ∀ W, Calls Try.prog 25 #[.int .u64 7] W fun e w' => e = .returned (sv (ofX 7#64)) ∧ Below W.heap.size W w' := by
    intro W
    have h := cOf_any 7#64 W
    exact h
  have N8 : ∀ W, Calls Try.prog 25 #[.int .u64 8] W fun e w' => e = .returned (sv (ofX 8#64)) ∧ Below W.heap.size W w' := by
    intro W
    have h := cOf_any 8#64 W
    exact h
  have N28 : ∀ W, Calls Try.prog 25 #[.int .u64 28] W fun e w' => e = .returned (sv (ofX 28#64)) ∧ Below W.heap.size W w' := by
    intro W
    have h := cOf_any 28#64 W
    exact h
  have N9 : ∀ W, Calls Try.prog 25 #[.int .u64 9] W fun e w' => e = .returned (sv (ofX 9#64)) ∧ Below W.heap.size W w' := by
    intro W
    have h := cOf_any 9#64 W
    exact h
  have N3 : ∀ W, Calls Try.prog 25 #[.int .u64 3] W fun e w' => e = .returned (sv (ofX 3#64)) ∧ Below W.heap.size W w' := by
    intro W
    have h := cOf_any 3#64 W
    exact h
  have XC : ∀ W, Calls Try.prog 24 #[.int .i64 5, .bool true, sv allX, sv (ofX 7#64)] W fun e w' => e = .returned (.tuple #[sv D, .int .i64 0]) ∧ Below W.heap.size W w' := by
    intro W
    have h := cAlu_any 5 true allX (ofX 7#64) W
    rw [aw2, aw3, ← hD] at h
    exact h
  have XD : ∀ W, Calls Try.prog 24 #[.int .i64 0, .bool true, sv D, sv (ofX 8#64)] W fun e w' => e = .returned (.tuple #[sv U, .int .i64 0]) ∧ Below W.heap.size W w' := by
    intro W
    have h := cAlu_any 0 true D (ofX 8#64) W
    rw [hD, kn2, kn2e, ← hU, ← hD] at h
    exact h
  have XE : ∀ W, Calls Try.prog 24 #[.int .i64 7, .bool false, sv allX, sv (ofX 28#64)] W fun e w' => e = .returned (.tuple #[sv G, .int .i64 0]) ∧ Below W.heap.size W w' := by
    intro W
    have h := cAlu_any 7 false allX (ofX 28#64) W
    rw [kn3e, ← hG] at h
    exact h
  have XF : ∀ W, Calls Try.prog 26 #[.int .i64 2, .bool true, sv allX, sv (ofX 9#64), .bool false] W fun e w' => e = .returned (.tuple #[sv I, sv (ofX 9#64), .bool true]) ∧ Below W.heap.size W w' := by
    intro W
    have h := cRefine_any 2 true allX (ofX 9#64) false W
    rw [kn4, ← hI] at h
    exact h
  have XG : ∀ W, Calls Try.prog 26 #[.int .i64 1, .bool true, sv allX, sv (ofX 3#64), .bool true] W fun e w' => e = .returned (.tuple #[sv (ofX 3#64), sv (ofX 3#64), .bool true]) ∧ Below W.heap.size W w' := by
    intro W
    have h := cRefine_any 1 true allX (ofX 3#64) true W
    rw [kn5] at h
    exact h
  have XH : ∀ W, Calls Try.prog 26 #[.int .i64 4, .bool true, sv allX, sv (ofX 3#64), .bool false] W fun e w' => e = .returned (.tuple #[sv L, sv (ofX 3#64), .bool true]) ∧ Below W.heap.size W w' := by
    intro W
    have h := cRefine_any 4 true allX (ofX 3#64) false W
    rw [kn6, ← hL] at h
    exact h
  have XI := fun W => cBelow_any 8 W
  have XJ : ∀ W, Calls Try.prog 15 #[.int .i64 16, sv (belowI 8)] W fun e w' => e = .returned (.tuple #[sv O, .int .i64 0]) ∧ Below W.heap.size W w' := by
    intro W
    have h := cSwap_ok 2 (.inl rfl) (belowI 8) kn7m W
    rw [kn7, ← hO] at h
    exact h
  have XK : ∀ W, Calls Try.prog 24 #[.int .i64 13, .bool true, sv D, sv D] W fun e w' => e = .returned (.tuple #[sv Z, .int .i64 20]) ∧ Below W.heap.size W w' := by
    intro W
    have h := cAlu_any 13 true D D W
    rw [hD, kn8, kn8e, ← hZ, ← hD] at h
    exact h
  have XL : ∀ W, Calls Try.prog 24 #[.int .i64 0, .bool true, .agg #[.int .u64 1, .int .u64 0, .int .u64 0, .int .u64 0], sv D] W fun e w' => e = .returned (.tuple #[sv Z, .int .i64 1]) ∧ Below W.heap.size W w' := by
    intro W
    have h := cAlu_any 0 true ((1#64, 0#64), (0#64, 0#64)) D W
    rw [hD, kn9, kn9e, ← hZ, ← hD] at h
    exact h
  have XM : ∀ W, Calls Try.prog 15 #[.int .i64 8, sv D] W fun e w' => e = .returned (.tuple #[sv Z, .int .i64 1]) ∧ Below W.heap.size W w' := by
    intro W
    have h := cSwap_none 8 D (by decide) (by decide) (by decide) W
    rw [← hZ] at h
    exact h
  have XW := fun W => awake_true W
  have E1 : ∀ W, (binOp .eql 28 (sv U) (.agg #[.int .u64 8, .int .u64 7, .int .u64 8, .int .u64 15])).run Try.prog W = .ok (.bool true) W := by
    intro W
    have h := eq_sc U ((8#64, 7#64), (8#64, 15#64)) W
    rw [show (U == ((8#64, 7#64), (8#64, 15#64))) = true from beq_iff_eq.2 (hU)] at h
    exact h
  have E2 : ∀ W, (binOp .eql 26 (tv G.2) (.agg #[.int .u64 0, .int .u64 15])).run Try.prog W = .ok (.bool true) W := by
    intro W
    have h := eq_sp G.2 ((0#64, 15#64) : Tn) W
    rw [show (G.2 == ((0#64, 15#64) : Tn)) = true from beq_iff_eq.2 (by rw [hG]; exact kn3)] at h
    exact h
  have E7 : ∀ W, (binOp .eql 28 (sv O) (.agg #[.int .u64 0, .int .u64 65280, .int .u64 0, .int .u64 65280])).run Try.prog W = .ok (.bool true) W := by
    intro W
    have h := eq_sc O ((0#64, 65280#64), (0#64, 65280#64)) W
    rw [show (O == ((0#64, 65280#64), (0#64, 65280#64))) = true from beq_iff_eq.2 (hO)] at h
    exact h
  have E3 := fun W => eq_sc I I W
  rw [beq_self_eq_true] at E3
  have E4 := fun W => eq_sc (ofX 9#64) (ofX 9#64) W
  rw [beq_self_eq_true] at E4
  have E5 := fun W => eq_sc (ofX 3#64) (ofX 3#64) W
  rw [beq_self_eq_true] at E5
  have E6 := fun W => eq_sc L L W
  rw [beq_self_eq_true] at E6
  have KI : ∀ (u : World), SC (u.alloc (.cells #[.int .u64 0, .int .u64 15, .int .u64 0, .int .u64 9] 28)) u.heap.size I := by intro u; rw [hI]; exact SC.new (x := ((0#64, 15#64), (0#64, 9#64))) rfl
  have KL : ∀ (u : World), SC (u.alloc (.cells #[.int .u64 0, .int .u64 18446744073709551612, .int .u64 0, .int .u64 18446744073709551612] 28)) u.heap.size L := by intro u; rw [hL]; exact SC.new (x := ((0#64, 18446744073709551612#64), (0#64, 18446744073709551612#64))) rfl
  replace KI := hid KI
  replace KL := hid KL
  clear hD hU hG hI hL hO hZ
  generalize allX = Y at *
  generalize ofX 7#64 = V7 at *
  generalize ofX 8#64 = V8 at *
  generalize ofX 28#64 = V28 at *
  generalize ofX 9#64 = V9 at *
  generalize ofX 3#64 = V3 at *
  generalize belowI 8 = B8 at *
  unfold tv at E2
  unfold sv at XA XB N7 N8 N28 N9 N3 XC XD XE XF XG XH XI XJ XK XL XM E1 E3 E4 E5 E6 E7
  replace XA := hid XA
  replace XB := hid XB
  replace N7 := hid N7
  replace N8 := hid N8
  replace N28 := hid N28
  replace N9 := hid N9
  replace N3 := hid N3
  replace XC := hid XC
  replace XD := hid XD
  replace XE := hid XE
  replace XF := hid XF
  replace XG := hid XG
  replace XH := hid XH
  replace XI := hid XI
  replace XJ := hid XJ
  replace XK := hid XK
  replace XL := hid XL
  replace XM := hid XM
  replace XW := hid XW
  go_enter Try.func7, Try.ntmps7
  go_wp2_with fail
  refine (XA.out _).mono ?_
  rintro e w1 ⟨rfl, z⟩
  have B := z
  clear z
  have lb := B.size
  go_wp2_with fail
  refine (XB.out _).mono ?_
  rintro e w2 ⟨rfl, z⟩
  clear lb
  have Ja : SC w2 (w1.heap.size) (Z) := (SC.new rfl).below z
  replace B := below_next (bel_alloc B) z
  clear z
  have Ja0 := Ja.c0
  have Ja1 := Ja.c1
  have Ja2 := Ja.c2
  have Ja3 := Ja.c3
  have Jal := Ja.lt
  have lb := B.size
  go_wp2_with fail
  refine (N7.out _).mono ?_
  rintro e w3 ⟨rfl, z⟩
  clear Ja0 Ja1 Ja2 Ja3 Jal lb
  replace Ja := Ja.below z
  replace B := below_next B z
  clear z
  have Ja0 := Ja.c0
  have Ja1 := Ja.c1
  have Ja2 := Ja.c2
  have Ja3 := Ja.c3
  have Jal := Ja.lt
  have lb := B.size
  go_wp2_with fail
  refine (XC.out _).mono ?_
  rintro e w4 ⟨rfl, z⟩
  clear Ja0 Ja1 Ja2 Ja3 Jal lb
  replace Ja := Ja.below z
  replace B := below_next B z
  clear z
  have Ja0 := Ja.c0
  have Ja1 := Ja.c1
  have Ja2 := Ja.c2
  have Ja3 := Ja.c3
  have Jal := Ja.lt
  have lb := B.size
  go_wp2_with fail
  clear Ja0 Ja1 Ja2 Ja3 Jal lb
  have Jb : SC (w4.alloc (.cells #[.int .u64 (ub D.1.1), .int .u64 (ub D.1.2), .int .u64 (ub D.2.1), .int .u64 (ub D.2.2)] 28)) (w4.heap.size) D := (SC.new (x := D) rfl)
  have gq4Ja : w1.heap.size < w4.heap.size := Ja.lt
  replace Ja := (Ja.alloc (.cells #[.int .u64 (ub D.1.1), .int .u64 (ub D.1.2), .int .u64 (ub D.2.1), .int .u64 (ub D.2.2)] 28))
  replace B := (bel_alloc (o := (.cells #[.int .u64 (ub D.1.1), .int .u64 (ub D.1.2), .int .u64 (ub D.2.1), .int .u64 (ub D.2.2)] 28)) B)
  generalize (w4.alloc (.cells #[.int .u64 (ub D.1.1), .int .u64 (ub D.1.2), .int .u64 (ub D.2.1), .int .u64 (ub D.2.2)] 28)) = w5 at *
  have Ja0 := Ja.c0
  have Ja1 := Ja.c1
  have Ja2 := Ja.c2
  have Ja3 := Ja.c3
  have Jal := Ja.lt
  have Jb0 := Jb.c0
  have Jb1 := Jb.c1
  have Jb2 := Jb.c2
  have Jb3 := Jb.c3
  have Jbl := Jb.lt
  have lb := B.size
  go_wp2_with fail
  clear Ja0 Ja1 Ja2 Ja3 Jal Jb0 Jb1 Jb2 Jb3 Jbl lb
  have q0 := Jb.c0
  have q1 := Jb.c1
  have q2 := Jb.c2
  have q3 := Jb.c3
  have keepB : ∀ W, Below w5.heap.size w5 W → W.cell? ⟨w4.heap.size, 0, none⟩ = some (.int .u64 (ub D.1.1)) ∧ W.cell? ⟨w4.heap.size, 1, none⟩ = some (.int .u64 (ub D.1.2)) ∧ W.cell? ⟨w4.heap.size, 2, none⟩ = some (.int .u64 (ub D.2.1)) ∧ W.cell? ⟨w4.heap.size, 3, none⟩ = some (.int .u64 (ub D.2.2)) ∧ Below w5.heap.size w5 W := fun W hW => ⟨cn hW q0, cn hW q1, cn hW q2, cn hW q3, hW⟩
  have hb0 : Below w5.heap.size w5 w5 := Below.refl _ _
  apply cutG (F := fun g W' => SC W' (w1.heap.size) Z ∧ SC W' (w4.heap.size) D ∧ SC W' g (U) ∧ Below w.heap.size w W')
  · go_region_held3 (fun w' => w'.cell? ⟨w4.heap.size, 0, none⟩ = some (.int .u64 (ub D.1.1)) ∧ w'.cell? ⟨w4.heap.size, 1, none⟩ = some (.int .u64 (ub D.1.2)) ∧ w'.cell? ⟨w4.heap.size, 2, none⟩ = some (.int .u64 (ub D.2.1)) ∧ w'.cell? ⟨w4.heap.size, 3, none⟩ = some (.int .u64 (ub D.2.2)) ∧ Below w5.heap.size w5 w')
      ((refine keepB _ ?_; go_split_ands; first | (with_reducible assumption) | (with_reducible exact below_dr _) | (with_reducible exact below_next (by assumption) bq) | (with_reducible exact bel_alloc (by assumption)) | (with_reducible exact Below.drew (bel_alloc (by assumption))) | exact Below.setCell (Below.setCell (Below.setCell (Below.setCell (by with_reducible assumption) N.le _) N.le _) N.le _) N.le _))
      (first | (go_at_call 25; go_split_ands; (with_reducible refine (N8.out _).mono ?_); rintro e wq ⟨rfl, bq⟩; have hB7 := below_next (a := w5) (by with_reducible assumption) bq; (first | (have N : NS w5.heap.size wq _ sc0 := ⟨(by first | exact Nat.le_refl _ | exact Below.size (by assumption)), (SC.new rfl).below bq⟩) | (have N : NS w5.heap.size wq _ sc0 := ⟨(by first | exact Nat.le_refl _ | exact Below.size (by assumption)), ((SC.new rfl).below (below_dr _)).below bq⟩) | (have N : NS w5.heap.size wq _ sc0 := ⟨N.le, N.sc.below bq⟩) | skip); (try have n0 := N.sc.c0); (try have n1 := N.sc.c1); (try have n2 := N.sc.c2); (try have n3 := N.sc.c3); (try have nl := N.sc.lt); (try have nf0 := N.sc.f0); (try have nf1 := N.sc.f1); (try have nf2 := N.sc.f2); (try have nf3 := N.sc.f3)) | (go_at_call 24; go_split_ands; (with_reducible refine (XD.out _).mono ?_); rintro e wq ⟨rfl, bq⟩; have hB7 := below_next (a := w5) (by with_reducible assumption) bq; (first | (have N : NS w5.heap.size wq _ sc0 := ⟨(by first | exact Nat.le_refl _ | exact Below.size (by assumption)), (SC.new rfl).below bq⟩) | (have N : NS w5.heap.size wq _ sc0 := ⟨(by first | exact Nat.le_refl _ | exact Below.size (by assumption)), ((SC.new rfl).below (below_dr _)).below bq⟩) | (have N : NS w5.heap.size wq _ sc0 := ⟨N.le, N.sc.below bq⟩) | skip); (try have n0 := N.sc.c0); (try have n1 := N.sc.c1); (try have n2 := N.sc.c2); (try have n3 := N.sc.c3); (try have nl := N.sc.lt); (try have nf0 := N.sc.f0); (try have nf1 := N.sc.f1); (try have nf2 := N.sc.f2); (try have nf3 := N.sc.f3)))
    all_goals
      go_split_ands
      first
        | (have hE := eqS N.sc; obtain ⟨g, hg⟩ := hE)
        | (have hE : ∃ g : Nat, wq.heap.size = g := ⟨_, rfl⟩; obtain ⟨g, hg⟩ := hE)
      refine ⟨g, ⟨Ja.below (by with_reducible assumption), Jb.below (by with_reducible assumption), ?_, below_next B (by with_reducible assumption)⟩, ?_⟩
      · rw [← hg]
        first | exact N.sc.put (U) | exact SC.new rfl
      · first | (rw [hg]; done) | (rw [hg]; exact rfl)
  clear keepB hb0 q0 q1 q2 q3 Ja Jb B
  intro g6 w6 ⟨Ja, Jb, Jc, B⟩
  have Ja0 := Ja.c0
  have Ja1 := Ja.c1
  have Ja2 := Ja.c2
  have Ja3 := Ja.c3
  have Jal := Ja.lt
  have Jb0 := Jb.c0
  have Jb1 := Jb.c1
  have Jb2 := Jb.c2
  have Jb3 := Jb.c3
  have Jbl := Jb.lt
  have Jc0 := Jc.c0
  have Jc1 := Jc.c1
  have Jc2 := Jc.c2
  have Jc3 := Jc.c3
  have Jcl := Jc.lt
  have lb := B.size
  go_wp2_with fail
  refine (XB.out _).mono ?_
  rintro e w7 ⟨rfl, z⟩
  clear Ja0 Ja1 Ja2 Ja3 Jal Jb0 Jb1 Jb2 Jb3 Jbl Jc0 Jc1 Jc2 Jc3 Jcl lb
  replace Ja := Ja.below z
  replace Jb := Jb.below z
  replace Jc := Jc.below z
  replace B := below_next B z
  clear z
  have Ja0 := Ja.c0
  have Ja1 := Ja.c1
  have Ja2 := Ja.c2
  have Ja3 := Ja.c3
  have Jal := Ja.lt
  have Jb0 := Jb.c0
  have Jb1 := Jb.c1
  have Jb2 := Jb.c2
  have Jb3 := Jb.c3
  have Jbl := Jb.lt
  have Jc0 := Jc.c0
  have Jc1 := Jc.c1
  have Jc2 := Jc.c2
  have Jc3 := Jc.c3
  have Jcl := Jc.lt
  have lb := B.size
  go_wp2_with fail
  refine (N28.out _).mono ?_
  rintro e w8 ⟨rfl, z⟩
  clear Ja0 Ja1 Ja2 Ja3 Jal Jb0 Jb1 Jb2 Jb3 Jbl Jc0 Jc1 Jc2 Jc3 Jcl lb
  replace Ja := Ja.below z
  replace Jb := Jb.below z
  replace Jc := Jc.below z
  replace B := below_next B z
  clear z
  have Ja0 := Ja.c0
  have Ja1 := Ja.c1
  have Ja2 := Ja.c2
  have Ja3 := Ja.c3
  have Jal := Ja.lt
  have Jb0 := Jb.c0
  have Jb1 := Jb.c1
  have Jb2 := Jb.c2
  have Jb3 := Jb.c3
  have Jbl := Jb.lt
  have Jc0 := Jc.c0
  have Jc1 := Jc.c1
  have Jc2 := Jc.c2
  have Jc3 := Jc.c3
  have Jcl := Jc.lt
  have lb := B.size
  go_wp2_with fail
  refine (XE.out _).mono ?_
  rintro e w9 ⟨rfl, z⟩
  clear Ja0 Ja1 Ja2 Ja3 Jal Jb0 Jb1 Jb2 Jb3 Jbl Jc0 Jc1 Jc2 Jc3 Jcl lb
  replace Ja := Ja.below z
  replace Jb := Jb.below z
  replace Jc := Jc.below z
  replace B := below_next B z
  clear z
  have Ja0 := Ja.c0
  have Ja1 := Ja.c1
  have Ja2 := Ja.c2
  have Ja3 := Ja.c3
  have Jal := Ja.lt
  have Jb0 := Jb.c0
  have Jb1 := Jb.c1
  have Jb2 := Jb.c2
  have Jb3 := Jb.c3
  have Jbl := Jb.lt
  have Jc0 := Jc.c0
  have Jc1 := Jc.c1
  have Jc2 := Jc.c2
  have Jc3 := Jc.c3
  have Jcl := Jc.lt
  have lb := B.size
  go_wp2_with fail
  refine (XB.out _).mono ?_
  rintro e w10 ⟨rfl, z⟩
  clear Ja0 Ja1 Ja2 Ja3 Jal Jb0 Jb1 Jb2 Jb3 Jbl Jc0 Jc1 Jc2 Jc3 Jcl lb
  have g10Ja : w1.heap.size < w9.heap.size := Ja.lt
  have g10Jb : w4.heap.size < w9.heap.size := Jb.lt
  have g10Jc : g6 < w9.heap.size := Jc.lt
  have g10B := B.size
  replace Ja := (Ja.alloc _).below z
  replace Jb := (Jb.alloc _).below z
  replace Jc := (Jc.alloc _).below z
  have Jd : SC w10 (w9.heap.size) (G) := (SC.new rfl).below z
  replace B := below_next (bel_alloc B) z
  clear z
  have Ja0 := Ja.c0
  have Ja1 := Ja.c1
  have Ja2 := Ja.c2
  have Ja3 := Ja.c3
  have Jal := Ja.lt
  have Jb0 := Jb.c0
  have Jb1 := Jb.c1
  have Jb2 := Jb.c2
  have Jb3 := Jb.c3
  have Jbl := Jb.lt
  have Jc0 := Jc.c0
  have Jc1 := Jc.c1
  have Jc2 := Jc.c2
  have Jc3 := Jc.c3
  have Jcl := Jc.lt
  have Jd0 := Jd.c0
  have Jd1 := Jd.c1
  have Jd2 := Jd.c2
  have Jd3 := Jd.c3
  have Jdl := Jd.lt
  have lb := B.size
  go_wp2_with fail
  refine (N9.out _).mono ?_
  rintro e w11 ⟨rfl, z⟩
  clear Ja0 Ja1 Ja2 Ja3 Jal Jb0 Jb1 Jb2 Jb3 Jbl Jc0 Jc1 Jc2 Jc3 Jcl Jd0 Jd1 Jd2 Jd3 Jdl lb
  replace Ja := Ja.below z
  replace Jb := Jb.below z
  replace Jc := Jc.below z
  replace Jd := Jd.below z
  replace B := below_next B z
  clear z
  have Ja0 := Ja.c0
  have Ja1 := Ja.c1
  have Ja2 := Ja.c2
  have Ja3 := Ja.c3
  have Jal := Ja.lt
  have Jb0 := Jb.c0
  have Jb1 := Jb.c1
  have Jb2 := Jb.c2
  have Jb3 := Jb.c3
  have Jbl := Jb.lt
  have Jc0 := Jc.c0
  have Jc1 := Jc.c1
  have Jc2 := Jc.c2
  have Jc3 := Jc.c3
  have Jcl := Jc.lt
  have Jd0 := Jd.c0
  have Jd1 := Jd.c1
  have Jd2 := Jd.c2
  have Jd3 := Jd.c3
  have Jdl := Jd.lt
  have lb := B.size
  go_wp2_with fail
  refine (XF.out _).mono ?_
  rintro e w12 ⟨rfl, z⟩
  clear Ja0 Ja1 Ja2 Ja3 Jal Jb0 Jb1 Jb2 Jb3 Jbl Jc0 Jc1 Jc2 Jc3 Jcl Jd0 Jd1 Jd2 Jd3 Jdl lb
  replace Ja := Ja.below z
  replace Jb := Jb.below z
  replace Jc := Jc.below z
  replace Jd := Jd.below z
  replace B := below_next B z
  clear z
  have Ja0 := Ja.c0
  have Ja1 := Ja.c1
  have Ja2 := Ja.c2
  have Ja3 := Ja.c3
  have Jal := Ja.lt
  have Jb0 := Jb.c0
  have Jb1 := Jb.c1
  have Jb2 := Jb.c2
  have Jb3 := Jb.c3
  have Jbl := Jb.lt
  have Jc0 := Jc.c0
  have Jc1 := Jc.c1
  have Jc2 := Jc.c2
  have Jc3 := Jc.c3
  have Jcl := Jc.lt
  have Jd0 := Jd.c0
  have Jd1 := Jd.c1
  have Jd2 := Jd.c2
  have Jd3 := Jd.c3
  have Jdl := Jd.lt
  have lb := B.size
  go_wp2_with fail
  refine (XB.out _).mono ?_
  rintro e w13 ⟨rfl, z⟩
  clear Ja0 Ja1 Ja2 Ja3 Jal Jb0 Jb1 Jb2 Jb3 Jbl Jc0 Jc1 Jc2 Jc3 Jcl Jd0 Jd1 Jd2 Jd3 Jdl lb
  have g13Ja : w1.heap.size < w12.heap.size := Ja.lt
  have g13Jb : w4.heap.size < w12.heap.size := Jb.lt
  have g13Jc : g6 < w12.heap.size := Jc.lt
  have g13Jd : w9.heap.size < w12.heap.size := Jd.lt
  have g13B := B.size
  replace Ja := ((Ja.alloc _).alloc _).below z
  replace Jb := ((Jb.alloc _).alloc _).below z
  replace Jc := ((Jc.alloc _).alloc _).below z
  replace Jd := ((Jd.alloc _).alloc _).below z
  have Je : SC w13 (w12.heap.size) (I) := ((SC.new rfl).alloc _).below z
  have Jf : SC w13 (w12.heap.size + 1) (V9) := (SC.new (by simp)).below z
  replace B := below_next (bel_alloc (bel_alloc B)) z
  clear z
  have Ja0 := Ja.c0
  have Ja1 := Ja.c1
  have Ja2 := Ja.c2
  have Ja3 := Ja.c3
  have Jal := Ja.lt
  have Jb0 := Jb.c0
  have Jb1 := Jb.c1
  have Jb2 := Jb.c2
  have Jb3 := Jb.c3
  have Jbl := Jb.lt
  have Jc0 := Jc.c0
  have Jc1 := Jc.c1
  have Jc2 := Jc.c2
  have Jc3 := Jc.c3
  have Jcl := Jc.lt
  have Jd0 := Jd.c0
  have Jd1 := Jd.c1
  have Jd2 := Jd.c2
  have Jd3 := Jd.c3
  have Jdl := Jd.lt
  have Je0 := Je.c0
  have Je1 := Je.c1
  have Je2 := Je.c2
  have Je3 := Je.c3
  have Jel := Je.lt
  have Jf0 := Jf.c0
  have Jf1 := Jf.c1
  have Jf2 := Jf.c2
  have Jf3 := Jf.c3
  have Jfl := Jf.lt
  have lb := B.size
  go_wp2_with fail
  refine (N3.out _).mono ?_
  rintro e w14 ⟨rfl, z⟩
  clear Ja0 Ja1 Ja2 Ja3 Jal Jb0 Jb1 Jb2 Jb3 Jbl Jc0 Jc1 Jc2 Jc3 Jcl Jd0 Jd1 Jd2 Jd3 Jdl Je0 Je1 Je2 Je3 Jel Jf0 Jf1 Jf2 Jf3 Jfl lb
  replace Ja := Ja.below z
  replace Jb := Jb.below z
  replace Jc := Jc.below z
  replace Jd := Jd.below z
  replace Je := Je.below z
  replace Jf := Jf.below z
  replace B := below_next B z
  clear z
  have Ja0 := Ja.c0
  have Ja1 := Ja.c1
  have Ja2 := Ja.c2
  have Ja3 := Ja.c3
  have Jal := Ja.lt
  have Jb0 := Jb.c0
  have Jb1 := Jb.c1
  have Jb2 := Jb.c2
  have Jb3 := Jb.c3
  have Jbl := Jb.lt
  have Jc0 := Jc.c0
  have Jc1 := Jc.c1
  have Jc2 := Jc.c2
  have Jc3 := Jc.c3
  have Jcl := Jc.lt
  have Jd0 := Jd.c0
  have Jd1 := Jd.c1
  have Jd2 := Jd.c2
  have Jd3 := Jd.c3
  have Jdl := Jd.lt
  have Je0 := Je.c0
  have Je1 := Je.c1
  have Je2 := Je.c2
  have Je3 := Je.c3
  have Jel := Je.lt
  have Jf0 := Jf.c0
  have Jf1 := Jf.c1
  have Jf2 := Jf.c2
  have Jf3 := Jf.c3
  have Jfl := Jf.lt
  have lb := B.size
  go_wp2_with fail
  refine (XG.out _).mono ?_
  rintro e w15 ⟨rfl, z⟩
  clear Ja0 Ja1 Ja2 Ja3 Jal Jb0 Jb1 Jb2 Jb3 Jbl Jc0 Jc1 Jc2 Jc3 Jcl Jd0 Jd1 Jd2 Jd3 Jdl Je0 Je1 Je2 Je3 Jel Jf0 Jf1 Jf2 Jf3 Jfl lb
  replace Ja := Ja.below z
  replace Jb := Jb.below z
  replace Jc := Jc.below z
  replace Jd := Jd.below z
  replace Je := Je.below z
  replace Jf := Jf.below z
  replace B := below_next B z
  clear z
  have Ja0 := Ja.c0
  have Ja1 := Ja.c1
  have Ja2 := Ja.c2
  have Ja3 := Ja.c3
  have Jal := Ja.lt
  have Jb0 := Jb.c0
  have Jb1 := Jb.c1
  have Jb2 := Jb.c2
  have Jb3 := Jb.c3
  have Jbl := Jb.lt
  have Jc0 := Jc.c0
  have Jc1 := Jc.c1
  have Jc2 := Jc.c2
  have Jc3 := Jc.c3
  have Jcl := Jc.lt
  have Jd0 := Jd.c0
  have Jd1 := Jd.c1
  have Jd2 := Jd.c2
  have Jd3 := Jd.c3
  have Jdl := Jd.lt
  have Je0 := Je.c0
  have Je1 := Je.c1
  have Je2 := Je.c2
  have Je3 := Je.c3
  have Jel := Je.lt
  have Jf0 := Jf.c0
  have Jf1 := Jf.c1
  have Jf2 := Jf.c2
  have Jf3 := Jf.c3
  have Jfl := Jf.lt
  have lb := B.size
  go_wp2_with fail
  refine (XB.out _).mono ?_
  rintro e w16 ⟨rfl, z⟩
  clear Ja0 Ja1 Ja2 Ja3 Jal Jb0 Jb1 Jb2 Jb3 Jbl Jc0 Jc1 Jc2 Jc3 Jcl Jd0 Jd1 Jd2 Jd3 Jdl Je0 Je1 Je2 Je3 Jel Jf0 Jf1 Jf2 Jf3 Jfl lb
  have g16Ja : w1.heap.size < w15.heap.size := Ja.lt
  have g16Jb : w4.heap.size < w15.heap.size := Jb.lt
  have g16Jc : g6 < w15.heap.size := Jc.lt
  have g16Jd : w9.heap.size < w15.heap.size := Jd.lt
  have g16Je : w12.heap.size < w15.heap.size := Je.lt
  have g16Jf : w12.heap.size + 1 < w15.heap.size := Jf.lt
  have g16B := B.size
  replace Ja := ((Ja.alloc _).alloc _).below z
  replace Jb := ((Jb.alloc _).alloc _).below z
  replace Jc := ((Jc.alloc _).alloc _).below z
  replace Jd := ((Jd.alloc _).alloc _).below z
  replace Je := ((Je.alloc _).alloc _).below z
  replace Jf := ((Jf.alloc _).alloc _).below z
  have Jg : SC w16 (w15.heap.size) (V3) := ((SC.new rfl).alloc _).below z
  have Jh : SC w16 (w15.heap.size + 1) (V3) := (SC.new (by simp)).below z
  replace B := below_next (bel_alloc (bel_alloc B)) z
  clear z
  have Ja0 := Ja.c0
  have Ja1 := Ja.c1
  have Ja2 := Ja.c2
  have Ja3 := Ja.c3
  have Jal := Ja.lt
  have Jb0 := Jb.c0
  have Jb1 := Jb.c1
  have Jb2 := Jb.c2
  have Jb3 := Jb.c3
  have Jbl := Jb.lt
  have Jc0 := Jc.c0
  have Jc1 := Jc.c1
  have Jc2 := Jc.c2
  have Jc3 := Jc.c3
  have Jcl := Jc.lt
  have Jd0 := Jd.c0
  have Jd1 := Jd.c1
  have Jd2 := Jd.c2
  have Jd3 := Jd.c3
  have Jdl := Jd.lt
  have Je0 := Je.c0
  have Je1 := Je.c1
  have Je2 := Je.c2
  have Je3 := Je.c3
  have Jel := Je.lt
  have Jf0 := Jf.c0
  have Jf1 := Jf.c1
  have Jf2 := Jf.c2
  have Jf3 := Jf.c3
  have Jfl := Jf.lt
  have Jg0 := Jg.c0
  have Jg1 := Jg.c1
  have Jg2 := Jg.c2
  have Jg3 := Jg.c3
  have Jgl := Jg.lt
  have Jh0 := Jh.c0
  have Jh1 := Jh.c1
  have Jh2 := Jh.c2
  have Jh3 := Jh.c3
  have Jhl := Jh.lt
  have lb := B.size
  go_wp2_with fail
  refine (N3.out _).mono ?_
  rintro e w17 ⟨rfl, z⟩
  clear Ja0 Ja1 Ja2 Ja3 Jal Jb0 Jb1 Jb2 Jb3 Jbl Jc0 Jc1 Jc2 Jc3 Jcl Jd0 Jd1 Jd2 Jd3 Jdl Je0 Je1 Je2 Je3 Jel Jf0 Jf1 Jf2 Jf3 Jfl Jg0 Jg1 Jg2 Jg3 Jgl Jh0 Jh1 Jh2 Jh3 Jhl lb
  replace Ja := Ja.below z
  replace Jb := Jb.below z
  replace Jc := Jc.below z
  replace Jd := Jd.below z
  replace Je := Je.below z
  replace Jf := Jf.below z
  replace Jg := Jg.below z
  replace Jh := Jh.below z
  replace B := below_next B z
  clear z
  have Ja0 := Ja.c0
  have Ja1 := Ja.c1
  have Ja2 := Ja.c2
  have Ja3 := Ja.c3
  have Jal := Ja.lt
  have Jb0 := Jb.c0
  have Jb1 := Jb.c1
  have Jb2 := Jb.c2
  have Jb3 := Jb.c3
  have Jbl := Jb.lt
  have Jc0 := Jc.c0
  have Jc1 := Jc.c1
  have Jc2 := Jc.c2
  have Jc3 := Jc.c3
  have Jcl := Jc.lt
  have Jd0 := Jd.c0
  have Jd1 := Jd.c1
  have Jd2 := Jd.c2
  have Jd3 := Jd.c3
  have Jdl := Jd.lt
  have Je0 := Je.c0
  have Je1 := Je.c1
  have Je2 := Je.c2
  have Je3 := Je.c3
  have Jel := Je.lt
  have Jf0 := Jf.c0
  have Jf1 := Jf.c1
  have Jf2 := Jf.c2
  have Jf3 := Jf.c3
  have Jfl := Jf.lt
  have Jg0 := Jg.c0
  have Jg1 := Jg.c1
  have Jg2 := Jg.c2
  have Jg3 := Jg.c3
  have Jgl := Jg.lt
  have Jh0 := Jh.c0
  have Jh1 := Jh.c1
  have Jh2 := Jh.c2
  have Jh3 := Jh.c3
  have Jhl := Jh.lt
  have lb := B.size
  go_wp2_with fail
  refine (XH.out _).mono ?_
  rintro e w18 ⟨rfl, z⟩
  clear Ja0 Ja1 Ja2 Ja3 Jal Jb0 Jb1 Jb2 Jb3 Jbl Jc0 Jc1 Jc2 Jc3 Jcl Jd0 Jd1 Jd2 Jd3 Jdl Je0 Je1 Je2 Je3 Jel Jf0 Jf1 Jf2 Jf3 Jfl Jg0 Jg1 Jg2 Jg3 Jgl Jh0 Jh1 Jh2 Jh3 Jhl lb
  replace Ja := Ja.below z
  replace Jb := Jb.below z
  replace Jc := Jc.below z
  replace Jd := Jd.below z
  replace Je := Je.below z
  replace Jf := Jf.below z
  replace Jg := Jg.below z
  replace Jh := Jh.below z
  replace B := below_next B z
  clear z
  have Ja0 := Ja.c0
  have Ja1 := Ja.c1
  have Ja2 := Ja.c2
  have Ja3 := Ja.c3
  have Jal := Ja.lt
  have Jb0 := Jb.c0
  have Jb1 := Jb.c1
  have Jb2 := Jb.c2
  have Jb3 := Jb.c3
  have Jbl := Jb.lt
  have Jc0 := Jc.c0
  have Jc1 := Jc.c1
  have Jc2 := Jc.c2
  have Jc3 := Jc.c3
  have Jcl := Jc.lt
  have Jd0 := Jd.c0
  have Jd1 := Jd.c1
  have Jd2 := Jd.c2
  have Jd3 := Jd.c3
  have Jdl := Jd.lt
  have Je0 := Je.c0
  have Je1 := Je.c1
  have Je2 := Je.c2
  have Je3 := Je.c3
  have Jel := Je.lt
  have Jf0 := Jf.c0
  have Jf1 := Jf.c1
  have Jf2 := Jf.c2
  have Jf3 := Jf.c3
  have Jfl := Jf.lt
  have Jg0 := Jg.c0
  have Jg1 := Jg.c1
  have Jg2 := Jg.c2
  have Jg3 := Jg.c3
  have Jgl := Jg.lt
  have Jh0 := Jh.c0
  have Jh1 := Jh.c1
  have Jh2 := Jh.c2
  have Jh3 := Jh.c3
  have Jhl := Jh.lt
  have lb := B.size
  go_wp2_with fail
  refine (XI.out _).mono ?_
  rintro e w19 ⟨rfl, z⟩
  clear Ja0 Ja1 Ja2 Ja3 Jal Jb0 Jb1 Jb2 Jb3 Jbl Jc0 Jc1 Jc2 Jc3 Jcl Jd0 Jd1 Jd2 Jd3 Jdl Je0 Je1 Je2 Je3 Jel Jf0 Jf1 Jf2 Jf3 Jfl Jg0 Jg1 Jg2 Jg3 Jgl Jh0 Jh1 Jh2 Jh3 Jhl lb
  have g19Ja : w1.heap.size < w18.heap.size := Ja.lt
  have g19Jb : w4.heap.size < w18.heap.size := Jb.lt
  have g19Jc : g6 < w18.heap.size := Jc.lt
  have g19Jd : w9.heap.size < w18.heap.size := Jd.lt
  have g19Je : w12.heap.size < w18.heap.size := Je.lt
  have g19Jf : w12.heap.size + 1 < w18.heap.size := Jf.lt
  have g19Jg : w15.heap.size < w18.heap.size := Jg.lt
  have g19Jh : w15.heap.size + 1 < w18.heap.size := Jh.lt
  have g19B := B.size
  replace Ja := ((Ja.alloc _).alloc _).below z
  replace Jb := ((Jb.alloc _).alloc _).below z
  replace Jc := ((Jc.alloc _).alloc _).below z
  replace Jd := ((Jd.alloc _).alloc _).below z
  replace Je := ((Je.alloc _).alloc _).below z
  replace Jf := ((Jf.alloc _).alloc _).below z
  replace Jg := ((Jg.alloc _).alloc _).below z
  replace Jh := ((Jh.alloc _).alloc _).below z
  have Ji : SC w19 (w18.heap.size) (L) := ((SC.new rfl).alloc _).below z
  have Jj : SC w19 (w18.heap.size + 1) (V3) := (SC.new (by simp)).below z
  replace B := below_next (bel_alloc (bel_alloc B)) z
  clear z
  have Ja0 := Ja.c0
  have Ja1 := Ja.c1
  have Ja2 := Ja.c2
  have Ja3 := Ja.c3
  have Jal := Ja.lt
  have Jb0 := Jb.c0
  have Jb1 := Jb.c1
  have Jb2 := Jb.c2
  have Jb3 := Jb.c3
  have Jbl := Jb.lt
  have Jc0 := Jc.c0
  have Jc1 := Jc.c1
  have Jc2 := Jc.c2
  have Jc3 := Jc.c3
  have Jcl := Jc.lt
  have Jd0 := Jd.c0
  have Jd1 := Jd.c1
  have Jd2 := Jd.c2
  have Jd3 := Jd.c3
  have Jdl := Jd.lt
  have Je0 := Je.c0
  have Je1 := Je.c1
  have Je2 := Je.c2
  have Je3 := Je.c3
  have Jel := Je.lt
  have Jf0 := Jf.c0
  have Jf1 := Jf.c1
  have Jf2 := Jf.c2
  have Jf3 := Jf.c3
  have Jfl := Jf.lt
  have Jg0 := Jg.c0
  have Jg1 := Jg.c1
  have Jg2 := Jg.c2
  have Jg3 := Jg.c3
  have Jgl := Jg.lt
  have Jh0 := Jh.c0
  have Jh1 := Jh.c1
  have Jh2 := Jh.c2
  have Jh3 := Jh.c3
  have Jhl := Jh.lt
  have Ji0 := Ji.c0
  have Ji1 := Ji.c1
  have Ji2 := Ji.c2
  have Ji3 := Ji.c3
  have Jil := Ji.lt
  have Jj0 := Jj.c0
  have Jj1 := Jj.c1
  have Jj2 := Jj.c2
  have Jj3 := Jj.c3
  have Jjl := Jj.lt
  have lb := B.size
  go_wp2_with fail
  refine (XJ.out _).mono ?_
  rintro e w20 ⟨rfl, z⟩
  clear Ja0 Ja1 Ja2 Ja3 Jal Jb0 Jb1 Jb2 Jb3 Jbl Jc0 Jc1 Jc2 Jc3 Jcl Jd0 Jd1 Jd2 Jd3 Jdl Je0 Je1 Je2 Je3 Jel Jf0 Jf1 Jf2 Jf3 Jfl Jg0 Jg1 Jg2 Jg3 Jgl Jh0 Jh1 Jh2 Jh3 Jhl Ji0 Ji1 Ji2 Ji3 Jil Jj0 Jj1 Jj2 Jj3 Jjl lb
  replace Ja := Ja.below z
  replace Jb := Jb.below z
  replace Jc := Jc.below z
  replace Jd := Jd.below z
  replace Je := Je.below z
  replace Jf := Jf.below z
  replace Jg := Jg.below z
  replace Jh := Jh.below z
  replace Ji := Ji.below z
  replace Jj := Jj.below z
  replace B := below_next B z
  clear z
  have Ja0 := Ja.c0
  have Ja1 := Ja.c1
  have Ja2 := Ja.c2
  have Ja3 := Ja.c3
  have Jal := Ja.lt
  have Jb0 := Jb.c0
  have Jb1 := Jb.c1
  have Jb2 := Jb.c2
  have Jb3 := Jb.c3
  have Jbl := Jb.lt
  have Jc0 := Jc.c0
  have Jc1 := Jc.c1
  have Jc2 := Jc.c2
  have Jc3 := Jc.c3
  have Jcl := Jc.lt
  have Jd0 := Jd.c0
  have Jd1 := Jd.c1
  have Jd2 := Jd.c2
  have Jd3 := Jd.c3
  have Jdl := Jd.lt
  have Je0 := Je.c0
  have Je1 := Je.c1
  have Je2 := Je.c2
  have Je3 := Je.c3
  have Jel := Je.lt
  have Jf0 := Jf.c0
  have Jf1 := Jf.c1
  have Jf2 := Jf.c2
  have Jf3 := Jf.c3
  have Jfl := Jf.lt
  have Jg0 := Jg.c0
  have Jg1 := Jg.c1
  have Jg2 := Jg.c2
  have Jg3 := Jg.c3
  have Jgl := Jg.lt
  have Jh0 := Jh.c0
  have Jh1 := Jh.c1
  have Jh2 := Jh.c2
  have Jh3 := Jh.c3
  have Jhl := Jh.lt
  have Ji0 := Ji.c0
  have Ji1 := Ji.c1
  have Ji2 := Ji.c2
  have Ji3 := Ji.c3
  have Jil := Ji.lt
  have Jj0 := Jj.c0
  have Jj1 := Jj.c1
  have Jj2 := Jj.c2
  have Jj3 := Jj.c3
  have Jjl := Jj.lt
  have lb := B.size
  go_wp2_with fail
  refine (XK.out _).mono ?_
  rintro e w21 ⟨rfl, z⟩
  clear Ja0 Ja1 Ja2 Ja3 Jal Jb0 Jb1 Jb2 Jb3 Jbl Jc0 Jc1 Jc2 Jc3 Jcl Jd0 Jd1 Jd2 Jd3 Jdl Je0 Je1 Je2 Je3 Jel Jf0 Jf1 Jf2 Jf3 Jfl Jg0 Jg1 Jg2 Jg3 Jgl Jh0 Jh1 Jh2 Jh3 Jhl Ji0 Ji1 Ji2 Ji3 Jil Jj0 Jj1 Jj2 Jj3 Jjl lb
  have g21Ja : w1.heap.size < w20.heap.size := Ja.lt
  have g21Jb : w4.heap.size < w20.heap.size := Jb.lt
  have g21Jc : g6 < w20.heap.size := Jc.lt
  have g21Jd : w9.heap.size < w20.heap.size := Jd.lt
  have g21Je : w12.heap.size < w20.heap.size := Je.lt
  have g21Jf : w12.heap.size + 1 < w20.heap.size := Jf.lt
  have g21Jg : w15.heap.size < w20.heap.size := Jg.lt
  have g21Jh : w15.heap.size + 1 < w20.heap.size := Jh.lt
  have g21Ji : w18.heap.size < w20.heap.size := Ji.lt
  have g21Jj : w18.heap.size + 1 < w20.heap.size := Jj.lt
  have g21B := B.size
  replace Ja := (Ja.alloc _).below z
  replace Jb := (Jb.alloc _).below z
  replace Jc := (Jc.alloc _).below z
  replace Jd := (Jd.alloc _).below z
  replace Je := (Je.alloc _).below z
  replace Jf := (Jf.alloc _).below z
  replace Jg := (Jg.alloc _).below z
  replace Jh := (Jh.alloc _).below z
  replace Ji := (Ji.alloc _).below z
  replace Jj := (Jj.alloc _).below z
  have Jk : SC w21 (w20.heap.size) (O) := (SC.new rfl).below z
  replace B := below_next (bel_alloc B) z
  clear z
  have Ja0 := Ja.c0
  have Ja1 := Ja.c1
  have Ja2 := Ja.c2
  have Ja3 := Ja.c3
  have Jal := Ja.lt
  have Jb0 := Jb.c0
  have Jb1 := Jb.c1
  have Jb2 := Jb.c2
  have Jb3 := Jb.c3
  have Jbl := Jb.lt
  have Jc0 := Jc.c0
  have Jc1 := Jc.c1
  have Jc2 := Jc.c2
  have Jc3 := Jc.c3
  have Jcl := Jc.lt
  have Jd0 := Jd.c0
  have Jd1 := Jd.c1
  have Jd2 := Jd.c2
  have Jd3 := Jd.c3
  have Jdl := Jd.lt
  have Je0 := Je.c0
  have Je1 := Je.c1
  have Je2 := Je.c2
  have Je3 := Je.c3
  have Jel := Je.lt
  have Jf0 := Jf.c0
  have Jf1 := Jf.c1
  have Jf2 := Jf.c2
  have Jf3 := Jf.c3
  have Jfl := Jf.lt
  have Jg0 := Jg.c0
  have Jg1 := Jg.c1
  have Jg2 := Jg.c2
  have Jg3 := Jg.c3
  have Jgl := Jg.lt
  have Jh0 := Jh.c0
  have Jh1 := Jh.c1
  have Jh2 := Jh.c2
  have Jh3 := Jh.c3
  have Jhl := Jh.lt
  have Ji0 := Ji.c0
  have Ji1 := Ji.c1
  have Ji2 := Ji.c2
  have Ji3 := Ji.c3
  have Jil := Ji.lt
  have Jj0 := Jj.c0
  have Jj1 := Jj.c1
  have Jj2 := Jj.c2
  have Jj3 := Jj.c3
  have Jjl := Jj.lt
  have Jk0 := Jk.c0
  have Jk1 := Jk.c1
  have Jk2 := Jk.c2
  have Jk3 := Jk.c3
  have Jkl := Jk.lt
  have lb := B.size
  go_wp2_with fail
  refine (XL.out _).mono ?_
  rintro e w22 ⟨rfl, z⟩
  clear Ja0 Ja1 Ja2 Ja3 Jal Jb0 Jb1 Jb2 Jb3 Jbl Jc0 Jc1 Jc2 Jc3 Jcl Jd0 Jd1 Jd2 Jd3 Jdl Je0 Je1 Je2 Je3 Jel Jf0 Jf1 Jf2 Jf3 Jfl Jg0 Jg1 Jg2 Jg3 Jgl Jh0 Jh1 Jh2 Jh3 Jhl Ji0 Ji1 Ji2 Ji3 Jil Jj0 Jj1 Jj2 Jj3 Jjl Jk0 Jk1 Jk2 Jk3 Jkl lb
  have g22Ja : w1.heap.size < w21.heap.size := Ja.lt
  have g22Jb : w4.heap.size < w21.heap.size := Jb.lt
  have g22Jc : g6 < w21.heap.size := Jc.lt
  have g22Jd : w9.heap.size < w21.heap.size := Jd.lt
  have g22Je : w12.heap.size < w21.heap.size := Je.lt
  have g22Jf : w12.heap.size + 1 < w21.heap.size := Jf.lt
  have g22Jg : w15.heap.size < w21.heap.size := Jg.lt
  have g22Jh : w15.heap.size + 1 < w21.heap.size := Jh.lt
  have g22Ji : w18.heap.size < w21.heap.size := Ji.lt
  have g22Jj : w18.heap.size + 1 < w21.heap.size := Jj.lt
  have g22Jk : w20.heap.size < w21.heap.size := Jk.lt
  have g22B := B.size
  replace Ja := (Ja.alloc _).below z
  replace Jb := (Jb.alloc _).below z
  replace Jc := (Jc.alloc _).below z
  replace Jd := (Jd.alloc _).below z
  replace Je := (Je.alloc _).below z
  replace Jf := (Jf.alloc _).below z
  replace Jg := (Jg.alloc _).below z
  replace Jh := (Jh.alloc _).below z
  replace Ji := (Ji.alloc _).below z
  replace Jj := (Jj.alloc _).below z
  replace Jk := (Jk.alloc _).below z
  have Jq : SC w22 (w21.heap.size) (Z) := (SC.new rfl).below z
  replace B := below_next (bel_alloc B) z
  clear z
  have Ja0 := Ja.c0
  have Ja1 := Ja.c1
  have Ja2 := Ja.c2
  have Ja3 := Ja.c3
  have Jal := Ja.lt
  have Jb0 := Jb.c0
  have Jb1 := Jb.c1
  have Jb2 := Jb.c2
  have Jb3 := Jb.c3
  have Jbl := Jb.lt
  have Jc0 := Jc.c0
  have Jc1 := Jc.c1
  have Jc2 := Jc.c2
  have Jc3 := Jc.c3
  have Jcl := Jc.lt
  have Jd0 := Jd.c0
  have Jd1 := Jd.c1
  have Jd2 := Jd.c2
  have Jd3 := Jd.c3
  have Jdl := Jd.lt
  have Je0 := Je.c0
  have Je1 := Je.c1
  have Je2 := Je.c2
  have Je3 := Je.c3
  have Jel := Je.lt
  have Jf0 := Jf.c0
  have Jf1 := Jf.c1
  have Jf2 := Jf.c2
  have Jf3 := Jf.c3
  have Jfl := Jf.lt
  have Jg0 := Jg.c0
  have Jg1 := Jg.c1
  have Jg2 := Jg.c2
  have Jg3 := Jg.c3
  have Jgl := Jg.lt
  have Jh0 := Jh.c0
  have Jh1 := Jh.c1
  have Jh2 := Jh.c2
  have Jh3 := Jh.c3
  have Jhl := Jh.lt
  have Ji0 := Ji.c0
  have Ji1 := Ji.c1
  have Ji2 := Ji.c2
  have Ji3 := Ji.c3
  have Jil := Ji.lt
  have Jj0 := Jj.c0
  have Jj1 := Jj.c1
  have Jj2 := Jj.c2
  have Jj3 := Jj.c3
  have Jjl := Jj.lt
  have Jk0 := Jk.c0
  have Jk1 := Jk.c1
  have Jk2 := Jk.c2
  have Jk3 := Jk.c3
  have Jkl := Jk.lt
  have Jq0 := Jq.c0
  have Jq1 := Jq.c1
  have Jq2 := Jq.c2
  have Jq3 := Jq.c3
  have Jql := Jq.lt
  have lb := B.size
  go_wp2_with fail
  refine (XM.out _).mono ?_
  rintro e w23 ⟨rfl, z⟩
  clear Ja0 Ja1 Ja2 Ja3 Jal Jb0 Jb1 Jb2 Jb3 Jbl Jc0 Jc1 Jc2 Jc3 Jcl Jd0 Jd1 Jd2 Jd3 Jdl Je0 Je1 Je2 Je3 Jel Jf0 Jf1 Jf2 Jf3 Jfl Jg0 Jg1 Jg2 Jg3 Jgl Jh0 Jh1 Jh2 Jh3 Jhl Ji0 Ji1 Ji2 Ji3 Jil Jj0 Jj1 Jj2 Jj3 Jjl Jk0 Jk1 Jk2 Jk3 Jkl Jq0 Jq1 Jq2 Jq3 Jql lb
  have g23Ja : w1.heap.size < w22.heap.size := Ja.lt
  have g23Jb : w4.heap.size < w22.heap.size := Jb.lt
  have g23Jc : g6 < w22.heap.size := Jc.lt
  have g23Jd : w9.heap.size < w22.heap.size := Jd.lt
  have g23Je : w12.heap.size < w22.heap.size := Je.lt
  have g23Jf : w12.heap.size + 1 < w22.heap.size := Jf.lt
  have g23Jg : w15.heap.size < w22.heap.size := Jg.lt
  have g23Jh : w15.heap.size + 1 < w22.heap.size := Jh.lt
  have g23Ji : w18.heap.size < w22.heap.size := Ji.lt
  have g23Jj : w18.heap.size + 1 < w22.heap.size := Jj.lt
  have g23Jk : w20.heap.size < w22.heap.size := Jk.lt
  have g23Jq : w21.heap.size < w22.heap.size := Jq.lt
  have g23B := B.size
  replace Ja := (Ja.alloc _).below z
  replace Jb := (Jb.alloc _).below z
  replace Jc := (Jc.alloc _).below z
  replace Jd := (Jd.alloc _).below z
  replace Je := (Je.alloc _).below z
  replace Jf := (Jf.alloc _).below z
  replace Jg := (Jg.alloc _).below z
  replace Jh := (Jh.alloc _).below z
  replace Ji := (Ji.alloc _).below z
  replace Jj := (Jj.alloc _).below z
  replace Jk := (Jk.alloc _).below z
  replace Jq := (Jq.alloc _).below z
  have Jm : SC w23 (w22.heap.size) (Z) := (SC.new rfl).below z
  replace B := below_next (bel_alloc B) z
  clear z
  have Ja0 := Ja.c0
  have Ja1 := Ja.c1
  have Ja2 := Ja.c2
  have Ja3 := Ja.c3
  have Jal := Ja.lt
  have Jb0 := Jb.c0
  have Jb1 := Jb.c1
  have Jb2 := Jb.c2
  have Jb3 := Jb.c3
  have Jbl := Jb.lt
  have Jc0 := Jc.c0
  have Jc1 := Jc.c1
  have Jc2 := Jc.c2
  have Jc3 := Jc.c3
  have Jcl := Jc.lt
  have Jd0 := Jd.c0
  have Jd1 := Jd.c1
  have Jd2 := Jd.c2
  have Jd3 := Jd.c3
  have Jdl := Jd.lt
  have Je0 := Je.c0
  have Je1 := Je.c1
  have Je2 := Je.c2
  have Je3 := Je.c3
  have Jel := Je.lt
  have Jf0 := Jf.c0
  have Jf1 := Jf.c1
  have Jf2 := Jf.c2
  have Jf3 := Jf.c3
  have Jfl := Jf.lt
  have Jg0 := Jg.c0
  have Jg1 := Jg.c1
  have Jg2 := Jg.c2
  have Jg3 := Jg.c3
  have Jgl := Jg.lt
  have Jh0 := Jh.c0
  have Jh1 := Jh.c1
  have Jh2 := Jh.c2
  have Jh3 := Jh.c3
  have Jhl := Jh.lt
  have Ji0 := Ji.c0
  have Ji1 := Ji.c1
  have Ji2 := Ji.c2
  have Ji3 := Ji.c3
  have Jil := Ji.lt
  have Jj0 := Jj.c0
  have Jj1 := Jj.c1
  have Jj2 := Jj.c2
  have Jj3 := Jj.c3
  have Jjl := Jj.lt
  have Jk0 := Jk.c0
  have Jk1 := Jk.c1
  have Jk2 := Jk.c2
  have Jk3 := Jk.c3
  have Jkl := Jk.lt
  have Jq0 := Jq.c0
  have Jq1 := Jq.c1
  have Jq2 := Jq.c2
  have Jq3 := Jq.c3
  have Jql := Jq.lt
  have Jm0 := Jm.c0
  have Jm1 := Jm.c1
  have Jm2 := Jm.c2
  have Jm3 := Jm.c3
  have Jml := Jm.lt
  have lb := B.size
  go_wp2_with fail
  clear Ja0 Ja1 Ja2 Ja3 Jal Jb0 Jb1 Jb2 Jb3 Jbl Jc0 Jc1 Jc2 Jc3 Jcl Jd0 Jd1 Jd2 Jd3 Jdl Je0 Je1 Je2 Je3 Jel Jf0 Jf1 Jf2 Jf3 Jfl Jg0 Jg1 Jg2 Jg3 Jgl Jh0 Jh1 Jh2 Jh3 Jhl Ji0 Ji1 Ji2 Ji3 Jil Jj0 Jj1 Jj2 Jj3 Jjl Jk0 Jk1 Jk2 Jk3 Jkl Jq0 Jq1 Jq2 Jq3 Jql Jm0 Jm1 Jm2 Jm3 Jml lb
  have h1s : (w23.alloc (.cells #[.int .u64 (ub Z.1.1), .int .u64 (ub Z.1.2), .int .u64 (ub Z.2.1), .int .u64 (ub Z.2.2)] 28)).heap.size = w23.heap.size + 1 := by simp
  have h2s : ((w23.alloc (.cells #[.int .u64 (ub Z.1.1), .int .u64 (ub Z.1.2), .int .u64 (ub Z.2.1), .int .u64 (ub Z.2.2)] 28)).alloc (.cells #[.int .u64 0, .int .u64 15, .int .u64 0, .int .u64 9] 28)).heap.size = w23.heap.size + 1 + 1 := by simp
  have Jn := (KI.out (w23.alloc (.cells #[.int .u64 (ub Z.1.1), .int .u64 (ub Z.1.2), .int .u64 (ub Z.2.1), .int .u64 (ub Z.2.2)] 28))).alloc (.cells #[.int .u64 0, .int .u64 18446744073709551612, .int .u64 0, .int .u64 18446744073709551612] 28)
  have Jo := KL.out ((w23.alloc (.cells #[.int .u64 (ub Z.1.1), .int .u64 (ub Z.1.2), .int .u64 (ub Z.2.1), .int .u64 (ub Z.2.2)] 28)).alloc (.cells #[.int .u64 0, .int .u64 15, .int .u64 0, .int .u64 9] 28))
  rw [h1s] at Jn
  rw [h2s] at Jo
  replace Ja := ((Ja.alloc (.cells #[.int .u64 (ub Z.1.1), .int .u64 (ub Z.1.2), .int .u64 (ub Z.2.1), .int .u64 (ub Z.2.2)] 28)).alloc (.cells #[.int .u64 0, .int .u64 15, .int .u64 0, .int .u64 9] 28)).alloc (.cells #[.int .u64 0, .int .u64 18446744073709551612, .int .u64 0, .int .u64 18446744073709551612] 28)
  replace Jb := ((Jb.alloc (.cells #[.int .u64 (ub Z.1.1), .int .u64 (ub Z.1.2), .int .u64 (ub Z.2.1), .int .u64 (ub Z.2.2)] 28)).alloc (.cells #[.int .u64 0, .int .u64 15, .int .u64 0, .int .u64 9] 28)).alloc (.cells #[.int .u64 0, .int .u64 18446744073709551612, .int .u64 0, .int .u64 18446744073709551612] 28)
  replace Jc := ((Jc.alloc (.cells #[.int .u64 (ub Z.1.1), .int .u64 (ub Z.1.2), .int .u64 (ub Z.2.1), .int .u64 (ub Z.2.2)] 28)).alloc (.cells #[.int .u64 0, .int .u64 15, .int .u64 0, .int .u64 9] 28)).alloc (.cells #[.int .u64 0, .int .u64 18446744073709551612, .int .u64 0, .int .u64 18446744073709551612] 28)
  replace Jd := ((Jd.alloc (.cells #[.int .u64 (ub Z.1.1), .int .u64 (ub Z.1.2), .int .u64 (ub Z.2.1), .int .u64 (ub Z.2.2)] 28)).alloc (.cells #[.int .u64 0, .int .u64 15, .int .u64 0, .int .u64 9] 28)).alloc (.cells #[.int .u64 0, .int .u64 18446744073709551612, .int .u64 0, .int .u64 18446744073709551612] 28)
  replace Je := ((Je.alloc (.cells #[.int .u64 (ub Z.1.1), .int .u64 (ub Z.1.2), .int .u64 (ub Z.2.1), .int .u64 (ub Z.2.2)] 28)).alloc (.cells #[.int .u64 0, .int .u64 15, .int .u64 0, .int .u64 9] 28)).alloc (.cells #[.int .u64 0, .int .u64 18446744073709551612, .int .u64 0, .int .u64 18446744073709551612] 28)
  replace Jf := ((Jf.alloc (.cells #[.int .u64 (ub Z.1.1), .int .u64 (ub Z.1.2), .int .u64 (ub Z.2.1), .int .u64 (ub Z.2.2)] 28)).alloc (.cells #[.int .u64 0, .int .u64 15, .int .u64 0, .int .u64 9] 28)).alloc (.cells #[.int .u64 0, .int .u64 18446744073709551612, .int .u64 0, .int .u64 18446744073709551612] 28)
  replace Jg := ((Jg.alloc (.cells #[.int .u64 (ub Z.1.1), .int .u64 (ub Z.1.2), .int .u64 (ub Z.2.1), .int .u64 (ub Z.2.2)] 28)).alloc (.cells #[.int .u64 0, .int .u64 15, .int .u64 0, .int .u64 9] 28)).alloc (.cells #[.int .u64 0, .int .u64 18446744073709551612, .int .u64 0, .int .u64 18446744073709551612] 28)
  replace Jh := ((Jh.alloc (.cells #[.int .u64 (ub Z.1.1), .int .u64 (ub Z.1.2), .int .u64 (ub Z.2.1), .int .u64 (ub Z.2.2)] 28)).alloc (.cells #[.int .u64 0, .int .u64 15, .int .u64 0, .int .u64 9] 28)).alloc (.cells #[.int .u64 0, .int .u64 18446744073709551612, .int .u64 0, .int .u64 18446744073709551612] 28)
  replace Ji := ((Ji.alloc (.cells #[.int .u64 (ub Z.1.1), .int .u64 (ub Z.1.2), .int .u64 (ub Z.2.1), .int .u64 (ub Z.2.2)] 28)).alloc (.cells #[.int .u64 0, .int .u64 15, .int .u64 0, .int .u64 9] 28)).alloc (.cells #[.int .u64 0, .int .u64 18446744073709551612, .int .u64 0, .int .u64 18446744073709551612] 28)
  replace Jj := ((Jj.alloc (.cells #[.int .u64 (ub Z.1.1), .int .u64 (ub Z.1.2), .int .u64 (ub Z.2.1), .int .u64 (ub Z.2.2)] 28)).alloc (.cells #[.int .u64 0, .int .u64 15, .int .u64 0, .int .u64 9] 28)).alloc (.cells #[.int .u64 0, .int .u64 18446744073709551612, .int .u64 0, .int .u64 18446744073709551612] 28)
  replace Jk := ((Jk.alloc (.cells #[.int .u64 (ub Z.1.1), .int .u64 (ub Z.1.2), .int .u64 (ub Z.2.1), .int .u64 (ub Z.2.2)] 28)).alloc (.cells #[.int .u64 0, .int .u64 15, .int .u64 0, .int .u64 9] 28)).alloc (.cells #[.int .u64 0, .int .u64 18446744073709551612, .int .u64 0, .int .u64 18446744073709551612] 28)
  replace Jq := ((Jq.alloc (.cells #[.int .u64 (ub Z.1.1), .int .u64 (ub Z.1.2), .int .u64 (ub Z.2.1), .int .u64 (ub Z.2.2)] 28)).alloc (.cells #[.int .u64 0, .int .u64 15, .int .u64 0, .int .u64 9] 28)).alloc (.cells #[.int .u64 0, .int .u64 18446744073709551612, .int .u64 0, .int .u64 18446744073709551612] 28)
  replace Jm := ((Jm.alloc (.cells #[.int .u64 (ub Z.1.1), .int .u64 (ub Z.1.2), .int .u64 (ub Z.2.1), .int .u64 (ub Z.2.2)] 28)).alloc (.cells #[.int .u64 0, .int .u64 15, .int .u64 0, .int .u64 9] 28)).alloc (.cells #[.int .u64 0, .int .u64 18446744073709551612, .int .u64 0, .int .u64 18446744073709551612] 28)
  replace B := bel_alloc (o := (.cells #[.int .u64 0, .int .u64 18446744073709551612, .int .u64 0, .int .u64 18446744073709551612] 28)) (bel_alloc (o := (.cells #[.int .u64 0, .int .u64 15, .int .u64 0, .int .u64 9] 28)) (bel_alloc (o := (.cells #[.int .u64 (ub Z.1.1), .int .u64 (ub Z.1.2), .int .u64 (ub Z.2.1), .int .u64 (ub Z.2.2)] 28)) B))
  clear h1s h2s
  generalize (((w23.alloc (.cells #[.int .u64 (ub Z.1.1), .int .u64 (ub Z.1.2), .int .u64 (ub Z.2.1), .int .u64 (ub Z.2.2)] 28)).alloc (.cells #[.int .u64 0, .int .u64 15, .int .u64 0, .int .u64 9] 28)).alloc (.cells #[.int .u64 0, .int .u64 18446744073709551612, .int .u64 0, .int .u64 18446744073709551612] 28)) = w90 at *
  have Ja0 := Ja.c0
  have Ja1 := Ja.c1
  have Ja2 := Ja.c2
  have Ja3 := Ja.c3
  have Jal := Ja.lt
  have Jb0 := Jb.c0
  have Jb1 := Jb.c1
  have Jb2 := Jb.c2
  have Jb3 := Jb.c3
  have Jbl := Jb.lt
  have Jc0 := Jc.c0
  have Jc1 := Jc.c1
  have Jc2 := Jc.c2
  have Jc3 := Jc.c3
  have Jcl := Jc.lt
  have Jd0 := Jd.c0
  have Jd1 := Jd.c1
  have Jd2 := Jd.c2
  have Jd3 := Jd.c3
  have Jdl := Jd.lt
  have Je0 := Je.c0
  have Je1 := Je.c1
  have Je2 := Je.c2
  have Je3 := Je.c3
  have Jel := Je.lt
  have Jf0 := Jf.c0
  have Jf1 := Jf.c1
  have Jf2 := Jf.c2
  have Jf3 := Jf.c3
  have Jfl := Jf.lt
  have Jg0 := Jg.c0
  have Jg1 := Jg.c1
  have Jg2 := Jg.c2
  have Jg3 := Jg.c3
  have Jgl := Jg.lt
  have Jh0 := Jh.c0
  have Jh1 := Jh.c1
  have Jh2 := Jh.c2
  have Jh3 := Jh.c3
  have Jhl := Jh.lt
  have Ji0 := Ji.c0
  have Ji1 := Ji.c1
  have Ji2 := Ji.c2
  have Ji3 := Ji.c3
  have Jil := Ji.lt
  have Jj0 := Jj.c0
  have Jj1 := Jj.c1
  have Jj2 := Jj.c2
  have Jj3 := Jj.c3
  have Jjl := Jj.lt
  have Jk0 := Jk.c0
  have Jk1 := Jk.c1
  have Jk2 := Jk.c2
  have Jk3 := Jk.c3
  have Jkl := Jk.lt
  have Jq0 := Jq.c0
  have Jq1 := Jq.c1
  have Jq2 := Jq.c2
  have Jq3 := Jq.c3
  have Jql := Jq.lt
  have Jm0 := Jm.c0
  have Jm1 := Jm.c1
  have Jm2 := Jm.c2
  have Jm3 := Jm.c3
  have Jml := Jm.lt
  have Jn0 := Jn.c0
  have Jn1 := Jn.c1
  have Jn2 := Jn.c2
  have Jn3 := Jn.c3
  have Jnl := Jn.lt
  have Jo0 := Jo.c0
  have Jo1 := Jo.c1
  have Jo2 := Jo.c2
  have Jo3 := Jo.c3
  have Jol := Jo.lt
  have lb := B.size
  go_wp2_with fail
  clear Ja0 Ja1 Ja2 Ja3 Jal Jb0 Jb1 Jb2 Jb3 Jbl Jc0 Jc1 Jc2 Jc3 Jcl Jd0 Jd1 Jd2 Jd3 Jdl Je0 Je1 Je2 Je3 Jel Jf0 Jf1 Jf2 Jf3 Jfl Jg0 Jg1 Jg2 Jg3 Jgl Jh0 Jh1 Jh2 Jh3 Jhl Ji0 Ji1 Ji2 Ji3 Jil Jj0 Jj1 Jj2 Jj3 Jjl Jk0 Jk1 Jk2 Jk3 Jkl Jq0 Jq1 Jq2 Jq3 Jql Jm0 Jm1 Jm2 Jm3 Jml Jn0 Jn1 Jn2 Jn3 Jnl Jo0 Jo1 Jo2 Jo3 Jol lb
  have q0 := Jc.c0
  have q1 := Jc.c1
  have q2 := Jc.c2
  have q3 := Jc.c3
  have q4 := Jd.c2
  have q5 := Jd.c3
  have q6 := Je.c0
  have q7 := Je.c1
  have q8 := Je.c2
  have q9 := Je.c3
  have q10 := Jn.c0
  have q11 := Jn.c1
  have q12 := Jn.c2
  have q13 := Jn.c3
  have q14 := Jf.c0
  have q15 := Jf.c1
  have q16 := Jf.c2
  have q17 := Jf.c3
  have q18 := Jg.c0
  have q19 := Jg.c1
  have q20 := Jg.c2
  have q21 := Jg.c3
  have q22 := Jh.c0
  have q23 := Jh.c1
  have q24 := Jh.c2
  have q25 := Jh.c3
  have q26 := Ji.c0
  have q27 := Ji.c1
  have q28 := Ji.c2
  have q29 := Ji.c3
  have q30 := Jo.c0
  have q31 := Jo.c1
  have q32 := Jo.c2
  have q33 := Jo.c3
  have q34 := Jj.c0
  have q35 := Jj.c1
  have q36 := Jj.c2
  have q37 := Jj.c3
  have q38 := Jk.c0
  have q39 := Jk.c1
  have q40 := Jk.c2
  have q41 := Jk.c3
  try dsimp only at q0 q1 q2 q3 q4 q5 q6 q7 q8 q9 q10 q11 q12 q13 q14 q15 q16 q17 q18 q19 q20 q21 q22 q23 q24 q25 q26 q27 q28 q29 q30 q31 q32 q33 q34 q35 q36 q37 q38 q39 q40 q41
  go_region_held3 (fun w' => w'.cell? ⟨g6, 0, none⟩ = some (.int .u64 (ub U.1.1)) ∧ w'.cell? ⟨g6, 1, none⟩ = some (.int .u64 (ub U.1.2)) ∧ w'.cell? ⟨g6, 2, none⟩ = some (.int .u64 (ub U.2.1)) ∧ w'.cell? ⟨g6, 3, none⟩ = some (.int .u64 (ub U.2.2)) ∧ w'.cell? ⟨w9.heap.size, 2, none⟩ = some (.int .u64 (ub G.2.1)) ∧ w'.cell? ⟨w9.heap.size, 3, none⟩ = some (.int .u64 (ub G.2.2)) ∧ w'.cell? ⟨w12.heap.size, 0, none⟩ = some (.int .u64 (ub I.1.1)) ∧ w'.cell? ⟨w12.heap.size, 1, none⟩ = some (.int .u64 (ub I.1.2)) ∧ w'.cell? ⟨w12.heap.size, 2, none⟩ = some (.int .u64 (ub I.2.1)) ∧ w'.cell? ⟨w12.heap.size, 3, none⟩ = some (.int .u64 (ub I.2.2)) ∧ w'.cell? ⟨w23.heap.size + 1, 0, none⟩ = some (.int .u64 (ub I.1.1)) ∧ w'.cell? ⟨w23.heap.size + 1, 1, none⟩ = some (.int .u64 (ub I.1.2)) ∧ w'.cell? ⟨w23.heap.size + 1, 2, none⟩ = some (.int .u64 (ub I.2.1)) ∧ w'.cell? ⟨w23.heap.size + 1, 3, none⟩ = some (.int .u64 (ub I.2.2)) ∧ w'.cell? ⟨w12.heap.size + 1, 0, none⟩ = some (.int .u64 (ub V9.1.1)) ∧ w'.cell? ⟨w12.heap.size + 1, 1, none⟩ = some (.int .u64 (ub V9.1.2)) ∧ w'.cell? ⟨w12.heap.size + 1, 2, none⟩ = some (.int .u64 (ub V9.2.1)) ∧ w'.cell? ⟨w12.heap.size + 1, 3, none⟩ = some (.int .u64 (ub V9.2.2)) ∧ w'.cell? ⟨w15.heap.size, 0, none⟩ = some (.int .u64 (ub V3.1.1)) ∧ w'.cell? ⟨w15.heap.size, 1, none⟩ = some (.int .u64 (ub V3.1.2)) ∧ w'.cell? ⟨w15.heap.size, 2, none⟩ = some (.int .u64 (ub V3.2.1)) ∧ w'.cell? ⟨w15.heap.size, 3, none⟩ = some (.int .u64 (ub V3.2.2)) ∧ w'.cell? ⟨w15.heap.size + 1, 0, none⟩ = some (.int .u64 (ub V3.1.1)) ∧ w'.cell? ⟨w15.heap.size + 1, 1, none⟩ = some (.int .u64 (ub V3.1.2)) ∧ w'.cell? ⟨w15.heap.size + 1, 2, none⟩ = some (.int .u64 (ub V3.2.1)) ∧ w'.cell? ⟨w15.heap.size + 1, 3, none⟩ = some (.int .u64 (ub V3.2.2)) ∧ w'.cell? ⟨w18.heap.size, 0, none⟩ = some (.int .u64 (ub L.1.1)) ∧ w'.cell? ⟨w18.heap.size, 1, none⟩ = some (.int .u64 (ub L.1.2)) ∧ w'.cell? ⟨w18.heap.size, 2, none⟩ = some (.int .u64 (ub L.2.1)) ∧ w'.cell? ⟨w18.heap.size, 3, none⟩ = some (.int .u64 (ub L.2.2)) ∧ w'.cell? ⟨w23.heap.size + 1 + 1, 0, none⟩ = some (.int .u64 (ub L.1.1)) ∧ w'.cell? ⟨w23.heap.size + 1 + 1, 1, none⟩ = some (.int .u64 (ub L.1.2)) ∧ w'.cell? ⟨w23.heap.size + 1 + 1, 2, none⟩ = some (.int .u64 (ub L.2.1)) ∧ w'.cell? ⟨w23.heap.size + 1 + 1, 3, none⟩ = some (.int .u64 (ub L.2.2)) ∧ w'.cell? ⟨w18.heap.size + 1, 0, none⟩ = some (.int .u64 (ub V3.1.1)) ∧ w'.cell? ⟨w18.heap.size + 1, 1, none⟩ = some (.int .u64 (ub V3.1.2)) ∧ w'.cell? ⟨w18.heap.size + 1, 2, none⟩ = some (.int .u64 (ub V3.2.1)) ∧ w'.cell? ⟨w18.heap.size + 1, 3, none⟩ = some (.int .u64 (ub V3.2.2)) ∧ w'.cell? ⟨w20.heap.size, 0, none⟩ = some (.int .u64 (ub O.1.1)) ∧ w'.cell? ⟨w20.heap.size, 1, none⟩ = some (.int .u64 (ub O.1.2)) ∧ w'.cell? ⟨w20.heap.size, 2, none⟩ = some (.int .u64 (ub O.2.1)) ∧ w'.cell? ⟨w20.heap.size, 3, none⟩ = some (.int .u64 (ub O.2.2)) ∧ Below w90.heap.size w90 w')
    (first | (go_split_ands; with_reducible exact ⟨by with_reducible assumption, by with_reducible assumption, by with_reducible assumption, by with_reducible assumption, by with_reducible assumption, by with_reducible assumption, by with_reducible assumption, by with_reducible assumption, by with_reducible assumption, by with_reducible assumption, by with_reducible assumption, by with_reducible assumption, by with_reducible assumption, by with_reducible assumption, by with_reducible assumption, by with_reducible assumption, by with_reducible assumption, by with_reducible assumption, by with_reducible assumption, by with_reducible assumption, by with_reducible assumption, by with_reducible assumption, by with_reducible assumption, by with_reducible assumption, by with_reducible assumption, by with_reducible assumption, by with_reducible assumption, by with_reducible assumption, by with_reducible assumption, by with_reducible assumption, by with_reducible assumption, by with_reducible assumption, by with_reducible assumption, by with_reducible assumption, by with_reducible assumption, by with_reducible assumption, by with_reducible assumption, by with_reducible assumption, by with_reducible assumption, by with_reducible assumption, by with_reducible assumption, by with_reducible assumption, by with_reducible assumption⟩) | (with_reducible exact ⟨cn bq (by with_reducible assumption), cn bq (by with_reducible assumption), cn bq (by with_reducible assumption), cn bq (by with_reducible assumption), cn bq (by with_reducible assumption), cn bq (by with_reducible assumption), cn bq (by with_reducible assumption), cn bq (by with_reducible assumption), cn bq (by with_reducible assumption), cn bq (by with_reducible assumption), cn bq (by with_reducible assumption), cn bq (by with_reducible assumption), cn bq (by with_reducible assumption), cn bq (by with_reducible assumption), cn bq (by with_reducible assumption), cn bq (by with_reducible assumption), cn bq (by with_reducible assumption), cn bq (by with_reducible assumption), cn bq (by with_reducible assumption), cn bq (by with_reducible assumption), cn bq (by with_reducible assumption), cn bq (by with_reducible assumption), cn bq (by with_reducible assumption), cn bq (by with_reducible assumption), cn bq (by with_reducible assumption), cn bq (by with_reducible assumption), cn bq (by with_reducible assumption), cn bq (by with_reducible assumption), cn bq (by with_reducible assumption), cn bq (by with_reducible assumption), cn bq (by with_reducible assumption), cn bq (by with_reducible assumption), cn bq (by with_reducible assumption), cn bq (by with_reducible assumption), cn bq (by with_reducible assumption), cn bq (by with_reducible assumption), cn bq (by with_reducible assumption), cn bq (by with_reducible assumption), cn bq (by with_reducible assumption), cn bq (by with_reducible assumption), cn bq (by with_reducible assumption), cn bq (by with_reducible assumption), below_next (by with_reducible assumption) bq⟩) | (with_reducible exact ⟨cn (below_dr w90) q0, cn (below_dr w90) q1, cn (below_dr w90) q2, cn (below_dr w90) q3, cn (below_dr w90) q4, cn (below_dr w90) q5, cn (below_dr w90) q6, cn (below_dr w90) q7, cn (below_dr w90) q8, cn (below_dr w90) q9, cn (below_dr w90) q10, cn (below_dr w90) q11, cn (below_dr w90) q12, cn (below_dr w90) q13, cn (below_dr w90) q14, cn (below_dr w90) q15, cn (below_dr w90) q16, cn (below_dr w90) q17, cn (below_dr w90) q18, cn (below_dr w90) q19, cn (below_dr w90) q20, cn (below_dr w90) q21, cn (below_dr w90) q22, cn (below_dr w90) q23, cn (below_dr w90) q24, cn (below_dr w90) q25, cn (below_dr w90) q26, cn (below_dr w90) q27, cn (below_dr w90) q28, cn (below_dr w90) q29, cn (below_dr w90) q30, cn (below_dr w90) q31, cn (below_dr w90) q32, cn (below_dr w90) q33, cn (below_dr w90) q34, cn (below_dr w90) q35, cn (below_dr w90) q36, cn (below_dr w90) q37, cn (below_dr w90) q38, cn (below_dr w90) q39, cn (below_dr w90) q40, cn (below_dr w90) q41, below_dr w90⟩))
    (first | (go_at_call 11; go_split_ands; (with_reducible refine (XW.out _).mono ?_); rintro e wq ⟨rfl, bq⟩) | (go_at_call 25; go_split_ands; (with_reducible refine (N9.out _).mono ?_); rintro e wq ⟨rfl, bq⟩) | (go_at_call 25; go_split_ands; (with_reducible refine (N3.out _).mono ?_); rintro e wq ⟨rfl, bq⟩))
  go_split_ands
  have zq : Below w90.heap.size w90 wq := by with_reducible assumption
  replace Ja := Ja.below zq
  replace Jb := Jb.below zq
  replace Jc := Jc.below zq
  replace Jd := Jd.below zq
  replace Je := Je.below zq
  replace Jf := Jf.below zq
  replace Jg := Jg.below zq
  replace Jh := Jh.below zq
  replace Ji := Ji.below zq
  replace Jj := Jj.below zq
  replace Jk := Jk.below zq
  replace Jq := Jq.below zq
  replace Jm := Jm.below zq
  replace Jn := Jn.below zq
  replace Jo := Jo.below zq
  replace B := below_next B zq
  clear zq bq q0 q1 q2 q3 q4 q5 q6 q7 q8 q9 q10 q11 q12 q13 q14 q15 q16 q17 q18 q19 q20 q21 q22 q23 q24 q25 q26 q27 q28 q29 q30 q31 q32 q33 q34 q35 q36 q37 q38 q39 q40 q41
  skip
  have Ja0 := Ja.c0
  have Ja1 := Ja.c1
  have Ja2 := Ja.c2
  have Ja3 := Ja.c3
  have Jal := Ja.lt
  have Jb0 := Jb.c0
  have Jb1 := Jb.c1
  have Jb2 := Jb.c2
  have Jb3 := Jb.c3
  have Jbl := Jb.lt
  have Jc0 := Jc.c0
  have Jc1 := Jc.c1
  have Jc2 := Jc.c2
  have Jc3 := Jc.c3
  have Jcl := Jc.lt
  have Jd0 := Jd.c0
  have Jd1 := Jd.c1
  have Jd2 := Jd.c2
  have Jd3 := Jd.c3
  have Jdl := Jd.lt
  have Je0 := Je.c0
  have Je1 := Je.c1
  have Je2 := Je.c2
  have Je3 := Je.c3
  have Jel := Je.lt
  have Jf0 := Jf.c0
  have Jf1 := Jf.c1
  have Jf2 := Jf.c2
  have Jf3 := Jf.c3
  have Jfl := Jf.lt
  have Jg0 := Jg.c0
  have Jg1 := Jg.c1
  have Jg2 := Jg.c2
  have Jg3 := Jg.c3
  have Jgl := Jg.lt
  have Jh0 := Jh.c0
  have Jh1 := Jh.c1
  have Jh2 := Jh.c2
  have Jh3 := Jh.c3
  have Jhl := Jh.lt
  have Ji0 := Ji.c0
  have Ji1 := Ji.c1
  have Ji2 := Ji.c2
  have Ji3 := Ji.c3
  have Jil := Ji.lt
  have Jj0 := Jj.c0
  have Jj1 := Jj.c1
  have Jj2 := Jj.c2
  have Jj3 := Jj.c3
  have Jjl := Jj.lt
  have Jk0 := Jk.c0
  have Jk1 := Jk.c1
  have Jk2 := Jk.c2
  have Jk3 := Jk.c3
  have Jkl := Jk.lt
  have Jq0 := Jq.c0
  have Jq1 := Jq.c1
  have Jq2 := Jq.c2
  have Jq3 := Jq.c3
  have Jql := Jq.lt
  have Jm0 := Jm.c0
  have Jm1 := Jm.c1
  have Jm2 := Jm.c2
  have Jm3 := Jm.c3
  have Jml := Jm.lt
  have Jn0 := Jn.c0
  have Jn1 := Jn.c1
  have Jn2 := Jn.c2
  have Jn3 := Jn.c3
  have Jnl := Jn.lt
  have Jo0 := Jo.c0
  have Jo1 := Jo.c1
  have Jo2 := Jo.c2
  have Jo3 := Jo.c3
  have Jol := Jo.lt
  have lb := B.size
  go_wp2
  go_ret
  exact ⟨rfl, B⟩
end Go.Proofs.Ytebilklcmakhnaa

namespace Go.Proofs.Ytebilklcmakhnaa
set_option linter.unusedSimpArgs false
set_option linter.unusedVariables false
set_option maxRecDepth 100000
open Go.ChangeShapes Go.WideShapes Go.ChangeAt Go.RowKit

namespace ScalarKnown
set_option maxRecDepth 100000 in
theorem lifted (os : Os) (started : os.Started) (H : Type) (enc : TypeId × Value → H) :
    ReturnsInHanded {} Try.checked os 7 .any (Rows.scalarKnownSpec.pre6 enc Try.prog Try.f7 Rows.scalarKnownRow.domain false) (Rows.scalarKnownSpec.post enc Try.prog Try.f7 false true false false) := by
  refine returnsInHanded_of_change (C := Try.checked) own started (by kernel_rfl) Try.func7
    (ChangeSpec.witness6 (enc := enc) (C := Try.checked) false ⟨#[], #[], []⟩ 9 (by kernel_rfl) (by kernel_rfl) (by kernel_rfl) (by kernel_rfl)) ?_
  intro W base args ds gs before hval0 hW _ _
  have hval : ∀ (j : Nat) t v, Try.f7.params[j]? = some t → args[j]? = some v → Value.okWide Try.prog W .any base t v := hval0
  have hW' := hW
  obtain ⟨p, q, hA0, hV, rfl, _, _⟩ := hW
  have hA : DataW.TrodAll enc Try.prog W 0 (fun _ => true) true Try.f7.params.toList args.toList ds p := hA0
  rw [Try.params7] at hA hval
  obtain ⟨hargs, rfl, rfl⟩ := trodAll_nil hA
  obtain rfl : args = #[] := by cases args; simp_all
  obtain ⟨rfl, rfl⟩ := trodVars_none hV
  clear hA0 hval0
  refine (known_walk W).mono fun e W' ⟨he, hb⟩ => ?_
  subst he
  exact ⟨_, rfl, law_shut laid hW' rfl rfl Try.underlying4 (by kernel_rfl) rfl rfl rfl hb⟩

set_option maxRecDepth 100000 in
theorem over : Rows.scalarKnownRow.holds Try.pinned (OpenSpec.ofChange Rows.scalarKnownSpec) :=
  OpenClaim.holds_of_wide 7 Try.f7 rfl rfl rfl rfl rfl rfl rfl ⟨rfl, rfl, rfl, rfl, rfl⟩ rfl rfl rfl rfl rfl (by kernel_rfl) Try.func7 (by kernel_rfl)
    (of_decide_eq_true (by kernel_rfl)) (by unfold Func.isWrapper; first | (rw [if_pos (by decide +kernel)]; kernel_rfl) | (rw [if_neg (by decide +kernel)]; exact ⟨rfl, rfl⟩))
    (fun os started H enc _ => lifted os started H enc)
end ScalarKnown

theorem scalarKnown_proved : Rows.ScalarKnownSaid :=
  ScalarKnown.over

end Go.Proofs.Ytebilklcmakhnaa
