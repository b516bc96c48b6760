/-
  The words' operation is the spans'; what turned bytes hold. What one operation makes of two numbers is held (the laws' sound). Contract of Swap, as the landed code has it. ScalarSound: what an operation makes is held by the answer (the stage's theorem). ScalarSound: the law's walk, and what is handed in. No condition.
-/
import Derived.Test.YtebilklcmakhnaaFScV
import Derived.Test.YtebilklcmakhnaaFScI
import Derived.Test.YtebilklcmakhnaaFScW
import Derived.Test.YtebilklcmakhnaaFScZ
import Derived.Test.YtebilklcmakhnaaFClK
import Derived.Deep.RegionLaw
import Derived.Deep.RegionHeld3
import Derived.Lib.SmallJoins
namespace Go.Proofs.Ytebilklcmakhnaa
set_option linter.unusedSimpArgs false
set_option linter.unusedVariables false
set_option maxRecDepth 100000
open Go.RowKit

theorem md_is (c : Bool) : Wd.MD c = ((modW c : Nat) : Int) := by cases c <;> rfl
theorem fit_is (c : Bool) (z : B64) : ub z % Wd.MD c = ub (z &&& topW c) := by
  rw [md_is]; unfold ub; rw [and_top]; exact (Int.natCast_emod _ _).symm
theorem fit_keep (c : Bool) {z : B64} (h : z.toNat < modW c) : ub z % Wd.MD c = ub z := by
  rw [md_is]; unfold ub; exact Int.emod_eq_of_lt (by omega) (by omega)
theorem cnt_is (c : Bool) (y : B64) : (ub y % Wd.SZ c).toNat = shB c y := by
  unfold shB ub
  rw [BitVec.toNat_umod]
  cases c
  · show ((y.toNat : Int) % 32).toNat = y.toNat % 32; omega
  · show ((y.toNat : Int) % 64).toNat = y.toNat % 64; omega
theorem floor_neg (x M d : Int) (hd : 0 < d) (h0 : 0 ≤ M - 1 - x) : (x - M) / d = -1 - (M - 1 - x) / d := by
  have h := Int.mul_ediv_add_emod (M - 1 - x) d
  have r0 := Int.emod_nonneg (M - 1 - x) (Int.ne_of_gt hd)
  have r1 := Int.emod_lt_of_pos (M - 1 - x) hd
  refine ((Int.ediv_emod_unique hd (r := d - 1 - (M - 1 - x) % d)).2 ⟨?_, by omega, by omega⟩).1
  rw [Int.mul_sub, Int.mul_neg, Int.mul_one]
  omega
theorem ansI_is (op : Int) (h0 : 0 ≤ op) (h1 : op ≤ 12) (c : Bool) (x y : B64) (hx : x.toNat < modW c) (hy : y.toNat < modW c) (hn : (oneC op.toNat c x y).toNat < modW c) : Wd.ansI op c (ub x) (ub y) % Wd.MD c = ub (oneC op.toNat c x y) := by
  have sh : ∀ z : B64, z <<< shB c y = z * (1#64 <<< shB c y) := fun z => by
    apply BitVec.eq_of_toNat_eq
    rw [BitVec.toNat_shiftLeft, Nat.shiftLeft_eq, BitVec.toNat_mul, sh_pow]
    unfold shB
    rw [BitVec.toNat_umod]
    cases c <;> rfl
  obtain rfl | rfl | rfl | rfl | rfl | rfl | rfl | rfl | rfl | rfl | rfl | rfl | rfl : op = 0 ∨ op = 1 ∨ op = 2 ∨ op = 3 ∨ op = 4 ∨ op = 5 ∨ op = 6 ∨ op = 7 ∨ op = 8 ∨ op = 9 ∨ op = 10 ∨ op = 11 ∨ op = 12 := by omega
  · show (ub x + ub y) % 18446744073709551616 % Wd.MD c = ub ((x + y) &&& topW c); rw [ub_add, fit_is]
  · show (ub x - ub y) % 18446744073709551616 % Wd.MD c = ub ((x - y) &&& topW c); rw [ub_sub, fit_is]
  · show (ub x * ub y) % 18446744073709551616 % Wd.MD c = ub ((x * y) &&& topW c); rw [ub_mul, fit_is]
  · show (if ub y = 0 then 0 else ub x / ub y) % Wd.MD c = _
    have e : (if ub y = 0 then 0 else ub x / ub y) = ub (oneC 3 c x y) := by
      show _ = ub (if y = 0#64 then 0#64 else x / y)
      by_cases hz : y = 0#64
      · rw [if_pos hz, hz]; rfl
      · rw [if_neg hz, if_neg (ub_ne0 hz)]; unfold ub; rw [BitVec.toNat_udiv]; exact (Int.natCast_ediv _ _).symm
    rw [e]
    exact fit_keep c hn
  · show bits .or .u64 (ub x) (ub y) % Wd.MD c = _; rw [ub_or]; exact fit_keep c hn
  · show bits .and .u64 (ub x) (ub y) % Wd.MD c = _; rw [ub_and]; exact fit_keep c hn
  · show (ub x * 2 ^ (ub y % Wd.SZ c).toNat) % 18446744073709551616 % Wd.MD c = ub ((x * (1#64 <<< shB c y)) &&& topW c)
    rw [cnt_is, ub_shl, fit_is, sh]
  · show ub x / 2 ^ (ub y % Wd.SZ c).toNat % Wd.MD c = _
    rw [cnt_is, ub_shr]
    have e : x >>> shB c y = oneC 7 c x y := by
      show _ = x / (1#64 <<< shB c y)
      apply BitVec.eq_of_toNat_eq
      rw [BitVec.toNat_udiv, sh_pow, BitVec.toNat_ushiftRight, Nat.shiftRight_eq_div_pow]
      unfold shB
      rw [BitVec.toNat_umod]
      cases c <;> rfl
    rw [e]
    exact fit_keep c hn
  · show (-ub x) % 18446744073709551616 % Wd.MD c = ub ((0#64 - x) &&& topW c)
    have e : (-ub x) % 18446744073709551616 = ub (0#64 - x) := by rw [← ub_sub, show ub 0#64 = 0 from rfl, Int.zero_sub]
    rw [e, fit_is]
  · show (if ub y = 0 then ub x else ub x % ub y) % Wd.MD c = _
    have e : (if ub y = 0 then ub x else ub x % ub y) = ub (oneC 9 c x y) := by
      show _ = ub (if y = 0#64 then x else x % y)
      by_cases hz : y = 0#64
      · rw [if_pos hz, hz]; rfl
      · rw [if_neg hz, if_neg (ub_ne0 hz)]; unfold ub; rw [BitVec.toNat_umod]; exact (Int.natCast_emod _ _).symm
    rw [e]
    exact fit_keep c hn
  · show bits .xor .u64 (ub x) (ub y) % Wd.MD c = _; rw [ub_xor]; exact fit_keep c hn
  · show ub y % Wd.MD c = _; exact fit_keep c hn
  · show (Wd.sgnI c (ub x) / 2 ^ (ub y % Wd.SZ c).toNat) % 18446744073709551616 % Wd.MD c = ub (drB (1#64 <<< (sizeW c - 1)) x (shB c y))
    rw [cnt_is]
    have e := drB_is c x hx (shB c y)
    have p : (0 : Int) < 2 ^ shB c y := Int.pow_pos (by decide)
    have pn : ((2 : Int) ^ shB c y) = ((2 ^ shB c y : Nat) : Int) := by simp
    unfold ub
    rw [e, md_is]
    unfold Wd.sgnI drawN
    rw [md_is]
    have ml := modW_le c
    have w2 := modW_two c
    by_cases hs : x.toNat < modW c / 2
    · rw [if_pos hs, if_pos (by omega), pn, ← Int.natCast_ediv]
      have : x.toNat / 2 ^ shB c y ≤ x.toNat := Nat.div_le_self _ _
      generalize x.toNat / 2 ^ shB c y = z at *
      clear e hn
      generalize modW c = M at *
      rcases w2 with rfl | rfl <;> omega
    · rw [if_neg hs, if_neg (by omega), floor_neg _ _ _ p (by omega), pn]
      have q : ((modW c : Nat) : Int) - 1 - (x.toNat : Int) = ((modW c - 1 - x.toNat : Nat) : Int) := by omega
      rw [q, ← Int.natCast_ediv]
      have : (modW c - 1 - x.toNat) / 2 ^ shB c y ≤ modW c - 1 - x.toNat := Nat.div_le_self _ _
      generalize (modW c - 1 - x.toNat) / 2 ^ shB c y = z at *
      clear e hn q
      generalize modW c = M at *
      rcases w2 with rfl | rfl <;> omega
/-- The words' operation is the spans'. -/
theorem alu_is (op : Int) (h0 : 0 ≤ op) (h1 : op ≤ 12) (c : Bool) (x y : B64) : Wd.aluI op c (ub x) (ub y) = ub (oneB op.toNat c x y) := by
  unfold Wd.aluI
  rw [fit_is, fit_is]
  refine ansI_is op h0 h1 c _ _ (and_lt c x) (and_lt c y) ?_
  have h := oneB_is op.toNat (by omega) c x y
  have := raw_sound op ⟨h0, h1⟩ c (ofX_may x) (ofX_may y) (ofX_has x) (ofX_has y)
  have hl := halfW_one c x
  have e : oneC op.toNat c (x &&& topW c) (y &&& topW c) = oneB op.toNat c x y := rfl
  rw [e]
  have hok : aluOk op (x, x) (y, y) := ⟨h0, h1, decide_eq_true (Nat.le_refl _), decide_eq_true (Nat.le_refl _)⟩
  have s := alu_sound op c (x, x) (y, y) hok x y ⟨Nat.le_refl _, Nat.le_refl _⟩ ⟨Nat.le_refl _, Nat.le_refl _⟩
  have := s.1.2
  omega

/-- Bytes turned about. -/
def swB (k : Nat) (x : B64) : B64 := BitVec.ofNat 64 (Wd.rev k (ub x)).toNat
def revN : Nat → Nat → Nat
  | 0, _ => 0
  | k + 1, a => revN k a * 256 + a / 256 ^ k % 256
theorem rev_nat (a : Nat) : ∀ k, Wd.rev k (a : Int) = ((revN k a : Nat) : Int)
  | 0 => rfl
  | k + 1 => by
    show Wd.rev k (a : Int) * 256 + (a : Int) / 256 ^ k % 256 = _
    rw [rev_nat a k, revN, Int.natCast_add, Int.natCast_mul, Int.natCast_emod, Int.natCast_ediv]
    simp
theorem revN_lt (a : Nat) : ∀ k, revN k a < 256 ^ k
  | 0 => by simp [revN]
  | k + 1 => by
    have := revN_lt a k
    rw [revN, Nat.pow_succ]
    have : a / 256 ^ k % 256 < 256 := Nat.mod_lt _ (by decide)
    omega
theorem sw_toNat (k : Nat) (hk : k ≤ 8) (x : B64) : (swB k x).toNat = revN k x.toNat := by
  unfold swB ub
  rw [rev_nat, Int.toNat_natCast, BitVec.toNat_ofNat]
  apply Nat.mod_eq_of_lt
  have h1 := revN_lt x.toNat k
  have h2 : 256 ^ k ≤ 256 ^ 8 := Nat.pow_le_pow_right (by decide) hk
  have h3 : (256 : Nat) ^ 8 = 2 ^ 64 := by decide
  omega
theorem sw_ub (k : Nat) (hk : k ≤ 8) (x : B64) : ub (swB k x) = Wd.rev k (ub x) := by
  unfold ub
  rw [sw_toNat k hk, rev_nat]
theorem revN_bit (a : Nat) : ∀ k i, (revN k a).testBit i = (decide (i < 8 * k) && a.testBit (8 * (k - 1 - i / 8) + i % 8))
  | 0, i => by simp [revN]
  | k + 1, i => by
    rw [revN, Nat.mul_comm, show (256 : Nat) = 2 ^ 8 from rfl, Nat.testBit_two_pow_mul_add _ (Nat.mod_lt _ (by decide))]
    by_cases h : i < 8
    · rw [if_pos h, Nat.testBit_mod_two_pow, ← Nat.pow_mul, Nat.testBit_div_two_pow, decide_eq_true h, decide_eq_true (show i < 8 * (k + 1) by omega)]
      congr 2
      omega
    · rw [if_neg h, revN_bit a k (i - 8)]
      by_cases h2 : i < 8 * (k + 1)
      · rw [decide_eq_true h2, decide_eq_true (show i - 8 < 8 * k by omega)]
        congr 2
        omega
      · rw [decide_eq_false h2, decide_eq_false (show ¬ i - 8 < 8 * k by omega)]; rfl
theorem sw_bit (k : Nat) (hk : k ≤ 8) (x : B64) (i : Nat) : bt (swB k x) i = (decide (i < 8 * k) && bt x (8 * (k - 1 - i / 8) + i % 8)) := by
  unfold bt
  rw [BitVec.getLsbD, BitVec.getLsbD, sw_toNat k hk, revN_bit]
theorem sw_hs {t : Tn} {x : B64} (h : Hs t x) (k : Nat) (hk : k ≤ 8) : Hs (swB k t.1, swB k t.2) (swB k x) := (hs_iff _ _).2 fun i hi => by
  dsimp only
  rw [sw_bit k hk, sw_bit k hk, sw_bit k hk]
  by_cases h2 : i < 8 * k
  · rw [decide_eq_true h2, Bool.true_and, Bool.true_and, Bool.true_and]
    exact hs_bit h _ (by omega)
  · rw [decide_eq_false h2]; rfl
theorem sw_may {t : Tn} (h : tmay t = true) (k : Nat) (hk : k ≤ 8) : tmay (swB k t.1, swB k t.2) = true := may_of fun i hi => by
  dsimp only
  rw [sw_bit k hk, sw_bit k hk]
  have := may_bit h (8 * (k - 1 - i / 8) + i % 8)
  revert this
  cases decide (i < 8 * k) <;> simp
theorem belowI_k (k : Nat) (hk : k = 2 ∨ k = 4 ∨ k = 8) : (belowI (8 * k : Nat)).2.1 = 0#64 ∧ (belowI (8 * k : Nat)).2.2.toNat = 256 ^ k - 1 := by
  rcases hk with rfl | rfl | rfl
  · decide +kernel
  · decide +kernel
  · decide +kernel
def swpX (k : Nat) (s : Sc) : Sc := ((swB k s.1.1, swB k s.1.2), (belowI (8 * k : Nat)).2)
/-- The turned number is held. -/
theorem swp_has (k : Nat) (hk : k = 2 ∨ k = 4 ∨ k = 8) {s : Sc} {x : B64} (h : hasB s x) : hasB (optS (settle (swpX k s))) (swB k x) ∧ mayX (optS (settle (swpX k s))) = true := by
  have k8 : k ≤ 8 := by omega
  obtain ⟨b1, b2⟩ := belowI_k k hk
  have hb : hasB (swpX k s) (swB k x) := by
    refine ⟨(has_iff _ _).2 ⟨sw_may ((has_iff _ _).1 h.1).1 k k8, sw_hs ((has_iff _ _).1 h.1).2 k k8⟩, ?_, ?_⟩
    · show (belowI (8 * k : Nat)).2.1.toNat ≤ _
      rw [b1]; exact Nat.zero_le _
    · show _ ≤ (belowI (8 * k : Nat)).2.2.toNat
      rw [b2, sw_toNat k k8]
      have := revN_lt x.toNat k
      omega
  obtain ⟨y, e, hy⟩ := settle_has hb
  rw [e]
  exact ⟨hy, settled e⟩
end Go.Proofs.Ytebilklcmakhnaa

namespace Go.Proofs.Ytebilklcmakhnaa
set_option linter.unusedSimpArgs false
set_option linter.unusedVariables false
set_option maxRecDepth 100000
open Go.ChangeShapes Go.WideShapes Go.ChangeAt Go.RowKit

theorem cutG {P : Program} {c : Code} {Q : Exit → Act → World → Prop} {a : Act} {w : World} {A : Nat → Act} {F : Nat → World → Prop} (h1 : Code.wp P c (CutX fun a' W' => ∃ g : Nat, F g W' ∧ a' = A g) a w) (h2 : ∀ g W, F g W → Q .normal (A g) W) : Code.wp P c Q a w :=
  Code.wp_mono (CutX.imp fun a' W' ⟨g, hF, e⟩ => e ▸ h2 g W' hF) h1
theorem below_dr_alloc (w : World) (o : Obj) : Below w.drew.heap.size w.drew (w.alloc o).drew := ((Below.refl w.drew.heap.size w.drew).alloc (Nat.le_refl _) o)
structure NS (n : Nat) (w : World) (b : Nat) (x : Sc) : Prop where
  le : n ≤ b
  sc : SC w b x
theorem eqS {w : World} {b : Nat} {x : Sc} (h : SC w b x) : ∃ g, b = g := ⟨b, rfl⟩
theorem SmC.otherS {w : World} {b e : Nat} {op : Int} {c : Bool} {x y : Sc} (h : SmC w b op c x y) (hbc : b ≠ e) (u : Sc) : SmC (putS w e u) b op c x y := by
  have e1 := putS_heap w e u hbc
  have g : ∀ k, (putS w e u).cell? ⟨b, k, none⟩ = w.cell? ⟨b, k, none⟩ := fun k => World.cell?_of_block (w := w) (a := ⟨b, k, none⟩) e1
  exact ⟨by rw [putS_size]; exact h.lt, (g 0).trans h.c0, (g 1).trans h.c1, (g 2).trans h.c2, (g 3).trans h.c3, (g 4).trans h.c4, (g 5).trans h.c5, (g 6).trans h.c6, (g 7).trans h.c7, (g 8).trans h.c8, (g 9).trans h.c9⟩
set_option maxHeartbeats 8000000 in
theorem sound_na (op : Int) (c : Bool) (a b : Sc) (x y : B64) (ha : mayX a = false) (w : World) : Calls Try.prog 13 #[sumV op c a b, .int .u64 (ub x), .int .u64 (ub y)] w fun e w' => e = .returned (.bool true) ∧ Below w.heap.size w w' := by
  have X1 := fun W => cAlu_any op c a b W
  have X2 := fun W => Wd.ralu_any op c (ub x) (ub y) W (ub_ge x) (ub_lt x) (ub_ge y) (ub_lt y)
  have X3 := fun W => cMay_any a W
  rw [ha] at X3
  rw [show scAluT op c a b = sc0 from if_neg (fun k => by rw [ha] at k; exact absurd k.1.1 (by decide)), show scAluE op a b = 1 from if_neg (fun k => by rw [ha] at k; exact absurd k.1 (by decide))] at X1
  clear ha
  generalize Wd.aluI op c (ub x) (ub y) = N at *
  generalize Wd.aluE op = E at *
  have Q0 : ∀ W, (binOp .neq 28 (sv sc0) (.agg #[.int .u64 0, .int .u64 0, .int .u64 0, .int .u64 0])).run Try.prog W = .ok (.bool false) W := fun W => neq_sc sc0 sc0 W
  generalize sc0 = Z at *
  unfold sv at X1 X3 Q0
  unfold sumV
  try dsimp only at X1 X3
  replace X1 := hid X1
  replace X2 := hid X2
  replace X3 := hid X3
  go_enter Try.func13, Try.ntmps13
  go_wp2_with fail
  refine (X1.out _).mono ?_
  rintro e w1 ⟨rfl, z⟩
  have JM : SmC w1 (w.heap.size) op c a b := (SmC.new rfl).below z
  have B := below_next (bel_alloc (Below.refl w.heap.size w)) z
  clear z
  have JM0 := JM.c0
  have JM1 := JM.c1
  have JM2 := JM.c2
  have JM3 := JM.c3
  have JM4 := JM.c4
  have JM5 := JM.c5
  have JM6 := JM.c6
  have JM7 := JM.c7
  have JM8 := JM.c8
  have JM9 := JM.c9
  have JMl := JM.lt
  have lb := B.size
  go_wp2_with fail
  clear JM0 JM1 JM2 JM3 JM4 JM5 JM6 JM7 JM8 JM9 JMl lb
  have JT : SC (w1.alloc (.cells #[.int .u64 (ub Z.1.1), .int .u64 (ub Z.1.2), .int .u64 (ub Z.2.1), .int .u64 (ub Z.2.2)] 28)) (w1.heap.size) Z := (SC.new (x := Z) rfl)
  have gq1JM : w.heap.size < w1.heap.size := JM.lt
  replace JM := (JM.alloc (.cells #[.int .u64 (ub Z.1.1), .int .u64 (ub Z.1.2), .int .u64 (ub Z.2.1), .int .u64 (ub Z.2.2)] 28))
  replace B := (bel_alloc (o := (.cells #[.int .u64 (ub Z.1.1), .int .u64 (ub Z.1.2), .int .u64 (ub Z.2.1), .int .u64 (ub Z.2.2)] 28)) B)
  generalize (w1.alloc (.cells #[.int .u64 (ub Z.1.1), .int .u64 (ub Z.1.2), .int .u64 (ub Z.2.1), .int .u64 (ub Z.2.2)] 28)) = w2 at *
  have JM0 := JM.c0
  have JM1 := JM.c1
  have JM2 := JM.c2
  have JM3 := JM.c3
  have JM4 := JM.c4
  have JM5 := JM.c5
  have JM6 := JM.c6
  have JM7 := JM.c7
  have JM8 := JM.c8
  have JM9 := JM.c9
  have JMl := JM.lt
  have JT0 := JT.c0
  have JT1 := JT.c1
  have JT2 := JT.c2
  have JT3 := JT.c3
  have JTl := JT.lt
  have lb := B.size
  go_wp2_with fail
  refine (X2.out _).mono ?_
  rintro e w_ ⟨rfl, rfl⟩
  clear JM0 JM1 JM2 JM3 JM4 JM5 JM6 JM7 JM8 JM9 JMl JT0 JT1 JT2 JT3 JTl lb
  have JM0 := JM.c0
  have JM1 := JM.c1
  have JM2 := JM.c2
  have JM3 := JM.c3
  have JM4 := JM.c4
  have JM5 := JM.c5
  have JM6 := JM.c6
  have JM7 := JM.c7
  have JM8 := JM.c8
  have JM9 := JM.c9
  have JMl := JM.lt
  have JT0 := JT.c0
  have JT1 := JT.c1
  have JT2 := JT.c2
  have JT3 := JT.c3
  have JTl := JT.lt
  have lb := B.size
  go_wp2_with fail
  refine (X3.out _).mono ?_
  rintro e w3 ⟨rfl, z⟩
  clear JM0 JM1 JM2 JM3 JM4 JM5 JM6 JM7 JM8 JM9 JMl JT0 JT1 JT2 JT3 JTl lb
  replace JM := JM.below z
  replace JT := JT.below z
  replace B := below_next B z
  clear z
  have JM0 := JM.c0
  have JM1 := JM.c1
  have JM2 := JM.c2
  have JM3 := JM.c3
  have JM4 := JM.c4
  have JM5 := JM.c5
  have JM6 := JM.c6
  have JM7 := JM.c7
  have JM8 := JM.c8
  have JM9 := JM.c9
  have JMl := JM.lt
  have JT0 := JT.c0
  have JT1 := JT.c1
  have JT2 := JT.c2
  have JT3 := JT.c3
  have JTl := JT.lt
  have lb := B.size
  go_wp2
  go_ret
  exact ⟨rfl, B⟩
set_option maxHeartbeats 8000000 in
theorem sound_nb (op : Int) (c : Bool) (a b : Sc) (x y : B64) (ha : mayX a = true) (hb : mayX b = false) (w : World) : Calls Try.prog 13 #[sumV op c a b, .int .u64 (ub x), .int .u64 (ub y)] w fun e w' => e = .returned (.bool true) ∧ Below w.heap.size w w' := by
  have X1 := fun W => cAlu_any op c a b W
  have X2 := fun W => Wd.ralu_any op c (ub x) (ub y) W (ub_ge x) (ub_lt x) (ub_ge y) (ub_lt y)
  have X3 := fun W => cMay_any a W
  have X4 := fun W => cMay_any b W
  rw [ha] at X3
  rw [hb] at X4
  rw [show scAluT op c a b = sc0 from if_neg (fun k => by rw [hb] at k; exact absurd k.1.2 (by decide)), show scAluE op a b = 1 from if_neg (fun k => by rw [hb] at k; exact absurd k.2 (by decide))] at X1
  clear ha hb
  generalize Wd.aluI op c (ub x) (ub y) = N at *
  generalize Wd.aluE op = E at *
  have Q0 : ∀ W, (binOp .neq 28 (sv sc0) (.agg #[.int .u64 0, .int .u64 0, .int .u64 0, .int .u64 0])).run Try.prog W = .ok (.bool false) W := fun W => neq_sc sc0 sc0 W
  generalize sc0 = Z at *
  unfold sv at X1 X3 X4 Q0
  unfold sumV
  try dsimp only at X1 X3 X4
  replace X1 := hid X1
  replace X2 := hid X2
  replace X3 := hid X3
  replace X4 := hid X4
  go_enter Try.func13, Try.ntmps13
  go_wp2_with fail
  refine (X1.out _).mono ?_
  rintro e w1 ⟨rfl, z⟩
  have JM : SmC w1 (w.heap.size) op c a b := (SmC.new rfl).below z
  have B := below_next (bel_alloc (Below.refl w.heap.size w)) z
  clear z
  have JM0 := JM.c0
  have JM1 := JM.c1
  have JM2 := JM.c2
  have JM3 := JM.c3
  have JM4 := JM.c4
  have JM5 := JM.c5
  have JM6 := JM.c6
  have JM7 := JM.c7
  have JM8 := JM.c8
  have JM9 := JM.c9
  have JMl := JM.lt
  have lb := B.size
  go_wp2_with fail
  clear JM0 JM1 JM2 JM3 JM4 JM5 JM6 JM7 JM8 JM9 JMl lb
  have JT : SC (w1.alloc (.cells #[.int .u64 (ub Z.1.1), .int .u64 (ub Z.1.2), .int .u64 (ub Z.2.1), .int .u64 (ub Z.2.2)] 28)) (w1.heap.size) Z := (SC.new (x := Z) rfl)
  have gq1JM : w.heap.size < w1.heap.size := JM.lt
  replace JM := (JM.alloc (.cells #[.int .u64 (ub Z.1.1), .int .u64 (ub Z.1.2), .int .u64 (ub Z.2.1), .int .u64 (ub Z.2.2)] 28))
  replace B := (bel_alloc (o := (.cells #[.int .u64 (ub Z.1.1), .int .u64 (ub Z.1.2), .int .u64 (ub Z.2.1), .int .u64 (ub Z.2.2)] 28)) B)
  generalize (w1.alloc (.cells #[.int .u64 (ub Z.1.1), .int .u64 (ub Z.1.2), .int .u64 (ub Z.2.1), .int .u64 (ub Z.2.2)] 28)) = w2 at *
  have JM0 := JM.c0
  have JM1 := JM.c1
  have JM2 := JM.c2
  have JM3 := JM.c3
  have JM4 := JM.c4
  have JM5 := JM.c5
  have JM6 := JM.c6
  have JM7 := JM.c7
  have JM8 := JM.c8
  have JM9 := JM.c9
  have JMl := JM.lt
  have JT0 := JT.c0
  have JT1 := JT.c1
  have JT2 := JT.c2
  have JT3 := JT.c3
  have JTl := JT.lt
  have lb := B.size
  go_wp2_with fail
  refine (X2.out _).mono ?_
  rintro e w_ ⟨rfl, rfl⟩
  clear JM0 JM1 JM2 JM3 JM4 JM5 JM6 JM7 JM8 JM9 JMl JT0 JT1 JT2 JT3 JTl lb
  have JM0 := JM.c0
  have JM1 := JM.c1
  have JM2 := JM.c2
  have JM3 := JM.c3
  have JM4 := JM.c4
  have JM5 := JM.c5
  have JM6 := JM.c6
  have JM7 := JM.c7
  have JM8 := JM.c8
  have JM9 := JM.c9
  have JMl := JM.lt
  have JT0 := JT.c0
  have JT1 := JT.c1
  have JT2 := JT.c2
  have JT3 := JT.c3
  have JTl := JT.lt
  have lb := B.size
  go_wp2_with fail
  refine (X3.out _).mono ?_
  rintro e w3 ⟨rfl, z⟩
  clear JM0 JM1 JM2 JM3 JM4 JM5 JM6 JM7 JM8 JM9 JMl JT0 JT1 JT2 JT3 JTl lb
  replace JM := JM.below z
  replace JT := JT.below z
  replace B := below_next B z
  clear z
  have JM0 := JM.c0
  have JM1 := JM.c1
  have JM2 := JM.c2
  have JM3 := JM.c3
  have JM4 := JM.c4
  have JM5 := JM.c5
  have JM6 := JM.c6
  have JM7 := JM.c7
  have JM8 := JM.c8
  have JM9 := JM.c9
  have JMl := JM.lt
  have JT0 := JT.c0
  have JT1 := JT.c1
  have JT2 := JT.c2
  have JT3 := JT.c3
  have JTl := JT.lt
  have lb := B.size
  go_wp2_with fail
  refine (X4.out _).mono ?_
  rintro e w4 ⟨rfl, z⟩
  clear JM0 JM1 JM2 JM3 JM4 JM5 JM6 JM7 JM8 JM9 JMl JT0 JT1 JT2 JT3 JTl lb
  replace JM := JM.below z
  replace JT := JT.below z
  replace B := below_next B z
  clear z
  have JM0 := JM.c0
  have JM1 := JM.c1
  have JM2 := JM.c2
  have JM3 := JM.c3
  have JM4 := JM.c4
  have JM5 := JM.c5
  have JM6 := JM.c6
  have JM7 := JM.c7
  have JM8 := JM.c8
  have JM9 := JM.c9
  have JMl := JM.lt
  have JT0 := JT.c0
  have JT1 := JT.c1
  have JT2 := JT.c2
  have JT3 := JT.c3
  have JTl := JT.lt
  have lb := B.size
  go_wp2
  go_ret
  exact ⟨rfl, B⟩
set_option maxHeartbeats 8000000 in
theorem sound_no (op : Int) (c : Bool) (a b : Sc) (x y : B64) (ha : mayX a = true) (hb : mayX b = true) (ho : ¬ opIs op) (w : World) : Calls Try.prog 13 #[sumV op c a b, .int .u64 (ub x), .int .u64 (ub y)] w fun e w' => e = .returned (.bool true) ∧ Below w.heap.size w w' := by
  have X1 := fun W => cAlu_any op c a b W
  have X2 := fun W => Wd.ralu_any op c (ub x) (ub y) W (ub_ge x) (ub_lt x) (ub_ge y) (ub_lt y)
  have X3 := fun W => cMay_any a W
  have X4 := fun W => cMay_any b W
  rw [ha] at X3
  rw [hb] at X4
  rw [show scAluT op c a b = sc0 from if_neg (fun k => ho k.2), show scAluE op a b = 20 from (if_pos ⟨ha, hb⟩).trans (if_neg ho)] at X1
  rw [show Wd.aluE op = 20 from if_neg ho] at X2
  clear ha hb ho
  generalize Wd.aluI op c (ub x) (ub y) = N at *
  have Q0 : ∀ W, (binOp .neq 28 (sv sc0) (.agg #[.int .u64 0, .int .u64 0, .int .u64 0, .int .u64 0])).run Try.prog W = .ok (.bool false) W := fun W => neq_sc sc0 sc0 W
  generalize sc0 = Z at *
  unfold sv at X1 X3 X4 Q0
  unfold sumV
  try dsimp only at X1 X3 X4
  replace X1 := hid X1
  replace X2 := hid X2
  replace X3 := hid X3
  replace X4 := hid X4
  go_enter Try.func13, Try.ntmps13
  go_wp2_with fail
  refine (X1.out _).mono ?_
  rintro e w1 ⟨rfl, z⟩
  have JM : SmC w1 (w.heap.size) op c a b := (SmC.new rfl).below z
  have B := below_next (bel_alloc (Below.refl w.heap.size w)) z
  clear z
  have JM0 := JM.c0
  have JM1 := JM.c1
  have JM2 := JM.c2
  have JM3 := JM.c3
  have JM4 := JM.c4
  have JM5 := JM.c5
  have JM6 := JM.c6
  have JM7 := JM.c7
  have JM8 := JM.c8
  have JM9 := JM.c9
  have JMl := JM.lt
  have lb := B.size
  go_wp2_with fail
  clear JM0 JM1 JM2 JM3 JM4 JM5 JM6 JM7 JM8 JM9 JMl lb
  have JT : SC (w1.alloc (.cells #[.int .u64 (ub Z.1.1), .int .u64 (ub Z.1.2), .int .u64 (ub Z.2.1), .int .u64 (ub Z.2.2)] 28)) (w1.heap.size) Z := (SC.new (x := Z) rfl)
  have gq1JM : w.heap.size < w1.heap.size := JM.lt
  replace JM := (JM.alloc (.cells #[.int .u64 (ub Z.1.1), .int .u64 (ub Z.1.2), .int .u64 (ub Z.2.1), .int .u64 (ub Z.2.2)] 28))
  replace B := (bel_alloc (o := (.cells #[.int .u64 (ub Z.1.1), .int .u64 (ub Z.1.2), .int .u64 (ub Z.2.1), .int .u64 (ub Z.2.2)] 28)) B)
  generalize (w1.alloc (.cells #[.int .u64 (ub Z.1.1), .int .u64 (ub Z.1.2), .int .u64 (ub Z.2.1), .int .u64 (ub Z.2.2)] 28)) = w2 at *
  have JM0 := JM.c0
  have JM1 := JM.c1
  have JM2 := JM.c2
  have JM3 := JM.c3
  have JM4 := JM.c4
  have JM5 := JM.c5
  have JM6 := JM.c6
  have JM7 := JM.c7
  have JM8 := JM.c8
  have JM9 := JM.c9
  have JMl := JM.lt
  have JT0 := JT.c0
  have JT1 := JT.c1
  have JT2 := JT.c2
  have JT3 := JT.c3
  have JTl := JT.lt
  have lb := B.size
  go_wp2_with fail
  refine (X2.out _).mono ?_
  rintro e w_ ⟨rfl, rfl⟩
  clear JM0 JM1 JM2 JM3 JM4 JM5 JM6 JM7 JM8 JM9 JMl JT0 JT1 JT2 JT3 JTl lb
  have JM0 := JM.c0
  have JM1 := JM.c1
  have JM2 := JM.c2
  have JM3 := JM.c3
  have JM4 := JM.c4
  have JM5 := JM.c5
  have JM6 := JM.c6
  have JM7 := JM.c7
  have JM8 := JM.c8
  have JM9 := JM.c9
  have JMl := JM.lt
  have JT0 := JT.c0
  have JT1 := JT.c1
  have JT2 := JT.c2
  have JT3 := JT.c3
  have JTl := JT.lt
  have lb := B.size
  go_wp2_with fail
  refine (X3.out _).mono ?_
  rintro e w3 ⟨rfl, z⟩
  clear JM0 JM1 JM2 JM3 JM4 JM5 JM6 JM7 JM8 JM9 JMl JT0 JT1 JT2 JT3 JTl lb
  replace JM := JM.below z
  replace JT := JT.below z
  replace B := below_next B z
  clear z
  have JM0 := JM.c0
  have JM1 := JM.c1
  have JM2 := JM.c2
  have JM3 := JM.c3
  have JM4 := JM.c4
  have JM5 := JM.c5
  have JM6 := JM.c6
  have JM7 := JM.c7
  have JM8 := JM.c8
  have JM9 := JM.c9
  have JMl := JM.lt
  have JT0 := JT.c0
  have JT1 := JT.c1
  have JT2 := JT.c2
  have JT3 := JT.c3
  have JTl := JT.lt
  have lb := B.size
  go_wp2_with fail
  refine (X4.out _).mono ?_
  rintro e w4 ⟨rfl, z⟩
  clear JM0 JM1 JM2 JM3 JM4 JM5 JM6 JM7 JM8 JM9 JMl JT0 JT1 JT2 JT3 JTl lb
  replace JM := JM.below z
  replace JT := JT.below z
  replace B := below_next B z
  clear z
  have JM0 := JM.c0
  have JM1 := JM.c1
  have JM2 := JM.c2
  have JM3 := JM.c3
  have JM4 := JM.c4
  have JM5 := JM.c5
  have JM6 := JM.c6
  have JM7 := JM.c7
  have JM8 := JM.c8
  have JM9 := JM.c9
  have JMl := JM.lt
  have JT0 := JT.c0
  have JT1 := JT.c1
  have JT2 := JT.c2
  have JT3 := JT.c3
  have JTl := JT.lt
  have lb := B.size
  go_wp2
  go_ret
  exact ⟨rfl, B⟩
set_option maxHeartbeats 8000000 in
theorem sound_ha (op : Int) (c : Bool) (a b : Sc) (x y : B64) (ha : mayX a = true) (hb : mayX b = true) (ho : opIs op) (h1 : hasX a x = false) (w : World) : Calls Try.prog 13 #[sumV op c a b, .int .u64 (ub x), .int .u64 (ub y)] w fun e w' => e = .returned (.bool true) ∧ Below w.heap.size w w' := by
  have X1 := fun W => cAlu_any op c a b W
  have X2 := fun W => Wd.ralu_any op c (ub x) (ub y) W (ub_ge x) (ub_lt x) (ub_ge y) (ub_lt y)
  have X3 := fun W => cMay_any a W
  have X4 := fun W => cMay_any b W
  have X5 := fun W => cHas_any a x W
  rw [ha] at X3
  rw [hb] at X4
  rw [show scAluE op a b = 0 from (if_pos ⟨ha, hb⟩).trans (if_pos ho)] at X1
  rw [show Wd.aluE op = 0 from if_pos ho, alu_is op ho.1 ho.2 c x y] at X2
  rw [h1] at X5
  clear ha hb ho h1
  generalize scAluT op c a b = Z at *
  generalize oneB op.toNat c x y = n at *
  unfold sv at X1 X3 X4 X5
  unfold sumV
  try dsimp only at X1 X3 X4 X5
  replace X1 := hid X1
  replace X2 := hid X2
  replace X3 := hid X3
  replace X4 := hid X4
  replace X5 := hid X5
  go_enter Try.func13, Try.ntmps13
  go_wp2_with fail
  refine (X1.out _).mono ?_
  rintro e w1 ⟨rfl, z⟩
  have JM : SmC w1 (w.heap.size) op c a b := (SmC.new rfl).below z
  have B := below_next (bel_alloc (Below.refl w.heap.size w)) z
  clear z
  have JM0 := JM.c0
  have JM1 := JM.c1
  have JM2 := JM.c2
  have JM3 := JM.c3
  have JM4 := JM.c4
  have JM5 := JM.c5
  have JM6 := JM.c6
  have JM7 := JM.c7
  have JM8 := JM.c8
  have JM9 := JM.c9
  have JMl := JM.lt
  have lb := B.size
  go_wp2_with fail
  clear JM0 JM1 JM2 JM3 JM4 JM5 JM6 JM7 JM8 JM9 JMl lb
  have JT : SC (w1.alloc (.cells #[.int .u64 (ub Z.1.1), .int .u64 (ub Z.1.2), .int .u64 (ub Z.2.1), .int .u64 (ub Z.2.2)] 28)) (w1.heap.size) Z := (SC.new (x := Z) rfl)
  have gq1JM : w.heap.size < w1.heap.size := JM.lt
  replace JM := (JM.alloc (.cells #[.int .u64 (ub Z.1.1), .int .u64 (ub Z.1.2), .int .u64 (ub Z.2.1), .int .u64 (ub Z.2.2)] 28))
  replace B := (bel_alloc (o := (.cells #[.int .u64 (ub Z.1.1), .int .u64 (ub Z.1.2), .int .u64 (ub Z.2.1), .int .u64 (ub Z.2.2)] 28)) B)
  generalize (w1.alloc (.cells #[.int .u64 (ub Z.1.1), .int .u64 (ub Z.1.2), .int .u64 (ub Z.2.1), .int .u64 (ub Z.2.2)] 28)) = w2 at *
  have JM0 := JM.c0
  have JM1 := JM.c1
  have JM2 := JM.c2
  have JM3 := JM.c3
  have JM4 := JM.c4
  have JM5 := JM.c5
  have JM6 := JM.c6
  have JM7 := JM.c7
  have JM8 := JM.c8
  have JM9 := JM.c9
  have JMl := JM.lt
  have JT0 := JT.c0
  have JT1 := JT.c1
  have JT2 := JT.c2
  have JT3 := JT.c3
  have JTl := JT.lt
  have lb := B.size
  go_wp2_with fail
  refine (X2.out _).mono ?_
  rintro e w_ ⟨rfl, rfl⟩
  clear JM0 JM1 JM2 JM3 JM4 JM5 JM6 JM7 JM8 JM9 JMl JT0 JT1 JT2 JT3 JTl lb
  have JM0 := JM.c0
  have JM1 := JM.c1
  have JM2 := JM.c2
  have JM3 := JM.c3
  have JM4 := JM.c4
  have JM5 := JM.c5
  have JM6 := JM.c6
  have JM7 := JM.c7
  have JM8 := JM.c8
  have JM9 := JM.c9
  have JMl := JM.lt
  have JT0 := JT.c0
  have JT1 := JT.c1
  have JT2 := JT.c2
  have JT3 := JT.c3
  have JTl := JT.lt
  have lb := B.size
  go_wp2_with fail
  refine (X3.out _).mono ?_
  rintro e w3 ⟨rfl, z⟩
  clear JM0 JM1 JM2 JM3 JM4 JM5 JM6 JM7 JM8 JM9 JMl JT0 JT1 JT2 JT3 JTl lb
  replace JM := JM.below z
  replace JT := JT.below z
  replace B := below_next B z
  clear z
  have JM0 := JM.c0
  have JM1 := JM.c1
  have JM2 := JM.c2
  have JM3 := JM.c3
  have JM4 := JM.c4
  have JM5 := JM.c5
  have JM6 := JM.c6
  have JM7 := JM.c7
  have JM8 := JM.c8
  have JM9 := JM.c9
  have JMl := JM.lt
  have JT0 := JT.c0
  have JT1 := JT.c1
  have JT2 := JT.c2
  have JT3 := JT.c3
  have JTl := JT.lt
  have lb := B.size
  go_wp2_with fail
  refine (X4.out _).mono ?_
  rintro e w4 ⟨rfl, z⟩
  clear JM0 JM1 JM2 JM3 JM4 JM5 JM6 JM7 JM8 JM9 JMl JT0 JT1 JT2 JT3 JTl lb
  replace JM := JM.below z
  replace JT := JT.below z
  replace B := below_next B z
  clear z
  have JM0 := JM.c0
  have JM1 := JM.c1
  have JM2 := JM.c2
  have JM3 := JM.c3
  have JM4 := JM.c4
  have JM5 := JM.c5
  have JM6 := JM.c6
  have JM7 := JM.c7
  have JM8 := JM.c8
  have JM9 := JM.c9
  have JMl := JM.lt
  have JT0 := JT.c0
  have JT1 := JT.c1
  have JT2 := JT.c2
  have JT3 := JT.c3
  have JTl := JT.lt
  have lb := B.size
  go_wp2_with fail
  refine (X5.out _).mono ?_
  rintro e w5 ⟨rfl, z⟩
  clear JM0 JM1 JM2 JM3 JM4 JM5 JM6 JM7 JM8 JM9 JMl JT0 JT1 JT2 JT3 JTl lb
  replace JM := JM.below z
  replace JT := JT.below z
  replace B := below_next B z
  clear z
  have JM0 := JM.c0
  have JM1 := JM.c1
  have JM2 := JM.c2
  have JM3 := JM.c3
  have JM4 := JM.c4
  have JM5 := JM.c5
  have JM6 := JM.c6
  have JM7 := JM.c7
  have JM8 := JM.c8
  have JM9 := JM.c9
  have JMl := JM.lt
  have JT0 := JT.c0
  have JT1 := JT.c1
  have JT2 := JT.c2
  have JT3 := JT.c3
  have JTl := JT.lt
  have lb := B.size
  go_wp2
  go_ret
  exact ⟨rfl, B⟩
set_option maxHeartbeats 8000000 in
theorem sound_hb (op : Int) (c : Bool) (a b : Sc) (x y : B64) (ha : mayX a = true) (hb : mayX b = true) (ho : opIs op) (h1 : hasX a x = true) (h2 : hasX b y = false) (w : World) : Calls Try.prog 13 #[sumV op c a b, .int .u64 (ub x), .int .u64 (ub y)] w fun e w' => e = .returned (.bool true) ∧ Below w.heap.size w w' := by
  have X1 := fun W => cAlu_any op c a b W
  have X2 := fun W => Wd.ralu_any op c (ub x) (ub y) W (ub_ge x) (ub_lt x) (ub_ge y) (ub_lt y)
  have X3 := fun W => cMay_any a W
  have X4 := fun W => cMay_any b W
  have X5 := fun W => cHas_any a x W
  rw [ha] at X3
  rw [hb] at X4
  rw [show scAluE op a b = 0 from (if_pos ⟨ha, hb⟩).trans (if_pos ho)] at X1
  rw [show Wd.aluE op = 0 from if_pos ho, alu_is op ho.1 ho.2 c x y] at X2
  have X6 := fun W => cHas_any b y W
  rw [h1] at X5
  rw [h2] at X6
  clear ha hb ho h1 h2
  generalize scAluT op c a b = Z at *
  generalize oneB op.toNat c x y = n at *
  unfold sv at X1 X3 X4 X5 X6
  unfold sumV
  try dsimp only at X1 X3 X4 X5 X6
  replace X1 := hid X1
  replace X2 := hid X2
  replace X3 := hid X3
  replace X4 := hid X4
  replace X5 := hid X5
  replace X6 := hid X6
  go_enter Try.func13, Try.ntmps13
  go_wp2_with fail
  refine (X1.out _).mono ?_
  rintro e w1 ⟨rfl, z⟩
  have JM : SmC w1 (w.heap.size) op c a b := (SmC.new rfl).below z
  have B := below_next (bel_alloc (Below.refl w.heap.size w)) z
  clear z
  have JM0 := JM.c0
  have JM1 := JM.c1
  have JM2 := JM.c2
  have JM3 := JM.c3
  have JM4 := JM.c4
  have JM5 := JM.c5
  have JM6 := JM.c6
  have JM7 := JM.c7
  have JM8 := JM.c8
  have JM9 := JM.c9
  have JMl := JM.lt
  have lb := B.size
  go_wp2_with fail
  clear JM0 JM1 JM2 JM3 JM4 JM5 JM6 JM7 JM8 JM9 JMl lb
  have JT : SC (w1.alloc (.cells #[.int .u64 (ub Z.1.1), .int .u64 (ub Z.1.2), .int .u64 (ub Z.2.1), .int .u64 (ub Z.2.2)] 28)) (w1.heap.size) Z := (SC.new (x := Z) rfl)
  have gq1JM : w.heap.size < w1.heap.size := JM.lt
  replace JM := (JM.alloc (.cells #[.int .u64 (ub Z.1.1), .int .u64 (ub Z.1.2), .int .u64 (ub Z.2.1), .int .u64 (ub Z.2.2)] 28))
  replace B := (bel_alloc (o := (.cells #[.int .u64 (ub Z.1.1), .int .u64 (ub Z.1.2), .int .u64 (ub Z.2.1), .int .u64 (ub Z.2.2)] 28)) B)
  generalize (w1.alloc (.cells #[.int .u64 (ub Z.1.1), .int .u64 (ub Z.1.2), .int .u64 (ub Z.2.1), .int .u64 (ub Z.2.2)] 28)) = w2 at *
  have JM0 := JM.c0
  have JM1 := JM.c1
  have JM2 := JM.c2
  have JM3 := JM.c3
  have JM4 := JM.c4
  have JM5 := JM.c5
  have JM6 := JM.c6
  have JM7 := JM.c7
  have JM8 := JM.c8
  have JM9 := JM.c9
  have JMl := JM.lt
  have JT0 := JT.c0
  have JT1 := JT.c1
  have JT2 := JT.c2
  have JT3 := JT.c3
  have JTl := JT.lt
  have lb := B.size
  go_wp2_with fail
  refine (X2.out _).mono ?_
  rintro e w_ ⟨rfl, rfl⟩
  clear JM0 JM1 JM2 JM3 JM4 JM5 JM6 JM7 JM8 JM9 JMl JT0 JT1 JT2 JT3 JTl lb
  have JM0 := JM.c0
  have JM1 := JM.c1
  have JM2 := JM.c2
  have JM3 := JM.c3
  have JM4 := JM.c4
  have JM5 := JM.c5
  have JM6 := JM.c6
  have JM7 := JM.c7
  have JM8 := JM.c8
  have JM9 := JM.c9
  have JMl := JM.lt
  have JT0 := JT.c0
  have JT1 := JT.c1
  have JT2 := JT.c2
  have JT3 := JT.c3
  have JTl := JT.lt
  have lb := B.size
  go_wp2_with fail
  refine (X3.out _).mono ?_
  rintro e w3 ⟨rfl, z⟩
  clear JM0 JM1 JM2 JM3 JM4 JM5 JM6 JM7 JM8 JM9 JMl JT0 JT1 JT2 JT3 JTl lb
  replace JM := JM.below z
  replace JT := JT.below z
  replace B := below_next B z
  clear z
  have JM0 := JM.c0
  have JM1 := JM.c1
  have JM2 := JM.c2
  have JM3 := JM.c3
  have JM4 := JM.c4
  have JM5 := JM.c5
  have JM6 := JM.c6
  have JM7 := JM.c7
  have JM8 := JM.c8
  have JM9 := JM.c9
  have JMl := JM.lt
  have JT0 := JT.c0
  have JT1 := JT.c1
  have JT2 := JT.c2
  have JT3 := JT.c3
  have JTl := JT.lt
  have lb := B.size
  go_wp2_with fail
  refine (X4.out _).mono ?_
  rintro e w4 ⟨rfl, z⟩
  clear JM0 JM1 JM2 JM3 JM4 JM5 JM6 JM7 JM8 JM9 JMl JT0 JT1 JT2 JT3 JTl lb
  replace JM := JM.below z
  replace JT := JT.below z
  replace B := below_next B z
  clear z
  have JM0 := JM.c0
  have JM1 := JM.c1
  have JM2 := JM.c2
  have JM3 := JM.c3
  have JM4 := JM.c4
  have JM5 := JM.c5
  have JM6 := JM.c6
  have JM7 := JM.c7
  have JM8 := JM.c8
  have JM9 := JM.c9
  have JMl := JM.lt
  have JT0 := JT.c0
  have JT1 := JT.c1
  have JT2 := JT.c2
  have JT3 := JT.c3
  have JTl := JT.lt
  have lb := B.size
  go_wp2_with fail
  refine (X5.out _).mono ?_
  rintro e w5 ⟨rfl, z⟩
  clear JM0 JM1 JM2 JM3 JM4 JM5 JM6 JM7 JM8 JM9 JMl JT0 JT1 JT2 JT3 JTl lb
  replace JM := JM.below z
  replace JT := JT.below z
  replace B := below_next B z
  clear z
  have JM0 := JM.c0
  have JM1 := JM.c1
  have JM2 := JM.c2
  have JM3 := JM.c3
  have JM4 := JM.c4
  have JM5 := JM.c5
  have JM6 := JM.c6
  have JM7 := JM.c7
  have JM8 := JM.c8
  have JM9 := JM.c9
  have JMl := JM.lt
  have JT0 := JT.c0
  have JT1 := JT.c1
  have JT2 := JT.c2
  have JT3 := JT.c3
  have JTl := JT.lt
  have lb := B.size
  go_wp2_with fail
  refine (X6.out _).mono ?_
  rintro e w6 ⟨rfl, z⟩
  clear JM0 JM1 JM2 JM3 JM4 JM5 JM6 JM7 JM8 JM9 JMl JT0 JT1 JT2 JT3 JTl lb
  replace JM := JM.below z
  replace JT := JT.below z
  replace B := below_next B z
  clear z
  have JM0 := JM.c0
  have JM1 := JM.c1
  have JM2 := JM.c2
  have JM3 := JM.c3
  have JM4 := JM.c4
  have JM5 := JM.c5
  have JM6 := JM.c6
  have JM7 := JM.c7
  have JM8 := JM.c8
  have JM9 := JM.c9
  have JMl := JM.lt
  have JT0 := JT.c0
  have JT1 := JT.c1
  have JT2 := JT.c2
  have JT3 := JT.c3
  have JTl := JT.lt
  have lb := B.size
  go_wp2
  go_ret
  exact ⟨rfl, B⟩
set_option maxHeartbeats 8000000 in
theorem sound_ok (op : Int) (c : Bool) (a b : Sc) (x y : B64) (ha : mayX a = true) (hb : mayX b = true) (ho : opIs op) (h1 : hasX a x = true) (h2 : hasX b y = true) (w : World) : Calls Try.prog 13 #[sumV op c a b, .int .u64 (ub x), .int .u64 (ub y)] w fun e w' => e = .returned (.bool true) ∧ Below w.heap.size w w' := by
  have X1 := fun W => cAlu_any op c a b W
  have X2 := fun W => Wd.ralu_any op c (ub x) (ub y) W (ub_ge x) (ub_lt x) (ub_ge y) (ub_lt y)
  have X3 := fun W => cMay_any a W
  have X4 := fun W => cMay_any b W
  have X5 := fun W => cHas_any a x W
  rw [ha] at X3
  rw [hb] at X4
  rw [show scAluE op a b = 0 from (if_pos ⟨ha, hb⟩).trans (if_pos ho)] at X1
  rw [show Wd.aluE op = 0 from if_pos ho, alu_is op ho.1 ho.2 c x y] at X2
  have X6 := fun W => cHas_any b y W
  have S := scAlu_sound op ho c ha hb ((hasX_iff a x).1 h1).2 ((hasX_iff b y).1 h2).2
  have X7 := fun W => cOf_any x W
  have X8 := fun W => cOf_any y W
  have X9 := fun W => cAlu_any op c (ofX x) (ofX y) W
  rw [scAlu_one op ho c x y, show scAluE op (ofX x) (ofX y) = 0 from (if_pos ⟨ofX_may x, ofX_may y⟩).trans (if_pos ho)] at X9
  have X10 := fun W => cMay_any (scAluT op c a b) W
  rw [S.2] at X10
  have X11 := fun W => cHas_any (scAluT op c a b) (oneB op.toNat c x y) W
  rw [(hasX_iff _ _).2 ⟨S.2, S.1⟩] at X11
  have X12 := fun W => cOf_any (oneB op.toNat c x y) W
  have Q1 := fun W => eq_sc (ofX (oneB op.toNat c x y)) (ofX (oneB op.toNat c x y)) W
  rw [beq_self_eq_true] at Q1
  rw [h1] at X5
  rw [h2] at X6
  clear ha hb ho h1 h2 S
  generalize scAluT op c a b = Z at *
  generalize ofX (oneB op.toNat c x y) = O at *
  generalize oneB op.toNat c x y = n at *
  generalize ofX x = P at *
  generalize ofX y = Q at *
  unfold sv at X1 X3 X4 X5 X6 X7 X8 X9 X10 X11 X12 Q1
  unfold sumV
  try dsimp only at X1 X3 X4 X5 X6 X7 X8 X9 X10 X11 X12
  replace X1 := hid X1
  replace X2 := hid X2
  replace X3 := hid X3
  replace X4 := hid X4
  replace X5 := hid X5
  replace X6 := hid X6
  replace X7 := hid X7
  replace X8 := hid X8
  replace X9 := hid X9
  replace X10 := hid X10
  replace X11 := hid X11
  replace X12 := hid X12
  go_enter Try.func13, Try.ntmps13
  go_wp2_with fail
  refine (X1.out _).mono ?_
  rintro e w1 ⟨rfl, z⟩
  have JM : SmC w1 (w.heap.size) op c a b := (SmC.new rfl).below z
  have B := below_next (bel_alloc (Below.refl w.heap.size w)) z
  clear z
  have JM0 := JM.c0
  have JM1 := JM.c1
  have JM2 := JM.c2
  have JM3 := JM.c3
  have JM4 := JM.c4
  have JM5 := JM.c5
  have JM6 := JM.c6
  have JM7 := JM.c7
  have JM8 := JM.c8
  have JM9 := JM.c9
  have JMl := JM.lt
  have lb := B.size
  go_wp2_with fail
  clear JM0 JM1 JM2 JM3 JM4 JM5 JM6 JM7 JM8 JM9 JMl lb
  have JT : SC (w1.alloc (.cells #[.int .u64 (ub Z.1.1), .int .u64 (ub Z.1.2), .int .u64 (ub Z.2.1), .int .u64 (ub Z.2.2)] 28)) (w1.heap.size) Z := (SC.new (x := Z) rfl)
  have gq1JM : w.heap.size < w1.heap.size := JM.lt
  replace JM := (JM.alloc (.cells #[.int .u64 (ub Z.1.1), .int .u64 (ub Z.1.2), .int .u64 (ub Z.2.1), .int .u64 (ub Z.2.2)] 28))
  replace B := (bel_alloc (o := (.cells #[.int .u64 (ub Z.1.1), .int .u64 (ub Z.1.2), .int .u64 (ub Z.2.1), .int .u64 (ub Z.2.2)] 28)) B)
  generalize (w1.alloc (.cells #[.int .u64 (ub Z.1.1), .int .u64 (ub Z.1.2), .int .u64 (ub Z.2.1), .int .u64 (ub Z.2.2)] 28)) = w2 at *
  have JM0 := JM.c0
  have JM1 := JM.c1
  have JM2 := JM.c2
  have JM3 := JM.c3
  have JM4 := JM.c4
  have JM5 := JM.c5
  have JM6 := JM.c6
  have JM7 := JM.c7
  have JM8 := JM.c8
  have JM9 := JM.c9
  have JMl := JM.lt
  have JT0 := JT.c0
  have JT1 := JT.c1
  have JT2 := JT.c2
  have JT3 := JT.c3
  have JTl := JT.lt
  have lb := B.size
  go_wp2_with fail
  refine (X2.out _).mono ?_
  rintro e w_ ⟨rfl, rfl⟩
  clear JM0 JM1 JM2 JM3 JM4 JM5 JM6 JM7 JM8 JM9 JMl JT0 JT1 JT2 JT3 JTl lb
  have JM0 := JM.c0
  have JM1 := JM.c1
  have JM2 := JM.c2
  have JM3 := JM.c3
  have JM4 := JM.c4
  have JM5 := JM.c5
  have JM6 := JM.c6
  have JM7 := JM.c7
  have JM8 := JM.c8
  have JM9 := JM.c9
  have JMl := JM.lt
  have JT0 := JT.c0
  have JT1 := JT.c1
  have JT2 := JT.c2
  have JT3 := JT.c3
  have JTl := JT.lt
  have lb := B.size
  go_wp2_with fail
  refine (X3.out _).mono ?_
  rintro e w3 ⟨rfl, z⟩
  clear JM0 JM1 JM2 JM3 JM4 JM5 JM6 JM7 JM8 JM9 JMl JT0 JT1 JT2 JT3 JTl lb
  replace JM := JM.below z
  replace JT := JT.below z
  replace B := below_next B z
  clear z
  have JM0 := JM.c0
  have JM1 := JM.c1
  have JM2 := JM.c2
  have JM3 := JM.c3
  have JM4 := JM.c4
  have JM5 := JM.c5
  have JM6 := JM.c6
  have JM7 := JM.c7
  have JM8 := JM.c8
  have JM9 := JM.c9
  have JMl := JM.lt
  have JT0 := JT.c0
  have JT1 := JT.c1
  have JT2 := JT.c2
  have JT3 := JT.c3
  have JTl := JT.lt
  have lb := B.size
  go_wp2_with fail
  refine (X4.out _).mono ?_
  rintro e w4 ⟨rfl, z⟩
  clear JM0 JM1 JM2 JM3 JM4 JM5 JM6 JM7 JM8 JM9 JMl JT0 JT1 JT2 JT3 JTl lb
  replace JM := JM.below z
  replace JT := JT.below z
  replace B := below_next B z
  clear z
  have JM0 := JM.c0
  have JM1 := JM.c1
  have JM2 := JM.c2
  have JM3 := JM.c3
  have JM4 := JM.c4
  have JM5 := JM.c5
  have JM6 := JM.c6
  have JM7 := JM.c7
  have JM8 := JM.c8
  have JM9 := JM.c9
  have JMl := JM.lt
  have JT0 := JT.c0
  have JT1 := JT.c1
  have JT2 := JT.c2
  have JT3 := JT.c3
  have JTl := JT.lt
  have lb := B.size
  go_wp2_with fail
  refine (X5.out _).mono ?_
  rintro e w5 ⟨rfl, z⟩
  clear JM0 JM1 JM2 JM3 JM4 JM5 JM6 JM7 JM8 JM9 JMl JT0 JT1 JT2 JT3 JTl lb
  replace JM := JM.below z
  replace JT := JT.below z
  replace B := below_next B z
  clear z
  have JM0 := JM.c0
  have JM1 := JM.c1
  have JM2 := JM.c2
  have JM3 := JM.c3
  have JM4 := JM.c4
  have JM5 := JM.c5
  have JM6 := JM.c6
  have JM7 := JM.c7
  have JM8 := JM.c8
  have JM9 := JM.c9
  have JMl := JM.lt
  have JT0 := JT.c0
  have JT1 := JT.c1
  have JT2 := JT.c2
  have JT3 := JT.c3
  have JTl := JT.lt
  have lb := B.size
  go_wp2_with fail
  refine (X6.out _).mono ?_
  rintro e w6 ⟨rfl, z⟩
  clear JM0 JM1 JM2 JM3 JM4 JM5 JM6 JM7 JM8 JM9 JMl JT0 JT1 JT2 JT3 JTl lb
  replace JM := JM.below z
  replace JT := JT.below z
  replace B := below_next B z
  clear z
  have JM0 := JM.c0
  have JM1 := JM.c1
  have JM2 := JM.c2
  have JM3 := JM.c3
  have JM4 := JM.c4
  have JM5 := JM.c5
  have JM6 := JM.c6
  have JM7 := JM.c7
  have JM8 := JM.c8
  have JM9 := JM.c9
  have JMl := JM.lt
  have JT0 := JT.c0
  have JT1 := JT.c1
  have JT2 := JT.c2
  have JT3 := JT.c3
  have JTl := JT.lt
  have lb := B.size
  go_wp2_with fail
  clear JM0 JM1 JM2 JM3 JM4 JM5 JM6 JM7 JM8 JM9 JMl JT0 JT1 JT2 JT3 JTl lb
  have q0 := JM.c0
  have q1 := JM.c1
  have keepB : ∀ W, Below w6.heap.size w6 W → W.cell? ⟨w.heap.size, 0, none⟩ = some (.int .i64 op) ∧ W.cell? ⟨w.heap.size, 1, none⟩ = some (.bool c) ∧ Below w6.heap.size w6 W := fun W hW => ⟨cn hW q0, cn hW q1, hW⟩
  have hb0 : Below w6.heap.size w6 w6 := Below.refl _ _
  apply cutG (F := fun g W' => SmC W' (w.heap.size) op c a b ∧ SC W' (w1.heap.size) Z ∧ SC W' g (O) ∧ Below w.heap.size w W')
  · go_region_held3 (fun w' => w'.cell? ⟨w.heap.size, 0, none⟩ = some (.int .i64 op) ∧ w'.cell? ⟨w.heap.size, 1, none⟩ = some (.bool c) ∧ Below w6.heap.size w6 w')
      ((refine keepB _ ?_; go_split_ands; first | (with_reducible assumption) | (with_reducible exact below_dr _) | (with_reducible exact below_next (by assumption) bq) | (with_reducible exact bel_alloc (by assumption)) | (with_reducible exact Below.drew (bel_alloc (by assumption))) | exact Below.setCell (Below.setCell (Below.setCell (Below.setCell (by with_reducible assumption) N.le _) N.le _) N.le _) N.le _))
      (first | (go_at_call 25; go_split_ands; (with_reducible refine (X7.out _).mono ?_); rintro e wq ⟨rfl, bq⟩; have hB7 := below_next (a := w6) (by with_reducible assumption) bq; (first | (have N : NS w6.heap.size wq _ sc0 := ⟨(by first | exact Nat.le_refl _ | exact Below.size (by assumption)), (SC.new rfl).below bq⟩) | (have N : NS w6.heap.size wq _ sc0 := ⟨(by first | exact Nat.le_refl _ | exact Below.size (by assumption)), ((SC.new rfl).below (below_dr _)).below bq⟩) | (have N : NS w6.heap.size wq _ sc0 := ⟨N.le, N.sc.below bq⟩) | skip); (try have n0 := N.sc.c0); (try have n1 := N.sc.c1); (try have n2 := N.sc.c2); (try have n3 := N.sc.c3); (try have nl := N.sc.lt); (try have nf0 := N.sc.f0); (try have nf1 := N.sc.f1); (try have nf2 := N.sc.f2); (try have nf3 := N.sc.f3)) | (go_at_call 25; go_split_ands; (with_reducible refine (X8.out _).mono ?_); rintro e wq ⟨rfl, bq⟩; have hB7 := below_next (a := w6) (by with_reducible assumption) bq; (first | (have N : NS w6.heap.size wq _ sc0 := ⟨(by first | exact Nat.le_refl _ | exact Below.size (by assumption)), (SC.new rfl).below bq⟩) | (have N : NS w6.heap.size wq _ sc0 := ⟨(by first | exact Nat.le_refl _ | exact Below.size (by assumption)), ((SC.new rfl).below (below_dr _)).below bq⟩) | (have N : NS w6.heap.size wq _ sc0 := ⟨N.le, N.sc.below bq⟩) | skip); (try have n0 := N.sc.c0); (try have n1 := N.sc.c1); (try have n2 := N.sc.c2); (try have n3 := N.sc.c3); (try have nl := N.sc.lt); (try have nf0 := N.sc.f0); (try have nf1 := N.sc.f1); (try have nf2 := N.sc.f2); (try have nf3 := N.sc.f3)) | (go_at_call 24; go_split_ands; (with_reducible refine (X9.out _).mono ?_); rintro e wq ⟨rfl, bq⟩; have hB7 := below_next (a := w6) (by with_reducible assumption) bq; (first | (have N : NS w6.heap.size wq _ sc0 := ⟨(by first | exact Nat.le_refl _ | exact Below.size (by assumption)), (SC.new rfl).below bq⟩) | (have N : NS w6.heap.size wq _ sc0 := ⟨(by first | exact Nat.le_refl _ | exact Below.size (by assumption)), ((SC.new rfl).below (below_dr _)).below bq⟩) | (have N : NS w6.heap.size wq _ sc0 := ⟨N.le, N.sc.below bq⟩) | skip); (try have n0 := N.sc.c0); (try have n1 := N.sc.c1); (try have n2 := N.sc.c2); (try have n3 := N.sc.c3); (try have nl := N.sc.lt); (try have nf0 := N.sc.f0); (try have nf1 := N.sc.f1); (try have nf2 := N.sc.f2); (try have nf3 := N.sc.f3)))
    all_goals
      go_split_ands
      first
        | (have hE := eqS N.sc; obtain ⟨g, hg⟩ := hE)
        | (have hE : ∃ g : Nat, wq.heap.size = g := ⟨_, rfl⟩; obtain ⟨g, hg⟩ := hE)
      refine ⟨g, ⟨JM.below (by with_reducible assumption), JT.below (by with_reducible assumption), ?_, below_next B (by with_reducible assumption)⟩, ?_⟩
      · rw [← hg]
        first | exact N.sc.put (O) | exact SC.new rfl
      · first | (rw [hg]; done) | (rw [hg]; exact rfl)
  clear keepB hb0 q0 q1 JM JT B
  intro g7 w7 ⟨JM, JT, JO, B⟩
  have JM0 := JM.c0
  have JM1 := JM.c1
  have JM2 := JM.c2
  have JM3 := JM.c3
  have JM4 := JM.c4
  have JM5 := JM.c5
  have JM6 := JM.c6
  have JM7 := JM.c7
  have JM8 := JM.c8
  have JM9 := JM.c9
  have JMl := JM.lt
  have JT0 := JT.c0
  have JT1 := JT.c1
  have JT2 := JT.c2
  have JT3 := JT.c3
  have JTl := JT.lt
  have JO0 := JO.c0
  have JO1 := JO.c1
  have JO2 := JO.c2
  have JO3 := JO.c3
  have JOl := JO.lt
  have lb := B.size
  go_wp2_with fail
  clear JM0 JM1 JM2 JM3 JM4 JM5 JM6 JM7 JM8 JM9 JMl JT0 JT1 JT2 JT3 JTl JO0 JO1 JO2 JO3 JOl lb
  have q0 := JT.c0
  have q1 := JT.c1
  have q2 := JT.c2
  have q3 := JT.c3
  have q4 := JO.c0
  have q5 := JO.c1
  have q6 := JO.c2
  have q7 := JO.c3
  try dsimp only at q0 q1 q2 q3 q4 q5 q6 q7
  go_region_held3 (fun w' => w'.cell? ⟨w1.heap.size, 0, none⟩ = some (.int .u64 (ub Z.1.1)) ∧ w'.cell? ⟨w1.heap.size, 1, none⟩ = some (.int .u64 (ub Z.1.2)) ∧ w'.cell? ⟨w1.heap.size, 2, none⟩ = some (.int .u64 (ub Z.2.1)) ∧ w'.cell? ⟨w1.heap.size, 3, none⟩ = some (.int .u64 (ub Z.2.2)) ∧ w'.cell? ⟨g7, 0, none⟩ = some (.int .u64 (ub O.1.1)) ∧ w'.cell? ⟨g7, 1, none⟩ = some (.int .u64 (ub O.1.2)) ∧ w'.cell? ⟨g7, 2, none⟩ = some (.int .u64 (ub O.2.1)) ∧ w'.cell? ⟨g7, 3, none⟩ = some (.int .u64 (ub O.2.2)) ∧ Below w7.heap.size w7 w')
    (first | (go_split_ands; with_reducible exact ⟨by with_reducible assumption, by with_reducible assumption, by with_reducible assumption, by with_reducible assumption, by with_reducible assumption, by with_reducible assumption, by with_reducible assumption, by with_reducible assumption, by with_reducible assumption⟩) | (with_reducible exact ⟨cn bq (by with_reducible assumption), cn bq (by with_reducible assumption), cn bq (by with_reducible assumption), cn bq (by with_reducible assumption), cn bq (by with_reducible assumption), cn bq (by with_reducible assumption), cn bq (by with_reducible assumption), cn bq (by with_reducible assumption), below_next (by with_reducible assumption) bq⟩) | (with_reducible exact ⟨cn (below_dr w7) q0, cn (below_dr w7) q1, cn (below_dr w7) q2, cn (below_dr w7) q3, cn (below_dr w7) q4, cn (below_dr w7) q5, cn (below_dr w7) q6, cn (below_dr w7) q7, below_dr w7⟩))
    (first | (go_at_call 18; go_split_ands; (with_reducible refine (X10.out _).mono ?_); rintro e wq ⟨rfl, bq⟩) | (go_at_call 14; go_split_ands; (with_reducible refine (X11.out _).mono ?_); rintro e wq ⟨rfl, bq⟩) | (go_at_call 25; go_split_ands; (with_reducible refine (X12.out _).mono ?_); rintro e wq ⟨rfl, bq⟩))
  go_split_ands
  have zq : Below w7.heap.size w7 wq := by with_reducible assumption
  replace JM := JM.below zq
  replace JT := JT.below zq
  replace JO := JO.below zq
  replace B := below_next B zq
  clear zq bq q0 q1 q2 q3 q4 q5 q6 q7
  skip
  have JM0 := JM.c0
  have JM1 := JM.c1
  have JM2 := JM.c2
  have JM3 := JM.c3
  have JM4 := JM.c4
  have JM5 := JM.c5
  have JM6 := JM.c6
  have JM7 := JM.c7
  have JM8 := JM.c8
  have JM9 := JM.c9
  have JMl := JM.lt
  have JT0 := JT.c0
  have JT1 := JT.c1
  have JT2 := JT.c2
  have JT3 := JT.c3
  have JTl := JT.lt
  have JO0 := JO.c0
  have JO1 := JO.c1
  have JO2 := JO.c2
  have JO3 := JO.c3
  have JOl := JO.lt
  have lb := B.size
  go_wp2
  go_ret
  exact ⟨rfl, B⟩
theorem sound_true (op : Int) (c : Bool) (a b : Sc) (x y : B64) (w : World) : Calls Try.prog 13 #[sumV op c a b, .int .u64 (ub x), .int .u64 (ub y)] w fun e w' => e = .returned (.bool true) ∧ Below w.heap.size w w' := by
  cases ha : mayX a
  · exact sound_na op c a b x y ha w
  · cases hb : mayX b
    · exact sound_nb op c a b x y ha hb w
    · by_cases ho : opIs op
      · cases h1 : hasX a x
        · exact sound_ha op c a b x y ha hb ho h1 w
        · cases h2 : hasX b y
          · exact sound_hb op c a b x y ha hb ho h1 h2 w
          · exact sound_ok op c a b x y ha hb ho h1 h2 w
      · exact sound_no op c a b x y ha hb ho w
end Go.Proofs.Ytebilklcmakhnaa

namespace Go.Proofs.Ytebilklcmakhnaa
set_option linter.unusedSimpArgs false
set_option linter.unusedVariables false
set_option maxRecDepth 100000
open Go.ChangeShapes Go.WideShapes Go.ChangeAt Go.RowKit

def swpE (bits : Int) (x : Sc) : Int := if (bits = 16 ∨ bits = 32 ∨ bits = 64) ∧ mayX x = true then 0 else 1
set_option maxHeartbeats 8000000 in
theorem cSwap_none (bits : Int) (x : Sc) (h16 : ¬ bits = 16) (h32 : ¬ bits = 32) (h64 : ¬ bits = 64) (w : World) : Calls Try.prog 15 #[.int .i64 bits, sv x] w fun e w' => e = .returned (.tuple #[sv sc0, .int .i64 1]) ∧ Below w.heap.size w w' := by
  have X1 := fun (n : B64) W => Wd.swap_none bits (ub n) W h16 h32 h64
  clear h16 h32 h64
  obtain ⟨⟨v, m⟩, l, h⟩ := x
  unfold sv
  dsimp only
  replace X1 := hid (X1 v)
  go_enter Try.func15, Try.ntmps15
  go_wp2_with fail
  have JX : SC ((w.alloc (.cells #[.int .u64 (ub v), .int .u64 (ub m), .int .u64 (ub l), .int .u64 (ub h)] 28)).alloc (.cells #[.int .u64 0, .int .u64 0, .int .u64 0, .int .u64 0] 28)) (w.heap.size) ((v, m), l, h) := ((SC.new (x := ((v, m), l, h)) rfl).alloc _)
  have JR : SC ((w.alloc (.cells #[.int .u64 (ub v), .int .u64 (ub m), .int .u64 (ub l), .int .u64 (ub h)] 28)).alloc (.cells #[.int .u64 0, .int .u64 0, .int .u64 0, .int .u64 0] 28)) (w.heap.size + 1) sc0 := (SC.new (x := sc0) (by simp))
  have B : Below w.heap.size w ((w.alloc (.cells #[.int .u64 (ub v), .int .u64 (ub m), .int .u64 (ub l), .int .u64 (ub h)] 28)).alloc (.cells #[.int .u64 0, .int .u64 0, .int .u64 0, .int .u64 0] 28)) := (bel_alloc (bel_alloc (Below.refl _ _)))
  generalize ((w.alloc (.cells #[.int .u64 (ub v), .int .u64 (ub m), .int .u64 (ub l), .int .u64 (ub h)] 28)).alloc (.cells #[.int .u64 0, .int .u64 0, .int .u64 0, .int .u64 0] 28)) = w00 at *
  have JX0 := JX.c0
  have JX1 := JX.c1
  have JX2 := JX.c2
  have JX3 := JX.c3
  have JXl := JX.lt
  have JR0 := JR.c0
  have JR1 := JR.c1
  have JR2 := JR.c2
  have JR3 := JR.c3
  have JRl := JR.lt
  have JRf0 := JR.f0
  have JRf1 := JR.f1
  have JRf2 := JR.f2
  have JRf3 := JR.f3
  have lb := B.size
  go_wp2_with fail
  refine (X1.out _).mono ?_
  rintro e w_ ⟨rfl, rfl⟩
  clear JX0 JX1 JX2 JX3 JXl JR0 JR1 JR2 JR3 JRl JRf0 JRf1 JRf2 JRf3 lb
  have JX0 := JX.c0
  have JX1 := JX.c1
  have JX2 := JX.c2
  have JX3 := JX.c3
  have JXl := JX.lt
  have JR0 := JR.c0
  have JR1 := JR.c1
  have JR2 := JR.c2
  have JR3 := JR.c3
  have JRl := JR.lt
  have JRf0 := JR.f0
  have JRf1 := JR.f1
  have JRf2 := JR.f2
  have JRf3 := JR.f3
  have lb := B.size
  go_wp2
  exact bodyPost_ret (v := .tuple #[sv sc0, .int .i64 1]) (by simp [results, Try.results15, go_sem, JX0, JX1, JX2, JX3, JXl, JR0, JR1, JR2, JR3, JRl]; try first | rfl | exact ⟨rfl, rfl⟩) rfl ⟨rfl, putS_below sc0 B (by omega)⟩
set_option maxHeartbeats 8000000 in
theorem cSwap_bad (k : Nat) (hk : k = 2 ∨ k = 4 ∨ k = 8) (x : Sc) (hm : mayX x = false) (w : World) : Calls Try.prog 15 #[.int .i64 (8 * k : Nat), sv x] w fun e w' => e = .returned (.tuple #[sv sc0, .int .i64 1]) ∧ Below w.heap.size w w' := by
  have X1 := fun W => Wd.swap_some k hk (ub x.1.1) W (ub_ge _) (ub_lt _)
  have X2 := fun W => cMay_any x W
  rw [hm] at X2
  generalize Wd.rev k (ub x.1.1) = N at *
  generalize ((8 * k : Nat) : Int) = b at *
  clear hm hk
  obtain ⟨⟨v, m⟩, l, h⟩ := x
  unfold sv at X2 ⊢
  dsimp only at X1 X2 ⊢
  replace X1 := hid X1
  replace X2 := hid X2
  go_enter Try.func15, Try.ntmps15
  go_wp2_with fail
  have JX : SC ((w.alloc (.cells #[.int .u64 (ub v), .int .u64 (ub m), .int .u64 (ub l), .int .u64 (ub h)] 28)).alloc (.cells #[.int .u64 0, .int .u64 0, .int .u64 0, .int .u64 0] 28)) (w.heap.size) ((v, m), l, h) := ((SC.new (x := ((v, m), l, h)) rfl).alloc _)
  have JR : SC ((w.alloc (.cells #[.int .u64 (ub v), .int .u64 (ub m), .int .u64 (ub l), .int .u64 (ub h)] 28)).alloc (.cells #[.int .u64 0, .int .u64 0, .int .u64 0, .int .u64 0] 28)) (w.heap.size + 1) sc0 := (SC.new (x := sc0) (by simp))
  have B : Below w.heap.size w ((w.alloc (.cells #[.int .u64 (ub v), .int .u64 (ub m), .int .u64 (ub l), .int .u64 (ub h)] 28)).alloc (.cells #[.int .u64 0, .int .u64 0, .int .u64 0, .int .u64 0] 28)) := (bel_alloc (bel_alloc (Below.refl _ _)))
  generalize ((w.alloc (.cells #[.int .u64 (ub v), .int .u64 (ub m), .int .u64 (ub l), .int .u64 (ub h)] 28)).alloc (.cells #[.int .u64 0, .int .u64 0, .int .u64 0, .int .u64 0] 28)) = w00 at *
  have JX0 := JX.c0
  have JX1 := JX.c1
  have JX2 := JX.c2
  have JX3 := JX.c3
  have JXl := JX.lt
  have JR0 := JR.c0
  have JR1 := JR.c1
  have JR2 := JR.c2
  have JR3 := JR.c3
  have JRl := JR.lt
  have JRf0 := JR.f0
  have JRf1 := JR.f1
  have JRf2 := JR.f2
  have JRf3 := JR.f3
  have lb := B.size
  go_wp2_with fail
  refine (X1.out _).mono ?_
  rintro e w_ ⟨rfl, rfl⟩
  clear JX0 JX1 JX2 JX3 JXl JR0 JR1 JR2 JR3 JRl JRf0 JRf1 JRf2 JRf3 lb
  have JX0 := JX.c0
  have JX1 := JX.c1
  have JX2 := JX.c2
  have JX3 := JX.c3
  have JXl := JX.lt
  have JR0 := JR.c0
  have JR1 := JR.c1
  have JR2 := JR.c2
  have JR3 := JR.c3
  have JRl := JR.lt
  have JRf0 := JR.f0
  have JRf1 := JR.f1
  have JRf2 := JR.f2
  have JRf3 := JR.f3
  have lb := B.size
  go_wp2_with fail
  refine (X2.out _).mono ?_
  rintro e w1 ⟨rfl, z⟩
  clear JX0 JX1 JX2 JX3 JXl JR0 JR1 JR2 JR3 JRl JRf0 JRf1 JRf2 JRf3 lb
  replace JX := JX.below z
  replace JR := JR.below z
  replace B := below_next B z
  clear z
  have JX0 := JX.c0
  have JX1 := JX.c1
  have JX2 := JX.c2
  have JX3 := JX.c3
  have JXl := JX.lt
  have JR0 := JR.c0
  have JR1 := JR.c1
  have JR2 := JR.c2
  have JR3 := JR.c3
  have JRl := JR.lt
  have JRf0 := JR.f0
  have JRf1 := JR.f1
  have JRf2 := JR.f2
  have JRf3 := JR.f3
  have lb := B.size
  go_wp2
  exact bodyPost_ret (v := .tuple #[sv sc0, .int .i64 1]) (by simp [results, Try.results15, go_sem, JX0, JX1, JX2, JX3, JXl, JR0, JR1, JR2, JR3, JRl]; try first | rfl | exact ⟨rfl, rfl⟩) rfl ⟨rfl, putS_below sc0 B (by omega)⟩
set_option maxHeartbeats 8000000 in
theorem cSwap_ok (k : Nat) (hk : k = 2 ∨ k = 4 ∨ k = 8) (x : Sc) (hm : mayX x = true) (w : World) : Calls Try.prog 15 #[.int .i64 (8 * k : Nat), sv x] w fun e w' => e = .returned (.tuple #[sv (optS (settle (swpX k x))), .int .i64 0]) ∧ Below w.heap.size w w' := by
  have k8 : k ≤ 8 := by omega
  have X1 := fun W => Wd.swap_some k hk (ub x.1.1) W (ub_ge _) (ub_lt _)
  have X2 := fun W => cMay_any x W
  have X3 := fun W => Wd.swap_some k hk (ub x.1.2) W (ub_ge _) (ub_lt _)
  have X4 := fun W => cBelow_any ((8 * k : Nat) : Int) W
  have X5 := fun W => cSettle_any (swB k x.1.1, swB k x.1.2) (belowI (8 * k : Nat)).2 W
  rw [show ((swB k x.1.1, swB k x.1.2), (belowI (8 * k : Nat)).2) = swpX k x from rfl] at X5
  rw [← sw_ub k k8] at X1 X3
  rw [hm] at X2
  generalize (settle (swpX k x)).isSome = K at *
  generalize optS (settle (swpX k x)) = P at *
  generalize swB k x.1.1 = V at *
  generalize swB k x.1.2 = U at *
  generalize belowI ((8 * k : Nat) : Int) = Y at *
  generalize ((8 * k : Nat) : Int) = b at *
  have HF := fun W => fld2 Y W
  clear hm hk k8
  obtain ⟨⟨v, m⟩, l, h⟩ := x
  unfold sv at X2 X4 X5 ⊢
  unfold tv at X5
  dsimp only at X1 X2 X3 X4 X5 ⊢
  replace X1 := hid X1
  replace X2 := hid X2
  replace X3 := hid X3
  replace X4 := hid X4
  replace X5 := hid X5
  go_enter Try.func15, Try.ntmps15
  go_wp2_with fail
  have JX : SC ((w.alloc (.cells #[.int .u64 (ub v), .int .u64 (ub m), .int .u64 (ub l), .int .u64 (ub h)] 28)).alloc (.cells #[.int .u64 0, .int .u64 0, .int .u64 0, .int .u64 0] 28)) (w.heap.size) ((v, m), l, h) := ((SC.new (x := ((v, m), l, h)) rfl).alloc _)
  have JR : SC ((w.alloc (.cells #[.int .u64 (ub v), .int .u64 (ub m), .int .u64 (ub l), .int .u64 (ub h)] 28)).alloc (.cells #[.int .u64 0, .int .u64 0, .int .u64 0, .int .u64 0] 28)) (w.heap.size + 1) sc0 := (SC.new (x := sc0) (by simp))
  have B : Below w.heap.size w ((w.alloc (.cells #[.int .u64 (ub v), .int .u64 (ub m), .int .u64 (ub l), .int .u64 (ub h)] 28)).alloc (.cells #[.int .u64 0, .int .u64 0, .int .u64 0, .int .u64 0] 28)) := (bel_alloc (bel_alloc (Below.refl _ _)))
  generalize ((w.alloc (.cells #[.int .u64 (ub v), .int .u64 (ub m), .int .u64 (ub l), .int .u64 (ub h)] 28)).alloc (.cells #[.int .u64 0, .int .u64 0, .int .u64 0, .int .u64 0] 28)) = w00 at *
  have JX0 := JX.c0
  have JX1 := JX.c1
  have JX2 := JX.c2
  have JX3 := JX.c3
  have JXl := JX.lt
  have JR0 := JR.c0
  have JR1 := JR.c1
  have JR2 := JR.c2
  have JR3 := JR.c3
  have JRl := JR.lt
  have JRf0 := JR.f0
  have JRf1 := JR.f1
  have JRf2 := JR.f2
  have JRf3 := JR.f3
  have lb := B.size
  go_wp2_with fail
  refine (X1.out _).mono ?_
  rintro e w_ ⟨rfl, rfl⟩
  clear JX0 JX1 JX2 JX3 JXl JR0 JR1 JR2 JR3 JRl JRf0 JRf1 JRf2 JRf3 lb
  have JX0 := JX.c0
  have JX1 := JX.c1
  have JX2 := JX.c2
  have JX3 := JX.c3
  have JXl := JX.lt
  have JR0 := JR.c0
  have JR1 := JR.c1
  have JR2 := JR.c2
  have JR3 := JR.c3
  have JRl := JR.lt
  have JRf0 := JR.f0
  have JRf1 := JR.f1
  have JRf2 := JR.f2
  have JRf3 := JR.f3
  have lb := B.size
  go_wp2_with fail
  refine (X2.out _).mono ?_
  rintro e w1 ⟨rfl, z⟩
  clear JX0 JX1 JX2 JX3 JXl JR0 JR1 JR2 JR3 JRl JRf0 JRf1 JRf2 JRf3 lb
  replace JX := JX.below z
  replace JR := JR.below z
  replace B := below_next B z
  clear z
  have JX0 := JX.c0
  have JX1 := JX.c1
  have JX2 := JX.c2
  have JX3 := JX.c3
  have JXl := JX.lt
  have JR0 := JR.c0
  have JR1 := JR.c1
  have JR2 := JR.c2
  have JR3 := JR.c3
  have JRl := JR.lt
  have JRf0 := JR.f0
  have JRf1 := JR.f1
  have JRf2 := JR.f2
  have JRf3 := JR.f3
  have lb := B.size
  go_wp2_with fail
  refine (X3.out _).mono ?_
  rintro e w_ ⟨rfl, rfl⟩
  clear JX0 JX1 JX2 JX3 JXl JR0 JR1 JR2 JR3 JRl JRf0 JRf1 JRf2 JRf3 lb
  have JX0 := JX.c0
  have JX1 := JX.c1
  have JX2 := JX.c2
  have JX3 := JX.c3
  have JXl := JX.lt
  have JR0 := JR.c0
  have JR1 := JR.c1
  have JR2 := JR.c2
  have JR3 := JR.c3
  have JRl := JR.lt
  have JRf0 := JR.f0
  have JRf1 := JR.f1
  have JRf2 := JR.f2
  have JRf3 := JR.f3
  have lb := B.size
  go_wp2_with fail
  refine (X4.out _).mono ?_
  rintro e w2 ⟨rfl, z⟩
  clear JX0 JX1 JX2 JX3 JXl JR0 JR1 JR2 JR3 JRl JRf0 JRf1 JRf2 JRf3 lb
  replace JX := JX.below z
  replace JR := JR.below z
  replace B := below_next B z
  clear z
  have JX0 := JX.c0
  have JX1 := JX.c1
  have JX2 := JX.c2
  have JX3 := JX.c3
  have JXl := JX.lt
  have JR0 := JR.c0
  have JR1 := JR.c1
  have JR2 := JR.c2
  have JR3 := JR.c3
  have JRl := JR.lt
  have JRf0 := JR.f0
  have JRf1 := JR.f1
  have JRf2 := JR.f2
  have JRf3 := JR.f3
  have lb := B.size
  go_wp2_with fail
  refine (X5.out _).mono ?_
  rintro e w3 ⟨rfl, z⟩
  clear JX0 JX1 JX2 JX3 JXl JR0 JR1 JR2 JR3 JRl JRf0 JRf1 JRf2 JRf3 lb
  replace JX := JX.below z
  replace JR := JR.below z
  replace B := below_next B z
  clear z
  have JX0 := JX.c0
  have JX1 := JX.c1
  have JX2 := JX.c2
  have JX3 := JX.c3
  have JXl := JX.lt
  have JR0 := JR.c0
  have JR1 := JR.c1
  have JR2 := JR.c2
  have JR3 := JR.c3
  have JRl := JR.lt
  have JRf0 := JR.f0
  have JRf1 := JR.f1
  have JRf2 := JR.f2
  have JRf3 := JR.f3
  have lb := B.size
  go_wp2
  exact bodyPost_ret (v := .tuple #[sv P, .int .i64 0]) (by simp [results, Try.results15, go_sem, JX0, JX1, JX2, JX3, JXl, JR0, JR1, JR2, JR3, JRl]; try first | rfl | exact ⟨rfl, rfl⟩) rfl ⟨rfl, bel_alloc (putS_below P B (by omega))⟩
end Go.Proofs.Ytebilklcmakhnaa

namespace Go.Proofs.Ytebilklcmakhnaa
set_option linter.unusedSimpArgs false
set_option linter.unusedVariables false
set_option maxRecDepth 100000
open Go.ChangeShapes Go.WideShapes Go.ChangeAt Go.RowKit

/-- The three sizes of what is turned. -/
def bitK (k : Nat) : Nat := if k = 0 then 2 else if k = 1 then 4 else 8
theorem bits_at (k : Nat) (hk : k < 3) (w : World) : (Instr.index 36 (.agg #[.int .i64 16, .int .i64 32, .int .i64 64]) (.int .i64 (k : Int))).run Try.prog w = .ok (.int .i64 ((8 * bitK k : Nat) : Int)) w := by
  obtain rfl | rfl | rfl : k = 0 ∨ k = 1 ∨ k = 2 := by omega
  · kernel_rfl
  · kernel_rfl
  · kernel_rfl
theorem bitK_is (k : Nat) : bitK k = 2 ∨ bitK k = 4 ∨ bitK k = 8 := by unfold bitK; split <;> (try split) <;> simp
set_option maxHeartbeats 8000000 in
theorem sound_walk (op : Int) (c : Bool) (a b : Sc) (x y : B64) (w : World) : Calls Try.prog 3 #[sumV op c a b, .int .u64 (ub x), .int .u64 (ub y)] w fun e w' => e = .returned (.bool true) ∧ Below w.heap.size w w' := by
  have X0 := hid fun W => awake_true W
  have X1 := hid fun W => each_any op c a b W
  have X2 := hid fun (o : Int) (d : Bool) (W : World) => sound_true o d a b x y W
  have X3 := fun W => cHas_any a x W
  have XS : hasX a x = true → ∀ k W, Calls Try.prog 15 #[.int .i64 ((8 * bitK k : Nat) : Int), sv a] W fun e w' => e = .returned (.tuple #[sv (optS (settle (swpX (bitK k) a))), .int .i64 0]) ∧ Below W.heap.size W w' := fun h k W => cSwap_ok (bitK k) (bitK_is k) a ((hasX_iff a x).1 h).1 W
  have XR : ∀ k W, Calls Try.prog 16 #[.int .i64 ((8 * bitK k : Nat) : Int), .int .u64 (ub x)] W fun e w' => e = .returned (.tuple #[.int .u64 (ub (swB (bitK k) x)), .int .i64 0]) ∧ W = w' := fun k W => by
    have h := Wd.rswap_some (bitK k) (bitK_is k) (ub x) W (ub_ge _) (ub_lt _)
    rw [← sw_ub (bitK k) (by have := bitK_is k; omega)] at h
    exact h
  have XH : hasX a x = true → ∀ k W, Calls Try.prog 14 #[sv (optS (settle (swpX (bitK k) a))), .int .u64 (ub (swB (bitK k) x))] W fun e w' => e = .returned (.bool true) ∧ Below W.heap.size W w' := fun h k W => by
    have g := swp_has (bitK k) (bitK_is k) ((hasX_iff a x).1 h).2
    have q := cHas_any (optS (settle (swpX (bitK k) a))) (swB (bitK k) x) W
    rw [(hasX_iff _ _).2 ⟨g.2, g.1⟩] at q
    exact q
  generalize hasX a x = hx at *
  unfold sumV at X1 X2 ⊢
  go_enter Try.func3, Try.ntmps3
  go_wp2_with fail
  have JM : SmC (w.alloc (.cells #[.int .i64 op, .bool c, .int .u64 (ub a.1.1), .int .u64 (ub a.1.2), .int .u64 (ub a.2.1), .int .u64 (ub a.2.2), .int .u64 (ub b.1.1), .int .u64 (ub b.1.2), .int .u64 (ub b.2.1), .int .u64 (ub b.2.2)] 30)) (w.heap.size) op c a b := (SmC.new rfl)
  have B : Below w.heap.size w (w.alloc (.cells #[.int .i64 op, .bool c, .int .u64 (ub a.1.1), .int .u64 (ub a.1.2), .int .u64 (ub a.2.1), .int .u64 (ub a.2.2), .int .u64 (ub b.1.1), .int .u64 (ub b.1.2), .int .u64 (ub b.2.1), .int .u64 (ub b.2.2)] 30)) := (bel_alloc (Below.refl _ _))
  generalize (w.alloc (.cells #[.int .i64 op, .bool c, .int .u64 (ub a.1.1), .int .u64 (ub a.1.2), .int .u64 (ub a.2.1), .int .u64 (ub a.2.2), .int .u64 (ub b.1.1), .int .u64 (ub b.1.2), .int .u64 (ub b.2.1), .int .u64 (ub b.2.2)] 30)) = w00 at *
  have JM0 := JM.c0
  have JM1 := JM.c1
  have JM2 := JM.c2
  have JM3 := JM.c3
  have JM4 := JM.c4
  have JM5 := JM.c5
  have JM6 := JM.c6
  have JM7 := JM.c7
  have JM8 := JM.c8
  have JM9 := JM.c9
  have JMl := JM.lt
  have lb := B.size
  go_wp2_with fail
  clear JM0 JM1 JM2 JM3 JM4 JM5 JM6 JM7 JM8 JM9 JMl lb
  refine (X0.out _).mono ?_
  rintro e wa ⟨rfl, z⟩
  replace JM := JM.below z
  replace B := below_next B z
  clear z
  have JM0 := JM.c0
  have JM1 := JM.c1
  have JM2 := JM.c2
  have JM3 := JM.c3
  have JM4 := JM.c4
  have JM5 := JM.c5
  have JM6 := JM.c6
  have JM7 := JM.c7
  have JM8 := JM.c8
  have JM9 := JM.c9
  have JMl := JM.lt
  have lb := B.size
  go_wp2_with fail
  clear JM0 JM1 JM2 JM3 JM4 JM5 JM6 JM7 JM8 JM9 JMl lb
  refine (X1.out _).mono ?_
  intro e w1 hE
  obtain ⟨g, cap, rfl, z, hg, HS⟩ := each_form hE
  clear hE
  have B1 := below_next B z
  have JM1 := JM.below z
  clear JM B
  have HS0 := hid HS
  have HJ := hid JM1
  clear HS z JM1
  go_wp2_with fail
  go_loopw [20] (fun i wr => ∃ k : Nat, k ≤ 29 ∧ i = .int .i64 k ∧ Hid (Below w1.heap.size w1 wr)) (fun i _ => 29 - (intOf i).toNat)
  case atStart => exact ⟨0, by omega, rfl, hid (Below.refl _ _)⟩
  case round =>
    obtain ⟨k, hk, rfl, HB⟩ := hrel
    obtain ⟨wo, rfl⟩ : ∃ wo : World, wo = wr := ⟨_, rfl⟩
    by_cases hlt : k < 29
    · have hk29 : (k : Int) < 29 := by omega
      obtain ⟨o, d, hA⟩ := HS0.out k hlt
      have HA := hid (hA.below HB.out hg)
      clear hA
      have hgo : g < wo.heap.size := Nat.lt_of_lt_of_le hg HB.out.size
      have r0 : wo.cell? ⟨g, k * 10, none⟩ = some (.int .i64 o) := HA.out 0 _ rfl
      have r1 : wo.cell? ⟨g, k * 10 + 1, none⟩ = some (.bool d) := HA.out 1 _ rfl
      have r2 : wo.cell? ⟨g, k * 10 + 2, none⟩ = some (.int .u64 (ub a.1.1)) := HA.out 2 _ rfl
      have r3 : wo.cell? ⟨g, k * 10 + 3, none⟩ = some (.int .u64 (ub a.1.2)) := HA.out 3 _ rfl
      have r4 : wo.cell? ⟨g, k * 10 + 4, none⟩ = some (.int .u64 (ub a.2.1)) := HA.out 4 _ rfl
      have r5 : wo.cell? ⟨g, k * 10 + 5, none⟩ = some (.int .u64 (ub a.2.2)) := HA.out 5 _ rfl
      have r6 : wo.cell? ⟨g, k * 10 + 6, none⟩ = some (.int .u64 (ub b.1.1)) := HA.out 6 _ rfl
      have r7 : wo.cell? ⟨g, k * 10 + 7, none⟩ = some (.int .u64 (ub b.1.2)) := HA.out 7 _ rfl
      have r8 : wo.cell? ⟨g, k * 10 + 8, none⟩ = some (.int .u64 (ub b.2.1)) := HA.out 8 _ rfl
      have r9 : wo.cell? ⟨g, k * 10 + 9, none⟩ = some (.int .u64 (ub b.2.2)) := HA.out 9 _ rfl
      go_wp2_with fail
      refine (X2.out o d _).mono ?_
      rintro e w2 ⟨rfl, z⟩
      clear r0 r1 r2 r3 r4 r5 r6 r7 r8 r9
      have B3 := hid (below_next (bel_alloc HB.out) z)
      clear z HA HB
      go_wp2
      go_roundw
      case rel => exact ⟨k + 1, by omega, by go_num, B3⟩
      case measure => simp [intOf]; omega
    · have hk9 : k = 29 := by omega
      subst hk9
      have hno : ¬ ((29 : Int) < 29) := by decide
      have J := HJ.out.below HB.out
      have j2 := J.c2
      have j3 := J.c3
      have j4 := J.c4
      have j5 := J.c5
      have jl := J.lt
      clear J
      unfold sv at X3
      cases hx
      · replace X3 := hid X3
        go_wp2_with fail
        refine (X3.out _).mono ?_
        rintro e w4 ⟨rfl, z⟩
        have B4 := hid (below_next B1 (below_next HB.out z))
        clear z HB
        go_wp2
        go_ret
        exact ⟨rfl, B4.out⟩
      · replace X3 := hid X3
        have YS := hid (XS rfl)
        have YR := hid XR
        have YH := hid (XH rfl)
        clear XS XR XH
        go_wp2_with fail
        refine (X3.out _).mono ?_
        rintro e w4 ⟨rfl, z⟩
        have B4 := hid (below_next HB.out z)
        clear z HB j2 j3 j4 j5 jl
        go_wp2_with fail
        go_loopw [36] (fun i wr => ∃ k : Nat, k ≤ 3 ∧ i = .int .i64 k ∧ Hid (Below w1.heap.size w1 wr)) (fun i _ => 3 - (intOf i).toNat)
        case atStart => exact ⟨0, by omega, rfl, B4⟩
        case round =>
          obtain ⟨k, hk, rfl, HB⟩ := hrel
          obtain ⟨wp, rfl⟩ : ∃ wp : World, wp = wr := ⟨_, rfl⟩
          clear B4
          by_cases hlt : k < 3
          · have hk3 : (k : Int) < 3 := by omega
            have hix := bits_at k hlt
            have J := HJ.out.below HB.out
            have j2 := J.c2
            have j3 := J.c3
            have j4 := J.c4
            have j5 := J.c5
            have jl := J.lt
            clear J
            have ZS := YS.out k
            have ZR := YR.out k
            have ZH := YH.out k
            generalize ((8 * bitK k : Nat) : Int) = bb at *
            generalize swB (bitK k) x = n at *
            generalize optS (settle (swpX (bitK k) a)) = P at *
            unfold sv at ZS ZH
            replace ZS := hid ZS
            replace ZR := hid ZR
            replace ZH := hid ZH
            go_wp2_with fail
            refine (ZS.out _).mono ?_
            rintro e w5 ⟨rfl, z⟩
            have B5 := hid (below_next HB.out z)
            clear z HB j2 j3 j4 j5 jl
            go_wp2_with fail
            refine (ZR.out _).mono ?_
            rintro e w6 ⟨rfl, rfl⟩
            go_wp2_with fail
            refine (ZH.out _).mono ?_
            rintro e w7 ⟨rfl, z⟩
            have B6 := hid (below_next (bel_alloc B5.out) z)
            clear z B5
            go_wp2
            go_roundw
            case rel => exact ⟨k + 1, by omega, by go_num, B6⟩
            case measure => simp [intOf]; omega
          · have hk9 : k = 3 := by omega
            subst hk9
            have hno : ¬ ((3 : Int) < 3) := by decide
            have B6 := hid (below_next B1 HB.out)
            clear HB
            go_wp2
            go_ret
            exact ⟨rfl, B6.out⟩
end Go.Proofs.Ytebilklcmakhnaa

namespace Go.Proofs.Ytebilklcmakhnaa
set_option linter.unusedSimpArgs false
set_option linter.unusedVariables false
set_option maxRecDepth 100000
open Go.ChangeShapes Go.WideShapes Go.ChangeAt Go.RowKit

namespace ScalarSound
set_option maxRecDepth 100000 in
theorem lifted (os : Os) (started : os.Started) (H : Type) (enc : TypeId × Value → H) :
    ReturnsInHanded {} Try.checked os 3 .any (Rows.scalarSoundSpec.pre6 enc Try.prog Try.f3 Rows.scalarSoundRow.domain false) (Rows.scalarSoundSpec.post enc Try.prog Try.f3 false true false false) := by
  refine returnsInHanded_of_change (C := Try.checked) own started (by kernel_rfl) Try.func3
    (ChangeSpec.witness6 (enc := enc) (C := Try.checked) false ⟨#[], #[.agg #[.int .i64 0, .bool false, .int .u64 0, .int .u64 0, .int .u64 0, .int .u64 0, .int .u64 0, .int .u64 0, .int .u64 0, .int .u64 0], .int .u64 0, .int .u64 0], []⟩ 9 (by kernel_rfl) (by kernel_rfl) (by kernel_rfl) (by kernel_rfl)) ?_
  intro W base args ds gs before hval0 hW _ _
  have hval : ∀ (j : Nat) t v, Try.f3.params[j]? = some t → args[j]? = some v → Value.okWide Try.prog W .any base t v := hval0
  have hW' := hW
  obtain ⟨p, q, hA0, hV, rfl, _, _⟩ := hW
  have hA : DataW.TrodAll enc Try.prog W 0 (fun _ => true) true Try.f3.params.toList args.toList ds p := hA0
  rw [Try.params3] at hA hval
  obtain ⟨v0, vs0, d0, ds0, p0, q0, hargs, rfl, rfl, h0, r0⟩ := trodAll_cons hA
  obtain ⟨v1, vs1, d1, ds1, p1, q1, rfl, rfl, rfl, h1, r1⟩ := trodAll_cons r0
  obtain ⟨v2, vs2, d2, ds2, p2, q2, rfl, rfl, rfl, h2, r2⟩ := trodAll_cons r1
  obtain ⟨rfl, rfl, rfl⟩ := trodAll_nil r2
  obtain rfl : args = #[v0, v1, v2] := by cases args; simp_all
  obtain ⟨rfl, rfl⟩ := trodVars_none hV
  obtain ⟨sop, sc, sa, sb, rfl⟩ := open_sum (hval 0 30 v0 rfl rfl) h0
  obtain ⟨x', rfl, rfl, rfl, wx⟩ := open_int Try.underlying22 (hval 1 22 v1 rfl rfl) h1
  obtain ⟨lo_x, hi_x⟩ := bounds_u64 wx
  obtain ⟨x, rfl⟩ := ub_of x' lo_x (by omega)
  obtain ⟨y', rfl, rfl, rfl, wy⟩ := open_int Try.underlying22 (hval 2 22 v2 rfl rfl) h2
  obtain ⟨lo_y, hi_y⟩ := bounds_u64 wy
  obtain ⟨y, rfl⟩ := ub_of y' lo_y (by omega)
  clear hA0 hval0
  refine (sound_walk sop sc sa sb x y W).mono fun e W' ⟨he, hb⟩ => ?_
  subst he
  exact ⟨_, rfl, law_shut laid hW' rfl rfl Try.underlying4 (by kernel_rfl) rfl rfl rfl hb⟩

set_option maxRecDepth 100000 in
theorem over : Rows.scalarSoundRow.holds Try.pinned (OpenSpec.ofChange Rows.scalarSoundSpec) :=
  OpenClaim.holds_of_wide 3 Try.f3 rfl rfl rfl rfl rfl rfl rfl ⟨rfl, rfl, rfl, rfl, rfl⟩ rfl rfl rfl rfl rfl (by kernel_rfl) Try.func3 (by kernel_rfl)
    (of_decide_eq_true (by kernel_rfl)) (by unfold Func.isWrapper; first | (rw [if_pos (by decide +kernel)]; kernel_rfl) | (rw [if_neg (by decide +kernel)]; exact ⟨rfl, rfl⟩))
    (fun os started H enc _ => lifted os started H enc)
end ScalarSound

theorem scalarSound_proved : Rows.ScalarSoundSaid :=
  ScalarSound.over

end Go.Proofs.Ytebilklcmakhnaa
