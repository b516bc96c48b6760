/-
  Law WordRing: numbers with Add and Mul are a ring, Sub and Xor undo, Or and And share the bits out. No condition.
-/
import Derived.Test.YtgemnkaiajdcfaaLawAlu
import Derived.Test.YtgemnkaiajdcfaaNumB
import Derived.Lib.SmallJoins
namespace Go.Proofs.Ytgemnkaiajdcfaa
open Go.ChangeShapes Go.WideShapes Go.ChangeAt Go.RowKit
theorem lalu_as (op : Int) (wide : Bool) (a b r : Int) (hr : Hid (aluI op wide a b = r)) (w : World) (h0 : 0 ≤ a) (h1 : a < 18446744073709551616) (g0 : 0 ≤ b) (g1 : b < 18446744073709551616) (ho : 0 ≤ op ∧ op ≤ 12) :
    Calls Try.prog 22 #[.int .i64 op, .bool wide, .int .u64 a, .int .u64 b] w fun e w' => e = .returned (.int .u64 r) ∧ Below w.heap.size w w' := hr.out ▸ lalu_any op wide a b w h0 h1 g0 g1 ho
theorem lfit_as (wide : Bool) (a r : Int) (hr : Hid (a % MD wide = r)) (w : World) (h0 : 0 ≤ a) (h1 : a < 18446744073709551616) :
    Calls Try.prog 23 #[.bool wide, .int .u64 a] w fun e w' => e = .returned (.int .u64 r) ∧ w = w' := hr.out ▸ lfit_any wide a w h0 h1
theorem alu_lt (op : Int) (wide : Bool) (a b : Int) : 0 ≤ aluI op wide a b ∧ aluI op wide a b < 18446744073709551616 :=
  ⟨(aluI_bd op wide a b).1, Int.lt_of_lt_of_le (aluI_bd op wide a b).2 (MD_le wide)⟩
theorem named (x : Int) : ∃ r, Hid (x = r) := ⟨x, rfl⟩
set_option maxRecDepth 100000 in
set_option maxHeartbeats 2000000 in
theorem wordRing_walk (op : Int) (wide : Bool) (a b c : Int) (_o0 : -9223372036854775808 ≤ op) (_o1 : op < 9223372036854775808) (h0 : 0 ≤ a) (h1 : a < 18446744073709551616) (g0 : 0 ≤ b) (g1 : b < 18446744073709551616) (k0 : 0 ≤ c) (k1 : c < 18446744073709551616) (w : World) :
    Calls Try.prog 6 #[.agg #[.int .i64 op, .bool wide, .int .u64 a, .int .u64 b], .int .u64 c] w fun e w' => e = .returned (.bool true) ∧ Below w.heap.size w w' := by
  obtain ⟨S, eS⟩ := named (aluI 0 wide a b)
  have bS := alu_lt 0 wide a b
  rw [eS.out] at bS
  obtain ⟨lS, uS⟩ := bS
  obtain ⟨P, eP⟩ := named (aluI 2 wide a b)
  have bP := alu_lt 2 wide a b
  rw [eP.out] at bP
  obtain ⟨lP, uP⟩ := bP
  obtain ⟨F, eF⟩ := named (a % MD wide)
  obtain ⟨G, eG⟩ := named (b % MD wide)
  obtain ⟨X, eX⟩ := named (aluI 2 wide c S)
  have bX := alu_lt 2 wide c S
  rw [eX.out] at bX
  obtain ⟨lX, uX⟩ := bX
  obtain ⟨C, eC⟩ := named (aluI 2 wide c a)
  have bC := alu_lt 2 wide c a
  rw [eC.out] at bC
  obtain ⟨lC, uC⟩ := bC
  obtain ⟨D, eD⟩ := named (aluI 2 wide c b)
  have bD := alu_lt 2 wide c b
  rw [eD.out] at bD
  obtain ⟨lD, uD⟩ := bD
  obtain ⟨Y, eY⟩ := named (aluI 0 wide S c)
  have bY := alu_lt 0 wide S c
  rw [eY.out] at bY
  obtain ⟨lY, uY⟩ := bY
  obtain ⟨Z, eZ⟩ := named (aluI 0 wide b c)
  have bZ := alu_lt 0 wide b c
  rw [eZ.out] at bZ
  obtain ⟨lZ, uZ⟩ := bZ
  obtain ⟨U, eU⟩ := named (aluI 2 wide P c)
  have bU := alu_lt 2 wide P c
  rw [eU.out] at bU
  obtain ⟨lU, uU⟩ := bU
  obtain ⟨V, eV⟩ := named (aluI 2 wide b c)
  have bV := alu_lt 2 wide b c
  rw [eV.out] at bV
  obtain ⟨lV, uV⟩ := bV
  obtain ⟨O, eO⟩ := named (aluI 4 wide a b)
  have bO := alu_lt 4 wide a b
  rw [eO.out] at bO
  obtain ⟨lO, uO⟩ := bO
  obtain ⟨A, eA⟩ := named (aluI 5 wide a b)
  have bA := alu_lt 5 wide a b
  rw [eA.out] at bA
  obtain ⟨lA, uA⟩ := bA
  obtain ⟨E, eE⟩ := named (aluI 10 wide a b)
  have bE := alu_lt 10 wide a b
  rw [eE.out] at bE
  obtain ⟨lE, uE⟩ := bE
  obtain ⟨N, eN⟩ := named (aluI 8 wide a c)
  have bN := alu_lt 8 wide a c
  rw [eN.out] at bN
  obtain ⟨lN, uN⟩ := bN
  have f1 := hid (show aluI 0 wide b a = S from by rw [← eS.out, add_is, add_is, Int.add_comm])
  have f2 := hid (show aluI 2 wide b a = P from by rw [← eP.out, mul_is, mul_is, Int.mul_comm])
  have f3 := hid (show aluI 1 wide S b = F from by rw [← eS.out, ← eF.out, add_is, sub_is, Int.emod_sub_emod, Int.add_sub_cancel])
  have f4 := hid (show aluI 0 wide C D = X from by rw [← eX.out, ← eC.out, ← eD.out, ← eS.out, mul_is, mul_is, mul_is, add_is, add_is, mul_emod_r, Int.emod_add_emod, Int.add_emod_emod, Int.mul_add])
  have f5 := hid (show aluI 0 wide a Z = Y from by rw [← eY.out, ← eZ.out, ← eS.out, add_is, add_is, add_is, add_is, Int.add_emod_emod, Int.emod_add_emod, Int.add_assoc])
  have f6 := hid (show aluI 2 wide a V = U from by rw [← eU.out, ← eV.out, ← eP.out, mul_is, mul_is, mul_is, mul_is, mul_emod_r, mul_emod_l, Int.mul_assoc])
  have f7 := hid (show aluI 0 wide O A = S from by rw [← eO.out, ← eA.out, ← eS.out]; exact or_and_add wide a b)
  have f8 := hid (show aluI 10 wide E b = F from by rw [← eE.out, ← eF.out]; exact xor_xor wide a b)
  have f9 := hid (show aluI 0 wide a N = 0 from by rw [← eN.out, neg_is, add_is, Int.add_emod_emod, Int.add_right_neg, Int.zero_emod])
  have f10 := hid (show aluI 11 wide a b = G from by rw [← eG.out]; exact mov_is wide a b)
  go_enter Try.func6, Try.ntmps6
  go_wp2_with fail
  go_quiet (fail)
  go_wp2_with fail
  refine (awake_any _).mono ?_
  rintro e w0 ⟨rfl, b0⟩
  go_wp2_with fail
  refine (lalu_as 0 wide a b S eS _ h0 h1 g0 g1 (by decide)).mono ?_
  rintro e w1 ⟨rfl, b1⟩
  go_wp2_with fail
  refine (lalu_as 2 wide a b P eP _ h0 h1 g0 g1 (by decide)).mono ?_
  rintro e w2 ⟨rfl, b2⟩
  go_wp2_with fail
  refine (lalu_as 0 wide b a S f1 _ g0 g1 h0 h1 (by decide)).mono ?_
  rintro e w3 ⟨rfl, b3⟩
  go_wp2_with fail
  refine (lalu_as 2 wide b a P f2 _ g0 g1 h0 h1 (by decide)).mono ?_
  rintro e w4 ⟨rfl, b4⟩
  go_wp2_with fail
  refine (lalu_as 1 wide S b F f3 _ lS uS g0 g1 (by decide)).mono ?_
  rintro e w5 ⟨rfl, b5⟩
  go_wp2_with fail
  refine (lfit_as wide a F eF _ h0 h1).mono ?_
  rintro e w' ⟨rfl, rfl⟩
  go_wp2_with fail
  refine (lalu_as 2 wide c S X eX _ k0 k1 lS uS (by decide)).mono ?_
  rintro e w6 ⟨rfl, b6⟩
  go_wp2_with fail
  refine (lalu_as 2 wide c a C eC _ k0 k1 h0 h1 (by decide)).mono ?_
  rintro e w7 ⟨rfl, b7⟩
  go_wp2_with fail
  refine (lalu_as 2 wide c b D eD _ k0 k1 g0 g1 (by decide)).mono ?_
  rintro e w8 ⟨rfl, b8⟩
  go_wp2_with fail
  refine (lalu_as 0 wide C D X f4 _ lC uC lD uD (by decide)).mono ?_
  rintro e w9 ⟨rfl, b9⟩
  go_wp2_with fail
  refine (lalu_as 0 wide S c Y eY _ lS uS k0 k1 (by decide)).mono ?_
  rintro e w10 ⟨rfl, b10⟩
  go_wp2_with fail
  refine (lalu_as 0 wide b c Z eZ _ g0 g1 k0 k1 (by decide)).mono ?_
  rintro e w11 ⟨rfl, b11⟩
  go_wp2_with fail
  refine (lalu_as 0 wide a Z Y f5 _ h0 h1 lZ uZ (by decide)).mono ?_
  rintro e w12 ⟨rfl, b12⟩
  go_wp2_with fail
  refine (lalu_as 2 wide P c U eU _ lP uP k0 k1 (by decide)).mono ?_
  rintro e w13 ⟨rfl, b13⟩
  go_wp2_with fail
  refine (lalu_as 2 wide b c V eV _ g0 g1 k0 k1 (by decide)).mono ?_
  rintro e w14 ⟨rfl, b14⟩
  go_wp2_with fail
  refine (lalu_as 2 wide a V U f6 _ h0 h1 lV uV (by decide)).mono ?_
  rintro e w15 ⟨rfl, b15⟩
  go_wp2_with fail
  refine (lalu_as 4 wide a b O eO _ h0 h1 g0 g1 (by decide)).mono ?_
  rintro e w16 ⟨rfl, b16⟩
  go_wp2_with fail
  refine (lalu_as 5 wide a b A eA _ h0 h1 g0 g1 (by decide)).mono ?_
  rintro e w17 ⟨rfl, b17⟩
  go_wp2_with fail
  refine (lalu_as 0 wide O A S f7 _ lO uO lA uA (by decide)).mono ?_
  rintro e w18 ⟨rfl, b18⟩
  go_wp2_with fail
  refine (lalu_as 10 wide a b E eE _ h0 h1 g0 g1 (by decide)).mono ?_
  rintro e w19 ⟨rfl, b19⟩
  go_wp2_with fail
  refine (lalu_as 10 wide E b F f8 _ lE uE g0 g1 (by decide)).mono ?_
  rintro e w20 ⟨rfl, b20⟩
  go_wp2_with fail
  refine (lfit_as wide a F eF _ h0 h1).mono ?_
  rintro e w' ⟨rfl, rfl⟩
  go_wp2_with fail
  refine (lalu_as 8 wide a c N eN _ h0 h1 k0 k1 (by decide)).mono ?_
  rintro e w21 ⟨rfl, b21⟩
  go_wp2_with fail
  refine (lalu_as 0 wide a N 0 f9 _ h0 h1 lN uN (by decide)).mono ?_
  rintro e w22 ⟨rfl, b22⟩
  go_wp2_with fail
  refine (lalu_as 11 wide a b G f10 _ h0 h1 g0 g1 (by decide)).mono ?_
  rintro e w23 ⟨rfl, b23⟩
  go_wp2_with fail
  refine (lfit_as wide b G eG _ g0 g1).mono ?_
  rintro e w' ⟨rfl, rfl⟩
  go_wp2
  go_ret
  exact ⟨rfl, below_box (below_next (below_drewN _ _ _) (below_next (below_next (below_next (below_next (below_next (below_next (below_next (below_next (below_next (below_next (below_next (below_next (below_next (below_next (below_next (below_next (below_next (below_next (below_next (below_next (below_next (below_next (below_next b0 b1) b2) b3) b4) b5) b6) b7) b8) b9) b10) b11) b12) b13) b14) b15) b16) b17) b18) b19) b20) b21) b22) b23))⟩

/-! ### WordRing -/
namespace wordRing
set_option maxRecDepth 100000 in
theorem lifted (os : Os) (started : os.Started) (H : Type) (enc : TypeId × Value → H) :
    ReturnsInHanded {} Try.checked os 6 .any (Rows.wordRingSpec.pre6 enc Try.prog Try.f6 Rows.wordRingRow.domain false) (Rows.wordRingSpec.post enc Try.prog Try.f6 false true false false) := by
  refine returnsInHanded_of_change (C := Try.checked) own started (by kernel_rfl) Try.func6
    (ChangeSpec.witness6 (enc := enc) (C := Try.checked) false ⟨#[], #[.agg #[.int .i64 0, .bool false, .int .u64 0, .int .u64 0], .int .u64 0], []⟩ 6 (by kernel_rfl) (by kernel_rfl) (by kernel_rfl) (by kernel_rfl)) ?_
  intro W base args ds gs before hval0 hW _ _
  have hval : ∀ (j : Nat) t v, Try.f6.params[j]? = some t → args[j]? = some v → Value.okWide Try.prog W .any base t v := hval0
  have hW' := hW
  obtain ⟨p, q, hA0, hV, rfl, _, _⟩ := hW
  have hA : DataW.TrodAll enc Try.prog W 0 (fun _ => true) true Try.f6.params.toList args.toList ds p := hA0
  rw [Try.params6] at hA hval
  obtain ⟨v0, vs0, d0, ds0, p0, q0, hargs, rfl, rfl, h0, r0⟩ := trodAll_cons hA
  obtain ⟨v1, vs1, d1, ds1, p1, q1, rfl, rfl, rfl, h1, r1⟩ := trodAll_cons r0
  obtain ⟨rfl, rfl, rfl⟩ := trodAll_nil r1
  obtain rfl : args = #[v0, v1] := by cases args; simp_all
  obtain ⟨rfl, rfl⟩ := trodVars_none hV
  obtain ⟨x0_0, x0_1, x0_2, x0_3, y0_0, y0_1, y0_2, y0_3, n0, rfl, rfl, rfl, t0_0, t0_1, t0_2, t0_3⟩ := Go.Joins.open_agg4 Try.underlying24 (by kernel_rfl) (by kernel_rfl) (hval 0 24 v0 rfl rfl) h0
  obtain ⟨op, e0_0, _, wop⟩ := DataW.trod_int (k := .i64) Try.underlying3 t0_0
  obtain rfl := (List.cons.inj e0_0).1
  obtain ⟨wide, e0_1, _⟩ := DataW.trod_bool Try.underlying4 t0_1
  obtain rfl := (List.cons.inj e0_1).1
  obtain ⟨a, e0_2, _, wa⟩ := DataW.trod_int (k := .u64) Try.underlying22 t0_2
  obtain rfl := (List.cons.inj e0_2).1
  obtain ⟨b, e0_3, _, wb⟩ := DataW.trod_int (k := .u64) Try.underlying22 t0_3
  obtain rfl := (List.cons.inj e0_3).1
  obtain ⟨c, rfl, rfl, rfl, wc⟩ := open_int Try.underlying22 (hval 1 22 v1 rfl rfl) h1
  obtain ⟨lo_op, hi_op⟩ := bounds_i64 wop
  obtain ⟨lo_a, hi_a⟩ := bounds_u64 wa
  obtain ⟨lo_b, hi_b⟩ := bounds_u64 wb
  obtain ⟨lo_c, hi_c⟩ := bounds_u64 wc
  clear hA0 hval0
  refine (wordRing_walk op wide a b c lo_op (by omega) lo_a (by omega) lo_b (by omega) lo_c (by omega) W).mono fun e W' ⟨he, hb⟩ => ?_
  subst he
  exact ⟨_, rfl, law_shut laid hW' rfl rfl Try.underlying4 (by kernel_rfl) rfl rfl rfl hb⟩

theorem over : Rows.wordRingRow.holds Try.pinned (OpenSpec.ofChange Rows.wordRingSpec) :=
  OpenClaim.holds_of_wide 6 Try.f6 rfl rfl rfl rfl rfl rfl rfl ⟨rfl, rfl, rfl, rfl, rfl⟩ rfl rfl rfl rfl rfl (by kernel_rfl) Try.func6 (by kernel_rfl)
    (of_decide_eq_true (by kernel_rfl)) (by unfold Func.isWrapper; first | (rw [if_pos (by decide +kernel)]; kernel_rfl) | (rw [if_neg (by decide +kernel)]; exact ⟨rfl, rfl⟩))
    (fun os started H enc _ => lifted os started H enc)

theorem proved : Rows.WordRingSaid :=
  over
end wordRing

end Go.Proofs.Ytgemnkaiajdcfaa
