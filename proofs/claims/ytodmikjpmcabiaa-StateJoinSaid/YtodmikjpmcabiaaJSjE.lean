/-
  Contract of the document's Join of states (layer 12).
-/
import Derived.Test.YtodmikjpmcabiaaJSjD
import Derived.Test.YtodmikjpmcabiaaJRdB
import Derived.Test.YtodmikjpmcabiaaJStL
import Derived.Test.YtodmikjpmcabiaaJStY
import Derived.Deep.MidRow
import Derived.Deep.RegionLaw
import Derived.Lib.MinMax
namespace Go.Proofs.Ytodmikjpmcabiaa
set_option linter.unusedSimpArgs false
set_option linter.unusedVariables false
set_option maxRecDepth 100000
set_option maxRecDepth 100000
open Go.ChangeShapes Go.WideShapes Go.ChangeAt Go.RowKit Me

def mdR (A B : St) (k : Nat) (p : Int) : St := ⟨fun i => if i < k then rJoin (A.rg i) (B.rg i) else r0, fun _ => k0, p⟩
def mdK (A B : St) (k : Nat) (p : Int) : St := ⟨fun i => rJoin (A.rg i) (B.rg i), fun i => if i < k then kJoin (A.sk i) (B.sk i) else k0, p⟩
theorem mdR_step (A B : St) (k : Nat) (p : Int) : putRg (mdR A B k p) k (rJoin (A.rg k) (B.rg k)) = mdR A B (k + 1) p := by
  unfold putRg mdR
  congr 1
  funext i
  by_cases h : i = k
  · subst h; simp
  · by_cases h2 : i < k
    · simp [h, h2, Nat.lt_succ_of_lt h2]
    · simp [h, h2, show ¬ i < k + 1 by omega]
theorem mdK_step (A B : St) (k : Nat) (p : Int) : putSk (mdK A B k p) k (kJoin (A.sk k) (B.sk k)) = mdK A B (k + 1) p := by
  unfold putSk mdK
  congr 1
  funext i
  by_cases h : i = k
  · subst h; simp
  · by_cases h2 : i < k
    · simp [h, h2, Nat.lt_succ_of_lt h2]
    · simp [h, h2, show ¬ i < k + 1 by omega]
def stP (p : Int) : St := ⟨fun _ => r0, fun _ => k0, p⟩
theorem mdR_zero (A B : St) (p : Int) : stC (mdR A B 0 p) = stC (stP p) := stC_congr (fun k _ => by simp [mdR, stP]) (fun k _ => rfl) rfl
theorem mdR_all (A B : St) (p : Int) : stC (mdR A B 11 p) = stC (mdK A B 0 p) := stC_congr (fun k hk => by simp [mdR, mdK, hk]) (fun k _ => by simp [mdK, mdR]) rfl
theorem mdK_all (A B : St) (p : Int) : stC (mdK A B 64 p) = stC ⟨fun k => rJoin (A.rg k) (B.rg k), fun k => kJoin (A.sk k) (B.sk k), p⟩ := stC_congr (fun k _ => rfl) (fun k hk => by simp [mdK, hk]) rfl
theorem mdR_at (A B : St) (k : Nat) (p : Int) : (mdR A B k p).rg k = r0 := by simp [mdR]
theorem mdK_at (A B : St) (k : Nat) (p : Int) : (mdK A B k p).sk k = k0 := by simp [mdK]
theorem bld_sp (p : Int) (W : World) : (Instr.build 36 #[(2, .int .i64 p)]).run Try.prog W = .ok (stV (stP p)) W := by kernel_rfl
set_option maxHeartbeats 16000000 in
theorem rJoinS_any (A B : St) (hA : StOk A) (hB : StOk B) (w : World) : Calls Try.prog 8 #[stV A, stV B] w fun e w' => e = .returned (stV (sJoin A B)) ∧ Below w.heap.size w w' := by
  have HM : Hid (∀ W, Calls Try.prog 34 #[.agg (stC A).toArray] W fun e w' => e = .returned (.bool (sMay A)) ∧ Below W.heap.size W w') := hid fun W => rMayS_any A hA W
  have HN : Hid (∀ W, Calls Try.prog 34 #[.agg (stC B).toArray] W fun e w' => e = .returned (.bool (sMay B)) ∧ Below W.heap.size W w') := hid fun W => rMayS_any B hB W
  have HR0 : Hid (sMay A = true → sMay B = true → ∀ k, k < 11 → ∀ W, Calls Try.prog 35 #[rV (A.rg k), rV (B.rg k)] W fun e w' => e = .returned (rV (rJoin (A.rg k) (B.rg k))) ∧ Below W.heap.size W w') := fun ha hb k hk W => rJoinReg_any (A.rg k) (B.rg k) (((sMay_iff A).1 ha).1 k hk) (((sMay_iff B).1 hb).1 k hk) W
  have HK0 : Hid (sMay A = true → sMay B = true → ∀ k, k < 64 → ∀ W, Calls Try.prog 36 #[kV (A.sk k), kV (B.sk k)] W fun e w' => e = .returned (kV (kJoin (A.sk k) (B.sk k))) ∧ Below W.heap.size W w') := fun ha hb k hk W => rJoinSlot_any (A.sk k) (B.sk k) (((sMay_iff A).1 ha).2.1 k hk) (((sMay_iff B).1 hb).2.1 k hk) W
  have hia : Hid ((Try.prog.info? 36).map (·.size) = some (stC A).length) := hid (by rw [stC_len]; exact yinfo36)
  have hib : Hid ((Try.prog.info? 36).map (·.size) = some (stC B).length) := hid (by rw [stC_len]; exact yinfo36)
  have ZF0 := (zero_of_info zs_info).1
  have ZF : ∀ w, (zeroValue 36).run Try.prog w = .ok (.agg (stC st0).toArray) w := ZF0
  have BS : ∀ w, (Instr.build 36 #[]).run Try.prog w = .ok (.agg (stC st0).toArray) w := bld_s0
  obtain ⟨IA0, IB0, IR0⟩ := st_entry (w := w) (A := A) (B := B)
  have hr : sJoin A B = if (sMay A && sMay B) = true then ⟨fun k => rJoin (A.rg k) (B.rg k), fun k => kJoin (A.sk k) (B.sk k), min A.p B.p⟩ else st0 := rfl
  generalize hRR : sJoin A B = R at hr ⊢
  clear hA hB hRR ZF0
  unfold stV
  obtain ⟨CF, hCF⟩ : ∃ CF, (stC A).toArray = CF := ⟨_, rfl⟩
  obtain ⟨CG, hCG⟩ : ∃ CF, (stC B).toArray = CF := ⟨_, rfl⟩
  obtain ⟨CZ, hCZ⟩ : ∃ CF, (stC st0).toArray = CF := ⟨_, rfl⟩
  rw [hCF, hCG, hCZ] at IA0 IB0 IR0
  rw [hCF, hCG]
  rw [hCZ] at ZF BS
  replace hCZ := hid hCZ
  replace IA0 := hid IA0
  replace IB0 := hid IB0
  replace IR0 := hid IR0
  clear hCF hCG
  cases hsm : sMay A
  · rw [hsm] at HM hr
    rw [Bool.false_and, if_neg (by decide)] at hr
    subst hr
    clear hsm
    go_enter Try.func8, Try.ntmps8
    go_wp2_with ((with_reducible refine at_load 36 ?_); refine wpList_load_g (by rfl) 36 _ rfl w.heap.size (0) rfl (stC A) _ IA0.out.i.r0 Try.underlying36 rfl hia.out ?_)
    refine (HM.out _).mono ?_
    rintro e w1 ⟨rfl, b1⟩
    have I1 := hid (IR0.out.next b1 (by simp; omega))
    clear b1
    go_wp2_with ((with_reducible refine at_store 36 ?_); refine wpList_store_st _ _ rfl rfl (w.heap.size + 1 + 1) st0 rfl (by exact congrArg _ hCZ.out.symm) I1.out.t ?_)
    have I2 := I1.out.whole (vs := stC st0) (by omega) (stC_len _)
    exact bodyPost_ret (row_res rfl _ _ (w.heap.size + 1 + 1) 0 (stC st0) _ rfl I2.i.r0 Try.underlying36 rfl (by rw [stC_len]; exact yinfo36)) rfl ⟨rfl, I2.i.bel⟩
  rw [hsm] at HM
  cases hsn : sMay B
  · rw [hsn] at HN hr
    rw [Bool.and_false, if_neg (by decide)] at hr
    subst hr
    clear hsm hsn
    go_enter Try.func8, Try.ntmps8
    go_wp2_with ((with_reducible refine at_load 36 ?_); refine wpList_load_g (by rfl) 36 _ rfl w.heap.size (0) rfl (stC A) _ IA0.out.i.r0 Try.underlying36 rfl hia.out ?_)
    refine (HM.out _).mono ?_
    rintro e w1 ⟨rfl, b1⟩
    have J1 := hid (IB0.out.next b1 (by simp; omega))
    have I0 := hid (IR0.out.next b1 (by simp; omega))
    clear b1
    go_wp2_with ((with_reducible refine at_load 36 ?_); refine wpList_load_g (by rfl) 36 _ rfl (w.heap.size + 1) (0) rfl (stC B) _ J1.out.i.r0 Try.underlying36 rfl hib.out ?_)
    refine (HN.out _).mono ?_
    rintro e w2 ⟨rfl, b1⟩
    have I1 := hid (I0.out.next b1 (by have := J1.out.i.bel.size; omega))
    clear b1
    go_wp2_with ((with_reducible refine at_store 36 ?_); refine wpList_store_st _ _ rfl rfl (w.heap.size + 1 + 1) st0 rfl (by exact congrArg _ hCZ.out.symm) I1.out.t ?_)
    have I2 := I1.out.whole (vs := stC st0) (by omega) (stC_len _)
    exact bodyPost_ret (row_res rfl _ _ (w.heap.size + 1 + 1) 0 (stC st0) _ rfl I2.i.r0 Try.underlying36 rfl (by rw [stC_len]; exact yinfo36)) rfl ⟨rfl, I2.i.bel⟩
  have HR := hid (HR0.out hsm hsn)
  have HK := hid (HK0.out hsm hsn)
  rw [hsn] at HN
  simp only [hsm, hsn, Bool.and_self, if_true] at hr
  clear hsm hsn HR0 HK0
  have BP := bld_sp (min A.p B.p)
  unfold stV at BP
  obtain ⟨CP, hCP⟩ : ∃ CF, (stC (stP (min A.p B.p))).toArray = CF := ⟨_, rfl⟩
  rw [hCP] at BP
  replace hCP := hid hCP
  go_enter Try.func8, Try.ntmps8
  go_wp2_with ((with_reducible refine at_load 36 ?_); refine wpList_load_g (by rfl) 36 _ rfl w.heap.size (0) rfl (stC A) _ IA0.out.i.r0 Try.underlying36 rfl hia.out ?_)
  refine (HM.out _).mono ?_
  rintro e w1 ⟨rfl, b1⟩
  have A1 := hid (IA0.out.next b1 (by simp; omega))
  have J1 := hid (IB0.out.next b1 (by simp; omega))
  have R1 := hid (IR0.out.next b1 (by simp; omega))
  clear b1
  go_wp2_with ((with_reducible refine at_load 36 ?_); refine wpList_load_g (by rfl) 36 _ rfl (w.heap.size + 1) (0) rfl (stC B) _ J1.out.i.r0 Try.underlying36 rfl hib.out ?_)
  refine (HN.out _).mono ?_
  rintro e w2 ⟨rfl, b1⟩
  have A2 := A1.out.next b1 J1.out.i.bel.size
  have B2 := J1.out.next b1 J1.out.i.bel.size
  have R2 := R1.out.next b1 J1.out.i.bel.size
  clear b1 A1 J1 R1 IA0 IB0 IR0 HM HN hia hib
  have p1 := range_pkt A2.i.r0
  have p2 := range_pkt B2.i.r0
  have l1 := A2.i.sz
  have l2 := B2.i.sz
  have l3 := R2.i.sz
  obtain ⟨gS, hgS⟩ : ∃ g, g = w2.heap.size := ⟨_, rfl⟩
  have gs : w.heap.size + 1 + 1 < gS := by omega
  have S0 := RwT.new (n := 740) (cs := stC st0) 36 A2.i.bel A2.i.bel.size (stC_len _).symm
  rw [hCZ.out, ← hgS] at S0
  have A3 := hid (((A2.alloc A2.i.bel.size (.cells CZ 36)).apart (c := gS) (o := 0) (vs := stC (stP (min A.p B.p))) (by omega) (by omega)))
  have B3 := hid (((B2.alloc A2.i.bel.size (.cells CZ 36)).apart (c := gS) (o := 0) (vs := stC (stP (min A.p B.p))) (by omega) (by omega)))
  have R3 := hid (((R2.alloc A2.i.bel.size (.cells CZ 36)).apart (c := gS) (o := 0) (vs := stC (stP (min A.p B.p))) (by omega) (by omega)))
  have S3 := S0.whole (vs := stC (stP (min A.p B.p))) (by omega) (stC_len _)
  rw [← mdR_zero A B] at S3
  replace S3 := hid S3
  replace S0 := hid S0
  have hgS' := hid hgS
  clear A2 B2 R2 hgS
  have BP' := hid BP
  clear BP
  have BP := BP'
  clear BP'
  go_wp2_with (first | ((with_reducible refine at_build (d := some 22) 36 ?_); refine wpList_val (.agg CP) ?a1 ?a2 ?a3; (case a1 => rfl); (case a2 => exact exec_build #[(2, .int .i64 (min A.p B.p))] (by simp [Act.eval]) (BP.out _))) | ((with_reducible refine at_store 36 ?_); refine wpList_store_st _ _ rfl rfl gS (stP (min A.p B.p)) (by rw [hgS'.out]; rfl) (by exact congrArg _ hCP.out.symm) S0.out.t ?_))
  rw [← hgS'.out]
  clear p1 p2 BP S0 ZF BS
  go_loopw [6] (fun i w' => ∃ k : Nat, k ≤ 11 ∧ i = .int .i64 k ∧ Hid (RwT w.heap.size w w' w.heap.size 740 (stC A)) ∧ Hid (RwT w.heap.size w w' (w.heap.size + 1) 740 (stC B)) ∧ Hid (RwT w.heap.size w w' (w.heap.size + 1 + 1) 740 (stC st0)) ∧ Hid (RwT w.heap.size w w' gS 740 (stC (mdR A B k (min A.p B.p))))) (fun i _ => 11 - (intOf i).toNat)
  case atStart => exact ⟨0, by omega, rfl, A3, B3, R3, S3⟩
  case round =>
    obtain ⟨k, hk, rfl, A4, B4, R4, S4⟩ := hrel
    by_cases hlt : k < 11
    · have hlt' : (k : Int) < 11 := by omega
      obtain ⟨wu, rfl⟩ : ∃ wu : World, wu = wr := ⟨_, rfl⟩
      have HRk := hid (HR.out k hlt)
      have hJ := hid (mdR_step A B k (min A.p B.p))
      have hAt := hid (mdR_at A B k (min A.p B.p))
      have HLT := hid hlt
      go_wp2_with fail
      have OA := (A4.out.next (below_dr wu) A4.out.i.bel.size).reg hlt
      have OB := (B4.out.next (below_dr wu) A4.out.i.bel.size).reg hlt
      have OS := (S4.out.next (below_dr wu) A4.out.i.bel.size).reg hlt
      rw [hAt.out] at OS
      have hBb := hid (below_dr wu)
      clear hlt
      generalize rJoin (A.rg k) (B.rg k) = J at HRk hJ
      obtain ⟨jk, jl, jm, js, jlo, jhi⟩ := J
      unfold rV at HRk
      dsimp only at HRk
      have oa0 := OA.c0
      have oa1 := OA.c1
      have oa2 := OA.c2
      have oa3 := OA.c3
      have oa4 := OA.c4
      have oa5 := OA.c5
      have oa6 := OA.c6
      have oa7 := OA.c7
      have oa8 := OA.c8
      have oal := OA.lt
      have ob0 := OB.c0
      have ob1 := OB.c1
      have ob2 := OB.c2
      have ob3 := OB.c3
      have ob4 := OB.c4
      have ob5 := OB.c5
      have ob6 := OB.c6
      have ob7 := OB.c7
      have ob8 := OB.c8
      have obl := OB.lt
      have os0 := OS.c0
      have os1 := OS.c1
      have os2 := OS.c2
      have os3 := OS.c3
      have os4 := OS.c4
      have os5 := OS.c5
      have os6 := OS.c6
      have os7 := OS.c7
      have os8 := OS.c8
      have osf0 := OS.f0
      have osf1 := OS.f1
      have osf2 := OS.f2
      have osf3 := OS.f3
      have osf4 := OS.f4
      have osf5 := OS.f5
      have osf6 := OS.f6
      have osf7 := OS.f7
      have osf8 := OS.f8
      have osl := OS.lt
      clear OA OB OS
      have hu : undef = Value.tuple #[] := rfl
      first | (go_region_law (first | (go_simp; go_at_call 35; (with_reducible refine (HRk.out _).mono ?_); rintro e wq1 ⟨rfl, bq1⟩; have hBq := below_next hBb.out bq1; have OQ := (S4.out.next hBq A4.out.i.bel.size).reg HLT.out; rw [hAt.out] at OQ; have oq0 := OQ.c0; have oq1 := OQ.c1; have oq2 := OQ.c2; have oq3 := OQ.c3; have oq4 := OQ.c4; have oq5 := OQ.c5; have oq6 := OQ.c6; have oq7 := OQ.c7; have oq8 := OQ.c8; have oqf0 := OQ.f0; have oqf1 := OQ.f1; have oqf2 := OQ.f2; have oqf3 := OQ.f3; have oqf4 := OQ.f4; have oqf5 := OQ.f5; have oqf6 := OQ.f6; have oqf7 := OQ.f7; have oqf8 := OQ.f8; have oql := OQ.lt))) | fail
      all_goals
        go_wp2
        go_roundw
        case rel => first | exact ⟨k + 1, by have := HLT.out; omega, by go_num, hid (by have X := (A4.out.next hBq A4.out.i.bel.size).apart (c := gS) (o := k * 9) (vs := rC ⟨jk, jl, jm, js, jlo, jhi⟩) (by omega) (by omega); exact X), hid (by have X := (B4.out.next hBq A4.out.i.bel.size).apart (c := gS) (o := k * 9) (vs := rC ⟨jk, jl, jm, js, jlo, jhi⟩) (by omega) (by omega); exact X), hid (by have X := (R4.out.next hBq A4.out.i.bel.size).apart (c := gS) (o := k * 9) (vs := rC ⟨jk, jl, jm, js, jlo, jhi⟩) (by omega) (by omega); exact X), hid (by have X := (S4.out.next hBq A4.out.i.bel.size).putReg (r := ⟨jk, jl, jm, js, jlo, jhi⟩) HLT.out (by omega); rw [hJ.out] at X; exact X)⟩ | ((repeat apply Exists.intro); exact ⟨⟨k + 1, by have := HLT.out; omega, by go_num, hid (by have X := (A4.out.next hBq A4.out.i.bel.size).apart (c := gS) (o := k * 9) (vs := rC ⟨jk, jl, jm, js, jlo, jhi⟩) (by omega) (by omega); exact X), hid (by have X := (B4.out.next hBq A4.out.i.bel.size).apart (c := gS) (o := k * 9) (vs := rC ⟨jk, jl, jm, js, jlo, jhi⟩) (by omega) (by omega); exact X), hid (by have X := (R4.out.next hBq A4.out.i.bel.size).apart (c := gS) (o := k * 9) (vs := rC ⟨jk, jl, jm, js, jlo, jhi⟩) (by omega) (by omega); exact X), hid (by have X := (S4.out.next hBq A4.out.i.bel.size).putReg (r := ⟨jk, jl, jm, js, jlo, jhi⟩) HLT.out (by omega); rw [hJ.out] at X; exact X)⟩, rfl⟩)
        case measure => have := HLT.out; simp [intOf]; omega
    · have hk8 : k = 11 := by omega
      subst hk8
      have S30 := S4.out
      rw [mdR_all] at S30
      replace S30 := hid S30
      clear S4 A3 B3 R3 S3
      have A3 := A4
      have B3 := B4
      have R3 := R4
      have S3 := S30
      clear hlt hk HR A4 B4 R4 S30
      go_wp2_with fail
      go_loopw [7] (fun i w' => ∃ k : Nat, k ≤ 64 ∧ i = .int .i64 k ∧ Hid (RwT w.heap.size w w' w.heap.size 740 (stC A)) ∧ Hid (RwT w.heap.size w w' (w.heap.size + 1) 740 (stC B)) ∧ Hid (RwT w.heap.size w w' (w.heap.size + 1 + 1) 740 (stC st0)) ∧ Hid (RwT w.heap.size w w' gS 740 (stC (mdK A B k (min A.p B.p))))) (fun i _ => 64 - (intOf i).toNat)
      case atStart => exact ⟨0, by omega, rfl, A3, B3, R3, S3⟩
      case round =>
        obtain ⟨k, hk, rfl, A4, B4, R4, S4⟩ := hrel
        by_cases hlt : k < 64
        · have hlt' : (k : Int) < 64 := by omega
          obtain ⟨wu, rfl⟩ : ∃ wu : World, wu = wr := ⟨_, rfl⟩
          have HRk := hid (HK.out k hlt)
          have hJ := hid (mdK_step A B k (min A.p B.p))
          have hAt := hid (mdK_at A B k (min A.p B.p))
          have HLT := hid hlt
          go_wp2_with fail
          have OA := (A4.out.next (below_dr wu) A4.out.i.bel.size).slot hlt
          have OB := (B4.out.next (below_dr wu) A4.out.i.bel.size).slot hlt
          have OS := (S4.out.next (below_dr wu) A4.out.i.bel.size).slot hlt
          rw [hAt.out] at OS
          have hBb := hid (below_dr wu)
          clear hlt
          generalize kJoin (A.sk k) (B.sk k) = J at HRk hJ
          obtain ⟨jh, ⟨jk, jl, jm, js, jlo, jhi⟩⟩ := J
          unfold kV at HRk
          dsimp only at HRk
          have oa0 := OA.c0
          have oa1 := OA.c1
          have oa2 := OA.c2
          have oa3 := OA.c3
          have oa4 := OA.c4
          have oa5 := OA.c5
          have oa6 := OA.c6
          have oa7 := OA.c7
          have oa8 := OA.c8
          have oa9 := OA.c9
          have oal := OA.lt
          have ob0 := OB.c0
          have ob1 := OB.c1
          have ob2 := OB.c2
          have ob3 := OB.c3
          have ob4 := OB.c4
          have ob5 := OB.c5
          have ob6 := OB.c6
          have ob7 := OB.c7
          have ob8 := OB.c8
          have ob9 := OB.c9
          have obl := OB.lt
          have os0 := OS.c0
          have os1 := OS.c1
          have os2 := OS.c2
          have os3 := OS.c3
          have os4 := OS.c4
          have os5 := OS.c5
          have os6 := OS.c6
          have os7 := OS.c7
          have os8 := OS.c8
          have os9 := OS.c9
          have osf0 := OS.f0
          have osf1 := OS.f1
          have osf2 := OS.f2
          have osf3 := OS.f3
          have osf4 := OS.f4
          have osf5 := OS.f5
          have osf6 := OS.f6
          have osf7 := OS.f7
          have osf8 := OS.f8
          have osf9 := OS.f9
          have osl := OS.lt
          clear OA OB OS
          have hu : undef = Value.tuple #[] := rfl
          first | (go_region_law (first | (go_simp; go_at_call 36; (with_reducible refine (HRk.out _).mono ?_); rintro e wq1 ⟨rfl, bq1⟩; have hBq := below_next hBb.out bq1; have OQ := (S4.out.next hBq A4.out.i.bel.size).slot HLT.out; rw [hAt.out] at OQ; have oq0 := OQ.c0; have oq1 := OQ.c1; have oq2 := OQ.c2; have oq3 := OQ.c3; have oq4 := OQ.c4; have oq5 := OQ.c5; have oq6 := OQ.c6; have oq7 := OQ.c7; have oq8 := OQ.c8; have oq9 := OQ.c9; have oqf0 := OQ.f0; have oqf1 := OQ.f1; have oqf2 := OQ.f2; have oqf3 := OQ.f3; have oqf4 := OQ.f4; have oqf5 := OQ.f5; have oqf6 := OQ.f6; have oqf7 := OQ.f7; have oqf8 := OQ.f8; have oqf9 := OQ.f9; have oql := OQ.lt))) | fail
          all_goals
            go_wp2
            go_roundw
            case rel => first | exact ⟨k + 1, by have := HLT.out; omega, by go_num, hid (by have X := (A4.out.next hBq A4.out.i.bel.size).apart (c := gS) (o := 99 + k * 10) (vs := kC ⟨jh, ⟨jk, jl, jm, js, jlo, jhi⟩⟩) (by omega) (by omega); exact X), hid (by have X := (B4.out.next hBq A4.out.i.bel.size).apart (c := gS) (o := 99 + k * 10) (vs := kC ⟨jh, ⟨jk, jl, jm, js, jlo, jhi⟩⟩) (by omega) (by omega); exact X), hid (by have X := (R4.out.next hBq A4.out.i.bel.size).apart (c := gS) (o := 99 + k * 10) (vs := kC ⟨jh, ⟨jk, jl, jm, js, jlo, jhi⟩⟩) (by omega) (by omega); exact X), hid (by have X := (S4.out.next hBq A4.out.i.bel.size).putSlot (x := ⟨jh, ⟨jk, jl, jm, js, jlo, jhi⟩⟩) HLT.out (by omega); rw [hJ.out] at X; exact X)⟩ | ((repeat apply Exists.intro); exact ⟨⟨k + 1, by have := HLT.out; omega, by go_num, hid (by have X := (A4.out.next hBq A4.out.i.bel.size).apart (c := gS) (o := 99 + k * 10) (vs := kC ⟨jh, ⟨jk, jl, jm, js, jlo, jhi⟩⟩) (by omega) (by omega); exact X), hid (by have X := (B4.out.next hBq A4.out.i.bel.size).apart (c := gS) (o := 99 + k * 10) (vs := kC ⟨jh, ⟨jk, jl, jm, js, jlo, jhi⟩⟩) (by omega) (by omega); exact X), hid (by have X := (R4.out.next hBq A4.out.i.bel.size).apart (c := gS) (o := 99 + k * 10) (vs := kC ⟨jh, ⟨jk, jl, jm, js, jlo, jhi⟩⟩) (by omega) (by omega); exact X), hid (by have X := (S4.out.next hBq A4.out.i.bel.size).putSlot (x := ⟨jh, ⟨jk, jl, jm, js, jlo, jhi⟩⟩) HLT.out (by omega); rw [hJ.out] at X; exact X)⟩, rfl⟩)
            case measure => have := HLT.out; simp [intOf]; omega
        · have hk8 : k = 64 := by omega
          subst hk8
          have S5 := S4.out
          rw [mdK_all, ← hr] at S5
          replace S5 := hid S5
          have R5 := R4
          have hiR : Hid ((Try.prog.info? 36).map (·.size) = some (stC R).length) := hid (by rw [stC_len]; exact yinfo36)
          clear hr hlt hk HK S4 A4 B4 R4
          go_wp2_with (first | ((with_reducible refine at_load 36 ?_); refine wpList_load_g (by rfl) 36 _ rfl gS (0) rfl (stC R) _ S5.out.i.r0 Try.underlying36 rfl hiR.out ?_) | ((with_reducible refine at_store 36 ?_); refine wpList_store_st _ _ rfl rfl (w.heap.size + 1 + 1) R rfl rfl R5.out.t ?_))
          have I2 := R5.out.whole (vs := stC R) (by omega) (stC_len _)
          exact bodyPost_ret (row_res rfl _ _ (w.heap.size + 1 + 1) 0 (stC R) _ rfl I2.i.r0 Try.underlying36 rfl (by rw [stC_len]; exact yinfo36)) rfl ⟨rfl, I2.i.bel⟩
end Go.Proofs.Ytodmikjpmcabiaa
