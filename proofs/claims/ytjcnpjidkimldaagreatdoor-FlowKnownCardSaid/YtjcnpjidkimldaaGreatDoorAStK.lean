/-
  States in blocks of the call's own; contracts of May and of a view's may. Contract of a view's may; Begin. Contract of Holds. Contract of In.
-/
import Derived.Test.YtjcnpjidkimldaaGreatDoorAStG
import Derived.Deep.MidRow
import Derived.Deep.RegionHeld3
namespace Go.Proofs.YtjcnpjidkimldaaGreatDoor
set_option linter.unusedSimpArgs false
set_option linter.unusedVariables false
set_option maxRecDepth 100000
set_option maxRecDepth 100000
open Go.ChangeShapes Go.WideShapes Go.ChangeAt Go.RowKit Me

/-- Cells in a block of the call's own. -/
structure RwI (g : Nat) (w W : World) (b : Nat) (cs : List Value) : Prop where
  bel : Below g w W
  sz : b < W.heap.size
  r0 : W.rangeAt b 0 cs
theorem RwI.next {g b : Nat} {w W W' : World} {cs : List Value} (h : RwI g w W b cs) (hb : Below W.heap.size W W') (hg : g ≤ W.heap.size) : RwI g w W' b cs := by
  obtain ⟨hc, hf⟩ := Me.bcell hb
  have hz := h.sz
  have hz' := hb.size
  exact ⟨Me.below_next_w h.bel hb hg, by omega, range_below h.r0 hz hc⟩
theorem RwI.first (w : World) (cs : List Value) (t : TypeId) : RwI w.heap.size w (w.alloc (.cells cs.toArray t)) w.heap.size cs := by
  refine ⟨(Below.refl _ _).alloc (Nat.le_refl _) _, by simp, ?_⟩
  intro j v hv
  rw [cell_of_row _ _ _ cs.toArray t (0, 0) (heap_alloc_last w _)]
  simpa using hv
theorem yinfo30 : (Tryz.prog.info? 41).map (·.size) = some 9 := by kernel_rfl
theorem yinfo33 : (Tryz.prog.info? 44).map (·.size) = some 10 := by kernel_rfl
theorem yinfo36 : (Tryz.prog.info? 47).map (·.size) = some 740 := by kernel_rfl
theorem allR_no {f : Nat → Bool} {k : Nat} (hk : k < 11) (h : f k = false) : allR f = false := by
  cases e : allR f
  · rfl
  · rw [(allR_iff f).1 e k hk] at h; cases h
theorem allK_no {f : Nat → Bool} {k : Nat} (hk : k < 64) (h : f k = false) : allK f = false := by
  cases e : allK f
  · rfl
  · rw [(allK_iff f).1 e k hk] at h; cases h
set_option maxHeartbeats 8000000 in
theorem uMay_any (S : St) (hS : StOk S) (w : World) : Calls Tryz.prog 36 #[stV S] w fun e w' => e = .returned (.bool (sMay S)) ∧ Below w.heap.size w w' := by
  have HR : Hid (∀ k, k < 11 → ∀ W, Calls Tryz.prog 77 #[.agg (rC (S.rg k)).toArray] W fun e w' => e = .returned (.bool (rMay (S.rg k))) ∧ Below W.heap.size W w') := fun k hk W => regMay_any (S.rg k) (hS.1 k hk) W
  have HK : Hid (∀ k, k < 64 → ∀ W, Calls Tryz.prog 78 #[.agg (kC (S.sk k)).toArray] W fun e w' => e = .returned (.bool (kMay (S.sk k))) ∧ Below W.heap.size W w') := fun k hk W => slotMay_any (S.sk k) (hS.2.1 k hk) W
  have HL := hid (fun W => lenS_any S.p W)
  have I0 := hid (RwI.first w (stC S) 47)
  have hr : sMay S = (allR (fun k => rMay (S.rg k)) && (allK (fun k => kMay (S.sk k)) && lenB S.p)) := rfl
  generalize hRR : sMay S = R at hr ⊢
  have HRR := hid hr
  obtain ⟨CF, hCF⟩ : ∃ CF, (stC S).toArray = CF := ⟨_, rfl⟩
  unfold stV
  rw [hCF] at I0 ⊢
  clear hS hr hRR hCF
  go_enter Tryz.func36, Tryz.ntmps36
  go_wp2_with fail
  go_loopw [5] (fun i w' => ∃ k : Nat, k ≤ 11 ∧ i = .int .i64 k ∧ Hid (∀ j, j < k → rMay (S.rg j) = true) ∧ Hid (RwI w.heap.size w w' w.heap.size (stC S))) (fun i _ => 11 - (intOf i).toNat)
  case atStart => exact ⟨0, by omega, rfl, hid (fun j hj => by omega), I0⟩
  case round =>
    obtain ⟨k, hk, rfl, hP, I1⟩ := hrel
    by_cases hlt : k < 11
    · have hlt' : (k : Int) < 11 := by omega
      have hrk : Hid (wr.rangeAt w.heap.size (k * 9) (rC (S.rg k))) := hid (range_reg I1.out.r0 k hlt)
      have HS : Hid ((Tryz.prog.info? 41).map (·.size) = some (rC (S.rg k)).length) := hid (by rw [rC_len]; exact yinfo30)
      have HKk := hid (HR.out k hlt)
      cases hb : rMay (S.rg k)
      · rw [hb] at HKk
        have hbb := hid hb
        clear hb
        go_wp2_with (refine wpList_load_mid (op := ⟨_, .load 41 _, _, _, _, _⟩) rfl 41 _ rfl w.heap.size (k * 9) rfl (rC (S.rg k)) _ hrk.out Tryz.underlying41 rfl HS.out ?_)
        refine (HKk.out _).mono ?_
        rintro e w1 ⟨rfl, b1⟩
        have I2 := hid (I1.out.next b1 (Nat.le_of_lt I1.out.sz))
        clear b1 hrk
        go_wp2
        go_ret
        refine ⟨Me.ret_val ?_, I2.out.bel⟩
        rw [HRR.out, allR_no hlt hbb.out]
        rfl
      · rw [hb] at HKk
        have hbb := hid hb
        clear hb
        go_wp2_with (refine wpList_load_mid (op := ⟨_, .load 41 _, _, _, _, _⟩) rfl 41 _ rfl w.heap.size (k * 9) rfl (rC (S.rg k)) _ hrk.out Tryz.underlying41 rfl HS.out ?_)
        refine (HKk.out _).mono ?_
        rintro e w1 ⟨rfl, b1⟩
        have I2 := hid (I1.out.next b1 (Nat.le_of_lt I1.out.sz))
        clear b1 hrk
        go_wp2
        go_roundw
        case rel => exact ⟨k + 1, by omega, by go_num, hid (fun i hi => (Nat.lt_succ_iff_lt_or_eq.1 hi).elim (fun q => hP.out i q) (fun q => q ▸ hbb.out)), I2⟩
        case measure => simp [intOf]; omega
    · have hk8 : k = 11 := by omega
      subst hk8
      have HA : Hid (allR (fun k => rMay (S.rg k)) = true) := (allR_iff _).2 (fun i hi => hP.out i hi)
      clear hP HR hlt hk
      go_wp2_with fail
      go_loopw [15] (fun i w' => ∃ k : Nat, k ≤ 64 ∧ i = .int .i64 k ∧ Hid (∀ j, j < k → kMay (S.sk j) = true) ∧ Hid (RwI w.heap.size w w' w.heap.size (stC S))) (fun i _ => 64 - (intOf i).toNat)
      case atStart => exact ⟨0, by omega, rfl, hid (fun j hj => by omega), I1⟩
      case round =>
        obtain ⟨k, hk, rfl, hP, I2⟩ := hrel
        by_cases hlt : k < 64
        · have hlt' : (k : Int) < 64 := by omega
          have HKk := hid (HK.out k hlt)
          cases hb : kMay (S.sk k)
          · rw [hb] at HKk
            have hbb := hid hb
            clear hb
            rename_i wz
            have hrk : Hid (wr.rangeAt w.heap.size (99 + k * 10) (kC (S.sk k))) := hid (range_slot I2.out.r0 k hlt)
            have HS : Hid ((Tryz.prog.info? 44).map (·.size) = some (kC (S.sk k)).length) := hid (by rw [kC_len]; exact yinfo33)
            go_wp2_with (refine wpList_load_mid (op := ⟨_, .load 44 _, _, _, _, _⟩) rfl 44 _ rfl w.heap.size (99 + k * 10) rfl (kC (S.sk k)) _ hrk.out Tryz.underlying44 rfl HS.out ?_)
            refine (HKk.out _).mono ?_
            rintro e w1 ⟨rfl, b1⟩
            have I3 := hid (I2.out.next b1 (Nat.le_of_lt I2.out.sz))
            clear b1 hrk
            go_wp2
            go_ret
            refine ⟨Me.ret_val ?_, I3.out.bel⟩
            rw [HRR.out, allK_no hlt hbb.out, Bool.false_and, Bool.and_false]
            rfl
          · rw [hb] at HKk
            have hbb := hid hb
            clear hb
            have hrk : Hid (wr.rangeAt w.heap.size (99 + k * 10) (kC (S.sk k))) := hid (range_slot I2.out.r0 k hlt)
            have HS : Hid ((Tryz.prog.info? 44).map (·.size) = some (kC (S.sk k)).length) := hid (by rw [kC_len]; exact yinfo33)
            go_wp2_with (refine wpList_load_mid (op := ⟨_, .load 44 _, _, _, _, _⟩) rfl 44 _ rfl w.heap.size (99 + k * 10) rfl (kC (S.sk k)) _ hrk.out Tryz.underlying44 rfl HS.out ?_)
            refine (HKk.out _).mono ?_
            rintro e w1 ⟨rfl, b1⟩
            have I3 := hid (I2.out.next b1 (Nat.le_of_lt I2.out.sz))
            clear b1 hrk
            go_wp2
            go_roundw
            case rel => first | exact ⟨k + 1, by omega, by go_num, hid (fun i hi => (Nat.lt_succ_iff_lt_or_eq.1 hi).elim (fun q => hP.out i q) (fun q => q ▸ hbb.out)), I3⟩ | ((repeat apply Exists.intro); exact ⟨⟨k + 1, by omega, by go_num, hid (fun i hi => (Nat.lt_succ_iff_lt_or_eq.1 hi).elim (fun q => hP.out i q) (fun q => q ▸ hbb.out)), I3⟩, rfl⟩)
            case measure => simp [intOf]; omega
        · have hk8 : k = 64 := by omega
          subst hk8
          have HB : Hid (allK (fun k => kMay (S.sk k)) = true) := (allK_iff _).2 (fun i hi => hP.out i hi)
          clear hP HK hlt hk
          have hp := range_pkt I2.out.r0
          go_wp2_with fail
          refine (HL.out _).mono ?_
          rintro e w1 ⟨rfl, b1⟩
          have I3 := hid (I2.out.next b1 (Nat.le_of_lt I2.out.sz))
          clear b1 hp
          go_wp2
          go_ret
          refine ⟨Me.ret_val ?_, I3.out.bel⟩
          rw [HRR.out, HA.out, HB.out, Bool.true_and, Bool.true_and]
          rfl
end Go.Proofs.YtjcnpjidkimldaaGreatDoor

namespace Go.Proofs.YtjcnpjidkimldaaGreatDoor
set_option linter.unusedSimpArgs false
set_option linter.unusedVariables false
set_option maxRecDepth 100000
set_option maxRecDepth 100000
open Go.ChangeShapes Go.WideShapes Go.ChangeAt Go.RowKit Me

theorem at_store {P : Program} {ops : Array Oper} {Q : Exit → Act → World → Prop} {rest : List Oper} {a : Act} {w : World} {d : Option Tmp} {x y : Operand} {ty : TypeId} {ps : String} {af : Array Edge} {gd : Option (Tmp × Bool)} (T : TypeId)
    (h : wpList P ops Q (⟨d, .store T x y, ty, ps, af, gd⟩ :: rest) a w) : wpList P ops Q (⟨d, .store T x y, ty, ps, af, gd⟩ :: rest) a w := h
theorem wpList_load_g {P : Program} {ops : Array Oper} {rest : List Oper} {op : Oper} {a : Act} {w : World} {Q : Exit → Act → World → Prop} (hw : Region.wanted op (yielded ops a.tmps) = true) (ty : TypeId) (x : Operand) (ho : op.op = .load ty x)
    (b o : Nat) (hx : a.eval x = .pointer (some ⟨b, o, none⟩)) (cs : List Value) (d : TypeDesc) (hc : w.rangeAt b o cs)
    (hu : P.underlying ty = some d) (hd : d.isRow = true) (hi : (P.info? ty).map (·.size) = some cs.length)
    (h : wpList P ops Q rest (a.put op.dst (.agg cs.toArray)) w) : wpList P ops Q (op :: rest) a w := by
  rw [wpList, if_pos hw]
  exact .inl (wp_load_mid ty x ho b o hx cs d hc hu hd hi h)
end Go.Proofs.YtjcnpjidkimldaaGreatDoor

namespace Go.Proofs.YtjcnpjidkimldaaGreatDoor
set_option linter.unusedSimpArgs false
set_option linter.unusedVariables false
set_option maxRecDepth 100000
set_option maxRecDepth 100000
open Go.ChangeShapes Go.WideShapes Go.ChangeAt Go.RowKit Me

theorem RwI.alloc {g b : Nat} {w W : World} {cs : List Value} (h : RwI g w W b cs) (hg : g ≤ W.heap.size) (o : Obj) : RwI g w (W.alloc o) b cs := h.next ((Below.refl _ _).alloc (Nat.le_refl _) o) hg
theorem RwI.new {g : Nat} {w W : World} {cs : List Value} (t : TypeId) (h : Below g w W) (hg : g ≤ W.heap.size) : RwI g w (W.alloc (.cells cs.toArray t)) W.heap.size cs :=
  ⟨h.alloc hg _, by simp, (RwI.first W cs t).r0⟩
theorem RwI.second {w : World} {cs : List Value} (o : Obj) (t : TypeId) : RwI w.heap.size w ((w.alloc o).alloc (.cells cs.toArray t)) (w.heap.size + 1) cs := by
  have h := RwI.new (g := w.heap.size) (w := w) (W := w.alloc o) (cs := cs) t (bel_alloc (Below.refl _ _)) (by simp)
  have e : (w.alloc o).heap.size = w.heap.size + 1 := by simp
  rwa [e] at h
end Go.Proofs.YtjcnpjidkimldaaGreatDoor

namespace Go.Proofs.YtjcnpjidkimldaaGreatDoor
set_option linter.unusedSimpArgs false
set_option linter.unusedVariables false
set_option maxRecDepth 100000
set_option maxRecDepth 100000
open Go.ChangeShapes Go.WideShapes Go.ChangeAt Go.RowKit Me

set_option maxHeartbeats 16000000 in
theorem uIn_any (S : St) (V : St) (hS : StOk S) (hV : StOk V) (w : World) : Calls Tryz.prog 137 #[stV S, stV V] w fun e w' => e = .returned (.bool (sIn S V)) ∧ Below w.heap.size w w' := by
  have HM : Hid (∀ W, Calls Tryz.prog 36 #[.agg (stC S).toArray] W fun e w' => e = .returned (.bool (sMay S)) ∧ Below W.heap.size W w') := fun W => uMay_any S hS W
  have HN : Hid (∀ W, Calls Tryz.prog 36 #[.agg (stC V).toArray] W fun e w' => e = .returned (.bool (sMay V)) ∧ Below W.heap.size W w') := fun W => uMay_any V hV W
  have his : Hid ((Tryz.prog.info? 47).map (·.size) = some (stC S).length) := hid (by rw [stC_len]; exact yinfo36)
  have hiv : Hid ((Tryz.prog.info? 47).map (·.size) = some (stC V).length) := hid (by rw [stC_len]; exact yinfo36)
  have hr : sIn S V = (sMay S && (sMay V && (decide (V.p ≤ S.p) && (allR (fun k => rIn (S.rg k) (V.rg k)) && allK (fun k => kIn (S.sk k) (V.sk k)))))) := rfl
  have HRr : Hid (∀ k, k < 11 → ∀ W, Calls Tryz.prog 191 #[rV (S.rg k), rV (V.rg k)] W fun e w' => e = .returned (.bool (rIn (S.rg k) (V.rg k))) ∧ Below W.heap.size W w') := fun k hk W => regIn_any (S.rg k) (V.rg k) (hS.1 k hk) (hV.1 k hk) W
  have HKk : Hid (∀ k, k < 64 → ∀ W, Calls Tryz.prog 192 #[kV (S.sk k), kV (V.sk k)] W fun e w' => e = .returned (.bool (kIn (S.sk k) (V.sk k))) ∧ Below W.heap.size W w') := fun k hk W => kIn_any (S.sk k) (V.sk k) (hS.2.1 k hk) (hV.2.1 k hk) W
  obtain ⟨o0, ho0⟩ : ∃ o, Obj.cells (stC S).toArray 47 = o := ⟨_, rfl⟩
  have I0 := hid ((RwI.first w (stC S) 47).alloc (by simp) (.cells (stC V).toArray 47))
  have J0 := hid (RwI.second (w := w) (cs := stC V) (.cells (stC S).toArray 47) 47)
  generalize hRR : sIn S V = R at hr ⊢
  have HRR := hid hr
  clear ho0 o0 hS hV hr hRR
  unfold stV
  obtain ⟨CF, hCF⟩ : ∃ CF, (stC S).toArray = CF := ⟨_, rfl⟩
  obtain ⟨CG, hCG⟩ : ∃ CF, (stC V).toArray = CF := ⟨_, rfl⟩
  rw [hCF] at I0 J0
  rw [hCG] at I0 J0
  rw [hCF, hCG]
  clear hCF hCG
  cases hsm : sMay S
  · rw [hsm] at HM HRR
    clear hsm
    go_enter Tryz.func137, Tryz.ntmps137
    go_wp2_with ((with_reducible refine at_load 47 ?_); refine wpList_load_g (by rfl) 47 _ rfl w.heap.size (0) rfl (stC S) _ (by first | exact I0.out.r0 | exact I1.out.r0) Tryz.underlying47 rfl his.out ?_)
    refine (HM.out _).mono ?_
    rintro e w1 ⟨rfl, b1⟩
    have I1 := hid (I0.out.next b1 (by simp; omega))
    clear b1
    go_wp2
    go_ret
    exact ⟨Me.ret_val (by rw [HRR.out, Bool.false_and]; rfl), I1.out.bel⟩
  rw [hsm] at HM
  have hsm' := hid hsm
  clear hsm
  cases hvm : sMay V
  · rw [hvm] at HN HRR
    clear hvm
    go_enter Tryz.func137, Tryz.ntmps137
    go_wp2_with ((with_reducible refine at_load 47 ?_); refine wpList_load_g (by rfl) 47 _ rfl w.heap.size (0) rfl (stC S) _ (by first | exact I0.out.r0 | exact I1.out.r0) Tryz.underlying47 rfl his.out ?_)
    refine (HM.out _).mono ?_
    rintro e w1 ⟨rfl, b1⟩
    have I1 := hid (I0.out.next b1 (by simp; omega))
    have J1 := hid (J0.out.next b1 (by simp; omega))
    clear b1
    go_wp2_with ((with_reducible refine at_load 47 ?_); refine wpList_load_g (by rfl) 47 _ rfl (w.heap.size + 1) (0) rfl (stC V) _ J1.out.r0 Tryz.underlying47 rfl hiv.out ?_)
    refine (HN.out _).mono ?_
    rintro e w2 ⟨rfl, b1⟩
    have I2 := hid (I1.out.next b1 I1.out.bel.size)
    clear b1
    go_wp2
    go_ret
    exact ⟨Me.ret_val (by rw [HRR.out, Bool.false_and, Bool.and_false]; rfl), I2.out.bel⟩
  rw [hvm] at HN
  have hvm' := hid hvm
  clear hvm
  have HR := hid HRr.out
  have HK := hid HKk.out
  clear HRr HKk
  cases hle : decide (V.p ≤ S.p)
  · rw [hle] at HRR
    have hlt : S.p < V.p := by have := of_decide_eq_false hle; omega
    clear hle HR HK
    go_enter Tryz.func137, Tryz.ntmps137
    go_wp2_with ((with_reducible refine at_load 47 ?_); refine wpList_load_g (by rfl) 47 _ rfl w.heap.size (0) rfl (stC S) _ (by first | exact I0.out.r0 | exact I1.out.r0) Tryz.underlying47 rfl his.out ?_)
    refine (HM.out _).mono ?_
    rintro e w1 ⟨rfl, b1⟩
    have I1 := hid (I0.out.next b1 (by simp; omega))
    have J1 := hid (J0.out.next b1 (by simp; omega))
    clear b1
    go_wp2_with ((with_reducible refine at_load 47 ?_); refine wpList_load_g (by rfl) 47 _ rfl (w.heap.size + 1) (0) rfl (stC V) _ J1.out.r0 Tryz.underlying47 rfl hiv.out ?_)
    refine (HN.out _).mono ?_
    rintro e w2 ⟨rfl, b1⟩
    have I2 := hid (I1.out.next b1 I1.out.bel.size)
    have J2 := hid (J1.out.next b1 J1.out.bel.size)
    clear b1
    have hp1 := range_pkt I2.out.r0
    have hp2 := range_pkt J2.out.r0
    go_wp2
    go_ret
    exact ⟨Me.ret_val (by rw [HRR.out, Bool.false_and, Bool.and_false, Bool.and_false]; rfl), I2.out.bel⟩
  rw [hle] at HRR
  have hge : ¬ S.p < V.p := by have := of_decide_eq_true hle; omega
  clear hle
  go_enter Tryz.func137, Tryz.ntmps137
  go_wp2_with ((with_reducible refine at_load 47 ?_); refine wpList_load_g (by rfl) 47 _ rfl w.heap.size (0) rfl (stC S) _ (by first | exact I0.out.r0 | exact I1.out.r0) Tryz.underlying47 rfl his.out ?_)
  refine (HM.out _).mono ?_
  rintro e w1 ⟨rfl, b1⟩
  have I1 := hid (I0.out.next b1 (by simp; omega))
  have J1 := hid (J0.out.next b1 (by simp; omega))
  clear b1
  go_wp2_with ((with_reducible refine at_load 47 ?_); refine wpList_load_g (by rfl) 47 _ rfl (w.heap.size + 1) (0) rfl (stC V) _ J1.out.r0 Tryz.underlying47 rfl hiv.out ?_)
  refine (HN.out _).mono ?_
  rintro e w2 ⟨rfl, b1⟩
  have I2 := hid (I1.out.next b1 I1.out.bel.size)
  have J2 := hid (J1.out.next b1 J1.out.bel.size)
  clear b1
  have hp1 := range_pkt I2.out.r0
  have hp2 := range_pkt J2.out.r0
  go_wp2_with fail
  clear hp1 hp2 hge
  go_loopw [22] (fun i w' => ∃ k : Nat, k ≤ 11 ∧ i = .int .i64 k ∧ Hid (∀ j, j < k → rIn (S.rg j) (V.rg j) = true) ∧ Hid (RwI w.heap.size w w' w.heap.size (stC S)) ∧ Hid (RwI w.heap.size w w' (w.heap.size + 1) (stC V))) (fun i _ => 11 - (intOf i).toNat)
  case atStart => exact ⟨0, by omega, rfl, hid (fun j hj => by omega), I2, J2⟩
  case round =>
    obtain ⟨k, hk, rfl, hP, I3, J3⟩ := hrel
    by_cases hlt : k < 11
    · have hlt' : (k : Int) < 11 := by omega
      have hrk := hid (range_reg I3.out.r0 k hlt)
      have hrv := hid (range_reg J3.out.r0 k hlt)
      have HRk := hid (HR.out k hlt)
      obtain ⟨wu, rfl⟩ : ∃ wu : World, wu = wr := ⟨_, rfl⟩
      cases hb : rIn (S.rg k) (V.rg k)
      · rw [hb] at HRk
        have hbb := hid hb
        clear hb
        unfold rV at HRk
        go_wp2_with fail
        have q0 : wu.cell? ⟨w.heap.size, k * 9, none⟩ = some (.int .u8 (S.rg k).k) := hrk.out 0 _ rfl
        have q1 : wu.cell? ⟨w.heap.size, k * 9 + 1, none⟩ = some (.bool (S.rg k).l) := hrk.out 1 _ rfl
        have q2 : wu.cell? ⟨w.heap.size, k * 9 + 2, none⟩ = some (.int .i64 (S.rg k).m) := hrk.out 2 _ rfl
        have q3 : wu.cell? ⟨w.heap.size, k * 9 + 3, none⟩ = some (.int .u64 (ub (S.rg k).s.1.1)) := hrk.out 3 _ rfl
        have q4 : wu.cell? ⟨w.heap.size, k * 9 + 4, none⟩ = some (.int .u64 (ub (S.rg k).s.1.2)) := hrk.out 4 _ rfl
        have q5 : wu.cell? ⟨w.heap.size, k * 9 + 5, none⟩ = some (.int .u64 (ub (S.rg k).s.2.1)) := hrk.out 5 _ rfl
        have q6 : wu.cell? ⟨w.heap.size, k * 9 + 6, none⟩ = some (.int .u64 (ub (S.rg k).s.2.2)) := hrk.out 6 _ rfl
        have q7 : wu.cell? ⟨w.heap.size, k * 9 + 7, none⟩ = some (.int .i64 (S.rg k).lo) := hrk.out 7 _ rfl
        have q8 : wu.cell? ⟨w.heap.size, k * 9 + 8, none⟩ = some (.int .i64 (S.rg k).hi) := hrk.out 8 _ rfl
        have q9 : wu.cell? ⟨w.heap.size + 1, k * 9, none⟩ = some (.int .u8 (V.rg k).k) := hrv.out 0 _ rfl
        have q10 : wu.cell? ⟨w.heap.size + 1, k * 9 + 1, none⟩ = some (.bool (V.rg k).l) := hrv.out 1 _ rfl
        have q11 : wu.cell? ⟨w.heap.size + 1, k * 9 + 2, none⟩ = some (.int .i64 (V.rg k).m) := hrv.out 2 _ rfl
        have q12 : wu.cell? ⟨w.heap.size + 1, k * 9 + 3, none⟩ = some (.int .u64 (ub (V.rg k).s.1.1)) := hrv.out 3 _ rfl
        have q13 : wu.cell? ⟨w.heap.size + 1, k * 9 + 4, none⟩ = some (.int .u64 (ub (V.rg k).s.1.2)) := hrv.out 4 _ rfl
        have q14 : wu.cell? ⟨w.heap.size + 1, k * 9 + 5, none⟩ = some (.int .u64 (ub (V.rg k).s.2.1)) := hrv.out 5 _ rfl
        have q15 : wu.cell? ⟨w.heap.size + 1, k * 9 + 6, none⟩ = some (.int .u64 (ub (V.rg k).s.2.2)) := hrv.out 6 _ rfl
        have q16 : wu.cell? ⟨w.heap.size + 1, k * 9 + 7, none⟩ = some (.int .i64 (V.rg k).lo) := hrv.out 7 _ rfl
        have q17 : wu.cell? ⟨w.heap.size + 1, k * 9 + 8, none⟩ = some (.int .i64 (V.rg k).hi) := hrv.out 8 _ rfl
        go_region_held3 (fun w' => w'.cell? ⟨w.heap.size, k * 9, none⟩ = some (.int .u8 (S.rg k).k) ∧ w'.cell? ⟨w.heap.size, k * 9 + 1, none⟩ = some (.bool (S.rg k).l) ∧ w'.cell? ⟨w.heap.size, k * 9 + 2, none⟩ = some (.int .i64 (S.rg k).m) ∧ w'.cell? ⟨w.heap.size, k * 9 + 3, none⟩ = some (.int .u64 (ub (S.rg k).s.1.1)) ∧ w'.cell? ⟨w.heap.size, k * 9 + 4, none⟩ = some (.int .u64 (ub (S.rg k).s.1.2)) ∧ w'.cell? ⟨w.heap.size, k * 9 + 5, none⟩ = some (.int .u64 (ub (S.rg k).s.2.1)) ∧ w'.cell? ⟨w.heap.size, k * 9 + 6, none⟩ = some (.int .u64 (ub (S.rg k).s.2.2)) ∧ w'.cell? ⟨w.heap.size, k * 9 + 7, none⟩ = some (.int .i64 (S.rg k).lo) ∧ w'.cell? ⟨w.heap.size, k * 9 + 8, none⟩ = some (.int .i64 (S.rg k).hi) ∧ w'.cell? ⟨w.heap.size + 1, k * 9, none⟩ = some (.int .u8 (V.rg k).k) ∧ w'.cell? ⟨w.heap.size + 1, k * 9 + 1, none⟩ = some (.bool (V.rg k).l) ∧ w'.cell? ⟨w.heap.size + 1, k * 9 + 2, none⟩ = some (.int .i64 (V.rg k).m) ∧ w'.cell? ⟨w.heap.size + 1, k * 9 + 3, none⟩ = some (.int .u64 (ub (V.rg k).s.1.1)) ∧ w'.cell? ⟨w.heap.size + 1, k * 9 + 4, none⟩ = some (.int .u64 (ub (V.rg k).s.1.2)) ∧ w'.cell? ⟨w.heap.size + 1, k * 9 + 5, none⟩ = some (.int .u64 (ub (V.rg k).s.2.1)) ∧ w'.cell? ⟨w.heap.size + 1, k * 9 + 6, none⟩ = some (.int .u64 (ub (V.rg k).s.2.2)) ∧ w'.cell? ⟨w.heap.size + 1, k * 9 + 7, none⟩ = some (.int .i64 (V.rg k).lo) ∧ w'.cell? ⟨w.heap.size + 1, k * 9 + 8, none⟩ = some (.int .i64 (V.rg k).hi) ∧ Below wu.heap.size wu w')
          (first | (go_split_ands; with_reducible exact ⟨by with_reducible assumption, by with_reducible assumption, by with_reducible assumption, by with_reducible assumption, by with_reducible assumption, by with_reducible assumption, by with_reducible assumption, by with_reducible assumption, by with_reducible assumption, by with_reducible assumption, by with_reducible assumption, by with_reducible assumption, by with_reducible assumption, by with_reducible assumption, by with_reducible assumption, by with_reducible assumption, by with_reducible assumption, by with_reducible assumption, by with_reducible assumption⟩) | (with_reducible exact ⟨cn bq (by with_reducible assumption), cn bq (by with_reducible assumption), cn bq (by with_reducible assumption), cn bq (by with_reducible assumption), cn bq (by with_reducible assumption), cn bq (by with_reducible assumption), cn bq (by with_reducible assumption), cn bq (by with_reducible assumption), cn bq (by with_reducible assumption), cn bq (by with_reducible assumption), cn bq (by with_reducible assumption), cn bq (by with_reducible assumption), cn bq (by with_reducible assumption), cn bq (by with_reducible assumption), cn bq (by with_reducible assumption), cn bq (by with_reducible assumption), cn bq (by with_reducible assumption), cn bq (by with_reducible assumption), below_next (by with_reducible assumption) bq⟩) | (with_reducible exact ⟨cn (below_dr wu) q0, cn (below_dr wu) q1, cn (below_dr wu) q2, cn (below_dr wu) q3, cn (below_dr wu) q4, cn (below_dr wu) q5, cn (below_dr wu) q6, cn (below_dr wu) q7, cn (below_dr wu) q8, cn (below_dr wu) q9, cn (below_dr wu) q10, cn (below_dr wu) q11, cn (below_dr wu) q12, cn (below_dr wu) q13, cn (below_dr wu) q14, cn (below_dr wu) q15, cn (below_dr wu) q16, cn (below_dr wu) q17, below_dr wu⟩))
          (first | (go_at_call 191; go_split_ands; (with_reducible refine (HRk.out _).mono ?_); rintro e wq ⟨rfl, bq⟩))
        go_split_ands
        have zq : Below wu.heap.size wu wq := by with_reducible assumption
        clear bq q0 q1 q2 q3 q4 q5 q6 q7 q8 q9 q10 q11 q12 q13 q14 q15 q16 q17
        have I4 := hid (I3.out.next zq (I3.out.bel.size))
        go_wp2
        go_ret
        refine ⟨Me.ret_val ?_, I4.out.bel⟩
        rw [HRR.out, allR_no hlt hbb.out, Bool.false_and, Bool.and_false, Bool.and_false, Bool.and_false]
        rfl
      · rw [hb] at HRk
        have hbb := hid hb
        clear hb
        unfold rV at HRk
        go_wp2_with fail
        have q0 : wu.cell? ⟨w.heap.size, k * 9, none⟩ = some (.int .u8 (S.rg k).k) := hrk.out 0 _ rfl
        have q1 : wu.cell? ⟨w.heap.size, k * 9 + 1, none⟩ = some (.bool (S.rg k).l) := hrk.out 1 _ rfl
        have q2 : wu.cell? ⟨w.heap.size, k * 9 + 2, none⟩ = some (.int .i64 (S.rg k).m) := hrk.out 2 _ rfl
        have q3 : wu.cell? ⟨w.heap.size, k * 9 + 3, none⟩ = some (.int .u64 (ub (S.rg k).s.1.1)) := hrk.out 3 _ rfl
        have q4 : wu.cell? ⟨w.heap.size, k * 9 + 4, none⟩ = some (.int .u64 (ub (S.rg k).s.1.2)) := hrk.out 4 _ rfl
        have q5 : wu.cell? ⟨w.heap.size, k * 9 + 5, none⟩ = some (.int .u64 (ub (S.rg k).s.2.1)) := hrk.out 5 _ rfl
        have q6 : wu.cell? ⟨w.heap.size, k * 9 + 6, none⟩ = some (.int .u64 (ub (S.rg k).s.2.2)) := hrk.out 6 _ rfl
        have q7 : wu.cell? ⟨w.heap.size, k * 9 + 7, none⟩ = some (.int .i64 (S.rg k).lo) := hrk.out 7 _ rfl
        have q8 : wu.cell? ⟨w.heap.size, k * 9 + 8, none⟩ = some (.int .i64 (S.rg k).hi) := hrk.out 8 _ rfl
        have q9 : wu.cell? ⟨w.heap.size + 1, k * 9, none⟩ = some (.int .u8 (V.rg k).k) := hrv.out 0 _ rfl
        have q10 : wu.cell? ⟨w.heap.size + 1, k * 9 + 1, none⟩ = some (.bool (V.rg k).l) := hrv.out 1 _ rfl
        have q11 : wu.cell? ⟨w.heap.size + 1, k * 9 + 2, none⟩ = some (.int .i64 (V.rg k).m) := hrv.out 2 _ rfl
        have q12 : wu.cell? ⟨w.heap.size + 1, k * 9 + 3, none⟩ = some (.int .u64 (ub (V.rg k).s.1.1)) := hrv.out 3 _ rfl
        have q13 : wu.cell? ⟨w.heap.size + 1, k * 9 + 4, none⟩ = some (.int .u64 (ub (V.rg k).s.1.2)) := hrv.out 4 _ rfl
        have q14 : wu.cell? ⟨w.heap.size + 1, k * 9 + 5, none⟩ = some (.int .u64 (ub (V.rg k).s.2.1)) := hrv.out 5 _ rfl
        have q15 : wu.cell? ⟨w.heap.size + 1, k * 9 + 6, none⟩ = some (.int .u64 (ub (V.rg k).s.2.2)) := hrv.out 6 _ rfl
        have q16 : wu.cell? ⟨w.heap.size + 1, k * 9 + 7, none⟩ = some (.int .i64 (V.rg k).lo) := hrv.out 7 _ rfl
        have q17 : wu.cell? ⟨w.heap.size + 1, k * 9 + 8, none⟩ = some (.int .i64 (V.rg k).hi) := hrv.out 8 _ rfl
        go_region_held3 (fun w' => w'.cell? ⟨w.heap.size, k * 9, none⟩ = some (.int .u8 (S.rg k).k) ∧ w'.cell? ⟨w.heap.size, k * 9 + 1, none⟩ = some (.bool (S.rg k).l) ∧ w'.cell? ⟨w.heap.size, k * 9 + 2, none⟩ = some (.int .i64 (S.rg k).m) ∧ w'.cell? ⟨w.heap.size, k * 9 + 3, none⟩ = some (.int .u64 (ub (S.rg k).s.1.1)) ∧ w'.cell? ⟨w.heap.size, k * 9 + 4, none⟩ = some (.int .u64 (ub (S.rg k).s.1.2)) ∧ w'.cell? ⟨w.heap.size, k * 9 + 5, none⟩ = some (.int .u64 (ub (S.rg k).s.2.1)) ∧ w'.cell? ⟨w.heap.size, k * 9 + 6, none⟩ = some (.int .u64 (ub (S.rg k).s.2.2)) ∧ w'.cell? ⟨w.heap.size, k * 9 + 7, none⟩ = some (.int .i64 (S.rg k).lo) ∧ w'.cell? ⟨w.heap.size, k * 9 + 8, none⟩ = some (.int .i64 (S.rg k).hi) ∧ w'.cell? ⟨w.heap.size + 1, k * 9, none⟩ = some (.int .u8 (V.rg k).k) ∧ w'.cell? ⟨w.heap.size + 1, k * 9 + 1, none⟩ = some (.bool (V.rg k).l) ∧ w'.cell? ⟨w.heap.size + 1, k * 9 + 2, none⟩ = some (.int .i64 (V.rg k).m) ∧ w'.cell? ⟨w.heap.size + 1, k * 9 + 3, none⟩ = some (.int .u64 (ub (V.rg k).s.1.1)) ∧ w'.cell? ⟨w.heap.size + 1, k * 9 + 4, none⟩ = some (.int .u64 (ub (V.rg k).s.1.2)) ∧ w'.cell? ⟨w.heap.size + 1, k * 9 + 5, none⟩ = some (.int .u64 (ub (V.rg k).s.2.1)) ∧ w'.cell? ⟨w.heap.size + 1, k * 9 + 6, none⟩ = some (.int .u64 (ub (V.rg k).s.2.2)) ∧ w'.cell? ⟨w.heap.size + 1, k * 9 + 7, none⟩ = some (.int .i64 (V.rg k).lo) ∧ w'.cell? ⟨w.heap.size + 1, k * 9 + 8, none⟩ = some (.int .i64 (V.rg k).hi) ∧ Below wu.heap.size wu w')
          (first | (go_split_ands; with_reducible exact ⟨by with_reducible assumption, by with_reducible assumption, by with_reducible assumption, by with_reducible assumption, by with_reducible assumption, by with_reducible assumption, by with_reducible assumption, by with_reducible assumption, by with_reducible assumption, by with_reducible assumption, by with_reducible assumption, by with_reducible assumption, by with_reducible assumption, by with_reducible assumption, by with_reducible assumption, by with_reducible assumption, by with_reducible assumption, by with_reducible assumption, by with_reducible assumption⟩) | (with_reducible exact ⟨cn bq (by with_reducible assumption), cn bq (by with_reducible assumption), cn bq (by with_reducible assumption), cn bq (by with_reducible assumption), cn bq (by with_reducible assumption), cn bq (by with_reducible assumption), cn bq (by with_reducible assumption), cn bq (by with_reducible assumption), cn bq (by with_reducible assumption), cn bq (by with_reducible assumption), cn bq (by with_reducible assumption), cn bq (by with_reducible assumption), cn bq (by with_reducible assumption), cn bq (by with_reducible assumption), cn bq (by with_reducible assumption), cn bq (by with_reducible assumption), cn bq (by with_reducible assumption), cn bq (by with_reducible assumption), below_next (by with_reducible assumption) bq⟩) | (with_reducible exact ⟨cn (below_dr wu) q0, cn (below_dr wu) q1, cn (below_dr wu) q2, cn (below_dr wu) q3, cn (below_dr wu) q4, cn (below_dr wu) q5, cn (below_dr wu) q6, cn (below_dr wu) q7, cn (below_dr wu) q8, cn (below_dr wu) q9, cn (below_dr wu) q10, cn (below_dr wu) q11, cn (below_dr wu) q12, cn (below_dr wu) q13, cn (below_dr wu) q14, cn (below_dr wu) q15, cn (below_dr wu) q16, cn (below_dr wu) q17, below_dr wu⟩))
          (first | (go_at_call 191; go_split_ands; (with_reducible refine (HRk.out _).mono ?_); rintro e wq ⟨rfl, bq⟩))
        go_split_ands
        have zq : Below wu.heap.size wu wq := by with_reducible assumption
        clear bq q0 q1 q2 q3 q4 q5 q6 q7 q8 q9 q10 q11 q12 q13 q14 q15 q16 q17
        have I4 := hid (I3.out.next zq (I3.out.bel.size))
        have J4 := hid (J3.out.next zq (J3.out.bel.size))
        go_wp2
        go_roundw
        case rel => first | exact ⟨k + 1, by omega, by go_num, hid (fun i hi => (Nat.lt_succ_iff_lt_or_eq.1 hi).elim (fun q => hP.out i q) (fun q => q ▸ hbb.out)), I4, J4⟩ | ((repeat apply Exists.intro); exact ⟨⟨k + 1, by omega, by go_num, hid (fun i hi => (Nat.lt_succ_iff_lt_or_eq.1 hi).elim (fun q => hP.out i q) (fun q => q ▸ hbb.out)), I4, J4⟩, rfl⟩)
        case measure => simp [intOf]; omega
    · have hk8 : k = 11 := by omega
      subst hk8
      have HA : Hid (allR (fun k => rIn (S.rg k) (V.rg k)) = true) := (allR_iff _).2 (fun i hi => hP.out i hi)
      clear hP HR hlt hk I0 J0 I1 J1 I2 J2
      go_wp2_with fail
      go_loopw [36] (fun i w' => ∃ k : Nat, k ≤ 64 ∧ i = .int .i64 k ∧ Hid (∀ j, j < k → kIn (S.sk j) (V.sk j) = true) ∧ Hid (RwI w.heap.size w w' w.heap.size (stC S)) ∧ Hid (RwI w.heap.size w w' (w.heap.size + 1) (stC V))) (fun i _ => 64 - (intOf i).toNat)
      case atStart => exact ⟨0, by omega, rfl, hid (fun j hj => by omega), I3, J3⟩
      case round =>
        obtain ⟨k, hk, rfl, hP, I4, J4⟩ := hrel
        by_cases hlt : k < 64
        · have hlt' : (k : Int) < 64 := by omega
          have hrk := hid (range_slot I4.out.r0 k hlt)
          have hrv := hid (range_slot J4.out.r0 k hlt)
          have HRk := hid (HK.out k hlt)
          obtain ⟨wu, rfl⟩ : ∃ wu : World, wu = wr := ⟨_, rfl⟩
          cases hb : kIn (S.sk k) (V.sk k)
          all_goals
            rw [hb] at HRk
            have hbb := hid hb
            clear hb
            unfold kV at HRk
            go_wp2_with fail
            have q0 : wu.cell? ⟨w.heap.size, 99 + k * 10, none⟩ = some (.int .u8 (vb (S.sk k).h)) := hrk.out 0 _ rfl
            have q1 : wu.cell? ⟨w.heap.size, 99 + k * 10 + 1, none⟩ = some (.int .u8 (S.sk k).r.k) := hrk.out 1 _ rfl
            have q2 : wu.cell? ⟨w.heap.size, 99 + k * 10 + 2, none⟩ = some (.bool (S.sk k).r.l) := hrk.out 2 _ rfl
            have q3 : wu.cell? ⟨w.heap.size, 99 + k * 10 + 3, none⟩ = some (.int .i64 (S.sk k).r.m) := hrk.out 3 _ rfl
            have q4 : wu.cell? ⟨w.heap.size, 99 + k * 10 + 4, none⟩ = some (.int .u64 (ub (S.sk k).r.s.1.1)) := hrk.out 4 _ rfl
            have q5 : wu.cell? ⟨w.heap.size, 99 + k * 10 + 5, none⟩ = some (.int .u64 (ub (S.sk k).r.s.1.2)) := hrk.out 5 _ rfl
            have q6 : wu.cell? ⟨w.heap.size, 99 + k * 10 + 6, none⟩ = some (.int .u64 (ub (S.sk k).r.s.2.1)) := hrk.out 6 _ rfl
            have q7 : wu.cell? ⟨w.heap.size, 99 + k * 10 + 7, none⟩ = some (.int .u64 (ub (S.sk k).r.s.2.2)) := hrk.out 7 _ rfl
            have q8 : wu.cell? ⟨w.heap.size, 99 + k * 10 + 8, none⟩ = some (.int .i64 (S.sk k).r.lo) := hrk.out 8 _ rfl
            have q9 : wu.cell? ⟨w.heap.size, 99 + k * 10 + 9, none⟩ = some (.int .i64 (S.sk k).r.hi) := hrk.out 9 _ rfl
            have q10 : wu.cell? ⟨w.heap.size + 1, 99 + k * 10, none⟩ = some (.int .u8 (vb (V.sk k).h)) := hrv.out 0 _ rfl
            have q11 : wu.cell? ⟨w.heap.size + 1, 99 + k * 10 + 1, none⟩ = some (.int .u8 (V.sk k).r.k) := hrv.out 1 _ rfl
            have q12 : wu.cell? ⟨w.heap.size + 1, 99 + k * 10 + 2, none⟩ = some (.bool (V.sk k).r.l) := hrv.out 2 _ rfl
            have q13 : wu.cell? ⟨w.heap.size + 1, 99 + k * 10 + 3, none⟩ = some (.int .i64 (V.sk k).r.m) := hrv.out 3 _ rfl
            have q14 : wu.cell? ⟨w.heap.size + 1, 99 + k * 10 + 4, none⟩ = some (.int .u64 (ub (V.sk k).r.s.1.1)) := hrv.out 4 _ rfl
            have q15 : wu.cell? ⟨w.heap.size + 1, 99 + k * 10 + 5, none⟩ = some (.int .u64 (ub (V.sk k).r.s.1.2)) := hrv.out 5 _ rfl
            have q16 : wu.cell? ⟨w.heap.size + 1, 99 + k * 10 + 6, none⟩ = some (.int .u64 (ub (V.sk k).r.s.2.1)) := hrv.out 6 _ rfl
            have q17 : wu.cell? ⟨w.heap.size + 1, 99 + k * 10 + 7, none⟩ = some (.int .u64 (ub (V.sk k).r.s.2.2)) := hrv.out 7 _ rfl
            have q18 : wu.cell? ⟨w.heap.size + 1, 99 + k * 10 + 8, none⟩ = some (.int .i64 (V.sk k).r.lo) := hrv.out 8 _ rfl
            have q19 : wu.cell? ⟨w.heap.size + 1, 99 + k * 10 + 9, none⟩ = some (.int .i64 (V.sk k).r.hi) := hrv.out 9 _ rfl
            go_region_held3 (fun w' => w'.cell? ⟨w.heap.size, 99 + k * 10, none⟩ = some (.int .u8 (vb (S.sk k).h)) ∧ w'.cell? ⟨w.heap.size, 99 + k * 10 + 1, none⟩ = some (.int .u8 (S.sk k).r.k) ∧ w'.cell? ⟨w.heap.size, 99 + k * 10 + 2, none⟩ = some (.bool (S.sk k).r.l) ∧ w'.cell? ⟨w.heap.size, 99 + k * 10 + 3, none⟩ = some (.int .i64 (S.sk k).r.m) ∧ w'.cell? ⟨w.heap.size, 99 + k * 10 + 4, none⟩ = some (.int .u64 (ub (S.sk k).r.s.1.1)) ∧ w'.cell? ⟨w.heap.size, 99 + k * 10 + 5, none⟩ = some (.int .u64 (ub (S.sk k).r.s.1.2)) ∧ w'.cell? ⟨w.heap.size, 99 + k * 10 + 6, none⟩ = some (.int .u64 (ub (S.sk k).r.s.2.1)) ∧ w'.cell? ⟨w.heap.size, 99 + k * 10 + 7, none⟩ = some (.int .u64 (ub (S.sk k).r.s.2.2)) ∧ w'.cell? ⟨w.heap.size, 99 + k * 10 + 8, none⟩ = some (.int .i64 (S.sk k).r.lo) ∧ w'.cell? ⟨w.heap.size, 99 + k * 10 + 9, none⟩ = some (.int .i64 (S.sk k).r.hi) ∧ w'.cell? ⟨w.heap.size + 1, 99 + k * 10, none⟩ = some (.int .u8 (vb (V.sk k).h)) ∧ w'.cell? ⟨w.heap.size + 1, 99 + k * 10 + 1, none⟩ = some (.int .u8 (V.sk k).r.k) ∧ w'.cell? ⟨w.heap.size + 1, 99 + k * 10 + 2, none⟩ = some (.bool (V.sk k).r.l) ∧ w'.cell? ⟨w.heap.size + 1, 99 + k * 10 + 3, none⟩ = some (.int .i64 (V.sk k).r.m) ∧ w'.cell? ⟨w.heap.size + 1, 99 + k * 10 + 4, none⟩ = some (.int .u64 (ub (V.sk k).r.s.1.1)) ∧ w'.cell? ⟨w.heap.size + 1, 99 + k * 10 + 5, none⟩ = some (.int .u64 (ub (V.sk k).r.s.1.2)) ∧ w'.cell? ⟨w.heap.size + 1, 99 + k * 10 + 6, none⟩ = some (.int .u64 (ub (V.sk k).r.s.2.1)) ∧ w'.cell? ⟨w.heap.size + 1, 99 + k * 10 + 7, none⟩ = some (.int .u64 (ub (V.sk k).r.s.2.2)) ∧ w'.cell? ⟨w.heap.size + 1, 99 + k * 10 + 8, none⟩ = some (.int .i64 (V.sk k).r.lo) ∧ w'.cell? ⟨w.heap.size + 1, 99 + k * 10 + 9, none⟩ = some (.int .i64 (V.sk k).r.hi) ∧ Below wu.heap.size wu w')
              (first | (go_split_ands; with_reducible exact ⟨by with_reducible assumption, by with_reducible assumption, by with_reducible assumption, by with_reducible assumption, by with_reducible assumption, by with_reducible assumption, by with_reducible assumption, by with_reducible assumption, by with_reducible assumption, by with_reducible assumption, by with_reducible assumption, by with_reducible assumption, by with_reducible assumption, by with_reducible assumption, by with_reducible assumption, by with_reducible assumption, by with_reducible assumption, by with_reducible assumption, by with_reducible assumption, by with_reducible assumption, by with_reducible assumption⟩) | (with_reducible exact ⟨cn bq (by with_reducible assumption), cn bq (by with_reducible assumption), cn bq (by with_reducible assumption), cn bq (by with_reducible assumption), cn bq (by with_reducible assumption), cn bq (by with_reducible assumption), cn bq (by with_reducible assumption), cn bq (by with_reducible assumption), cn bq (by with_reducible assumption), cn bq (by with_reducible assumption), cn bq (by with_reducible assumption), cn bq (by with_reducible assumption), cn bq (by with_reducible assumption), cn bq (by with_reducible assumption), cn bq (by with_reducible assumption), cn bq (by with_reducible assumption), cn bq (by with_reducible assumption), cn bq (by with_reducible assumption), cn bq (by with_reducible assumption), cn bq (by with_reducible assumption), below_next (by with_reducible assumption) bq⟩) | (with_reducible exact ⟨cn (below_dr wu) q0, cn (below_dr wu) q1, cn (below_dr wu) q2, cn (below_dr wu) q3, cn (below_dr wu) q4, cn (below_dr wu) q5, cn (below_dr wu) q6, cn (below_dr wu) q7, cn (below_dr wu) q8, cn (below_dr wu) q9, cn (below_dr wu) q10, cn (below_dr wu) q11, cn (below_dr wu) q12, cn (below_dr wu) q13, cn (below_dr wu) q14, cn (below_dr wu) q15, cn (below_dr wu) q16, cn (below_dr wu) q17, cn (below_dr wu) q18, cn (below_dr wu) q19, below_dr wu⟩))
              (first | (go_at_call 192; go_split_ands; (with_reducible refine (HRk.out _).mono ?_); rintro e wq ⟨rfl, bq⟩))
            go_split_ands
            have zq : Below wu.heap.size wu wq := by with_reducible assumption
            clear bq q0 q1 q2 q3 q4 q5 q6 q7 q8 q9 q10 q11 q12 q13 q14 q15 q16 q17 q18 q19
          · have I5 := hid (I4.out.next zq (I4.out.bel.size))
            go_wp2
            go_ret
            refine ⟨Me.ret_val ?_, I5.out.bel⟩
            rw [HRR.out, allK_no hlt (by exact hbb.out), Bool.and_false, Bool.and_false, Bool.and_false, Bool.and_false]
            rfl
          · have I5 := hid (I4.out.next zq (I4.out.bel.size))
            have J5 := hid (J4.out.next zq (J4.out.bel.size))
            go_wp2
            go_roundw
            case rel => first | exact ⟨k + 1, by omega, by go_num, hid (fun i hi => (Nat.lt_succ_iff_lt_or_eq.1 hi).elim (fun q => hP.out i q) (fun q => by subst q; exact hbb.out)), I5, J5⟩ | ((repeat apply Exists.intro); exact ⟨⟨k + 1, by omega, by go_num, hid (fun i hi => (Nat.lt_succ_iff_lt_or_eq.1 hi).elim (fun q => hP.out i q) (fun q => by subst q; exact hbb.out)), I5, J5⟩, rfl⟩)
            case measure => simp [intOf]; omega
        · have hk8 : k = 64 := by omega
          subst hk8
          have HB : Hid (allK (fun k => kIn (S.sk k) (V.sk k)) = true) := (allK_iff _).2 (fun i hi => hP.out i hi)
          go_wp2
          go_ret
          refine ⟨Me.ret_val ?_, I4.out.bel⟩
          rw [HRR.out, hsm'.out, hvm'.out, HA.out, HB.out]
          rfl
end Go.Proofs.YtjcnpjidkimldaaGreatDoor
