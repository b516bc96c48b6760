/-
  Contract of the document's Holds (layer 12).
-/
import Derived.Test.YtoanbjnhoggpjaaJShhB
import Derived.Test.YtoanbjnhoggpjaaJShhR
import Derived.Test.YtoanbjnhoggpjaaJSiD
import Derived.Test.YtoanbjnhoggpjaaJStVo
import Derived.Deep.MidRow
import Derived.Deep.RegionHeld3
namespace Go.Proofs.Ytoanbjnhoggpjaa
set_option linter.unusedSimpArgs false
set_option linter.unusedVariables false
set_option maxRecDepth 100000
open Go.ChangeShapes Go.WideShapes Go.ChangeAt Go.RowKit Me

theorem range_vslot {W : World} {g : Nat} {V : Vw} (hV : FOk V.fr) (hr : W.rangeAt g 0 (vwC V)) (k : Nat) (hk : k < 64) : W.rangeAt g (44 + k * 13) (sC (V.fr k)) := fun j v hv => by
  have hj : j < 13 := by
    have := (List.getElem?_eq_some_iff.1 hv).1
    rwa [sC_len (hV k hk).2.1] at this
  have := vw_cell_s hV hr k j hk hj
  rw [hv] at this
  rwa [← Nat.add_assoc] at this
theorem upB_and (n : Nat) (f g : Nat → Bool) : upB n (fun k => f k && g k) = (upB n f && upB n g) := by
  induction n with
  | zero => rfl
  | succ n ih => rw [upB_succ, upB_succ, upB_succ, ih]; cases upB n f <;> cases upB n g <;> cases f n <;> cases g n <;> rfl
theorem infV4 : (Try.prog.info? 44).map (·.size) = some 4 := by kernel_rfl
theorem infS13 : (Try.prog.info? 48).map (·.size) = some 13 := by kernel_rfl
theorem infF832 : (Try.prog.info? 50).map (·.size) = some 832 := by kernel_rfl
theorem holds_doc (S : St) (V : Vw) : sHolds S V = (((sMay S && (rightF V.fr && (decide (S.p ≤ V.p) && decide (V.p ≤ 65535)))) && upB 11 (fun k => mayB (V.vs k) && rHolds (S.rg k) (V.vs k) V.p)) && upB 64 (fun k => kHolds (S.sk k) (V.fr k) V.p)) := by
  rw [upB_and]
  unfold sHolds wMay lenB allR allK
  cases hs : sMay S
  · simp
  · have h0 : 0 ≤ S.p := ((sMay_iff S).1 hs).2.2.1
    by_cases hp : S.p ≤ V.p
    · rw [decide_eq_true hp, decide_eq_true (by omega : 0 ≤ V.p)]
      unfold upB
      generalize (List.range 11).all (fun k => mayB (V.vs k)) = a
      generalize (List.range 11).all (fun k => rHolds (S.rg k) (V.vs k) V.p) = b
      generalize (List.range 64).all (fun k => kHolds (S.sk k) (V.fr k) V.p) = c
      generalize rightF V.fr = d
      generalize decide (V.p ≤ 65535) = e
      cases a <;> cases b <;> cases c <;> cases d <;> cases e <;> rfl
    · rw [decide_eq_false hp]
      simp
set_option maxHeartbeats 16000000 in
theorem rHoldsS_any (S : St) (V : Vw) (hS : StOk S) (hV : VwOk V) (w : World) : Calls Try.prog 24 #[stV S, vwV V] w fun e w' => e = .returned (.bool (sHolds S V)) ∧ Below w.heap.size w w' := by
  have HM : Hid (∀ W, Calls Try.prog 19 #[.agg (stC S).toArray] W fun e w' => e = .returned (.bool (sMay S)) ∧ Below W.heap.size W w') := hid fun W => rMayS_any S hS W
  have HN : Hid (∀ W, Calls Try.prog 80 #[.agg (fC V.fr).toArray] W fun e w' => e = .returned (.bool (rightF V.fr)) ∧ Below W.heap.size W w') := hid fun W => Me.rRight_any V.fr W hV.2.1
  have HV : Hid (∀ k, k < 11 → ∀ W, Calls Try.prog 81 #[.agg (vC (V.vs k)).toArray] W fun e w' => e = .returned (.bool (mayB (V.vs k))) ∧ Below W.heap.size W w') := hid fun k hk W => Me.rmay_any (V.vs k) W
  have HR0 : Hid (sMay S = true → 0 ≤ V.p → V.p ≤ 65535 → ∀ k, k < 11 → mayB (V.vs k) = true → ∀ W, Calls Try.prog 82 #[.agg (rC (S.rg k)).toArray, .agg (vC (V.vs k)).toArray, .int .i64 V.p] W fun e w' => e = .returned (.bool (rHolds (S.rg k) (V.vs k) V.p)) ∧ Below W.heap.size W w') := hid fun ha h0 h1 k hk hm W => rHoldsReg_any (S.rg k) (V.vs k) V.p (((sMay_iff S).1 ha).1 k hk) hm (hV.1 k hk) h0 h1 W
  have HK0 : Hid (sMay S = true → rightF V.fr = true → 0 ≤ V.p → V.p ≤ 65535 → ∀ k, k < 64 → ∀ W, Calls Try.prog 83 #[.agg (kC (S.sk k)).toArray, .agg (sC (V.fr k)).toArray, .int .i64 V.p] W fun e w' => e = .returned (.bool (kHolds (S.sk k) (V.fr k) V.p)) ∧ Below W.heap.size W w') := hid fun ha hr h0 h1 k hk W => rHoldsSlot_any (S.sk k) (V.fr k) V.p (((sMay_iff S).1 ha).2.1 k hk) ((List.all_eq_true.1 hr) k (List.mem_range.2 hk)) (hV.2.1 k hk) h0 h1 W
  have hr := holds_doc S V
  generalize hRR : sHolds S V = R at hr ⊢
  have a0 := RwT.new (g := w.heap.size) (n := 740) (w := w) (W := w) (cs := stC S) 37 (Below.refl _ _) (Nat.le_refl _) (stC_len S).symm
  have b0 := RwT.new (g := w.heap.size) (n := 877) (w := w) (cs := vwC V) 52 a0.i.bel (by simp) (vwC_len V hV.2.1).symm
  have I0 := (a0.alloc (by simp) (.cells (vwC V).toArray 52)).i
  have J0 := b0.i
  have e1 : (w.alloc (.cells (stC S).toArray 37)).heap.size = w.heap.size + 1 := by simp
  rw [e1] at J0
  have hia : Hid ((Try.prog.info? 37).map (·.size) = some (stC S).length) := hid (by rw [stC_len]; exact yinfo36)
  have hif : Hid ((Try.prog.info? 50).map (·.size) = some (fC V.fr).length) := hid (by rw [Me.fC_len hV.2.1]; exact infF832)
  have hFO : Hid (FOk V.fr) := hid hV.2.1
  have hSM : Hid (sMay S = true → 0 ≤ S.p) := hid fun h => ((sMay_iff S).1 h).2.2.1
  unfold stV vwV
  obtain ⟨CA, hCA⟩ : ∃ CF, (stC S).toArray = CF := ⟨_, rfl⟩
  obtain ⟨CB, hCB⟩ : ∃ CF, (vwC V).toArray = CF := ⟨_, rfl⟩
  rw [hCA, hCB] at I0 J0
  rw [hCA] at HM
  rw [hCA, hCB]
  replace hCA := hid hCA
  clear a0 b0 e1 hS hV hRR hCB
  cases hma : sMay S
  · rw [hma] at HM hr
    rw [Bool.false_and] at hr
    have HRR := hid hr
    clear hr hma HN HV HR0 HK0 hSM
    go_enter Try.func24, Try.ntmps24
    refine wp_seq ?_
    refine Code.wp_mono (Q := CutX fun a' W' => (RwI w.heap.size w W' w.heap.size (stC S) ∧ RwI w.heap.size w W' (w.heap.size + 1) (vwC V)) ∧ a' = ⟨#[.agg CA, .agg CB, .pointer (some ⟨w.heap.size, 0, none⟩), .pointer (some ⟨w.heap.size + 1, 0, none⟩), .bool false, undef, undef, undef, undef, undef, undef, undef, undef, undef, undef, undef, undef, undef, undef, undef, undef, undef, undef, undef, undef, undef, undef, undef, undef, undef, undef, undef, undef, undef, undef, undef, undef, undef, undef, undef, undef, undef, undef, undef, undef, undef, undef, undef, undef, undef, undef, undef, undef, undef, undef, undef, undef, undef, undef, undef, undef, undef, undef, undef, undef, undef, undef, undef, undef, undef, undef], []⟩) (CutX.imp ?_) ?_
    rotate_left
    · go_wp2
      exact ⟨⟨I0, J0⟩, rfl⟩
    clear I0 J0
    rintro a' w0 ⟨⟨I1, J1⟩, rfl⟩
    have I0 := hid I1
    have J0 := hid J1
    clear I1 J1
    go_wp2_with (((with_reducible refine at_ldx (d := some 8) 37 ?_); refine wpList_load_gx (by rfl) 37 _ rfl w.heap.size 0 rfl (stC S) _ I0.out.r0 Try.underlying37 rfl hia.out ?_))
    rw [hCA.out]
    refine (HM.out _).mono ?_
    rintro e w1 ⟨rfl, z⟩
    have I2 := hid (I0.out.next z (by have := I0.out.bel.size; omega))
    have J2 := hid (J0.out.next z (by have := I0.out.bel.size; omega))
    clear I0 J0 z
    have I0 := I2
    have J0 := J2
    clear I2 J2
    clear HM hCA hia hif hFO
    go_wp2_with fail
    go_loopw [5, 6] (fun o i w' => ∃ (k : Nat) (q : Bool), k ≤ 11 ∧ o = .bool q ∧ i = .int .i64 k ∧ Hid (q = (false && upB k (fun j => mayB (V.vs j) && rHolds (S.rg j) (V.vs j) V.p))) ∧ Hid (RwI w.heap.size w w' w.heap.size (stC S)) ∧ Hid (RwI w.heap.size w w' (w.heap.size + 1) (vwC V))) (fun o i _ => 11 - (intOf i).toNat)
    case atStart => exact ⟨0, _, by omega, rfl, rfl, hid (by rw [upB_zero, Bool.and_true]; try first | exact decide_eq_false (by omega) | exact decide_eq_true (by omega)), I0, J0⟩
    case round =>
      obtain ⟨k, q, hk, rfl, rfl, hq, I0, J0⟩ := hrel
      by_cases hlt : k < 11
      · have hlt' : (k : Int) < 11 := by omega
        rcases (show q = false ∨ q = true by cases q <;> simp) with rfl | rfl
        · go_wp2_with fail
          refine wp_region_held_drew (S := (fun w' : World => Below wr.heap.size wr w')) (by kernel_rfl) ?_ (fun hHeld => ?_)
          · (try dsimp only); first | (with_reducible exact below_dr _) | (with_reducible exact Below.refl _ _) | exact below_dr _
          have hBk := below_dr wr
          refine tq 0 rfl (fun _ hS => by go_simp; try with_reducible rfl) ?_
          try simp only [s1, s2, s3]
          refine tq 1 rfl (fun _ hS => by go_simp; try with_reducible rfl) ?_
          try simp only [s1, s2, s3]
          refine ts 2 rfl ?_
          try simp only [s1, s2, s3]
          refine ts 3 rfl ?_
          try simp only [s1, s2, s3]
          refine ts 4 rfl ?_
          try simp only [s1, s2, s3]
          refine ts 5 rfl ?_
          try simp only [s1, s2, s3]
          refine ts 6 rfl ?_
          try simp only [s1, s2, s3]
          refine tq 7 rfl (fun _ hS => by go_simp; try with_reducible rfl) ?_
          try simp only [s1, s2, s3]
          refine tq 8 rfl (fun _ hS => by go_simp; try with_reducible rfl) ?_
          try simp only [s1, s2, s3]
          refine ts 9 rfl ?_
          try simp only [s1, s2, s3]
          refine ts 10 rfl ?_
          try simp only [s1, s2, s3]
          refine ts 11 rfl ?_
          try simp only [s1, s2, s3]
          refine ts 12 rfl ?_
          try simp only [s1, s2, s3]
          refine ts 13 rfl ?_
          try simp only [s1, s2, s3]
          refine ts 14 rfl ?_
          try simp only [s1, s2, s3]
          refine ts 15 rfl ?_
          try simp only [s1, s2, s3]
          refine ts 16 rfl ?_
          try simp only [s1, s2, s3]
          refine ts 17 rfl ?_
          try simp only [s1, s2, s3]
          refine ts 18 rfl ?_
          try simp only [s1, s2, s3]
          refine ts 19 rfl ?_
          try simp only [s1, s2, s3]
          refine tq 20 rfl (fun _ hS => by go_simp; try with_reducible rfl) ?_
          try simp only [s1, s2, s3]
          refine tq 21 rfl (fun _ hS => by go_simp; try with_reducible rfl) ?_
          try simp only [s1, s2, s3]
          refine wpAnyH_done (by kernel_rfl) ?_ _
          have I2 := hid (I0.out.next hBk (by have := I0.out.bel.size; omega))
          have J2 := hid (J0.out.next hBk (by have := I0.out.bel.size; omega))
          clear I0 J0 hBk
          have I0 := I2
          have J0 := J2
          clear I2 J2
          go_wp2
          go_roundw
          case rel => first | exact ⟨k + 1, false, by omega, rfl, by go_num, hid (by rw [upB_succ k, ← Bool.and_assoc, ← hq.out]; rfl), I0, J0⟩ | ((repeat apply Exists.intro); exact ⟨⟨k + 1, false, by omega, rfl, by go_num, hid (by rw [upB_succ k, ← Bool.and_assoc, ← hq.out]; rfl), I0, J0⟩, rfl⟩)
          case measure => simp [intOf]; omega
        · exact absurd hq.out (by simp)
      · have hk8 : k = 11 := by omega
        subst hk8
        clear hlt hk
        have hQ := hq
        clear hq
        go_wp2_with fail
        go_loopw [5, 7] (fun o i w' => ∃ (k : Nat) (q : Bool), k ≤ 64 ∧ o = .bool q ∧ i = .int .i64 k ∧ Hid (q = ((false && upB 11 (fun j => mayB (V.vs j) && rHolds (S.rg j) (V.vs j) V.p)) && upB k (fun j => kHolds (S.sk j) (V.fr j) V.p))) ∧ Hid (RwI w.heap.size w w' w.heap.size (stC S)) ∧ Hid (RwI w.heap.size w w' (w.heap.size + 1) (vwC V))) (fun o i _ => 64 - (intOf i).toNat)
        case atStart => exact ⟨0, _, by omega, rfl, rfl, hid (by rw [upB_zero, Bool.and_true]; exact hQ.out), I0, J0⟩
        case round =>
          obtain ⟨k, q, hk, rfl, rfl, hq, I0, J0⟩ := hrel
          by_cases hlt : k < 64
          · have hlt' : (k : Int) < 64 := by omega
            rcases (show q = false ∨ q = true by cases q <;> simp) with rfl | rfl
            · go_wp2_with fail
              refine wp_region_held_drew (S := (fun w' : World => Below wr.heap.size wr w')) (by kernel_rfl) ?_ (fun hHeld => ?_)
              · (try dsimp only); first | (with_reducible exact below_dr _) | (with_reducible exact Below.refl _ _) | exact below_dr _
              have hBk := below_dr wr
              refine tq 0 rfl (fun _ hS => by go_simp; try with_reducible rfl) ?_
              try simp only [s1, s2, s3]
              refine tq 1 rfl (fun _ hS => by go_simp; try with_reducible rfl) ?_
              try simp only [s1, s2, s3]
              refine ts 2 rfl ?_
              try simp only [s1, s2, s3]
              refine ts 3 rfl ?_
              try simp only [s1, s2, s3]
              refine ts 4 rfl ?_
              try simp only [s1, s2, s3]
              refine ts 5 rfl ?_
              try simp only [s1, s2, s3]
              refine ts 6 rfl ?_
              try simp only [s1, s2, s3]
              refine ts 7 rfl ?_
              try simp only [s1, s2, s3]
              refine ts 8 rfl ?_
              try simp only [s1, s2, s3]
              refine ts 9 rfl ?_
              try simp only [s1, s2, s3]
              refine ts 10 rfl ?_
              try simp only [s1, s2, s3]
              refine ts 11 rfl ?_
              try simp only [s1, s2, s3]
              refine ts 12 rfl ?_
              try simp only [s1, s2, s3]
              refine tq 13 rfl (fun _ hS => by go_simp; try with_reducible rfl) ?_
              try simp only [s1, s2, s3]
              refine tq 14 rfl (fun _ hS => by go_simp; try with_reducible rfl) ?_
              try simp only [s1, s2, s3]
              refine wpAnyH_done (by kernel_rfl) ?_ _
              have I2 := hid (I0.out.next hBk (by have := I0.out.bel.size; omega))
              have J2 := hid (J0.out.next hBk (by have := I0.out.bel.size; omega))
              clear I0 J0 hBk
              have I0 := I2
              have J0 := J2
              clear I2 J2
              go_wp2
              go_roundw
              case rel => first | exact ⟨k + 1, false, by omega, rfl, by go_num, hid (by rw [upB_succ k, ← Bool.and_assoc, ← hq.out]; rfl), I0, J0⟩ | ((repeat apply Exists.intro); exact ⟨⟨k + 1, false, by omega, rfl, by go_num, hid (by rw [upB_succ k, ← Bool.and_assoc, ← hq.out]; rfl), I0, J0⟩, rfl⟩)
              case measure => simp [intOf]; omega
            · exact absurd hq.out (by simp)
          · have hk8 : k = 64 := by omega
            subst hk8
            clear hlt hk
            clear hQ
            go_wp2
            go_ret
            refine ⟨Me.ret_val ?_, I0.out.bel⟩
            rw [HRR.out, ← hq.out]
            rfl
  rw [hma] at HM hr
  rw [Bool.true_and] at hr
  cases hmr : rightF V.fr
  · rw [hmr] at HN hr
    rw [Bool.false_and] at hr
    have HRR := hid hr
    clear hr hma hmr HV HR0 HK0 hSM
    go_enter Try.func24, Try.ntmps24
    refine wp_seq ?_
    refine Code.wp_mono (Q := CutX fun a' W' => (RwI w.heap.size w W' w.heap.size (stC S) ∧ RwI w.heap.size w W' (w.heap.size + 1) (vwC V)) ∧ a' = ⟨#[.agg CA, .agg CB, .pointer (some ⟨w.heap.size, 0, none⟩), .pointer (some ⟨w.heap.size + 1, 0, none⟩), .bool false, undef, undef, undef, undef, undef, undef, undef, undef, undef, undef, undef, undef, undef, undef, undef, undef, undef, undef, undef, undef, undef, undef, undef, undef, undef, undef, undef, undef, undef, undef, undef, undef, undef, undef, undef, undef, undef, undef, undef, undef, undef, undef, undef, undef, undef, undef, undef, undef, undef, undef, undef, undef, undef, undef, undef, undef, undef, undef, undef, undef, undef, undef, undef, undef, undef, undef], []⟩) (CutX.imp ?_) ?_
    rotate_left
    · go_wp2
      exact ⟨⟨I0, J0⟩, rfl⟩
    clear I0 J0
    rintro a' w0 ⟨⟨I1, J1⟩, rfl⟩
    have I0 := hid I1
    have J0 := hid J1
    clear I1 J1
    go_wp2_with (((with_reducible refine at_ldx (d := some 8) 37 ?_); refine wpList_load_gx (by rfl) 37 _ rfl w.heap.size 0 rfl (stC S) _ I0.out.r0 Try.underlying37 rfl hia.out ?_))
    rw [hCA.out]
    refine (HM.out _).mono ?_
    rintro e w1 ⟨rfl, z⟩
    have I2 := hid (I0.out.next z (by have := I0.out.bel.size; omega))
    have J2 := hid (J0.out.next z (by have := I0.out.bel.size; omega))
    clear I0 J0 z
    have I0 := I2
    have J0 := J2
    clear I2 J2
    go_wp2_with (((with_reducible refine at_ldx (d := some 12) 50 ?_); refine wpList_load_gx (by rfl) 50 _ rfl (w.heap.size + 1) 44 rfl (fC V.fr) _ (range_frame hFO.out J0.out.r0) Try.underlying50 rfl hif.out ?_))
    refine (HN.out _).mono ?_
    rintro e w2 ⟨rfl, z⟩
    have I2 := hid (I0.out.next z (by have := I0.out.bel.size; omega))
    have J2 := hid (J0.out.next z (by have := I0.out.bel.size; omega))
    clear I0 J0 z
    have I0 := I2
    have J0 := J2
    clear I2 J2
    clear HM HN hCA hia hif hFO
    go_wp2_with fail
    go_loopw [5, 6] (fun o i w' => ∃ (k : Nat) (q : Bool), k ≤ 11 ∧ o = .bool q ∧ i = .int .i64 k ∧ Hid (q = (false && upB k (fun j => mayB (V.vs j) && rHolds (S.rg j) (V.vs j) V.p))) ∧ Hid (RwI w.heap.size w w' w.heap.size (stC S)) ∧ Hid (RwI w.heap.size w w' (w.heap.size + 1) (vwC V))) (fun o i _ => 11 - (intOf i).toNat)
    case atStart => exact ⟨0, _, by omega, rfl, rfl, hid (by rw [upB_zero, Bool.and_true]; try first | exact decide_eq_false (by omega) | exact decide_eq_true (by omega)), I0, J0⟩
    case round =>
      obtain ⟨k, q, hk, rfl, rfl, hq, I0, J0⟩ := hrel
      by_cases hlt : k < 11
      · have hlt' : (k : Int) < 11 := by omega
        rcases (show q = false ∨ q = true by cases q <;> simp) with rfl | rfl
        · go_wp2_with fail
          refine wp_region_held_drew (S := (fun w' : World => Below wr.heap.size wr w')) (by kernel_rfl) ?_ (fun hHeld => ?_)
          · (try dsimp only); first | (with_reducible exact below_dr _) | (with_reducible exact Below.refl _ _) | exact below_dr _
          have hBk := below_dr wr
          refine tq 0 rfl (fun _ hS => by go_simp; try with_reducible rfl) ?_
          try simp only [s1, s2, s3]
          refine tq 1 rfl (fun _ hS => by go_simp; try with_reducible rfl) ?_
          try simp only [s1, s2, s3]
          refine ts 2 rfl ?_
          try simp only [s1, s2, s3]
          refine ts 3 rfl ?_
          try simp only [s1, s2, s3]
          refine ts 4 rfl ?_
          try simp only [s1, s2, s3]
          refine ts 5 rfl ?_
          try simp only [s1, s2, s3]
          refine ts 6 rfl ?_
          try simp only [s1, s2, s3]
          refine tq 7 rfl (fun _ hS => by go_simp; try with_reducible rfl) ?_
          try simp only [s1, s2, s3]
          refine tq 8 rfl (fun _ hS => by go_simp; try with_reducible rfl) ?_
          try simp only [s1, s2, s3]
          refine ts 9 rfl ?_
          try simp only [s1, s2, s3]
          refine ts 10 rfl ?_
          try simp only [s1, s2, s3]
          refine ts 11 rfl ?_
          try simp only [s1, s2, s3]
          refine ts 12 rfl ?_
          try simp only [s1, s2, s3]
          refine ts 13 rfl ?_
          try simp only [s1, s2, s3]
          refine ts 14 rfl ?_
          try simp only [s1, s2, s3]
          refine ts 15 rfl ?_
          try simp only [s1, s2, s3]
          refine ts 16 rfl ?_
          try simp only [s1, s2, s3]
          refine ts 17 rfl ?_
          try simp only [s1, s2, s3]
          refine ts 18 rfl ?_
          try simp only [s1, s2, s3]
          refine ts 19 rfl ?_
          try simp only [s1, s2, s3]
          refine tq 20 rfl (fun _ hS => by go_simp; try with_reducible rfl) ?_
          try simp only [s1, s2, s3]
          refine tq 21 rfl (fun _ hS => by go_simp; try with_reducible rfl) ?_
          try simp only [s1, s2, s3]
          refine wpAnyH_done (by kernel_rfl) ?_ _
          have I2 := hid (I0.out.next hBk (by have := I0.out.bel.size; omega))
          have J2 := hid (J0.out.next hBk (by have := I0.out.bel.size; omega))
          clear I0 J0 hBk
          have I0 := I2
          have J0 := J2
          clear I2 J2
          go_wp2
          go_roundw
          case rel => first | exact ⟨k + 1, false, by omega, rfl, by go_num, hid (by rw [upB_succ k, ← Bool.and_assoc, ← hq.out]; rfl), I0, J0⟩ | ((repeat apply Exists.intro); exact ⟨⟨k + 1, false, by omega, rfl, by go_num, hid (by rw [upB_succ k, ← Bool.and_assoc, ← hq.out]; rfl), I0, J0⟩, rfl⟩)
          case measure => simp [intOf]; omega
        · exact absurd hq.out (by simp)
      · have hk8 : k = 11 := by omega
        subst hk8
        clear hlt hk
        have hQ := hq
        clear hq
        go_wp2_with fail
        go_loopw [5, 7] (fun o i w' => ∃ (k : Nat) (q : Bool), k ≤ 64 ∧ o = .bool q ∧ i = .int .i64 k ∧ Hid (q = ((false && upB 11 (fun j => mayB (V.vs j) && rHolds (S.rg j) (V.vs j) V.p)) && upB k (fun j => kHolds (S.sk j) (V.fr j) V.p))) ∧ Hid (RwI w.heap.size w w' w.heap.size (stC S)) ∧ Hid (RwI w.heap.size w w' (w.heap.size + 1) (vwC V))) (fun o i _ => 64 - (intOf i).toNat)
        case atStart => exact ⟨0, _, by omega, rfl, rfl, hid (by rw [upB_zero, Bool.and_true]; exact hQ.out), I0, J0⟩
        case round =>
          obtain ⟨k, q, hk, rfl, rfl, hq, I0, J0⟩ := hrel
          by_cases hlt : k < 64
          · have hlt' : (k : Int) < 64 := by omega
            rcases (show q = false ∨ q = true by cases q <;> simp) with rfl | rfl
            · go_wp2_with fail
              refine wp_region_held_drew (S := (fun w' : World => Below wr.heap.size wr w')) (by kernel_rfl) ?_ (fun hHeld => ?_)
              · (try dsimp only); first | (with_reducible exact below_dr _) | (with_reducible exact Below.refl _ _) | exact below_dr _
              have hBk := below_dr wr
              refine tq 0 rfl (fun _ hS => by go_simp; try with_reducible rfl) ?_
              try simp only [s1, s2, s3]
              refine tq 1 rfl (fun _ hS => by go_simp; try with_reducible rfl) ?_
              try simp only [s1, s2, s3]
              refine ts 2 rfl ?_
              try simp only [s1, s2, s3]
              refine ts 3 rfl ?_
              try simp only [s1, s2, s3]
              refine ts 4 rfl ?_
              try simp only [s1, s2, s3]
              refine ts 5 rfl ?_
              try simp only [s1, s2, s3]
              refine ts 6 rfl ?_
              try simp only [s1, s2, s3]
              refine ts 7 rfl ?_
              try simp only [s1, s2, s3]
              refine ts 8 rfl ?_
              try simp only [s1, s2, s3]
              refine ts 9 rfl ?_
              try simp only [s1, s2, s3]
              refine ts 10 rfl ?_
              try simp only [s1, s2, s3]
              refine ts 11 rfl ?_
              try simp only [s1, s2, s3]
              refine ts 12 rfl ?_
              try simp only [s1, s2, s3]
              refine tq 13 rfl (fun _ hS => by go_simp; try with_reducible rfl) ?_
              try simp only [s1, s2, s3]
              refine tq 14 rfl (fun _ hS => by go_simp; try with_reducible rfl) ?_
              try simp only [s1, s2, s3]
              refine wpAnyH_done (by kernel_rfl) ?_ _
              have I2 := hid (I0.out.next hBk (by have := I0.out.bel.size; omega))
              have J2 := hid (J0.out.next hBk (by have := I0.out.bel.size; omega))
              clear I0 J0 hBk
              have I0 := I2
              have J0 := J2
              clear I2 J2
              go_wp2
              go_roundw
              case rel => first | exact ⟨k + 1, false, by omega, rfl, by go_num, hid (by rw [upB_succ k, ← Bool.and_assoc, ← hq.out]; rfl), I0, J0⟩ | ((repeat apply Exists.intro); exact ⟨⟨k + 1, false, by omega, rfl, by go_num, hid (by rw [upB_succ k, ← Bool.and_assoc, ← hq.out]; rfl), I0, J0⟩, rfl⟩)
              case measure => simp [intOf]; omega
            · exact absurd hq.out (by simp)
          · have hk8 : k = 64 := by omega
            subst hk8
            clear hlt hk
            clear hQ
            go_wp2
            go_ret
            refine ⟨Me.ret_val ?_, I0.out.bel⟩
            rw [HRR.out, ← hq.out]
            rfl
  rw [hmr] at HN hr
  rw [Bool.true_and] at hr
  have hs0 := hSM.out hma
  by_cases hp : S.p ≤ V.p
  · rw [decide_eq_true hp, Bool.true_and] at hr
    by_cases hp2 : V.p ≤ 65535
    · rw [decide_eq_true hp2] at hr
      have HR := hid (HR0.out hma (by omega) hp2)
      have HK := hid (HK0.out hma hmr (by omega) hp2)
      have HRR := hid hr
      clear hr hma hmr HR0 HK0 hSM hs0
      go_enter Try.func24, Try.ntmps24
      refine wp_seq ?_
      refine Code.wp_mono (Q := CutX fun a' W' => (RwI w.heap.size w W' w.heap.size (stC S) ∧ RwI w.heap.size w W' (w.heap.size + 1) (vwC V)) ∧ a' = ⟨#[.agg CA, .agg CB, .pointer (some ⟨w.heap.size, 0, none⟩), .pointer (some ⟨w.heap.size + 1, 0, none⟩), .bool false, undef, undef, undef, undef, undef, undef, undef, undef, undef, undef, undef, undef, undef, undef, undef, undef, undef, undef, undef, undef, undef, undef, undef, undef, undef, undef, undef, undef, undef, undef, undef, undef, undef, undef, undef, undef, undef, undef, undef, undef, undef, undef, undef, undef, undef, undef, undef, undef, undef, undef, undef, undef, undef, undef, undef, undef, undef, undef, undef, undef, undef, undef, undef, undef, undef, undef], []⟩) (CutX.imp ?_) ?_
      rotate_left
      · go_wp2
        exact ⟨⟨I0, J0⟩, rfl⟩
      clear I0 J0
      rintro a' w0 ⟨⟨I1, J1⟩, rfl⟩
      have I0 := hid I1
      have J0 := hid J1
      clear I1 J1
      go_wp2_with (((with_reducible refine at_ldx (d := some 8) 37 ?_); refine wpList_load_gx (by rfl) 37 _ rfl w.heap.size 0 rfl (stC S) _ I0.out.r0 Try.underlying37 rfl hia.out ?_))
      rw [hCA.out]
      refine (HM.out _).mono ?_
      rintro e w1 ⟨rfl, z⟩
      have I2 := hid (I0.out.next z (by have := I0.out.bel.size; omega))
      have J2 := hid (J0.out.next z (by have := I0.out.bel.size; omega))
      clear I0 J0 z
      have I0 := I2
      have J0 := J2
      clear I2 J2
      go_wp2_with (((with_reducible refine at_ldx (d := some 12) 50 ?_); refine wpList_load_gx (by rfl) 50 _ rfl (w.heap.size + 1) 44 rfl (fC V.fr) _ (range_frame hFO.out J0.out.r0) Try.underlying50 rfl hif.out ?_))
      refine (HN.out _).mono ?_
      rintro e w2 ⟨rfl, z⟩
      have I2 := hid (I0.out.next z (by have := I0.out.bel.size; omega))
      have J2 := hid (J0.out.next z (by have := I0.out.bel.size; omega))
      clear I0 J0 z
      have I0 := I2
      have J0 := J2
      clear I2 J2
      have hp1 := range_pkt I0.out.r0
      have hp2 := range_vpkt hFO.out J0.out.r0
      have sa := I0.out.sz
      have sb := J0.out.sz
      go_wp2_with fail
      clear hp1 hp2 sa sb
      clear HM HN hCA hia hif
      go_loopw [5, 6] (fun o i w' => ∃ (k : Nat) (q : Bool), k ≤ 11 ∧ o = .bool q ∧ i = .int .i64 k ∧ Hid (q = (true && upB k (fun j => mayB (V.vs j) && rHolds (S.rg j) (V.vs j) V.p))) ∧ Hid (RwI w.heap.size w w' w.heap.size (stC S)) ∧ Hid (RwI w.heap.size w w' (w.heap.size + 1) (vwC V))) (fun o i _ => 11 - (intOf i).toNat)
      case atStart => exact ⟨0, _, by omega, rfl, rfl, hid (by rw [upB_zero, Bool.and_true]; try first | exact decide_eq_false (by omega) | exact decide_eq_true (by omega)), I0, J0⟩
      case round =>
        obtain ⟨k, q, hk, rfl, rfl, hq, I0, J0⟩ := hrel
        by_cases hlt : k < 11
        · have hlt' : (k : Int) < 11 := by omega
          rcases (show q = false ∨ q = true by cases q <;> simp) with rfl | rfl
          · go_wp2_with fail
            refine wp_region_held_drew (S := (fun w' : World => Below wr.heap.size wr w')) (by kernel_rfl) ?_ (fun hHeld => ?_)
            · (try dsimp only); first | (with_reducible exact below_dr _) | (with_reducible exact Below.refl _ _) | exact below_dr _
            have hBk := below_dr wr
            refine tq 0 rfl (fun _ hS => by go_simp; try with_reducible rfl) ?_
            try simp only [s1, s2, s3]
            refine tq 1 rfl (fun _ hS => by go_simp; try with_reducible rfl) ?_
            try simp only [s1, s2, s3]
            refine ts 2 rfl ?_
            try simp only [s1, s2, s3]
            refine ts 3 rfl ?_
            try simp only [s1, s2, s3]
            refine ts 4 rfl ?_
            try simp only [s1, s2, s3]
            refine ts 5 rfl ?_
            try simp only [s1, s2, s3]
            refine ts 6 rfl ?_
            try simp only [s1, s2, s3]
            refine tq 7 rfl (fun _ hS => by go_simp; try with_reducible rfl) ?_
            try simp only [s1, s2, s3]
            refine tq 8 rfl (fun _ hS => by go_simp; try with_reducible rfl) ?_
            try simp only [s1, s2, s3]
            refine ts 9 rfl ?_
            try simp only [s1, s2, s3]
            refine ts 10 rfl ?_
            try simp only [s1, s2, s3]
            refine ts 11 rfl ?_
            try simp only [s1, s2, s3]
            refine ts 12 rfl ?_
            try simp only [s1, s2, s3]
            refine ts 13 rfl ?_
            try simp only [s1, s2, s3]
            refine ts 14 rfl ?_
            try simp only [s1, s2, s3]
            refine ts 15 rfl ?_
            try simp only [s1, s2, s3]
            refine ts 16 rfl ?_
            try simp only [s1, s2, s3]
            refine ts 17 rfl ?_
            try simp only [s1, s2, s3]
            refine ts 18 rfl ?_
            try simp only [s1, s2, s3]
            refine ts 19 rfl ?_
            try simp only [s1, s2, s3]
            refine tq 20 rfl (fun _ hS => by go_simp; try with_reducible rfl) ?_
            try simp only [s1, s2, s3]
            refine tq 21 rfl (fun _ hS => by go_simp; try with_reducible rfl) ?_
            try simp only [s1, s2, s3]
            refine wpAnyH_done (by kernel_rfl) ?_ _
            have I2 := hid (I0.out.next hBk (by have := I0.out.bel.size; omega))
            have J2 := hid (J0.out.next hBk (by have := I0.out.bel.size; omega))
            clear I0 J0 hBk
            have I0 := I2
            have J0 := J2
            clear I2 J2
            go_wp2
            go_roundw
            case rel => first | exact ⟨k + 1, false, by omega, rfl, by go_num, hid (by rw [upB_succ k, ← Bool.and_assoc, ← hq.out]; rfl), I0, J0⟩ | ((repeat apply Exists.intro); exact ⟨⟨k + 1, false, by omega, rfl, by go_num, hid (by rw [upB_succ k, ← Bool.and_assoc, ← hq.out]; rfl), I0, J0⟩, rfl⟩)
            case measure => simp [intOf]; omega
          · have rv := range_val J0.out.r0 k hlt
            have rr := range_reg I0.out.r0 k hlt
            have pk := range_vpkt hFO.out J0.out.r0
            have sa := I0.out.sz
            have sb := J0.out.sz
            have hsV : (Try.prog.info? 44).map (·.size) = some (vC (V.vs k)).length := infV4
            have hsR : (Try.prog.info? 31).map (·.size) = some (rC (S.rg k)).length := by rw [rC_len]; exact yinfo30
            have HC := hid (HV.out k hlt)
            rcases (show mayB (V.vs k) = false ∨ mayB (V.vs k) = true by cases mayB (V.vs k) <;> simp) with hm | hm
            · rw [hm] at HC
              have hm2 := hid hm
              clear hm
              go_wp2_with fail
              refine wp_region_held_drew (S := (fun w' : World => Below wr.heap.size wr w')) (by kernel_rfl) ?_ (fun hHeld => ?_)
              · (try dsimp only); first | (with_reducible exact below_dr _) | (with_reducible exact Below.refl _ _) | exact below_dr _
              have hBk := below_dr wr
              refine tq 0 rfl (fun _ hS => by go_simp; try with_reducible rfl) ?_
              try simp only [s1, s2, s3]
              refine tq 1 rfl (fun _ hS => by go_simp; try with_reducible rfl) ?_
              try simp only [s1, s2, s3]
              refine tq 2 rfl (fun _ hS => by go_simp; try with_reducible rfl) ?_
              try simp only [s1, s2, s3]
              refine tq 3 rfl (fun _ hS => by go_simp; try with_reducible rfl) ?_
              try simp only [s1, s2, s3]
              refine tq 4 rfl (fun _ hS => by go_simp; try with_reducible rfl) ?_
              try simp only [s1, s2, s3]
              refine take_d (i := 5) (v := _) rfl (by rfl) (by kernel_rfl) (by kernel_rfl) (by kernel_rfl) (fun _ _ _ h => h) (yieldsIf_load_mid (by rfl) _ _ rfl _ _ rfl (vC (V.vs k)) _ ?hx7_ Try.underlying44 rfl hsV) (by assumption) ?rx7_
              case hx7_ => (intro wS hSw; exact range_below rv sb (Me.bcell hSw).1)
              try simp only [s1, s2, s3]
              refine wpAnyH_ready (rs := [6]) (by kernel_rfl) (by simp) ?_
              refine AllReadyH.cons rfl (fun K hK => ?_) AllReadyH.nil
              go_simp
              go_at_call 81
              refine (HC.out _).mono ?_
              rintro e wy6_1 ⟨rfl, bky6_1⟩
              have hBn := below_next hBk bky6_1
              clear hBk bky6_1
              have hBk := hBn
              clear hBn
              try go_simp
              refine hK.out _ _ ?_ (fun hHeld => ?_)
              · (try dsimp only); exact hBk
              clear hK K
              (try simp only [Act.put, List.setIfInBounds_toArray, List.set_cons_zero, List.set_cons_succ])
              refine tq 7 rfl (fun _ hS => by go_simp; try with_reducible rfl) ?_
              try simp only [s1, s2, s3]
              refine tq 8 rfl (fun _ hS => by go_simp; try with_reducible rfl) ?_
              try simp only [s1, s2, s3]
              refine ts 9 rfl ?_
              try simp only [s1, s2, s3]
              refine ts 10 rfl ?_
              try simp only [s1, s2, s3]
              refine ts 11 rfl ?_
              try simp only [s1, s2, s3]
              refine ts 12 rfl ?_
              try simp only [s1, s2, s3]
              refine ts 13 rfl ?_
              try simp only [s1, s2, s3]
              refine ts 14 rfl ?_
              try simp only [s1, s2, s3]
              refine ts 15 rfl ?_
              try simp only [s1, s2, s3]
              refine ts 16 rfl ?_
              try simp only [s1, s2, s3]
              refine ts 17 rfl ?_
              try simp only [s1, s2, s3]
              refine ts 18 rfl ?_
              try simp only [s1, s2, s3]
              refine ts 19 rfl ?_
              try simp only [s1, s2, s3]
              refine tq 20 rfl (fun _ hS => by go_simp; try with_reducible rfl) ?_
              try simp only [s1, s2, s3]
              refine tq 21 rfl (fun _ hS => by go_simp; try with_reducible rfl) ?_
              try simp only [s1, s2, s3]
              refine wpAnyH_done (by kernel_rfl) ?_ _
              clear rv rr pk sa sb hsV hsR
              have I2 := hid (I0.out.next hBk (by have := I0.out.bel.size; omega))
              have J2 := hid (J0.out.next hBk (by have := I0.out.bel.size; omega))
              clear I0 J0 hBk
              have I0 := I2
              have J0 := J2
              clear I2 J2
              go_wp2
              go_roundw
              case rel => first | exact ⟨k + 1, false, by omega, rfl, by go_num, hid (by rw [upB_succ k, hm2.out, Bool.false_and, Bool.and_false, Bool.and_false]), I0, J0⟩ | ((repeat apply Exists.intro); exact ⟨⟨k + 1, false, by omega, rfl, by go_num, hid (by rw [upB_succ k, hm2.out, Bool.false_and, Bool.and_false, Bool.and_false]), I0, J0⟩, rfl⟩)
              case measure => simp [intOf]; omega
            · rw [hm] at HC
              have HD := hid (HR.out k hlt hm)
              have hm2 := hid hm
              clear hm
              have hq2 : Hid (rHolds (S.rg k) (V.vs k) V.p = (true && upB (k + 1) (fun j => mayB (V.vs j) && rHolds (S.rg j) (V.vs j) V.p))) := hid (by rw [upB_succ k, ← Bool.and_assoc, ← hq.out, hm2.out]; rfl)
              go_wp2_with fail
              refine wp_region_held_drew (S := (fun w' : World => Below wr.heap.size wr w')) (by kernel_rfl) ?_ (fun hHeld => ?_)
              · (try dsimp only); first | (with_reducible exact below_dr _) | (with_reducible exact Below.refl _ _) | exact below_dr _
              have hBk := below_dr wr
              refine tq 0 rfl (fun _ hS => by go_simp; try with_reducible rfl) ?_
              try simp only [s1, s2, s3]
              refine tq 1 rfl (fun _ hS => by go_simp; try with_reducible rfl) ?_
              try simp only [s1, s2, s3]
              refine tq 2 rfl (fun _ hS => by go_simp; try with_reducible rfl) ?_
              try simp only [s1, s2, s3]
              refine tq 3 rfl (fun _ hS => by go_simp; try with_reducible rfl) ?_
              try simp only [s1, s2, s3]
              refine tq 4 rfl (fun _ hS => by go_simp; try with_reducible rfl) ?_
              try simp only [s1, s2, s3]
              refine take_d (i := 5) (v := _) rfl (by rfl) (by kernel_rfl) (by kernel_rfl) (by kernel_rfl) (fun _ _ _ h => h) (yieldsIf_load_mid (by rfl) _ _ rfl _ _ rfl (vC (V.vs k)) _ ?hx9_ Try.underlying44 rfl hsV) (by assumption) ?rx9_
              case hx9_ => (intro wS hSw; exact range_below rv sb (Me.bcell hSw).1)
              try simp only [s1, s2, s3]
              refine wpAnyH_ready (rs := [6]) (by kernel_rfl) (by simp) ?_
              refine AllReadyH.cons rfl (fun K hK => ?_) AllReadyH.nil
              go_simp
              go_at_call 81
              refine (HC.out _).mono ?_
              rintro e wy8_1 ⟨rfl, bky8_1⟩
              have hBn := below_next hBk bky8_1
              clear hBk bky8_1
              have hBk := hBn
              clear hBn
              try go_simp
              refine hK.out _ _ ?_ (fun hHeld => ?_)
              · (try dsimp only); exact hBk
              clear hK K
              (try simp only [Act.put, List.setIfInBounds_toArray, List.set_cons_zero, List.set_cons_succ])
              refine tq 7 rfl (fun _ hS => by go_simp; try with_reducible rfl) ?_
              try simp only [s1, s2, s3]
              refine tq 8 rfl (fun _ hS => by go_simp; try with_reducible rfl) ?_
              try simp only [s1, s2, s3]
              refine tq 9 rfl (fun _ hS => by go_simp; try with_reducible rfl) ?_
              try simp only [s1, s2, s3]
              refine tq 10 rfl (fun _ hS => by go_simp; try with_reducible rfl) ?_
              try simp only [s1, s2, s3]
              refine tq 11 rfl (fun _ hS => by go_simp; try with_reducible rfl) ?_
              try simp only [s1, s2, s3]
              refine take_d (i := 12) (v := _) rfl (by rfl) (by kernel_rfl) (by kernel_rfl) (by kernel_rfl) (fun _ _ _ h => h) (yieldsIf_load_mid (by rfl) _ _ rfl _ _ rfl (rC (S.rg k)) _ ?hx10_ Try.underlying31 rfl hsR) (by assumption) ?rx10_
              case hx10_ => (intro wS hSw; exact range_below rr sa (Me.bcell hSw).1)
              try simp only [s1, s2, s3]
              refine tq 13 rfl (fun _ hS => by go_simp; try with_reducible rfl) ?_
              try simp only [s1, s2, s3]
              refine tq 14 rfl (fun _ hS => by go_simp; try with_reducible rfl) ?_
              try simp only [s1, s2, s3]
              refine tq 15 rfl (fun _ hS => by go_simp; try with_reducible rfl) ?_
              try simp only [s1, s2, s3]
              refine take_d (i := 16) (v := _) rfl (by rfl) (by kernel_rfl) (by kernel_rfl) (by kernel_rfl) (fun _ _ _ h => h) (yieldsIf_load_mid (by rfl) _ _ rfl _ _ rfl (vC (V.vs k)) _ ?hx11_ Try.underlying44 rfl hsV) (by assumption) ?rx11_
              case hx11_ => (intro wS hSw; exact range_below rv sb (Me.bcell hSw).1)
              try simp only [s1, s2, s3]
              refine tq 17 rfl (fun _ hS => by go_simp; try with_reducible rfl) ?_
              try simp only [s1, s2, s3]
              refine tq 18 rfl (fun _ hS => by have c0 := cn hS pk; go_simp; try with_reducible rfl) ?_
              try simp only [s1, s2, s3]
              refine wpAnyH_ready (rs := [19]) (by kernel_rfl) (by simp) ?_
              refine AllReadyH.cons rfl (fun K hK => ?_) AllReadyH.nil
              go_simp
              go_at_call 82
              refine (HD.out _).mono ?_
              rintro e wy8_2 ⟨rfl, bky8_2⟩
              have hBn := below_next hBk bky8_2
              clear hBk bky8_2
              have hBk := hBn
              clear hBn
              try go_simp
              refine hK.out _ _ ?_ (fun hHeld => ?_)
              · (try dsimp only); exact hBk
              clear hK K
              (try simp only [Act.put, List.setIfInBounds_toArray, List.set_cons_zero, List.set_cons_succ])
              refine tq 20 rfl (fun _ hS => by go_simp; try with_reducible rfl) ?_
              try simp only [s1, s2, s3]
              refine tq 21 rfl (fun _ hS => by go_simp; try with_reducible rfl) ?_
              try simp only [s1, s2, s3]
              refine wpAnyH_done (by kernel_rfl) ?_ _
              clear rv rr pk sa sb hsV hsR
              have I2 := hid (I0.out.next hBk (by have := I0.out.bel.size; omega))
              have J2 := hid (J0.out.next hBk (by have := I0.out.bel.size; omega))
              clear I0 J0 hBk
              have I0 := I2
              have J0 := J2
              clear I2 J2
              go_wp2
              go_roundw
              case rel => first | exact ⟨k + 1, _, by omega, rfl, by go_num, hq2, I0, J0⟩ | ((repeat apply Exists.intro); exact ⟨⟨k + 1, _, by omega, rfl, by go_num, hq2, I0, J0⟩, rfl⟩)
              case measure => simp [intOf]; omega
        · have hk8 : k = 11 := by omega
          subst hk8
          clear hlt hk
          have hQ := hq
          clear hq
          go_wp2_with fail
          go_loopw [5, 7] (fun o i w' => ∃ (k : Nat) (q : Bool), k ≤ 64 ∧ o = .bool q ∧ i = .int .i64 k ∧ Hid (q = ((true && upB 11 (fun j => mayB (V.vs j) && rHolds (S.rg j) (V.vs j) V.p)) && upB k (fun j => kHolds (S.sk j) (V.fr j) V.p))) ∧ Hid (RwI w.heap.size w w' w.heap.size (stC S)) ∧ Hid (RwI w.heap.size w w' (w.heap.size + 1) (vwC V))) (fun o i _ => 64 - (intOf i).toNat)
          case atStart => exact ⟨0, _, by omega, rfl, rfl, hid (by rw [upB_zero, Bool.and_true]; exact hQ.out), I0, J0⟩
          case round =>
            obtain ⟨k, q, hk, rfl, rfl, hq, I0, J0⟩ := hrel
            by_cases hlt : k < 64
            · have hlt' : (k : Int) < 64 := by omega
              rcases (show q = false ∨ q = true by cases q <;> simp) with rfl | rfl
              · go_wp2_with fail
                refine wp_region_held_drew (S := (fun w' : World => Below wr.heap.size wr w')) (by kernel_rfl) ?_ (fun hHeld => ?_)
                · (try dsimp only); first | (with_reducible exact below_dr _) | (with_reducible exact Below.refl _ _) | exact below_dr _
                have hBk := below_dr wr
                refine tq 0 rfl (fun _ hS => by go_simp; try with_reducible rfl) ?_
                try simp only [s1, s2, s3]
                refine tq 1 rfl (fun _ hS => by go_simp; try with_reducible rfl) ?_
                try simp only [s1, s2, s3]
                refine ts 2 rfl ?_
                try simp only [s1, s2, s3]
                refine ts 3 rfl ?_
                try simp only [s1, s2, s3]
                refine ts 4 rfl ?_
                try simp only [s1, s2, s3]
                refine ts 5 rfl ?_
                try simp only [s1, s2, s3]
                refine ts 6 rfl ?_
                try simp only [s1, s2, s3]
                refine ts 7 rfl ?_
                try simp only [s1, s2, s3]
                refine ts 8 rfl ?_
                try simp only [s1, s2, s3]
                refine ts 9 rfl ?_
                try simp only [s1, s2, s3]
                refine ts 10 rfl ?_
                try simp only [s1, s2, s3]
                refine ts 11 rfl ?_
                try simp only [s1, s2, s3]
                refine ts 12 rfl ?_
                try simp only [s1, s2, s3]
                refine tq 13 rfl (fun _ hS => by go_simp; try with_reducible rfl) ?_
                try simp only [s1, s2, s3]
                refine tq 14 rfl (fun _ hS => by go_simp; try with_reducible rfl) ?_
                try simp only [s1, s2, s3]
                refine wpAnyH_done (by kernel_rfl) ?_ _
                have I2 := hid (I0.out.next hBk (by have := I0.out.bel.size; omega))
                have J2 := hid (J0.out.next hBk (by have := I0.out.bel.size; omega))
                clear I0 J0 hBk
                have I0 := I2
                have J0 := J2
                clear I2 J2
                go_wp2
                go_roundw
                case rel => first | exact ⟨k + 1, false, by omega, rfl, by go_num, hid (by rw [upB_succ k, ← Bool.and_assoc, ← hq.out]; rfl), I0, J0⟩ | ((repeat apply Exists.intro); exact ⟨⟨k + 1, false, by omega, rfl, by go_num, hid (by rw [upB_succ k, ← Bool.and_assoc, ← hq.out]; rfl), I0, J0⟩, rfl⟩)
                case measure => simp [intOf]; omega
              · have rs := range_vslot hFO.out J0.out.r0 k hlt
                have rk := range_slot I0.out.r0 k hlt
                have pk := range_vpkt hFO.out J0.out.r0
                have sa := I0.out.sz
                have sb := J0.out.sz
                have hsS : (Try.prog.info? 48).map (·.size) = some (sC (V.fr k)).length := by rw [sC_len (hFO.out k hlt).2.1]; exact infS13
                have hsK : (Try.prog.info? 34).map (·.size) = some (kC (S.sk k)).length := by rw [kC_len]; exact yinfo33
                have HD := hid (HK.out k hlt)
                have hq2 : Hid (kHolds (S.sk k) (V.fr k) V.p = ((true && upB 11 (fun j => mayB (V.vs j) && rHolds (S.rg j) (V.vs j) V.p)) && upB (k + 1) (fun j => kHolds (S.sk j) (V.fr j) V.p))) := hid (by rw [upB_succ k, ← Bool.and_assoc, ← hq.out]; rfl)
                go_wp2_with fail
                refine wp_region_held_drew (S := (fun w' : World => Below wr.heap.size wr w')) (by kernel_rfl) ?_ (fun hHeld => ?_)
                · (try dsimp only); first | (with_reducible exact below_dr _) | (with_reducible exact Below.refl _ _) | exact below_dr _
                have hBk := below_dr wr
                refine tq 0 rfl (fun _ hS => by go_simp; try with_reducible rfl) ?_
                try simp only [s1, s2, s3]
                refine tq 1 rfl (fun _ hS => by go_simp; try with_reducible rfl) ?_
                try simp only [s1, s2, s3]
                refine tq 2 rfl (fun _ hS => by go_simp; try with_reducible rfl) ?_
                try simp only [s1, s2, s3]
                refine tq 3 rfl (fun _ hS => by go_simp; try with_reducible rfl) ?_
                try simp only [s1, s2, s3]
                refine tq 4 rfl (fun _ hS => by go_simp; try with_reducible rfl) ?_
                try simp only [s1, s2, s3]
                refine take_d (i := 5) (v := _) rfl (by rfl) (by kernel_rfl) (by kernel_rfl) (by kernel_rfl) (fun _ _ _ h => h) (yieldsIf_load_mid (by rfl) _ _ rfl _ _ rfl (kC (S.sk k)) _ ?hx14_ Try.underlying34 rfl hsK) (by assumption) ?rx14_
                case hx14_ => (intro wS hSw; exact range_below rk sa (Me.bcell hSw).1)
                try simp only [s1, s2, s3]
                refine tq 6 rfl (fun _ hS => by go_simp; try with_reducible rfl) ?_
                try simp only [s1, s2, s3]
                refine tq 7 rfl (fun _ hS => by go_simp; try with_reducible rfl) ?_
                try simp only [s1, s2, s3]
                refine tq 8 rfl (fun _ hS => by go_simp; try with_reducible rfl) ?_
                try simp only [s1, s2, s3]
                refine take_d (i := 9) (v := _) rfl (by rfl) (by kernel_rfl) (by kernel_rfl) (by kernel_rfl) (fun _ _ _ h => h) (yieldsIf_load_mid (by rfl) _ _ rfl _ _ rfl (sC (V.fr k)) _ ?hx15_ Try.underlying48 rfl hsS) (by assumption) ?rx15_
                case hx15_ => (intro wS hSw; exact range_below rs sb (Me.bcell hSw).1)
                try simp only [s1, s2, s3]
                refine tq 10 rfl (fun _ hS => by go_simp; try with_reducible rfl) ?_
                try simp only [s1, s2, s3]
                refine tq 11 rfl (fun _ hS => by have c0 := cn hS pk; go_simp; try with_reducible rfl) ?_
                try simp only [s1, s2, s3]
                refine wpAnyH_ready (rs := [12]) (by kernel_rfl) (by simp) ?_
                refine AllReadyH.cons rfl (fun K hK => ?_) AllReadyH.nil
                go_simp
                go_at_call 83
                refine (HD.out _).mono ?_
                rintro e wy13_1 ⟨rfl, bky13_1⟩
                have hBn := below_next hBk bky13_1
                clear hBk bky13_1
                have hBk := hBn
                clear hBn
                try go_simp
                refine hK.out _ _ ?_ (fun hHeld => ?_)
                · (try dsimp only); exact hBk
                clear hK K
                (try simp only [Act.put, List.setIfInBounds_toArray, List.set_cons_zero, List.set_cons_succ])
                refine tq 13 rfl (fun _ hS => by go_simp; try with_reducible rfl) ?_
                try simp only [s1, s2, s3]
                refine tq 14 rfl (fun _ hS => by go_simp; try with_reducible rfl) ?_
                try simp only [s1, s2, s3]
                refine wpAnyH_done (by kernel_rfl) ?_ _
                clear rs rk pk sa sb hsS hsK
                have I2 := hid (I0.out.next hBk (by have := I0.out.bel.size; omega))
                have J2 := hid (J0.out.next hBk (by have := I0.out.bel.size; omega))
                clear I0 J0 hBk
                have I0 := I2
                have J0 := J2
                clear I2 J2
                go_wp2
                go_roundw
                case rel => first | exact ⟨k + 1, _, by omega, rfl, by go_num, hq2, I0, J0⟩ | ((repeat apply Exists.intro); exact ⟨⟨k + 1, _, by omega, rfl, by go_num, hq2, I0, J0⟩, rfl⟩)
                case measure => simp [intOf]; omega
            · have hk8 : k = 64 := by omega
              subst hk8
              clear hlt hk
              clear hQ
              go_wp2
              go_ret
              refine ⟨Me.ret_val ?_, I0.out.bel⟩
              rw [HRR.out, ← hq.out]
              rfl
    · rw [decide_eq_false hp2] at hr
      have HRR := hid hr
      have hp2' : 65535 < V.p := by omega
      clear hr hma hmr HR0 HK0 hSM hs0 HV
      go_enter Try.func24, Try.ntmps24
      refine wp_seq ?_
      refine Code.wp_mono (Q := CutX fun a' W' => (RwI w.heap.size w W' w.heap.size (stC S) ∧ RwI w.heap.size w W' (w.heap.size + 1) (vwC V)) ∧ a' = ⟨#[.agg CA, .agg CB, .pointer (some ⟨w.heap.size, 0, none⟩), .pointer (some ⟨w.heap.size + 1, 0, none⟩), .bool false, undef, undef, undef, undef, undef, undef, undef, undef, undef, undef, undef, undef, undef, undef, undef, undef, undef, undef, undef, undef, undef, undef, undef, undef, undef, undef, undef, undef, undef, undef, undef, undef, undef, undef, undef, undef, undef, undef, undef, undef, undef, undef, undef, undef, undef, undef, undef, undef, undef, undef, undef, undef, undef, undef, undef, undef, undef, undef, undef, undef, undef, undef, undef, undef, undef, undef], []⟩) (CutX.imp ?_) ?_
      rotate_left
      · go_wp2
        exact ⟨⟨I0, J0⟩, rfl⟩
      clear I0 J0
      rintro a' w0 ⟨⟨I1, J1⟩, rfl⟩
      have I0 := hid I1
      have J0 := hid J1
      clear I1 J1
      go_wp2_with (((with_reducible refine at_ldx (d := some 8) 37 ?_); refine wpList_load_gx (by rfl) 37 _ rfl w.heap.size 0 rfl (stC S) _ I0.out.r0 Try.underlying37 rfl hia.out ?_))
      rw [hCA.out]
      refine (HM.out _).mono ?_
      rintro e w1 ⟨rfl, z⟩
      have I2 := hid (I0.out.next z (by have := I0.out.bel.size; omega))
      have J2 := hid (J0.out.next z (by have := I0.out.bel.size; omega))
      clear I0 J0 z
      have I0 := I2
      have J0 := J2
      clear I2 J2
      go_wp2_with (((with_reducible refine at_ldx (d := some 12) 50 ?_); refine wpList_load_gx (by rfl) 50 _ rfl (w.heap.size + 1) 44 rfl (fC V.fr) _ (range_frame hFO.out J0.out.r0) Try.underlying50 rfl hif.out ?_))
      refine (HN.out _).mono ?_
      rintro e w2 ⟨rfl, z⟩
      have I2 := hid (I0.out.next z (by have := I0.out.bel.size; omega))
      have J2 := hid (J0.out.next z (by have := I0.out.bel.size; omega))
      clear I0 J0 z
      have I0 := I2
      have J0 := J2
      clear I2 J2
      have hp1 := range_pkt I0.out.r0
      have hp2 := range_vpkt hFO.out J0.out.r0
      have sa := I0.out.sz
      have sb := J0.out.sz
      go_wp2_with fail
      clear hp1 hp2 sa sb
      clear HM HN hCA hia hif
      go_loopw [5, 6] (fun o i w' => ∃ (k : Nat) (q : Bool), k ≤ 11 ∧ o = .bool q ∧ i = .int .i64 k ∧ Hid (q = (false && upB k (fun j => mayB (V.vs j) && rHolds (S.rg j) (V.vs j) V.p))) ∧ Hid (RwI w.heap.size w w' w.heap.size (stC S)) ∧ Hid (RwI w.heap.size w w' (w.heap.size + 1) (vwC V))) (fun o i _ => 11 - (intOf i).toNat)
      case atStart => exact ⟨0, _, by omega, rfl, rfl, hid (by rw [upB_zero, Bool.and_true]; try first | exact decide_eq_false (by omega) | exact decide_eq_true (by omega)), I0, J0⟩
      case round =>
        obtain ⟨k, q, hk, rfl, rfl, hq, I0, J0⟩ := hrel
        by_cases hlt : k < 11
        · have hlt' : (k : Int) < 11 := by omega
          rcases (show q = false ∨ q = true by cases q <;> simp) with rfl | rfl
          · go_wp2_with fail
            refine wp_region_held_drew (S := (fun w' : World => Below wr.heap.size wr w')) (by kernel_rfl) ?_ (fun hHeld => ?_)
            · (try dsimp only); first | (with_reducible exact below_dr _) | (with_reducible exact Below.refl _ _) | exact below_dr _
            have hBk := below_dr wr
            refine tq 0 rfl (fun _ hS => by go_simp; try with_reducible rfl) ?_
            try simp only [s1, s2, s3]
            refine tq 1 rfl (fun _ hS => by go_simp; try with_reducible rfl) ?_
            try simp only [s1, s2, s3]
            refine ts 2 rfl ?_
            try simp only [s1, s2, s3]
            refine ts 3 rfl ?_
            try simp only [s1, s2, s3]
            refine ts 4 rfl ?_
            try simp only [s1, s2, s3]
            refine ts 5 rfl ?_
            try simp only [s1, s2, s3]
            refine ts 6 rfl ?_
            try simp only [s1, s2, s3]
            refine tq 7 rfl (fun _ hS => by go_simp; try with_reducible rfl) ?_
            try simp only [s1, s2, s3]
            refine tq 8 rfl (fun _ hS => by go_simp; try with_reducible rfl) ?_
            try simp only [s1, s2, s3]
            refine ts 9 rfl ?_
            try simp only [s1, s2, s3]
            refine ts 10 rfl ?_
            try simp only [s1, s2, s3]
            refine ts 11 rfl ?_
            try simp only [s1, s2, s3]
            refine ts 12 rfl ?_
            try simp only [s1, s2, s3]
            refine ts 13 rfl ?_
            try simp only [s1, s2, s3]
            refine ts 14 rfl ?_
            try simp only [s1, s2, s3]
            refine ts 15 rfl ?_
            try simp only [s1, s2, s3]
            refine ts 16 rfl ?_
            try simp only [s1, s2, s3]
            refine ts 17 rfl ?_
            try simp only [s1, s2, s3]
            refine ts 18 rfl ?_
            try simp only [s1, s2, s3]
            refine ts 19 rfl ?_
            try simp only [s1, s2, s3]
            refine tq 20 rfl (fun _ hS => by go_simp; try with_reducible rfl) ?_
            try simp only [s1, s2, s3]
            refine tq 21 rfl (fun _ hS => by go_simp; try with_reducible rfl) ?_
            try simp only [s1, s2, s3]
            refine wpAnyH_done (by kernel_rfl) ?_ _
            have I2 := hid (I0.out.next hBk (by have := I0.out.bel.size; omega))
            have J2 := hid (J0.out.next hBk (by have := I0.out.bel.size; omega))
            clear I0 J0 hBk
            have I0 := I2
            have J0 := J2
            clear I2 J2
            go_wp2
            go_roundw
            case rel => first | exact ⟨k + 1, false, by omega, rfl, by go_num, hid (by rw [upB_succ k, ← Bool.and_assoc, ← hq.out]; rfl), I0, J0⟩ | ((repeat apply Exists.intro); exact ⟨⟨k + 1, false, by omega, rfl, by go_num, hid (by rw [upB_succ k, ← Bool.and_assoc, ← hq.out]; rfl), I0, J0⟩, rfl⟩)
            case measure => simp [intOf]; omega
          · exact absurd hq.out (by simp)
        · have hk8 : k = 11 := by omega
          subst hk8
          clear hlt hk
          have hQ := hq
          clear hq
          go_wp2_with fail
          go_loopw [5, 7] (fun o i w' => ∃ (k : Nat) (q : Bool), k ≤ 64 ∧ o = .bool q ∧ i = .int .i64 k ∧ Hid (q = ((false && upB 11 (fun j => mayB (V.vs j) && rHolds (S.rg j) (V.vs j) V.p)) && upB k (fun j => kHolds (S.sk j) (V.fr j) V.p))) ∧ Hid (RwI w.heap.size w w' w.heap.size (stC S)) ∧ Hid (RwI w.heap.size w w' (w.heap.size + 1) (vwC V))) (fun o i _ => 64 - (intOf i).toNat)
          case atStart => exact ⟨0, _, by omega, rfl, rfl, hid (by rw [upB_zero, Bool.and_true]; exact hQ.out), I0, J0⟩
          case round =>
            obtain ⟨k, q, hk, rfl, rfl, hq, I0, J0⟩ := hrel
            by_cases hlt : k < 64
            · have hlt' : (k : Int) < 64 := by omega
              rcases (show q = false ∨ q = true by cases q <;> simp) with rfl | rfl
              · go_wp2_with fail
                refine wp_region_held_drew (S := (fun w' : World => Below wr.heap.size wr w')) (by kernel_rfl) ?_ (fun hHeld => ?_)
                · (try dsimp only); first | (with_reducible exact below_dr _) | (with_reducible exact Below.refl _ _) | exact below_dr _
                have hBk := below_dr wr
                refine tq 0 rfl (fun _ hS => by go_simp; try with_reducible rfl) ?_
                try simp only [s1, s2, s3]
                refine tq 1 rfl (fun _ hS => by go_simp; try with_reducible rfl) ?_
                try simp only [s1, s2, s3]
                refine ts 2 rfl ?_
                try simp only [s1, s2, s3]
                refine ts 3 rfl ?_
                try simp only [s1, s2, s3]
                refine ts 4 rfl ?_
                try simp only [s1, s2, s3]
                refine ts 5 rfl ?_
                try simp only [s1, s2, s3]
                refine ts 6 rfl ?_
                try simp only [s1, s2, s3]
                refine ts 7 rfl ?_
                try simp only [s1, s2, s3]
                refine ts 8 rfl ?_
                try simp only [s1, s2, s3]
                refine ts 9 rfl ?_
                try simp only [s1, s2, s3]
                refine ts 10 rfl ?_
                try simp only [s1, s2, s3]
                refine ts 11 rfl ?_
                try simp only [s1, s2, s3]
                refine ts 12 rfl ?_
                try simp only [s1, s2, s3]
                refine tq 13 rfl (fun _ hS => by go_simp; try with_reducible rfl) ?_
                try simp only [s1, s2, s3]
                refine tq 14 rfl (fun _ hS => by go_simp; try with_reducible rfl) ?_
                try simp only [s1, s2, s3]
                refine wpAnyH_done (by kernel_rfl) ?_ _
                have I2 := hid (I0.out.next hBk (by have := I0.out.bel.size; omega))
                have J2 := hid (J0.out.next hBk (by have := I0.out.bel.size; omega))
                clear I0 J0 hBk
                have I0 := I2
                have J0 := J2
                clear I2 J2
                go_wp2
                go_roundw
                case rel => first | exact ⟨k + 1, false, by omega, rfl, by go_num, hid (by rw [upB_succ k, ← Bool.and_assoc, ← hq.out]; rfl), I0, J0⟩ | ((repeat apply Exists.intro); exact ⟨⟨k + 1, false, by omega, rfl, by go_num, hid (by rw [upB_succ k, ← Bool.and_assoc, ← hq.out]; rfl), I0, J0⟩, rfl⟩)
                case measure => simp [intOf]; omega
              · exact absurd hq.out (by simp)
            · have hk8 : k = 64 := by omega
              subst hk8
              clear hlt hk
              clear hQ
              go_wp2
              go_ret
              refine ⟨Me.ret_val ?_, I0.out.bel⟩
              rw [HRR.out, ← hq.out]
              rfl
  · rw [decide_eq_false hp, Bool.false_and] at hr
    have HRR := hid hr
    have hp' : V.p < S.p := by omega
    clear hr hma hmr HR0 HK0 hSM hs0 HV
    go_enter Try.func24, Try.ntmps24
    refine wp_seq ?_
    refine Code.wp_mono (Q := CutX fun a' W' => (RwI w.heap.size w W' w.heap.size (stC S) ∧ RwI w.heap.size w W' (w.heap.size + 1) (vwC V)) ∧ a' = ⟨#[.agg CA, .agg CB, .pointer (some ⟨w.heap.size, 0, none⟩), .pointer (some ⟨w.heap.size + 1, 0, none⟩), .bool false, undef, undef, undef, undef, undef, undef, undef, undef, undef, undef, undef, undef, undef, undef, undef, undef, undef, undef, undef, undef, undef, undef, undef, undef, undef, undef, undef, undef, undef, undef, undef, undef, undef, undef, undef, undef, undef, undef, undef, undef, undef, undef, undef, undef, undef, undef, undef, undef, undef, undef, undef, undef, undef, undef, undef, undef, undef, undef, undef, undef, undef, undef, undef, undef, undef, undef], []⟩) (CutX.imp ?_) ?_
    rotate_left
    · go_wp2
      exact ⟨⟨I0, J0⟩, rfl⟩
    clear I0 J0
    rintro a' w0 ⟨⟨I1, J1⟩, rfl⟩
    have I0 := hid I1
    have J0 := hid J1
    clear I1 J1
    go_wp2_with (((with_reducible refine at_ldx (d := some 8) 37 ?_); refine wpList_load_gx (by rfl) 37 _ rfl w.heap.size 0 rfl (stC S) _ I0.out.r0 Try.underlying37 rfl hia.out ?_))
    rw [hCA.out]
    refine (HM.out _).mono ?_
    rintro e w1 ⟨rfl, z⟩
    have I2 := hid (I0.out.next z (by have := I0.out.bel.size; omega))
    have J2 := hid (J0.out.next z (by have := I0.out.bel.size; omega))
    clear I0 J0 z
    have I0 := I2
    have J0 := J2
    clear I2 J2
    go_wp2_with (((with_reducible refine at_ldx (d := some 12) 50 ?_); refine wpList_load_gx (by rfl) 50 _ rfl (w.heap.size + 1) 44 rfl (fC V.fr) _ (range_frame hFO.out J0.out.r0) Try.underlying50 rfl hif.out ?_))
    refine (HN.out _).mono ?_
    rintro e w2 ⟨rfl, z⟩
    have I2 := hid (I0.out.next z (by have := I0.out.bel.size; omega))
    have J2 := hid (J0.out.next z (by have := I0.out.bel.size; omega))
    clear I0 J0 z
    have I0 := I2
    have J0 := J2
    clear I2 J2
    have hp1 := range_pkt I0.out.r0
    have hp2 := range_vpkt hFO.out J0.out.r0
    have sa := I0.out.sz
    have sb := J0.out.sz
    go_wp2_with fail
    clear hp1 hp2 sa sb
    clear HM HN hCA hia hif
    go_loopw [5, 6] (fun o i w' => ∃ (k : Nat) (q : Bool), k ≤ 11 ∧ o = .bool q ∧ i = .int .i64 k ∧ Hid (q = (false && upB k (fun j => mayB (V.vs j) && rHolds (S.rg j) (V.vs j) V.p))) ∧ Hid (RwI w.heap.size w w' w.heap.size (stC S)) ∧ Hid (RwI w.heap.size w w' (w.heap.size + 1) (vwC V))) (fun o i _ => 11 - (intOf i).toNat)
    case atStart => exact ⟨0, _, by omega, rfl, rfl, hid (by rw [upB_zero, Bool.and_true]; try first | exact decide_eq_false (by omega) | exact decide_eq_true (by omega)), I0, J0⟩
    case round =>
      obtain ⟨k, q, hk, rfl, rfl, hq, I0, J0⟩ := hrel
      by_cases hlt : k < 11
      · have hlt' : (k : Int) < 11 := by omega
        rcases (show q = false ∨ q = true by cases q <;> simp) with rfl | rfl
        · go_wp2_with fail
          refine wp_region_held_drew (S := (fun w' : World => Below wr.heap.size wr w')) (by kernel_rfl) ?_ (fun hHeld => ?_)
          · (try dsimp only); first | (with_reducible exact below_dr _) | (with_reducible exact Below.refl _ _) | exact below_dr _
          have hBk := below_dr wr
          refine tq 0 rfl (fun _ hS => by go_simp; try with_reducible rfl) ?_
          try simp only [s1, s2, s3]
          refine tq 1 rfl (fun _ hS => by go_simp; try with_reducible rfl) ?_
          try simp only [s1, s2, s3]
          refine ts 2 rfl ?_
          try simp only [s1, s2, s3]
          refine ts 3 rfl ?_
          try simp only [s1, s2, s3]
          refine ts 4 rfl ?_
          try simp only [s1, s2, s3]
          refine ts 5 rfl ?_
          try simp only [s1, s2, s3]
          refine ts 6 rfl ?_
          try simp only [s1, s2, s3]
          refine tq 7 rfl (fun _ hS => by go_simp; try with_reducible rfl) ?_
          try simp only [s1, s2, s3]
          refine tq 8 rfl (fun _ hS => by go_simp; try with_reducible rfl) ?_
          try simp only [s1, s2, s3]
          refine ts 9 rfl ?_
          try simp only [s1, s2, s3]
          refine ts 10 rfl ?_
          try simp only [s1, s2, s3]
          refine ts 11 rfl ?_
          try simp only [s1, s2, s3]
          refine ts 12 rfl ?_
          try simp only [s1, s2, s3]
          refine ts 13 rfl ?_
          try simp only [s1, s2, s3]
          refine ts 14 rfl ?_
          try simp only [s1, s2, s3]
          refine ts 15 rfl ?_
          try simp only [s1, s2, s3]
          refine ts 16 rfl ?_
          try simp only [s1, s2, s3]
          refine ts 17 rfl ?_
          try simp only [s1, s2, s3]
          refine ts 18 rfl ?_
          try simp only [s1, s2, s3]
          refine ts 19 rfl ?_
          try simp only [s1, s2, s3]
          refine tq 20 rfl (fun _ hS => by go_simp; try with_reducible rfl) ?_
          try simp only [s1, s2, s3]
          refine tq 21 rfl (fun _ hS => by go_simp; try with_reducible rfl) ?_
          try simp only [s1, s2, s3]
          refine wpAnyH_done (by kernel_rfl) ?_ _
          have I2 := hid (I0.out.next hBk (by have := I0.out.bel.size; omega))
          have J2 := hid (J0.out.next hBk (by have := I0.out.bel.size; omega))
          clear I0 J0 hBk
          have I0 := I2
          have J0 := J2
          clear I2 J2
          go_wp2
          go_roundw
          case rel => first | exact ⟨k + 1, false, by omega, rfl, by go_num, hid (by rw [upB_succ k, ← Bool.and_assoc, ← hq.out]; rfl), I0, J0⟩ | ((repeat apply Exists.intro); exact ⟨⟨k + 1, false, by omega, rfl, by go_num, hid (by rw [upB_succ k, ← Bool.and_assoc, ← hq.out]; rfl), I0, J0⟩, rfl⟩)
          case measure => simp [intOf]; omega
        · exact absurd hq.out (by simp)
      · have hk8 : k = 11 := by omega
        subst hk8
        clear hlt hk
        have hQ := hq
        clear hq
        go_wp2_with fail
        go_loopw [5, 7] (fun o i w' => ∃ (k : Nat) (q : Bool), k ≤ 64 ∧ o = .bool q ∧ i = .int .i64 k ∧ Hid (q = ((false && upB 11 (fun j => mayB (V.vs j) && rHolds (S.rg j) (V.vs j) V.p)) && upB k (fun j => kHolds (S.sk j) (V.fr j) V.p))) ∧ Hid (RwI w.heap.size w w' w.heap.size (stC S)) ∧ Hid (RwI w.heap.size w w' (w.heap.size + 1) (vwC V))) (fun o i _ => 64 - (intOf i).toNat)
        case atStart => exact ⟨0, _, by omega, rfl, rfl, hid (by rw [upB_zero, Bool.and_true]; exact hQ.out), I0, J0⟩
        case round =>
          obtain ⟨k, q, hk, rfl, rfl, hq, I0, J0⟩ := hrel
          by_cases hlt : k < 64
          · have hlt' : (k : Int) < 64 := by omega
            rcases (show q = false ∨ q = true by cases q <;> simp) with rfl | rfl
            · go_wp2_with fail
              refine wp_region_held_drew (S := (fun w' : World => Below wr.heap.size wr w')) (by kernel_rfl) ?_ (fun hHeld => ?_)
              · (try dsimp only); first | (with_reducible exact below_dr _) | (with_reducible exact Below.refl _ _) | exact below_dr _
              have hBk := below_dr wr
              refine tq 0 rfl (fun _ hS => by go_simp; try with_reducible rfl) ?_
              try simp only [s1, s2, s3]
              refine tq 1 rfl (fun _ hS => by go_simp; try with_reducible rfl) ?_
              try simp only [s1, s2, s3]
              refine ts 2 rfl ?_
              try simp only [s1, s2, s3]
              refine ts 3 rfl ?_
              try simp only [s1, s2, s3]
              refine ts 4 rfl ?_
              try simp only [s1, s2, s3]
              refine ts 5 rfl ?_
              try simp only [s1, s2, s3]
              refine ts 6 rfl ?_
              try simp only [s1, s2, s3]
              refine ts 7 rfl ?_
              try simp only [s1, s2, s3]
              refine ts 8 rfl ?_
              try simp only [s1, s2, s3]
              refine ts 9 rfl ?_
              try simp only [s1, s2, s3]
              refine ts 10 rfl ?_
              try simp only [s1, s2, s3]
              refine ts 11 rfl ?_
              try simp only [s1, s2, s3]
              refine ts 12 rfl ?_
              try simp only [s1, s2, s3]
              refine tq 13 rfl (fun _ hS => by go_simp; try with_reducible rfl) ?_
              try simp only [s1, s2, s3]
              refine tq 14 rfl (fun _ hS => by go_simp; try with_reducible rfl) ?_
              try simp only [s1, s2, s3]
              refine wpAnyH_done (by kernel_rfl) ?_ _
              have I2 := hid (I0.out.next hBk (by have := I0.out.bel.size; omega))
              have J2 := hid (J0.out.next hBk (by have := I0.out.bel.size; omega))
              clear I0 J0 hBk
              have I0 := I2
              have J0 := J2
              clear I2 J2
              go_wp2
              go_roundw
              case rel => first | exact ⟨k + 1, false, by omega, rfl, by go_num, hid (by rw [upB_succ k, ← Bool.and_assoc, ← hq.out]; rfl), I0, J0⟩ | ((repeat apply Exists.intro); exact ⟨⟨k + 1, false, by omega, rfl, by go_num, hid (by rw [upB_succ k, ← Bool.and_assoc, ← hq.out]; rfl), I0, J0⟩, rfl⟩)
              case measure => simp [intOf]; omega
            · exact absurd hq.out (by simp)
          · have hk8 : k = 64 := by omega
            subst hk8
            clear hlt hk
            clear hQ
            go_wp2
            go_ret
            refine ⟨Me.ret_val ?_, I0.out.bel⟩
            rw [HRR.out, ← hq.out]
            rfl
end Go.Proofs.Ytoanbjnhoggpjaa
