/-
  The document's Right.
-/
import Derived.Test.YtjlaenkfjejbkaaMdA
import Derived.Test.YtjlaenkfjejbkaaMeD
import Derived.Test.YtjlaenkfjejbkaaMeI
namespace Go.Proofs.Ytjlaenkfjejbkaa
set_option linter.unusedSimpArgs false
set_option linter.unusedVariables false
open Go.ChangeShapes Go.WideShapes Go.ChangeAt Go.RowKit

theorem info27 : (Try.prog.info? 27).map (·.size) = some 13 := by kernel_rfl
/-- A frame in a block of the call's own, a slot of it in another. -/
structure RrI (w : World) (g : Nat) (F : Nat → Sl) (s : Sl) (W : World) : Prop where
  fr : FrI w.heap.size w W F
  lt : g < W.heap.size
  rs : W.rangeAt g 0 (sC s)
theorem RrI.next {w W V : World} {g : Nat} {F : Nat → Sl} {s : Sl} (h : RrI w g F s W) (b : Below W.heap.size W V) : RrI w g F s V :=
  ⟨h.fr.next b, Nat.lt_of_lt_of_le h.lt b.size, range_below h.rs h.lt (bcell b).1⟩
theorem RrI.mk2 {w W : World} {F : Nat → Sl} {s : Sl} {t : TypeId} (h : FrI w.heap.size w W F) : RrI w W.heap.size F s (W.alloc (.cells (sC s).toArray t)) :=
  ⟨h.next ((Below.refl _ _).alloc (Nat.le_refl _) _), by simp, range_new W (sC s).toArray t⟩
theorem rs_v {W : World} {g : Nat} {hh : Int} {l : List Int} {k m n o : Int} (h : W.rangeAt g 0 (sC ⟨hh, l, ⟨k, m, n, o⟩⟩)) (hl : l.length = 8) : W.cell? ⟨g, 0, none⟩ = some (.int .u8 hh) ∧ W.cell? ⟨g, 9, none⟩ = some (.int .u8 k) ∧ W.cell? ⟨g, 10, none⟩ = some (.int .i64 m) ∧ W.cell? ⟨g, 11, none⟩ = some (.int .u64 n) ∧ W.cell? ⟨g, 12, none⟩ = some (.int .i64 o) := by
  obtain ⟨a, b, c, d, e, f, g', i, rfl⟩ := eight hl
  exact ⟨h 0 _ rfl, h 9 _ rfl, h 10 _ rfl, h 11 _ rfl, h 12 _ rfl⟩
theorem rs_b {W : World} {g : Nat} {s : Sl} (h : W.rangeAt g 0 (sC s)) (hl : s.b.length = 8) (i : Nat) (hi : i < 8) : W.cell? ⟨g, 1 + i, none⟩ = some (.int .u8 (s.b.getD i 0)) := by
  have := h (1 + i) (.int .u8 (s.b.getD i 0)) (by
    unfold sC bC
    rw [Nat.add_comm 1 i, List.getElem?_cons_succ, List.getElem?_append_left (by simp; omega), List.getElem?_map, List.getD_eq_getElem?_getD, List.getElem?_eq_getElem (by omega)]
    rfl)
  rwa [Nat.zero_add] at this
theorem wpList_store_s {ops : Array Oper} {rest : List Oper} {op : Oper} {a : Act} {w : World} {Q : Exit → Act → World → Prop} (x y : Operand) (hgd : op.guard = none) (ho : op.op = .store 27 x y)
    (b : Nat) (s : Sl) (hs : SOk s) (hx : a.eval x = .pointer (some ⟨b, 0, none⟩)) (hy : a.eval y = .agg (sC s).toArray) (ht : w.there b 0 13)
    (h : wpList Try.prog ops Q rest (a.put op.dst undef) (w.setCells b 0 (sC s))) : wpList Try.prog ops Q (op :: rest) a w :=
  wpList_store_mid hgd 27 x y ho b 0 (sC s).toArray hx hy (by rw [List.size_toArray, sC_len hs]; exact ht) (by rw [List.size_toArray, sC_len hs]; exact info27) (all_oneCell_toArray (one_sC s)) h
theorem RrI.mk3 {w W : World} {F : Nat → Sl} {s : Sl} {o : Obj} (h : FrI w.heap.size w W F) (hs : SOk s) (hT : (W.alloc o).there W.heap.size 0 13) : RrI w W.heap.size F s ((W.alloc o).setCells W.heap.size 0 (sC s)) := by
  have h3 : Below W.heap.size W ((W.alloc o).setCells W.heap.size 0 (sC s)) := below_setCells W.heap.size (Nat.le_refl _) (sC s) 0 _ ((Below.refl _ _).alloc (Nat.le_refl _) _)
  have hz : W.heap.size < ((W.alloc o).setCells W.heap.size 0 (sC s)).heap.size := Nat.lt_of_lt_of_le (by simp) (below_setCells (n := 0) (a := W.alloc o) W.heap.size (Nat.zero_le _) (sC s) 0 _ (Below.refl _ _)).size
  exact ⟨h.next h3, hz, World.rangeAt_setCells_same _ _ 0 (sC s) (by rw [sC_len hs]; exact hT)⟩
theorem wpList_load_g {P : Program} {ops : Array Oper} {rest : List Oper} {op : Oper} {a : Act} {w : World} {Q : Exit → Act → World → Prop} (hw : Region.wanted op (yielded ops a.tmps) = true) (ty : TypeId) (x : Operand) (ho : op.op = .load ty x)
    (b o : Nat) (hx : a.eval x = .pointer (some ⟨b, o, none⟩)) (cs : List Value) (d : TypeDesc) (hc : w.rangeAt b o cs)
    (hu : P.underlying ty = some d) (hd : d.isRow = true) (hi : (P.info? ty).map (·.size) = some cs.length)
    (h : wpList P ops Q rest (a.put op.dst (.agg cs.toArray)) w) : wpList P ops Q (op :: rest) a w := by
  rw [wpList, if_pos hw]
  exact .inl (wp_load_mid ty x ho b o hx cs d hc hu hd hi h)
theorem slot_bad {F : Nat → Sl} {k : Nat} (hk : k < 64) (h : rightS (F k) = false) : (List.range 64).all (fun k => rightS (F k)) = false := by
  rw [List.all_eq_false]
  exact ⟨k, List.mem_range.2 hk, by rw [h]; simp⟩
theorem byte_bad {s : Sl} (hv : s.v = v0) {j : Nat} (hj : j < 8) (h : byteB s j = false) : rightS s = false := by
  unfold rightS
  rw [if_pos hv, List.all_eq_false]
  exact ⟨j, List.mem_range.2 hj, by rw [h]; simp⟩
theorem byte_all {s : Sl} (hv : s.v = v0) (h : ∀ j, j < 8 → byteB s j = true) : rightS s = true := by
  unfold rightS
  rw [if_pos hv, List.all_eq_true]
  exact fun j hj => h j (List.mem_range.1 hj)
theorem addr_eq {s : Sl} (hv : s.v ≠ v0) : rightS s = (mayB s.v && (adrB s.v && (s.h == 255 && s.b == z8))) := by
  unfold rightS
  rw [if_neg hv]
theorem z8_all {l : List Int} (hl : l.length = 8) (h : ∀ j, j < 8 → l.getD j 0 = 0) : (l == z8) = true := by
  obtain ⟨a, b, c, d, e, f, g, i, rfl⟩ := eight hl
  have h0 := h 0 (by decide)
  have h1 := h 1 (by decide)
  have h2 := h 2 (by decide)
  have h3 := h 3 (by decide)
  have h4 := h 4 (by decide)
  have h5 := h 5 (by decide)
  have h6 := h 6 (by decide)
  have h7 := h 7 (by decide)
  simp at h0 h1 h2 h3 h4 h5 h6 h7
  subst h0 h1 h2 h3 h4 h5 h6 h7
  rfl
theorem z8_bad {l : List Int} {j : Nat} (hj : j < 8) (h : l.getD j 0 ≠ 0) : (l == z8) = false := by
  rw [beq_eq_false_iff_ne]
  rintro rfl
  have : j = 0 ∨ j = 1 ∨ j = 2 ∨ j = 3 ∨ j = 4 ∨ j = 5 ∨ j = 6 ∨ j = 7 := by omega
  rcases this with rfl | rfl | rfl | rfl | rfl | rfl | rfl | rfl <;> exact h rfl

set_option maxRecDepth 100000 in
set_option maxHeartbeats 3200000 in
theorem rRight_any (F : Nat → Sl) (w : World) (hF : FOk F) : Calls Try.prog 16 #[fV F] w fun e w' => e = .returned (.bool (rightF F)) ∧ Below w.heap.size w w' := by
  have HF := hid hF
  have I0 := hid (FrI.first w F 29)
  have hr : rightF F = (List.range 64).all fun k => rightS (F k) := rfl
  generalize hRR : rightF F = R at hr ⊢
  have HRR := hid hr
  obtain ⟨CF, hCF⟩ : ∃ CF, (fC F).toArray = CF := ⟨_, rfl⟩
  unfold fV
  rw [hCF] at I0 ⊢
  clear hF hr hRR hCF
  go_enter Try.func16, Try.ntmps16
  go_wp2_with fail
  go_loopw [3] (fun i w' => ∃ k : Nat, k ≤ 64 ∧ i = .int .i64 k ∧ Hid (∀ j, j < k → rightS (F j) = true) ∧ Hid (FrI w.heap.size w w' F)) (fun i _ => 64 - (intOf i).toNat)
  case atStart => exact ⟨0, by omega, rfl, hid (fun j hj => by omega), I0⟩
  case round =>
    obtain ⟨k, hk, rfl, hP, I1⟩ := hrel
    by_cases hlt : k < 64
    · have hlt' : (k : Int) < 64 := by omega
      obtain ⟨wo, rfl⟩ : ∃ wo : World, wo = wr := ⟨_, rfl⟩
      have hrk : Hid (wo.rangeAt w.heap.size (k * 13) (sC (F k))) := hid (by have := range_at HF.out I1.out.r0 k hlt; rwa [Nat.zero_add] at this)
      have hsk := HF.out k hlt
      have hiS : (Try.prog.info? 27).map (·.size) = some (sC (F k)).length := by rw [sC_len hsk]; exact info27
      have HS := hid hiS
      have HT := hid (there_box wo #[.int .u8 0, .int .u8 0, .int .u8 0, .int .u8 0, .int .u8 0, .int .u8 0, .int .u8 0, .int .u8 0, .int .u8 0, .int .u8 0, .int .i64 0, .int .u64 0, .int .i64 0] 27 13 rfl)
      have J4 := hid (RrI.mk3 (s := F k) I1.out hsk HT.out)
      have HBAD := hid (@slot_bad F k hlt)
      have HGOOD : Hid (rightS (F k) = true → ∀ j, j < k + 1 → rightS (F j) = true) := hid (fun h i hi => (Nat.lt_succ_iff_lt_or_eq.1 hi).elim (fun q => hP.out i q) (fun q => q ▸ h))
      clear hP hiS
      generalize F k = s at hrk hsk HS J4 HBAD HGOOD
      have HSK := hid hsk
      obtain ⟨h, l, ⟨vk, vm, vn, vo⟩⟩ := s
      have hl8 : l.length = 8 := hsk.2.1
      have hlb := hsk.2.2.1
      have hh := hsk.1
      dsimp only at hlb hh
      have HLB := hid hlb
      have HSL := hid (fun i (hi : i < 8) W => rhas_any ⟨h, l, ⟨vk, vm, vn, vo⟩⟩ i W hsk hi)
      have HMay := hid (fun W => rmay_any ⟨vk, vm, vn, vo⟩ W)
      have HAdr := hid (fun W => raddr_any ⟨vk, vm, vn, vo⟩ W)
      unfold vV at HMay HAdr
      unfold sV at HSL
      dsimp only at HMay HAdr
      obtain ⟨hh0, hh1⟩ := hh
      clear hsk hlb
      by_cases hvv : (⟨vk, vm, vn, vo⟩ : Vl) = v0
      · injection hvv with e1 e2 e3 e4
        subst e1 e2 e3 e4
        go_wp2_with (first | ((with_reducible refine at_load 27 ?_); refine wpList_load_mid rfl 27 _ rfl w.heap.size (k * 13) rfl (sC ⟨h, l, ⟨0, 0, 0, 0⟩⟩) _ hrk.out Try.underlying27 rfl HS.out ?_) | ((with_reducible refine at_store 27 ?_); refine wpList_store_s _ _ rfl rfl wo.heap.size ⟨h, l, ⟨0, 0, 0, 0⟩⟩ HSK.out rfl rfl HT.out ?_; generalize (wo.alloc (.cells #[.int .u8 0, .int .u8 0, .int .u8 0, .int .u8 0, .int .u8 0, .int .u8 0, .int .u8 0, .int .u8 0, .int .u8 0, .int .u8 0, .int .i64 0, .int .u64 0, .int .i64 0] 27)).setCells wo.heap.size 0 (sC ⟨h, l, ⟨0, 0, 0, 0⟩⟩) = w4 at J4 ⊢; generalize wo.heap.size = g at J4 ⊢; obtain ⟨c0, c9, c10, c11, c12⟩ := rs_v J4.out.rs hl8))
        go_loopw [6] (fun jv w' => ∃ i : Nat, i ≤ 8 ∧ jv = .int .i64 i ∧ Hid (∀ i2, i2 < i → byteB ⟨h, l, ⟨0, 0, 0, 0⟩⟩ i2 = true) ∧ Hid (RrI w g F ⟨h, l, ⟨0, 0, 0, 0⟩⟩ w')) (fun jv _ => 8 - (intOf jv).toNat)
        case atStart => exact ⟨0, by omega, rfl, hid (fun i2 h2 => by omega), J4⟩
        case round =>
          obtain ⟨i, hi, rfl, HI, JI⟩ := hrel
          by_cases hi8 : i < 8
          · have hi8' : (i : Int) < 8 := by omega
            have hcb := rs_b JI.out.rs hl8 i hi8
            have hz := HLB.out (l.getD i 0) (by rw [List.getD_eq_getElem?_getD, List.getElem?_eq_getElem (by omega)]; exact List.getElem_mem _)
            dsimp only at hcb
            obtain ⟨hz0, hz1⟩ := hz
            by_cases hzz : l.getD i 0 = 0
            · rw [hzz] at hcb
              clear hz0 hz1
              go_wp2
              go_roundw
              case rel => exact ⟨i + 1, by omega, by go_num, hid (fun i2 h2 => (Nat.lt_succ_iff_lt_or_eq.1 h2).elim (fun q => HI.out i2 q) (fun q => by subst q; unfold byteB; rw [hzz]; rfl)), JI⟩
              case measure => simp [intOf]; omega
            · have HZZ := hid hzz
              generalize hzv : l.getD i 0 = z at hcb hz0 hz1 hzz
              replace hzv := hid hzv
              have dz : decide (0 < z) = true := decide_eq_true (by omega)
              clear hzz
              have HH := hid (HSL.out i hi8)
              cases hhb : hasB h i
              · rw [hhb] at HH
                go_wp2_with ((with_reducible refine at_load 27 ?_); refine wpList_load_g (by rfl) 27 _ rfl g 0 rfl (sC ⟨h, l, ⟨0, 0, 0, 0⟩⟩) _ JI.out.rs Try.underlying27 rfl HS.out ?_)
                refine (HH.out _).mono ?_
                rintro e w7 ⟨rfl, b7⟩
                have J7 := hid (JI.out.next b7)
                clear b7
                go_wp2
                go_ret
                refine ⟨ret_val ?_, J7.out.fr.bel⟩
                rw [HRR.out, HBAD.out (byte_bad rfl hi8 (by unfold byteB; rw [hhb]; simpa using HZZ.out))]
                rfl
              · rw [hhb] at HH
                go_wp2_with ((with_reducible refine at_load 27 ?_); refine wpList_load_g (by rfl) 27 _ rfl g 0 rfl (sC ⟨h, l, ⟨0, 0, 0, 0⟩⟩) _ JI.out.rs Try.underlying27 rfl HS.out ?_)
                refine (HH.out _).mono ?_
                rintro e w7 ⟨rfl, b7⟩
                have J7 := hid (JI.out.next b7)
                clear b7
                go_wp2
                go_roundw
                case rel => exact ⟨i + 1, by omega, by go_num, hid (fun i2 h2 => (Nat.lt_succ_iff_lt_or_eq.1 h2).elim (fun q => HI.out i2 q) (fun q => by subst q; unfold byteB; rw [hhb, Bool.or_true])), J7⟩
                case measure => simp [intOf]; omega
          · go_wp2
            go_roundw
            case rel => exact ⟨k + 1, by omega, by go_num, hid (HGOOD.out (byte_all rfl (fun i2 h2 => HI.out i2 (by omega)))), hid JI.out.fr⟩
            case measure => simp [intOf]; omega
      · have hvv' : (⟨h, l, ⟨vk, vm, vn, vo⟩⟩ : Sl).v ≠ v0 := hvv
        replace hvv := hvv'
        clear hvv'
        by_cases hk0 : vk = 0
        · subst hk0
          have hm : mayB ⟨0, vm, vn, vo⟩ = false := by
            cases hm : mayB ⟨0, vm, vn, vo⟩
            · rfl
            · exfalso
              unfold mayB at hm
              simp at hm
              obtain ⟨e1, e2, e3⟩ := hm
              subst e1 e2 e3
              exact hvv rfl
          rw [hm] at HMay
          by_cases hm0 : vm = 0
          · subst hm0
            by_cases hn0 : vn = 0
            · subst hn0
              have eo : (vo == 0) = false := by
                rw [beq_eq_false_iff_ne]
                rintro rfl
                exact hvv rfl
              go_wp2_with (first | ((with_reducible refine at_load 27 ?_); refine wpList_load_mid rfl 27 _ rfl w.heap.size (k * 13) rfl (sC ⟨h, l, ⟨0, 0, 0, vo⟩⟩) _ hrk.out Try.underlying27 rfl HS.out ?_) | ((with_reducible refine at_store 27 ?_); refine wpList_store_s _ _ rfl rfl wo.heap.size ⟨h, l, ⟨0, 0, 0, vo⟩⟩ HSK.out rfl rfl HT.out ?_; generalize (wo.alloc (.cells #[.int .u8 0, .int .u8 0, .int .u8 0, .int .u8 0, .int .u8 0, .int .u8 0, .int .u8 0, .int .u8 0, .int .u8 0, .int .u8 0, .int .i64 0, .int .u64 0, .int .i64 0] 27)).setCells wo.heap.size 0 (sC ⟨h, l, ⟨0, 0, 0, vo⟩⟩) = w4 at J4 ⊢; generalize wo.heap.size = g at J4 ⊢; obtain ⟨c0, c9, c10, c11, c12⟩ := rs_v J4.out.rs hl8) | (go_at_call 21; refine (HMay.out _).mono ?_; rintro e w5 ⟨rfl, b5⟩; have J5 := hid (J4.out.next b5); obtain ⟨d0, d9, d10, d11, d12⟩ := rs_v J5.out.rs hl8; clear b5))
              go_ret
              refine ⟨ret_val ?_, J5.out.fr.bel⟩
              rw [HRR.out, HBAD.out (by rw [addr_eq hvv, hm]; rfl)]
              rfl
            · have en : (vn == 0) = false := by simpa using hn0
              go_wp2_with (first | ((with_reducible refine at_load 27 ?_); refine wpList_load_mid rfl 27 _ rfl w.heap.size (k * 13) rfl (sC ⟨h, l, ⟨0, 0, vn, vo⟩⟩) _ hrk.out Try.underlying27 rfl HS.out ?_) | ((with_reducible refine at_store 27 ?_); refine wpList_store_s _ _ rfl rfl wo.heap.size ⟨h, l, ⟨0, 0, vn, vo⟩⟩ HSK.out rfl rfl HT.out ?_; generalize (wo.alloc (.cells #[.int .u8 0, .int .u8 0, .int .u8 0, .int .u8 0, .int .u8 0, .int .u8 0, .int .u8 0, .int .u8 0, .int .u8 0, .int .u8 0, .int .i64 0, .int .u64 0, .int .i64 0] 27)).setCells wo.heap.size 0 (sC ⟨h, l, ⟨0, 0, vn, vo⟩⟩) = w4 at J4 ⊢; generalize wo.heap.size = g at J4 ⊢; obtain ⟨c0, c9, c10, c11, c12⟩ := rs_v J4.out.rs hl8) | (go_at_call 21; refine (HMay.out _).mono ?_; rintro e w5 ⟨rfl, b5⟩; have J5 := hid (J4.out.next b5); obtain ⟨d0, d9, d10, d11, d12⟩ := rs_v J5.out.rs hl8; clear b5))
              go_ret
              refine ⟨ret_val ?_, J5.out.fr.bel⟩
              rw [HRR.out, HBAD.out (by rw [addr_eq hvv, hm]; rfl)]
              rfl
          · have em : (vm == 0) = false := by simpa using hm0
            go_wp2_with (first | ((with_reducible refine at_load 27 ?_); refine wpList_load_mid rfl 27 _ rfl w.heap.size (k * 13) rfl (sC ⟨h, l, ⟨0, vm, vn, vo⟩⟩) _ hrk.out Try.underlying27 rfl HS.out ?_) | ((with_reducible refine at_store 27 ?_); refine wpList_store_s _ _ rfl rfl wo.heap.size ⟨h, l, ⟨0, vm, vn, vo⟩⟩ HSK.out rfl rfl HT.out ?_; generalize (wo.alloc (.cells #[.int .u8 0, .int .u8 0, .int .u8 0, .int .u8 0, .int .u8 0, .int .u8 0, .int .u8 0, .int .u8 0, .int .u8 0, .int .u8 0, .int .i64 0, .int .u64 0, .int .i64 0] 27)).setCells wo.heap.size 0 (sC ⟨h, l, ⟨0, vm, vn, vo⟩⟩) = w4 at J4 ⊢; generalize wo.heap.size = g at J4 ⊢; obtain ⟨c0, c9, c10, c11, c12⟩ := rs_v J4.out.rs hl8) | (go_at_call 21; refine (HMay.out _).mono ?_; rintro e w5 ⟨rfl, b5⟩; have J5 := hid (J4.out.next b5); obtain ⟨d0, d9, d10, d11, d12⟩ := rs_v J5.out.rs hl8; clear b5))
            go_ret
            refine ⟨ret_val ?_, J5.out.fr.bel⟩
            rw [HRR.out, HBAD.out (by rw [addr_eq hvv, hm]; rfl)]
            rfl
        · have ek : (vk == 0) = false := by simpa using hk0
          cases hm : mayB ⟨vk, vm, vn, vo⟩
          · rw [hm] at HMay
            go_wp2_with (first | ((with_reducible refine at_load 27 ?_); refine wpList_load_mid rfl 27 _ rfl w.heap.size (k * 13) rfl (sC ⟨h, l, ⟨vk, vm, vn, vo⟩⟩) _ hrk.out Try.underlying27 rfl HS.out ?_) | ((with_reducible refine at_store 27 ?_); refine wpList_store_s _ _ rfl rfl wo.heap.size ⟨h, l, ⟨vk, vm, vn, vo⟩⟩ HSK.out rfl rfl HT.out ?_; generalize (wo.alloc (.cells #[.int .u8 0, .int .u8 0, .int .u8 0, .int .u8 0, .int .u8 0, .int .u8 0, .int .u8 0, .int .u8 0, .int .u8 0, .int .u8 0, .int .i64 0, .int .u64 0, .int .i64 0] 27)).setCells wo.heap.size 0 (sC ⟨h, l, ⟨vk, vm, vn, vo⟩⟩) = w4 at J4 ⊢; generalize wo.heap.size = g at J4 ⊢; obtain ⟨c0, c9, c10, c11, c12⟩ := rs_v J4.out.rs hl8) | (go_at_call 21; refine (HMay.out _).mono ?_; rintro e w5 ⟨rfl, b5⟩; have J5 := hid (J4.out.next b5); obtain ⟨d0, d9, d10, d11, d12⟩ := rs_v J5.out.rs hl8; clear b5))
            go_ret
            refine ⟨ret_val ?_, J5.out.fr.bel⟩
            rw [HRR.out, HBAD.out (by rw [addr_eq hvv, hm]; rfl)]
            rfl
          · rw [hm] at HMay
            have hra := radr_may hm
            rw [hra] at HAdr
            cases ha : adrB ⟨vk, vm, vn, vo⟩
            · rw [ha] at HAdr
              go_wp2_with (first | ((with_reducible refine at_load 27 ?_); refine wpList_load_mid rfl 27 _ rfl w.heap.size (k * 13) rfl (sC ⟨h, l, ⟨vk, vm, vn, vo⟩⟩) _ hrk.out Try.underlying27 rfl HS.out ?_) | ((with_reducible refine at_store 27 ?_); refine wpList_store_s _ _ rfl rfl wo.heap.size ⟨h, l, ⟨vk, vm, vn, vo⟩⟩ HSK.out rfl rfl HT.out ?_; generalize (wo.alloc (.cells #[.int .u8 0, .int .u8 0, .int .u8 0, .int .u8 0, .int .u8 0, .int .u8 0, .int .u8 0, .int .u8 0, .int .u8 0, .int .u8 0, .int .i64 0, .int .u64 0, .int .i64 0] 27)).setCells wo.heap.size 0 (sC ⟨h, l, ⟨vk, vm, vn, vo⟩⟩) = w4 at J4 ⊢; generalize wo.heap.size = g at J4 ⊢; obtain ⟨c0, c9, c10, c11, c12⟩ := rs_v J4.out.rs hl8) | (go_at_call 21; refine (HMay.out _).mono ?_; rintro e w5 ⟨rfl, b5⟩; have J5 := hid (J4.out.next b5); obtain ⟨d0, d9, d10, d11, d12⟩ := rs_v J5.out.rs hl8; clear b5) | (go_at_call 34; refine (HAdr.out _).mono ?_; rintro e w6 ⟨rfl, b6⟩; have J6 := hid (J5.out.next b6); obtain ⟨f0, f9, f10, f11, f12⟩ := rs_v J6.out.rs hl8; clear b6))
              go_ret
              refine ⟨ret_val ?_, J6.out.fr.bel⟩
              rw [HRR.out, HBAD.out (by rw [addr_eq hvv, hm, ha]; rfl)]
              rfl
            · rw [ha] at HAdr
              by_cases h255 : h = 255
              · have e255 : (h != 255) = false := by simpa using h255
                have H255 := hid h255
                clear h255
                go_wp2_with (first | ((with_reducible refine at_load 27 ?_); refine wpList_load_mid rfl 27 _ rfl w.heap.size (k * 13) rfl (sC ⟨h, l, ⟨vk, vm, vn, vo⟩⟩) _ hrk.out Try.underlying27 rfl HS.out ?_) | ((with_reducible refine at_store 27 ?_); refine wpList_store_s _ _ rfl rfl wo.heap.size ⟨h, l, ⟨vk, vm, vn, vo⟩⟩ HSK.out rfl rfl HT.out ?_; generalize (wo.alloc (.cells #[.int .u8 0, .int .u8 0, .int .u8 0, .int .u8 0, .int .u8 0, .int .u8 0, .int .u8 0, .int .u8 0, .int .u8 0, .int .u8 0, .int .i64 0, .int .u64 0, .int .i64 0] 27)).setCells wo.heap.size 0 (sC ⟨h, l, ⟨vk, vm, vn, vo⟩⟩) = w4 at J4 ⊢; generalize wo.heap.size = g at J4 ⊢; obtain ⟨c0, c9, c10, c11, c12⟩ := rs_v J4.out.rs hl8) | (go_at_call 21; refine (HMay.out _).mono ?_; rintro e w5 ⟨rfl, b5⟩; have J5 := hid (J4.out.next b5); obtain ⟨d0, d9, d10, d11, d12⟩ := rs_v J5.out.rs hl8; clear b5) | (go_at_call 34; refine (HAdr.out _).mono ?_; rintro e w6 ⟨rfl, b6⟩; have J6 := hid (J5.out.next b6); obtain ⟨f0, f9, f10, f11, f12⟩ := rs_v J6.out.rs hl8; clear b6))
                go_loopw [6] (fun jv w' => ∃ i : Nat, i ≤ 8 ∧ jv = .int .i64 i ∧ Hid (∀ i2, i2 < i → l.getD i2 0 = 0) ∧ Hid (RrI w g F ⟨h, l, ⟨vk, vm, vn, vo⟩⟩ w')) (fun jv _ => 8 - (intOf jv).toNat)
                case atStart => exact ⟨0, by omega, rfl, hid (fun i2 h2 => by omega), J6⟩
                case round =>
                  obtain ⟨i, hi, rfl, HI, JI⟩ := hrel
                  by_cases hi8 : i < 8
                  · have hi8' : (i : Int) < 8 := by omega
                    have hcb := rs_b JI.out.rs hl8 i hi8
                    have hz := HLB.out (l.getD i 0) (by rw [List.getD_eq_getElem?_getD, List.getElem?_eq_getElem (by omega)]; exact List.getElem_mem _)
                    dsimp only at hcb
                    obtain ⟨hz0, hz1⟩ := hz
                    by_cases hzz : l.getD i 0 = 0
                    · rw [hzz] at hcb
                      clear hz0 hz1
                      go_wp2
                      go_roundw
                      case rel => exact ⟨i + 1, by omega, by go_num, hid (fun i2 h2 => (Nat.lt_succ_iff_lt_or_eq.1 h2).elim (fun q => HI.out i2 q) (fun q => by subst q; exact hzz)), JI⟩
                      case measure => simp [intOf]; omega
                    · have HZZ := hid hzz
                      generalize hzv : l.getD i 0 = z at hcb hz0 hz1 hzz
                      replace hzv := hid hzv
                      have dz : decide (0 < z) = true := decide_eq_true (by omega)
                      clear hzz
                      go_wp2
                      go_ret
                      refine ⟨ret_val ?_, JI.out.fr.bel⟩
                      rw [HRR.out, HBAD.out (by rw [addr_eq hvv, z8_bad hi8 HZZ.out]; simp)]
                      rfl
                  · go_wp2
                    go_roundw
                    case rel => exact ⟨k + 1, by omega, by go_num, hid (HGOOD.out (by rw [addr_eq hvv, z8_all hl8 (fun i2 h2 => HI.out i2 (by omega))]; simp [hm, ha, H255.out])), hid JI.out.fr⟩
                    case measure => simp [intOf]; omega
              · have e255 : (h != 255) = true := by simpa using h255
                go_wp2_with (first | ((with_reducible refine at_load 27 ?_); refine wpList_load_mid rfl 27 _ rfl w.heap.size (k * 13) rfl (sC ⟨h, l, ⟨vk, vm, vn, vo⟩⟩) _ hrk.out Try.underlying27 rfl HS.out ?_) | ((with_reducible refine at_store 27 ?_); refine wpList_store_s _ _ rfl rfl wo.heap.size ⟨h, l, ⟨vk, vm, vn, vo⟩⟩ HSK.out rfl rfl HT.out ?_; generalize (wo.alloc (.cells #[.int .u8 0, .int .u8 0, .int .u8 0, .int .u8 0, .int .u8 0, .int .u8 0, .int .u8 0, .int .u8 0, .int .u8 0, .int .u8 0, .int .i64 0, .int .u64 0, .int .i64 0] 27)).setCells wo.heap.size 0 (sC ⟨h, l, ⟨vk, vm, vn, vo⟩⟩) = w4 at J4 ⊢; generalize wo.heap.size = g at J4 ⊢; obtain ⟨c0, c9, c10, c11, c12⟩ := rs_v J4.out.rs hl8) | (go_at_call 21; refine (HMay.out _).mono ?_; rintro e w5 ⟨rfl, b5⟩; have J5 := hid (J4.out.next b5); obtain ⟨d0, d9, d10, d11, d12⟩ := rs_v J5.out.rs hl8; clear b5) | (go_at_call 34; refine (HAdr.out _).mono ?_; rintro e w6 ⟨rfl, b6⟩; have J6 := hid (J5.out.next b6); obtain ⟨f0, f9, f10, f11, f12⟩ := rs_v J6.out.rs hl8; clear b6))
                go_ret
                refine ⟨ret_val ?_, J6.out.fr.bel⟩
                rw [HRR.out, HBAD.out (by rw [addr_eq hvv]; simp [h255])]
                rfl
    · have hk8 : k = 64 := by omega
      subst hk8
      go_wp2
      go_ret
      refine ⟨ret_val ?_, I1.out.bel⟩
      have : (List.range 64).all (fun k => rightS (F k)) = true := by
        rw [List.all_eq_true]
        exact fun i hi => hP.out i (List.mem_range.1 hi)
      rw [HRR.out, this]
      rfl

end Go.Proofs.Ytjlaenkfjejbkaa
