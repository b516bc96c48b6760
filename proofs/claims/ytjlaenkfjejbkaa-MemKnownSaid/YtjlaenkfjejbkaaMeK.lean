/-
  The laws' awake.
-/
import Derived.Test.YtjlaenkfjejbkaaMeQ
namespace Go.Proofs.Ytjlaenkfjejbkaa
set_option linter.unusedSimpArgs false
set_option linter.unusedVariables false
open Go.ChangeShapes Go.WideShapes Go.ChangeAt Go.RowKit

def CutR (R : Act → World → Prop) : Exit → Act → World → Prop
  | .normal, a, w => R a w
  | _, _, _ => False
theorem CutR.imp {R : Act → World → Prop} {Q : Exit → Act → World → Prop} (h : ∀ a w, R a w → Q .normal a w) : ∀ e a w, CutR R e a w → Q e a w := fun e a w hr => by
  cases e <;> first | exact h a w hr | exact (hr : False).elim
theorem keepF {g n : Nat} {w1 W : World} {cs : List Value} (h : w1.rangeAt g 0 cs) (hg : g < n) (hb : Below n w1 W) : W.rangeAt g 0 cs ∧ Below n w1 W :=
  ⟨fun j v hv => (hb.cell (p := ⟨g, 0 + j, none⟩) hg).trans (h j v hv), hb⟩
theorem thA {W w9 : World} {C : Array Value} {T : TypeId} {n : Nat} (hC : n = C.size) (b9 : Below (W.alloc (.cells C T)).heap.size (W.alloc (.cells C T)) w9) : w9.there W.heap.size 0 n := by
  obtain ⟨hc, hf⟩ := bcell b9
  exact there_below (there_box W C T n hC) (by simp) hc hf
theorem thAd {W w9 : World} {C : Array Value} {T : TypeId} {n : Nat} (hC : n = C.size) (b9 : Below ((W.alloc (.cells C T)).drew).heap.size ((W.alloc (.cells C T)).drew) w9) : w9.there W.heap.size 0 n :=
  thA hC (below_next (below_dr _) b9)
theorem thN {V w9 : World} {B n : Nat} (b9 : Below V.heap.size V w9) (h : V.there B 0 (n + 1)) : w9.there B 0 (n + 1) := by
  obtain ⟨hc, hf⟩ := bcell b9
  obtain ⟨u, hu⟩ := Option.isSome_iff_exists.1 (h 0 (Nat.succ_pos _)).1
  exact there_below h (World.block_lt_of_cell? V _ hu) hc hf
theorem range_lt {W : World} {B o : Nat} {cs : List Value} (h0 : 0 < cs.length) (h : W.rangeAt B o cs) : B < W.heap.size :=
  World.block_lt_of_cell? W _ (h 0 _ (List.getElem?_eq_getElem h0))
/-- What awake keeps: the frame behind the store. -/
structure AwI (w : World) (B : Nat) (W : World) : Prop where
  bel : Below w.heap.size w W
  lo : w.heap.size < B
  sz : B < W.heap.size
  r0 : W.rangeAt B 0 (fC F1)
theorem AwI.next {w W W' : World} {B : Nat} (h : AwI w B W) (hb : Below W.heap.size W W') : AwI w B W' := by
  obtain ⟨hc, hf⟩ := bcell hb
  have hz := h.sz
  have hz' := hb.size
  exact ⟨below_next_w h.bel hb (by have := h.bel.size; omega), h.lo, by omega, range_below h.r0 (by omega) hc⟩
theorem AwI.alloc {w W : World} {B : Nat} (h : AwI w B W) (o : Obj) : AwI w B (W.alloc o) := h.next ((Below.refl _ _).alloc (Nat.le_refl _) _)
def C4 (W : World) (g : Nat) (n : Int) : Prop := W.cell? ⟨g, 0, none⟩ = some (.int .u8 1) ∧ W.cell? ⟨g, 1, none⟩ = some (.int .i64 0) ∧ W.cell? ⟨g, 2, none⟩ = some (.int .u64 n) ∧ W.cell? ⟨g, 3, none⟩ = some (.int .i64 0)
theorem cells4 {W w9 : World} {n : Int} {T : TypeId} (b9 : Below (W.alloc (.cells #[.int .u8 1, .int .i64 0, .int .u64 n, .int .i64 0] T)).heap.size (W.alloc (.cells #[.int .u8 1, .int .i64 0, .int .u64 n, .int .i64 0] T)) w9) : C4 w9 W.heap.size n := by
  obtain ⟨hc, hf⟩ := bcell b9
  have hl : W.heap.size < (W.alloc (.cells #[.int .u8 1, .int .i64 0, .int .u64 n, .int .i64 0] T)).heap.size := by simp
  exact ⟨by rw [hc _ _ hl]; simp [go_sem], by rw [hc _ _ hl]; simp [go_sem], by rw [hc _ _ hl]; simp [go_sem], by rw [hc _ _ hl]; simp [go_sem]⟩
theorem C4.next {W V : World} {g : Nat} {n : Int} (h : C4 W g n) (b : Below W.heap.size W V) : C4 V g n := ⟨cn b h.1, cn b h.2.1, cn b h.2.2.1, cn b h.2.2.2⟩
theorem cells4_next {W V U : World} {g : Nat} {n : Int} (a : Below W.heap.size W V) (b : Below V.heap.size V U) (h : C4 W g n) : C4 U g n := (h.next a).next b
theorem belowM {w2 W V : World} (k : Below W.heap.size W V) (h : Below w2.heap.size w2 W) : Below w2.heap.size w2 V := h.trans (k.mono h.size)
theorem keepS {w6 W : World} {g4 g5 B : Nat} {n m : Int} (h4 : C4 w6 g4 n) (h5 : C4 w6 g5 m) (hr : w6.rangeAt B 0 (fC F1)) (hB : B < w6.heap.size) (hb : Below w6.heap.size w6 W) :
    W.cell? ⟨g4, 0, none⟩ = some (.int .u8 1) ∧ W.cell? ⟨g4, 1, none⟩ = some (.int .i64 0) ∧ W.cell? ⟨g4, 2, none⟩ = some (.int .u64 n) ∧ W.cell? ⟨g4, 3, none⟩ = some (.int .i64 0) ∧
    W.cell? ⟨g5, 0, none⟩ = some (.int .u8 1) ∧ W.cell? ⟨g5, 1, none⟩ = some (.int .i64 0) ∧ W.cell? ⟨g5, 2, none⟩ = some (.int .u64 m) ∧ W.cell? ⟨g5, 3, none⟩ = some (.int .i64 0) ∧ W.rangeAt B 0 (fC F1) ∧ Below w6.heap.size w6 W :=
  ⟨cn hb h4.1, cn hb h4.2.1, cn hb h4.2.2.1, cn hb h4.2.2.2, cn hb h5.1, cn hb h5.2.1, cn hb h5.2.2.1, cn hb h5.2.2.2, range_below hr hB (bcell hb).1, hb⟩
theorem f0_size : 832 = (fC f0).toArray.size := by rw [List.size_toArray, fC_len f0_ok]

set_option maxRecDepth 100000 in
set_option maxHeartbeats 1600000 in
theorem awake_any (w : World) : Calls Try.prog 14 #[] w fun e w' => e = .returned (.bool true) ∧ Below w.heap.size w w' := by
  have ZF0 := (zero_of_info zf_info).1
  have ZF : ∀ w, (zeroValue 35).run Try.prog w = .ok (.agg (fC f0).toArray) w := ZF0
  have HSto : Hid (∀ W, Calls Try.prog 17 #[.agg (fC f0).toArray, .int .i64 8, .int .i64 4, .agg #[.int .u8 1, .int .i64 0, .int .u64 258, .int .i64 0]] W fun e w' => e = .returned (.tuple #[.agg (fC F1).toArray, .int .i64 0]) ∧ Below W.heap.size W w') := hid (fun W => by
    have := Store_any f0 8 4 n258 W f0_ok n258_ok ⟨by decide, by decide⟩
    rw [F1_e] at this
    exact this)
  have HNum := hid (num_any 258)
  have r1 := hid (FrI.first w f0 35).r0
  clear ZF0
  go_enter Try.func14, Try.ntmps14
  go_wp2_with fail
  have p1 : w.heap.size < (w.alloc (.cells (fC f0).toArray 35)).heap.size := by simp
  have hBB : Below (w.heap.size + 1) (w.alloc (.cells (fC f0).toArray 35)) (w.alloc (.cells (fC f0).toArray 35)) := Below.refl _ _
  generalize hw1 : w.alloc (.cells (fC f0).toArray 35) = w1 at *
  have HW1 := hid hw1
  have p1' : w.heap.size + 1 ≤ w1.heap.size := p1
  clear hw1
  have hu := Try.underlying35
  have hi : (Try.prog.info? 35).map (·.size) = some (fC f0).length := by rw [fC_len f0_ok]; exact info35
  have hi1 : (Try.prog.info? 35).map (·.size) = some (fC F1).length := by rw [fC_len F1_ok]; exact info35
  have hl1 : (fC F1).length = 832 := fC_len F1_ok
  have ho1 := one_fC F1
  have HU : ∀ W : World, (W.alloc (.cells (fC f0).toArray 35)).there W.heap.size 0 832 := fun W => there_box W _ 35 832 f0_size
  refine Code.wp_mono (Q := CutR (fun a W' => ∃ B : Nat, w.heap.size < B ∧ B < W'.heap.size ∧ W'.rangeAt B 0 (fC F1) ∧ Below (w.heap.size + 1) w1 W' ∧ a = { tmps := #[.bool false, .pointer (some ⟨w.heap.size, 0, none⟩), .pointer (some ⟨B, 0, none⟩), .int .i64 0, undef, undef, undef, undef, undef, undef, undef, undef, .tuple #[.agg (fC F1).toArray, .int .i64 0], .agg (fC f0).toArray, .agg #[.int .u8 1, .int .i64 0, .int .u64 258, .int .i64 0], .tuple #[.agg (fC F1).toArray, .int .i64 0], .agg (fC F1).toArray, .int .i64 0, undef, undef, undef, undef, undef, undef, undef, undef, undef, undef, undef, undef, undef, undef, undef, undef, undef, undef, undef, undef, undef, undef, undef, undef, undef, undef, undef, undef, undef, undef, undef, undef, undef, undef, undef, undef, undef, undef, undef, undef, undef, undef, undef, undef, undef, undef, undef, undef, undef, undef, undef, undef, undef, undef, undef, undef, undef, undef, undef, undef], defers := [] })) (CutR.imp ?_) ?_
  · rintro a W2 ⟨B, hB1, hB2, hR, hBel, rfl⟩
    have I2 := hid (show AwI w B W2 from ⟨by rw [← HW1.out] at hBel; exact ((Below.refl _ _).alloc (Nat.le_refl _) _).trans (hBel.mono (Nat.le_succ _)), hB1, hB2, hR⟩)
    have HL1 := hid (fun W => Load_any F1 8 1 W F1_ok ⟨by decide, by decide⟩)
    have HL4 := hid (fun W => Load_any F1 8 4 W F1_ok ⟨by decide, by decide⟩)
    have HL8 := hid (fun W => Load_any F1 8 8 W F1_ok ⟨by decide, by decide⟩)
    rw [F1_1] at HL1
    rw [F1_4] at HL4
    rw [F1_8] at HL8
    have HI1 := hid hi1
    clear hR hBel hi hi1 hl1 ho1 HU hBB ZF r1 hB1 hB2
    have HR2 := hid I2.out.r0
    unfold fV vV at HL1 HL4 HL8
    unfold v0 at HL8
    dsimp only at HL1 HL4 HL8
    go_wp2_with ((with_reducible refine at_load 35 ?_); refine wpList_load_mid rfl 35 _ rfl B 0 rfl (fC F1) _ HR2.out Try.underlying35 rfl HI1.out ?_)
    refine (HL1.out _).mono ?_
    rintro e w3 ⟨rfl, b3⟩
    have I3 := hid (I2.out.next b3)
    clear b3 HR2
    have HR3 := hid I3.out.r0
    go_wp2_with ((with_reducible refine at_load 35 ?_); refine wpList_load_mid rfl 35 _ rfl B 0 rfl (fC F1) _ (World.rangeAt_alloc HR3.out _) Try.underlying35 rfl HI1.out ?_)
    refine (HL4.out _).mono ?_
    rintro e w4 ⟨rfl, b4⟩
    have I4 := hid ((I3.out.alloc _).next b4)
    have X4 := hid (cells4 b4)
    clear b4 HR3
    have HR4 := hid I4.out.r0
    go_wp2_with ((with_reducible refine at_load 35 ?_); refine wpList_load_mid rfl 35 _ rfl B 0 rfl (fC F1) _ (World.rangeAt_alloc HR4.out _) Try.underlying35 rfl HI1.out ?_)
    refine (HL8.out _).mono ?_
    rintro e w5 ⟨rfl, b5⟩
    have I5 := hid ((I4.out.alloc _).next b5)
    have X5 := hid (cells4 b5)
    have X4' := hid (cells4_next ((Below.refl _ _).alloc (Nat.le_refl _) _) b5 X4.out)
    clear b5 HR4 X4 I2 I3 I4
    generalize hb4 : w3.heap.size = g4 at *
    generalize hb5 : w4.heap.size = g5 at *
    clear hb4 hb5
    have HGet : Hid (∀ pv W, BSl pv [1, 2, 3] W → Calls Try.prog 22 #[pv, .int .i64 1, .int .i64 2] W fun e w' => e = .returned (.tuple #[.int .u64 770, .int .i64 0]) ∧ W = w') := hid (fun pv W hb => by
      have := Get_any pv [1, 2, 3] 1 2 W hb (by intro x hx; simp at hx; omega) (by decide) ⟨by decide, by decide⟩
      rw [G770, G0] at this
      exact this)
    go_wp2_with fail
    refine (HGet.out _ _ (.inl ⟨_, 0, 3, rfl, Nat.le_refl _, by have := range_new (w5.alloc (.cells #[.int .u8 0, .int .i64 0, .int .u64 0, .int .i64 0] 25)) #[.int .u8 1, .int .u8 2, .int .u8 3] 5; simpa [bC] using this⟩)).mono ?_
    rintro e w7 ⟨rfl, rfl⟩
    have I6 := hid ((I5.out.alloc (.cells #[.int .u8 0, .int .i64 0, .int .u64 0, .int .i64 0] 25)).alloc (.cells #[.int .u8 1, .int .u8 2, .int .u8 3] 5))
    have X46 := hid (cells4_next ((Below.refl _ _).alloc (Nat.le_refl _) (.cells #[.int .u8 0, .int .i64 0, .int .u64 0, .int .i64 0] 25)) ((Below.refl _ _).alloc (Nat.le_refl _) (.cells #[.int .u8 1, .int .u8 2, .int .u8 3] 5)) X4'.out)
    have X56 := hid (cells4_next ((Below.refl _ _).alloc (Nat.le_refl _) (.cells #[.int .u8 0, .int .i64 0, .int .u64 0, .int .i64 0] 25)) ((Below.refl _ _).alloc (Nat.le_refl _) (.cells #[.int .u8 1, .int .u8 2, .int .u8 3] 5)) X5.out)
    generalize (w5.alloc (.cells #[.int .u8 0, .int .i64 0, .int .u64 0, .int .i64 0] 25)).alloc (.cells #[.int .u8 1, .int .u8 2, .int .u8 3] 5) = w6 at *
    clear I5 X5 X4' HGet HL1 HL4 HL8 HSto HW1 p1 p1'
    have HNum2 := hid (num_any 2)
    have HNum1 := hid (num_any 1)
    have HRt : Hid (∀ W, Calls Try.prog 15 #[.agg (fC F1).toArray] W fun e w' => e = .returned (.bool true) ∧ Below W.heap.size W w') := hid (fun W => by
      have := Right_any F1 W F1_ok
      rw [F1_r] at this
      exact this)
    have HMay : Hid (∀ W, Calls Try.prog 20 #[.agg #[.int .u8 1, .int .i64 0, .int .u64 1, .int .i64 0]] W fun e w' => e = .returned (.bool true) ∧ Below W.heap.size W w') := hid (fun W => may_any ⟨1, 0, 1, 0⟩ W)
    have E2 : ∀ W, (binOp .eql 25 (.agg #[.int .u8 1, .int .i64 0, .int .u64 2, .int .i64 0]) (.agg #[.int .u8 1, .int .i64 0, .int .u64 2, .int .i64 0])).run Try.prog W = .ok (.bool true) W := fun W => eq_v ⟨1, 0, 2, 0⟩ ⟨1, 0, 2, 0⟩ W
    have E258 : ∀ W, (binOp .eql 25 (.agg #[.int .u8 1, .int .i64 0, .int .u64 258, .int .i64 0]) (.agg #[.int .u8 1, .int .i64 0, .int .u64 258, .int .i64 0])).run Try.prog W = .ok (.bool true) W := fun W => eq_v ⟨1, 0, 258, 0⟩ ⟨1, 0, 258, 0⟩ W
    have hi1 := HI1.out
    have R6 := hid I6.out.r0
    have B66 := Below.refl w6.heap.size w6
    go_wp2_with fail
    go_region_held3 (fun w' => w'.cell? ⟨g4, 0, none⟩ = some (.int .u8 1) ∧ w'.cell? ⟨g4, 1, none⟩ = some (.int .i64 0) ∧ w'.cell? ⟨g4, 2, none⟩ = some (.int .u64 2) ∧ w'.cell? ⟨g4, 3, none⟩ = some (.int .i64 0) ∧ w'.cell? ⟨g5, 0, none⟩ = some (.int .u8 1) ∧ w'.cell? ⟨g5, 1, none⟩ = some (.int .i64 0) ∧ w'.cell? ⟨g5, 2, none⟩ = some (.int .u64 258) ∧ w'.cell? ⟨g5, 3, none⟩ = some (.int .i64 0) ∧ w'.rangeAt B 0 (fC F1) ∧ Below w6.heap.size w6 w')
      ((refine keepS X46.out X56.out R6.out I6.out.sz ?_; go_split_ands; first | (with_reducible assumption) | ((with_reducible refine Below.drew ?_); with_reducible assumption)))
      (first
        | (go_at_call 28; go_split_ands; (first | (refine (HNum2.out _).mono ?_) | (refine (HNum.out _).mono ?_) | (refine (HNum1.out _).mono ?_)); rintro e w7 ⟨rfl, b7⟩; have hB7 := belowM (w2 := w6) b7 (by with_reducible assumption))
        | (go_at_call 15; go_split_ands; refine (HRt.out _).mono ?_; rintro e w7 ⟨rfl, b7⟩; have hB7 := belowM (w2 := w6) b7 (by with_reducible assumption))
        | (go_at_call 20; go_split_ands; refine (HMay.out _).mono ?_; rintro e w7 ⟨rfl, b7⟩; have hB7 := belowM (w2 := w6) b7 (by with_reducible assumption)))
    go_split_ands
    go_wp2
    go_ret
    have hz6 := I6.out.bel.size
    exact ⟨rfl, below_next_w I6.out.bel (by with_reducible assumption) hz6⟩
  · go_region_held3 (fun w' => w'.rangeAt w.heap.size 0 (fC f0) ∧ Below (w.heap.size + 1) w1 w')
      ((refine keepF r1.out (Nat.lt_succ_self _) ?_; go_split_ands; first | (with_reducible assumption) | ((with_reducible refine Below.drew ?_); with_reducible assumption) | ((with_reducible refine belowA ?_ p1); with_reducible assumption) | ((with_reducible refine Below.drew ?_); (with_reducible refine belowA ?_ p1); with_reducible assumption) | ((with_reducible refine below_setCells _ ?_ _ _ _ ?_) <;> (first | (with_reducible exact p1') | (with_reducible exact hz7) | (with_reducible exact hz9) | (with_reducible assumption)))))
      (first
        | (go_at_call 28; go_split_ands; refine (HNum.out _).mono ?_; rintro e w7 ⟨rfl, b7⟩; have hB7 := belowN (n := w.heap.size) (w2 := w1) b7 (by with_reducible assumption) p1; have hz7 : w.heap.size + 1 ≤ w7.heap.size := Nat.le_trans p1 hB7.size; first | (have hT7 := thA f0_size b7) | (have hT7 := thAd f0_size b7) | skip)
        | (go_at_call 17; go_split_ands; refine (HSto.out _).mono ?_; rintro e w9 ⟨rfl, b9⟩; have hB9 := belowN (n := w.heap.size) (w2 := w1) b9 (by with_reducible assumption) p1; have hz9 : w.heap.size + 1 ≤ w9.heap.size := Nat.le_trans p1 hB9.size; first | (have hT9 := thA f0_size b9) | (have hT9 := thAd f0_size b9) | (have hT9 := thN b9 hT7) | skip))
    all_goals
      go_split_ands
      refine ⟨_, ?_, ?_, ?_, ?_, rfl⟩
      · first | exact hz9 | exact hz7 | exact p1
      · exact range_lt (by rw [hl1]; decide) (World.rangeAt_setCells_same _ _ 0 _ (by rw [hl1]; first | (with_reducible exact hT9) | exact HU _))
      · exact World.rangeAt_setCells_same _ _ 0 _ (by rw [hl1]; first | (with_reducible exact hT9) | exact HU _)
      · with_reducible assumption

end Go.Proofs.Ytjlaenkfjejbkaa
