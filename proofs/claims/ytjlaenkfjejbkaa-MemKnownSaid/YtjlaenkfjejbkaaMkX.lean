/-
  MemKnown: the walk.
-/
import Derived.Test.YtjlaenkfjejbkaaMbJ
import Derived.Test.YtjlaenkfjejbkaaMbT
import Derived.Test.YtjlaenkfjejbkaaMkL
import Derived.Test.YtjlaenkfjejbkaaMcB
import Derived.Test.YtjlaenkfjejbkaaMdO
namespace Go.Proofs.Ytjlaenkfjejbkaa
set_option linter.unusedSimpArgs false
set_option linter.unusedVariables false
open Go.ChangeShapes Go.WideShapes Go.ChangeAt Go.RowKit

def top : Vl := ⟨4, 0, 0, 512⟩
theorem top_ok : VOk top := by unfold VOk top; simp
def n7 : Vl := ⟨1, 0, 7, 0⟩
theorem n7_ok : VOk n7 := by unfold VOk n7; simp
def F2 : Nat → Sl := (storeF f0 16 8 top).1
theorem F2_ok : FOk F2 := storeF_ok f0_ok top_ok
def F3 : Nat → Sl := (storeF F2 20 4 n7).1
theorem F3_ok : FOk F3 := storeF_ok F2_ok n7_ok
theorem F2_e : (storeF f0 16 8 top).2 = 0 := by kernel_rfl
theorem F3_e : (storeF F2 20 4 n7).2 = 0 := by kernel_rfl
theorem l_1 : loadF f0 0 1 = (v0, 40) := by kernel_rfl
theorem l_2 : loadF f0 512 1 = (v0, 42) := by kernel_rfl
theorem l_3 : loadF f0 4 8 = (v0, 43) := by kernel_rfl
theorem l_4 : loadF f0 0 3 = (v0, 1) := by kernel_rfl
theorem l_5 : loadF F2 16 8 = (top, 0) := by kernel_rfl
theorem l_6 : loadF F2 16 4 = (v0, 41) := by kernel_rfl
theorem l_7 : loadF F3 20 4 = (n7, 0) := by kernel_rfl
theorem l_8 : loadF F3 16 4 = (v0, 40) := by kernel_rfl
/-- What the walk keeps: a frame at a block. -/
structure KnI (w : World) (B : Nat) (F : Nat → Sl) (W : World) : Prop where
  bel : Below w.heap.size w W
  sz : w.heap.size ≤ W.heap.size
  lo : w.heap.size ≤ B
  lt : B < W.heap.size
  r : W.rangeAt B 0 (fC F)
  t : W.there B 0 832
theorem KnI.next {w W V : World} {B : Nat} {F : Nat → Sl} (h : KnI w B F W) (b : Below W.heap.size W V) : KnI w B F V := by
  obtain ⟨hc, hf⟩ := bcell b
  exact ⟨below_next_w h.bel b h.sz, Nat.le_trans h.sz b.size, h.lo, Nat.lt_of_lt_of_le h.lt b.size, range_below h.r h.lt hc, there_below h.t h.lt hc hf⟩
theorem KnI.alloc {w W : World} {B : Nat} {F : Nat → Sl} (h : KnI w B F W) (o : Obj) : KnI w B F (W.alloc o) := h.next ((Below.refl _ _).alloc (Nat.le_refl _) _)
/-- A frame just made and filled. -/
theorem KnI.mk2 {w W : World} {F : Nat → Sl} {o : Obj} (hb : Below w.heap.size w W) (hz : w.heap.size ≤ W.heap.size) (hF : FOk F) (hT : (W.alloc o).there W.heap.size 0 832) : KnI w W.heap.size F ((W.alloc o).setCells W.heap.size 0 (fC F)) := by
  have h3 : Below W.heap.size W ((W.alloc o).setCells W.heap.size 0 (fC F)) := below_setCells W.heap.size (Nat.le_refl _) (fC F) 0 _ ((Below.refl _ _).alloc (Nat.le_refl _) _)
  have hl : W.heap.size < ((W.alloc o).setCells W.heap.size 0 (fC F)).heap.size := Nat.lt_of_lt_of_le (by simp) (below_setCells (n := 0) (a := W.alloc o) W.heap.size (Nat.zero_le _) (fC F) 0 _ (Below.refl _ _)).size
  exact ⟨below_next_w hb h3 hz, Nat.le_trans hz (Nat.le_of_lt hl), hz, hl, World.rangeAt_setCells_same _ _ 0 (fC F) (by rw [fC_len hF]; exact hT), World.there_setCells hT _ 0 _⟩
theorem KnI.first {w W : World} {F : Nat → Sl} {t : TypeId} (hb : Below w.heap.size w W) (hz : w.heap.size ≤ W.heap.size) (hF : FOk F) : KnI w W.heap.size F (W.alloc (.cells (fC F).toArray t)) := by
  refine ⟨hb.alloc hz _, by simp; omega, hz, by simp, range_new W (fC F).toArray t, there_box W _ t 832 ?_⟩
  rw [List.size_toArray, fC_len hF]
theorem KnI.put {w W : World} {B : Nat} {F G : Nat → Sl} (h : KnI w B F W) (hG : FOk G) : KnI w B G (W.setCells B 0 (fC G)) := by
  have hz := (below_setCells (n := 0) (a := W) B (Nat.zero_le _) (fC G) 0 W (Below.refl _ _)).size
  exact ⟨below_setCells B h.lo _ _ _ h.bel, Nat.le_trans h.sz hz, h.lo, Nat.lt_of_lt_of_le h.lt hz, World.rangeAt_setCells_same _ _ 0 (fC G) (by rw [fC_len hG]; exact h.t), World.there_setCells h.t _ 0 _⟩
theorem KnI.far {w W : World} {B b : Nat} {F : Nat → Sl} {cs : List Value} (h : KnI w B F W) (hb : w.heap.size ≤ b) (hne : B ≠ b) : KnI w B F (W.setCells b 0 cs) := by
  have hz := (below_setCells (n := 0) (a := W) b (Nat.zero_le _) cs 0 W (Below.refl _ _)).size
  exact ⟨below_setCells b hb _ _ _ h.bel, Nat.le_trans h.sz hz, h.lo, Nat.lt_of_lt_of_le h.lt hz, World.rangeAt_setCells_apart h.r b 0 _ (Or.inl hne), World.there_setCells h.t _ 0 _⟩
theorem CV.put {W : World} {b : Nat} (v : Vl) (h : W.there b 0 4) : CV (W.setCells b 0 [.int .u8 v.k, .int .i64 v.m, .int .u64 v.n, .int .i64 v.o]) b v := by
  have hr := World.rangeAt_setCells_same W b 0 [.int .u8 v.k, .int .i64 v.m, .int .u64 v.n, .int .i64 v.o] h
  exact ⟨hr 0 _ rfl, hr 1 _ rfl, hr 2 _ rfl, hr 3 _ rfl⟩
theorem CV.range {W : World} {g : Nat} {v : Vl} (h : CV W g v) : W.rangeAt g 0 [.int .u8 v.k, .int .i64 v.m, .int .u64 v.n, .int .i64 v.o] := fun j u hu => by
  obtain ⟨h0, h1, h2, h3⟩ := h
  match j, hu with
  | 0, hu => exact h0.trans hu
  | 1, hu => exact h1.trans hu
  | 2, hu => exact h2.trans hu
  | 3, hu => exact h3.trans hu
  | n + 4, hu => simp at hu
theorem wp_store_f {op : Oper} {a : Act} {w : World} {K : Act → World → Prop} {Q : Exit → Act → World → Prop} (x y : Operand) (ho : op.op = .store 35 x y)
    (b : Nat) (G : Nat → Sl) (hG : FOk G) (hx : a.eval x = .pointer (some ⟨b, 0, none⟩)) (hy : a.eval y = .agg (fC G).toArray) (ht : w.there b 0 832)
    (h : K (a.put op.dst undef) (w.setCells b 0 (fC G))) : op.wp Try.prog a w K Q :=
  wp_store_mid 35 x y ho b 0 (fC G).toArray hx hy (by rw [List.size_toArray, fC_len hG]; exact ht) (by rw [List.size_toArray, fC_len hG]; exact info35) (all_oneCell_toArray (one_fC G)) h

set_option maxRecDepth 100000 in
set_option maxHeartbeats 32000000 in
theorem memKnown_walk (w : World) : Calls Try.prog 10 #[] w fun e w' => e = .returned (.bool true) ∧ Below w.heap.size w w' := by
  have ZF0 := (zero_of_info zf_info).1
  have ZF : ∀ w, (zeroValue 35).run Try.prog w = .ok (.agg (fC f0).toArray) w := ZF0
  have HU : ∀ W : World, (W.alloc (.cells (fC f0).toArray 35)).there W.heap.size 0 832 := fun W => there_box W _ 35 832 f0_size
  have HI0 : Hid ((Try.prog.info? 35).map (·.size) = some (fC f0).length) := hid (by rw [fC_len f0_ok]; exact info35)
  have HI2 : Hid ((Try.prog.info? 35).map (·.size) = some (fC F2).length) := hid (by rw [fC_len F2_ok]; exact info35)
  have HI3 : Hid ((Try.prog.info? 35).map (·.size) = some (fC F3).length) := hid (by rw [fC_len F3_ok]; exact info35)
  have M0 : Hid (∀ W, Calls Try.prog 20 #[.agg #[.int .u8 6, .int .i64 0, .int .u64 0, .int .i64 0]] W fun e w' => e = .returned (.bool false) ∧ Below W.heap.size W w') := hid (fun W => may_any ⟨6, 0, 0, 0⟩ W)
  have M1 : Hid (∀ W, Calls Try.prog 20 #[.agg #[.int .u8 6, .int .i64 (-1), .int .u64 1, .int .i64 0]] W fun e w' => e = .returned (.bool false) ∧ Below W.heap.size W w') := hid (fun W => may_any ⟨6, -1, 1, 0⟩ W)
  have M2 : Hid (∀ W, Calls Try.prog 20 #[.agg #[.int .u8 7, .int .i64 0, .int .u64 0, .int .i64 0]] W fun e w' => e = .returned (.bool false) ∧ Below W.heap.size W w') := hid (fun W => may_any ⟨7, 0, 0, 0⟩ W)
  have M3 : Hid (∀ W, Calls Try.prog 20 #[.agg #[.int .u8 1, .int .i64 0, .int .u64 0, .int .i64 1]] W fun e w' => e = .returned (.bool false) ∧ Below W.heap.size W w') := hid (fun W => may_any ⟨1, 0, 0, 1⟩ W)
  have M4 : Hid (∀ W, Calls Try.prog 20 #[.agg #[.int .u8 5, .int .i64 (-1), .int .u64 0, .int .i64 0]] W fun e w' => e = .returned (.bool false) ∧ Below W.heap.size W w') := hid (fun W => may_any ⟨5, -1, 0, 0⟩ W)
  have M5 : Hid (∀ W, Calls Try.prog 20 #[.agg #[.int .u8 6, .int .i64 0, .int .u64 1, .int .i64 (-4)]] W fun e w' => e = .returned (.bool true) ∧ Below W.heap.size W w') := hid (fun W => may_any ⟨6, 0, 1, -4⟩ W)
  have L0 : Hid (∀ W, Calls Try.prog 11 #[.agg (fC f0).toArray, .int .i64 0, .int .i64 1] W fun e w' => e = .returned (.tuple #[.agg #[.int .u8 0, .int .i64 0, .int .u64 0, .int .i64 0], .int .i64 40]) ∧ Below W.heap.size W w') := hid (fun W => by
    have := Load_any f0 0 1 W f0_ok ⟨by decide, by decide⟩
    rw [l_1] at this
    exact this)
  have L1 : Hid (∀ W, Calls Try.prog 11 #[.agg (fC f0).toArray, .int .i64 512, .int .i64 1] W fun e w' => e = .returned (.tuple #[.agg #[.int .u8 0, .int .i64 0, .int .u64 0, .int .i64 0], .int .i64 42]) ∧ Below W.heap.size W w') := hid (fun W => by
    have := Load_any f0 512 1 W f0_ok ⟨by decide, by decide⟩
    rw [l_2] at this
    exact this)
  have L2 : Hid (∀ W, Calls Try.prog 11 #[.agg (fC f0).toArray, .int .i64 4, .int .i64 8] W fun e w' => e = .returned (.tuple #[.agg #[.int .u8 0, .int .i64 0, .int .u64 0, .int .i64 0], .int .i64 43]) ∧ Below W.heap.size W w') := hid (fun W => by
    have := Load_any f0 4 8 W f0_ok ⟨by decide, by decide⟩
    rw [l_3] at this
    exact this)
  have L3 : Hid (∀ W, Calls Try.prog 11 #[.agg (fC f0).toArray, .int .i64 0, .int .i64 3] W fun e w' => e = .returned (.tuple #[.agg #[.int .u8 0, .int .i64 0, .int .u64 0, .int .i64 0], .int .i64 1]) ∧ Below W.heap.size W w') := hid (fun W => by
    have := Load_any f0 0 3 W f0_ok ⟨by decide, by decide⟩
    rw [l_4] at this
    exact this)
  have L4 : Hid (∀ W, Calls Try.prog 11 #[.agg (fC F2).toArray, .int .i64 16, .int .i64 8] W fun e w' => e = .returned (.tuple #[.agg #[.int .u8 4, .int .i64 0, .int .u64 0, .int .i64 512], .int .i64 0]) ∧ Below W.heap.size W w') := hid (fun W => by
    have := Load_any F2 16 8 W F2_ok ⟨by decide, by decide⟩
    rw [l_5] at this
    exact this)
  have L5 : Hid (∀ W, Calls Try.prog 11 #[.agg (fC F2).toArray, .int .i64 16, .int .i64 4] W fun e w' => e = .returned (.tuple #[.agg #[.int .u8 0, .int .i64 0, .int .u64 0, .int .i64 0], .int .i64 41]) ∧ Below W.heap.size W w') := hid (fun W => by
    have := Load_any F2 16 4 W F2_ok ⟨by decide, by decide⟩
    rw [l_6] at this
    exact this)
  have L6 : Hid (∀ W, Calls Try.prog 11 #[.agg (fC F3).toArray, .int .i64 20, .int .i64 4] W fun e w' => e = .returned (.tuple #[.agg #[.int .u8 1, .int .i64 0, .int .u64 7, .int .i64 0], .int .i64 0]) ∧ Below W.heap.size W w') := hid (fun W => by
    have := Load_any F3 20 4 W F3_ok ⟨by decide, by decide⟩
    rw [l_7] at this
    exact this)
  have L7 : Hid (∀ W, Calls Try.prog 11 #[.agg (fC F3).toArray, .int .i64 16, .int .i64 4] W fun e w' => e = .returned (.tuple #[.agg #[.int .u8 0, .int .i64 0, .int .u64 0, .int .i64 0], .int .i64 40]) ∧ Below W.heap.size W w') := hid (fun W => by
    have := Load_any F3 16 4 W F3_ok ⟨by decide, by decide⟩
    rw [l_8] at this
    exact this)
  have S0 : Hid (∀ W, Calls Try.prog 17 #[.agg (fC f0).toArray, .int .i64 16, .int .i64 8, .agg #[.int .u8 4, .int .i64 0, .int .u64 0, .int .i64 512]] W fun e w' => e = .returned (.tuple #[.agg (fC F2).toArray, .int .i64 0]) ∧ Below W.heap.size W w') := hid (fun W => by
    have := Store_any f0 16 8 top W f0_ok top_ok ⟨by decide, by decide⟩
    rw [F2_e] at this
    exact this)
  have S1 : Hid (∀ W, Calls Try.prog 17 #[.agg (fC F2).toArray, .int .i64 20, .int .i64 4, .agg #[.int .u8 1, .int .i64 0, .int .u64 7, .int .i64 0]] W fun e w' => e = .returned (.tuple #[.agg (fC F3).toArray, .int .i64 0]) ∧ Below W.heap.size W w') := hid (fun W => by
    have := Store_any F2 20 4 n7 W F2_ok n7_ok ⟨by decide, by decide⟩
    rw [F3_e] at this
    exact this)
  have HNum := hid (num_any 7)
  have NEQ : ∀ W, (binOp .neq 25 (.agg #[.int .u8 4, .int .i64 0, .int .u64 0, .int .i64 512]) (.agg #[.int .u8 4, .int .i64 0, .int .u64 0, .int .i64 512])).run Try.prog W = .ok (.bool false) W := fun W => by
    have := neq_v top top W
    rw [(vB_iff _ _).2 rfl] at this
    exact this
  have EQ7 : ∀ W, (binOp .eql 25 (.agg #[.int .u8 1, .int .i64 0, .int .u64 7, .int .i64 0]) (.agg #[.int .u8 1, .int .i64 0, .int .u64 7, .int .i64 0])).run Try.prog W = .ok (.bool true) W := eqv_same 1 0 7 0
  clear ZF0
  go_enter Try.func10, Try.ntmps10
  have B0 := hid (Below.refl w.heap.size w)
  go_wp2_with fail
  refine (M0.out _).mono ?_
  rintro e m0 ⟨rfl, b⟩
  replace B0 := hid (below_next B0.out b)
  clear b M0
  go_wp2_with fail
  refine (M1.out _).mono ?_
  rintro e m1 ⟨rfl, b⟩
  replace B0 := hid (below_next B0.out b)
  clear b M1
  go_wp2_with fail
  refine (M2.out _).mono ?_
  rintro e m2 ⟨rfl, b⟩
  replace B0 := hid (below_next B0.out b)
  clear b M2
  go_wp2_with fail
  refine (M3.out _).mono ?_
  rintro e m3 ⟨rfl, b⟩
  replace B0 := hid (below_next B0.out b)
  clear b M3
  go_wp2_with fail
  refine (M4.out _).mono ?_
  rintro e m4 ⟨rfl, b⟩
  replace B0 := hid (below_next B0.out b)
  clear b M4
  go_wp2_with fail
  refine (M5.out _).mono ?_
  rintro e m5 ⟨rfl, b⟩
  replace B0 := hid (below_next B0.out b)
  clear b M5
  have J := hid (KnI.first (F := f0) (t := 35) B0.out B0.out.size f0_ok)
  have c0 := J.out.r
  clear B0
  go_wp2_with ((with_reducible refine at_load 35 ?_); refine wpList_load_mid rfl 35 _ rfl m5.heap.size 0 rfl (fC f0) _ J.out.r Try.underlying35 rfl HI0.out ?_)
  refine (L0.out _).mono ?_
  rintro e q0 ⟨rfl, b⟩
  replace J := hid (J.out.next b)
  clear b c0
  generalize m5.heap.size = B1 at *
  go_wp2_with ((with_reducible refine at_load 35 ?_); refine wpList_load_mid rfl 35 _ rfl B1 0 rfl (fC f0) _ (World.rangeAt_alloc J.out.r _) Try.underlying35 rfl HI0.out ?_)
  refine (L1.out _).mono ?_
  rintro e q1 ⟨rfl, b⟩
  replace J := hid ((J.out.alloc _).next b)
  clear b
  go_wp2_with ((with_reducible refine at_load 35 ?_); refine wpList_load_mid rfl 35 _ rfl B1 0 rfl (fC f0) _ (World.rangeAt_alloc J.out.r _) Try.underlying35 rfl HI0.out ?_)
  refine (L2.out _).mono ?_
  rintro e q2 ⟨rfl, b⟩
  replace J := hid ((J.out.alloc _).next b)
  clear b
  go_wp2_with ((with_reducible refine at_load 35 ?_); refine wpList_load_mid rfl 35 _ rfl B1 0 rfl (fC f0) _ (World.rangeAt_alloc J.out.r _) Try.underlying35 rfl HI0.out ?_)
  refine (L3.out _).mono ?_
  rintro e q3 ⟨rfl, b⟩
  replace J := hid ((J.out.alloc _).next b)
  clear b
  go_wp2_with ((with_reducible refine at_load 35 ?_); refine wpList_load_mid rfl 35 _ rfl B1 0 rfl (fC f0) _ (World.rangeAt_alloc (World.rangeAt_alloc J.out.r _) _) Try.underlying35 rfl HI0.out ?_)
  refine (S0.out _).mono ?_
  rintro e q4 ⟨rfl, b⟩
  have X10 : Hid (CV q4 (q3.heap.size + 1) top) := hid (by have := cellsV b; unfold top; simpa using this)
  replace J := hid (((J.out.alloc _).alloc _).next b)
  have HT := hid (HU q4)
  have K := hid (KnI.mk2 (F := F2) J.out.bel J.out.sz F2_ok HT.out)
  have X10n : Hid (CV _ (q3.heap.size + 1) top) := hid (X10.out.next (below_setCells q4.heap.size (Nat.le_refl _) (fC F2) 0 (q4.alloc (.cells (fC f0).toArray 35)) ((Below.refl _ _).alloc (Nat.le_refl _) _)))
  have l10 := X10.out.lt
  clear b X10
  generalize q3.heap.size + 1 = B10 at *
  go_wp2_with (first | ((with_reducible refine at_store 35 ?_); refine wpList_store_f _ _ rfl rfl q4.heap.size F2 F2_ok rfl rfl HT.out ?_; generalize (q4.alloc (.cells (fC f0).toArray 35)).setCells q4.heap.size 0 (fC F2) = q5 at K X10n ⊢; generalize q4.heap.size = B11 at K l10 ⊢) | ((with_reducible refine at_load 35 ?_); refine wpList_load_mid rfl 35 _ rfl B11 0 rfl (fC F2) _ K.out.r Try.underlying35 rfl HI2.out ?_))
  refine (L4.out _).mono ?_
  rintro e q6 ⟨rfl, b⟩
  replace K := hid (K.out.next b)
  replace X10n := hid (X10n.out.next b)
  clear b HT J
  go_wp2_with ((with_reducible refine at_load 35 ?_); refine wpList_load_mid rfl 35 _ rfl B11 0 rfl (fC F2) _ (World.rangeAt_alloc K.out.r _) Try.underlying35 rfl HI2.out ?_)
  refine (L5.out _).mono ?_
  rintro e q7 ⟨rfl, b⟩
  have l11 := K.out.lt
  have X13 := hid (cellsV b)
  have T13 := hid (thA (n := 4) rfl b)
  replace K := hid ((K.out.alloc _).next b)
  replace X10n := hid ((X10n.out.alloc _).next b)
  clear b
  generalize q6.heap.size = B13 at *
  obtain ⟨a0, a1, a2, a3⟩ := X10n.out
  obtain ⟨d0, d1, d2, d3⟩ := X13.out
  unfold top at a0 a1 a2 a3
  dsimp only at a0 a1 a2 a3
  have la := X10n.out.lt
  have ld := X13.out.lt
  go_wp2_with fail
  replace K := hid (K.out.alloc (.cells #[.int .u8 0, .int .i64 0, .int .u64 0, .int .i64 0] 25))
  replace X13 := hid (X13.out.alloc (.cells #[.int .u8 0, .int .i64 0, .int .u64 0, .int .i64 0] 25))
  replace T13 := hid (World.there_alloc T13.out (.cells #[.int .u8 0, .int .i64 0, .int .u64 0, .int .i64 0] 25))
  clear a0 a1 a2 a3 d0 d1 d2 d3 la ld X10n
  generalize q7.alloc (.cells #[.int .u8 0, .int .i64 0, .int .u64 0, .int .i64 0] 25) = q8 at *
  have l13 := X13.out.lt
  refine wp_region_any (by kernel_rfl) ?_
  change wpAny _ _ _ _ _ _ _ (World.drew _)
  refine any2 (i := 0) (j := 1) (by kernel_rfl) rfl rfl (by rfl) rfl rfl (by rfl) (fun Kc hK => ?_) (fun Kc hK => ?_)
  · refine wp_load_mid 35 _ rfl B11 0 rfl (fC F2) _ ((World.rangeAt_drew _ _ _ _).2 K.out.r) Try.underlying35 rfl HI2.out ?_
    refine hK _ _ ?_
    clear hK Kc
    (try simp only [List.setIfInBounds_toArray, List.set_cons_zero, List.set_cons_succ])
    refine any1 (i := 1) (by kernel_rfl) rfl rfl (by rfl) (fun Kc hK => ?_)
    refine wp_fn (f := 28) Try.func28 (by kernel_rfl) rfl rfl [.int .u64 7] (by rfl) (HNum.out _) ?_
    intro u1 b1
    have KU := hid (K.out.next (below_next (below_dr q8) b1))
    have TU := hid (there_below T13.out l13 (bcell (below_next (below_dr q8) b1)).1 (bcell (below_next (below_dr q8) b1)).2)
    refine hK _ _ ?_
    clear hK Kc
    (try simp only [List.setIfInBounds_toArray, List.set_cons_zero, List.set_cons_succ])
    refine any1 (i := 2) (by kernel_rfl) rfl rfl (by rfl) (fun Kc hK => ?_)
    refine wp_fn (f := 17) Try.func17 (by kernel_rfl) rfl rfl [.agg (fC F2).toArray, .int .i64 20, .int .i64 4, .agg #[.int .u8 1, .int .i64 0, .int .u64 7, .int .i64 0]] (by rfl) (S1.out _) ?_
    intro u2 b2
    have KV := hid (KU.out.next b2)
    have TV := hid (there_below TU.out (Nat.lt_of_lt_of_le l13 (below_next (below_dr q8) b1).size) (bcell b2).1 (bcell b2).2)
    refine hK _ _ ?_
    clear hK Kc
    (try simp only [List.setIfInBounds_toArray, List.set_cons_zero, List.set_cons_succ])
    refine take_a (i := 3) rfl rfl (by kernel_rfl) (by kernel_rfl) (by kernel_rfl) (fun _ _ _ h => h) (yl_move (by rfl) rfl rfl) ?_
    (try simp only [List.setIfInBounds_toArray, List.set_cons_zero, List.set_cons_succ])
    refine take_a (i := 4) rfl rfl (by kernel_rfl) (by kernel_rfl) (by kernel_rfl) (fun _ _ _ h => h) (yl_extract (by rfl) rfl rfl rfl) ?_
    (try simp only [List.setIfInBounds_toArray, List.set_cons_zero, List.set_cons_succ])
    refine take_a (i := 5) rfl rfl (by kernel_rfl) (by kernel_rfl) (by kernel_rfl) (fun _ _ _ h => h) (yl_extract (by rfl) rfl rfl rfl) ?_
    (try simp only [List.setIfInBounds_toArray, List.set_cons_zero, List.set_cons_succ])
    refine any1s (i := 6) (by kernel_rfl) rfl rfl (by rfl) (fun Kc hK => ?_)
    refine wp_store_f _ _ rfl B11 F3 F3_ok rfl rfl KV.out.t ?_
    refine hK _ _ ?_
    clear hK Kc
    refine take_a (i := 7) rfl rfl (by kernel_rfl) (by kernel_rfl) (by kernel_rfl) (fun _ _ _ h => h) (yl_assign (by rfl) rfl rfl) ?_
    (try simp only [List.setIfInBounds_toArray, List.set_cons_zero, List.set_cons_succ])
    refine wpAny_done (by kernel_rfl) ?_ _
    have l9 : B13 < (u2.setCells B11 0 (fC F3)).heap.size := Nat.lt_of_lt_of_le (Nat.lt_of_lt_of_le (Nat.lt_of_lt_of_le l13 (below_next (below_dr q8) b1).size) b2.size) (below_setCells (n := 0) (a := u2) B11 (Nat.zero_le _) (fC F3) 0 u2 (Below.refl _ _)).size
    have K9 := hid (KV.out.put F3_ok)
    have T9 := hid (World.there_setCells TV.out B11 0 (fC F3))
    generalize u2.setCells B11 0 (fC F3) = q9 at K9 T9 l9 ⊢
    clear KV TV KU TU b1 b2
    have lo13 : w.heap.size ≤ B13 := Nat.le_trans K9.out.lo (Nat.le_of_lt l11)
    clear K T13 X13 l13
    go_wp2_with ((with_reducible refine at_load 35 ?_); refine wpList_load_mid rfl 35 _ rfl B11 0 rfl (fC F3) _ K9.out.r Try.underlying35 rfl HI3.out ?_)
    refine (L6.out _).mono ?_
    rintro e q10 ⟨rfl, b⟩
    have Ka := hid ((K9.out.next b).far (cs := [.int .u8 1, .int .i64 0, .int .u64 7, .int .i64 0]) lo13 (Nat.ne_of_lt l11))
    have T10 := hid (there_below T9.out l9 (bcell b).1 (bcell b).2)
    have X13 := hid (CV.put ⟨1, 0, 7, 0⟩ T10.out)
    clear b K9 T9
    obtain ⟨v0, hv0⟩ : ∃ v, q10.cell? ⟨B13, 0, none⟩ = some v := Option.isSome_iff_exists.1 (T10.out 0 (by decide)).1
    have hf0 : q10.frozen? ⟨B13, 0, none⟩ = false := (T10.out 0 (by decide)).2
    obtain ⟨v1, hv1⟩ : ∃ v, q10.cell? ⟨B13, 1, none⟩ = some v := Option.isSome_iff_exists.1 (T10.out 1 (by decide)).1
    have hf1 : q10.frozen? ⟨B13, 1, none⟩ = false := (T10.out 1 (by decide)).2
    obtain ⟨v2, hv2⟩ : ∃ v, q10.cell? ⟨B13, 2, none⟩ = some v := Option.isSome_iff_exists.1 (T10.out 2 (by decide)).1
    have hf2 : q10.frozen? ⟨B13, 2, none⟩ = false := (T10.out 2 (by decide)).2
    obtain ⟨v3, hv3⟩ : ∃ v, q10.cell? ⟨B13, 3, none⟩ = some v := Option.isSome_iff_exists.1 (T10.out 3 (by decide)).1
    have hf3 : q10.frozen? ⟨B13, 3, none⟩ = false := (T10.out 3 (by decide)).2
    have Kn : KnI w B11 F3 ((((q10.setCell ⟨B13, 0, none⟩ (.int .u8 1)).setCell ⟨B13, 1, none⟩ (.int .i64 0)).setCell ⟨B13, 2, none⟩ (.int .u64 7)).setCell ⟨B13, 3, none⟩ (.int .i64 0)) := Ka.out
    have Xn : CV ((((q10.setCell ⟨B13, 0, none⟩ (.int .u8 1)).setCell ⟨B13, 1, none⟩ (.int .i64 0)).setCell ⟨B13, 2, none⟩ (.int .u64 7)).setCell ⟨B13, 3, none⟩ (.int .i64 0)) B13 ⟨1, 0, 7, 0⟩ := X13.out
    have KN := hid Kn
    have XN := hid Xn
    clear Kn Xn
    go_wp2_with ((with_reducible refine at_load 35 ?_); refine wpList_load_mid rfl 35 _ rfl B11 0 rfl (fC F3) _ KN.out.r Try.underlying35 rfl HI3.out ?_)
    clear hv0 hv1 hv2 hv3 hf0 hf1 hf2 hf3
    refine (L7.out _).mono ?_
    rintro e q12 ⟨rfl, b⟩
    replace Ka := hid (KN.out.next b)
    replace X13 := hid (XN.out.next b)
    clear b T10 KN XN
    go_wp2_with fail
    have hr3 : (q12.alloc (.cells #[.int .u8 1, .int .u8 2, .int .u8 3] 5)).rangeAt q12.heap.size 0 (bC [1, 2, 3]) := range_new q12 #[.int .u8 1, .int .u8 2, .int .u8 3] 5
    refine (Put_ok q12.heap.size 0 3 [1, 2, 3] 2 1 255 _ (Nat.le_refl _) hr3 (by decide) ⟨by decide, by decide⟩ (by kernel_rfl)).mono ?_
    rintro e q13 ⟨rfl, hr, hz, b, _⟩
    have hp3 : putL [1, 2, 3] (2 : Int).toNat (layL 255 (1 : Int).toNat) = [1, 2, 255] := by kernel_rfl
    rw [hp3] at hr
    replace Ka := hid ((Ka.out.alloc (.cells #[.int .u8 1, .int .u8 2, .int .u8 3] 5)).next b)
    replace X13 := hid ((X13.out.alloc (.cells #[.int .u8 1, .int .u8 2, .int .u8 3] 5)).next b)
    have esz : (q12.alloc (.cells #[.int .u8 1, .int .u8 2, .int .u8 3] 5)).heap.size = q12.heap.size + 1 := by simp
    rw [esz] at hr
    have HRp := hid hr
    clear b hr hr3 hp3 esz
    go_wp2_with fail
    have hE42 : getE 3 2 2 = 42 := by kernel_rfl
    have hpb := Put_bad (some ⟨q13.heap.size, 0, none⟩) 3 3 2 2 255 (q13.alloc (.cells #[.int .u8 1, .int .u8 2, .int .u8 3] 5)) (by decide) ⟨by decide, by decide⟩ (by rw [hE42]; decide)
    rw [hE42] at hpb
    refine hpb.mono ?_
    rintro e q15 ⟨rfl, rfl⟩
    clear hE42 hpb
    go_wp2_with fail
    have K14 := hid (Ka.out.alloc (.cells #[.int .u8 1, .int .u8 2, .int .u8 3] 5))
    have X14 := hid (X13.out.alloc (.cells #[.int .u8 1, .int .u8 2, .int .u8 3] 5))
    replace HRp := hid (World.rangeAt_alloc HRp.out (.cells #[.int .u8 1, .int .u8 2, .int .u8 3] 5))
    clear Ka X13 hz
    generalize q13.alloc (.cells #[.int .u8 1, .int .u8 2, .int .u8 3] 5) = q14 at *
    generalize q12.heap.size + 1 = B17 at *
    obtain ⟨BS, hBS⟩ : ∃ BS, bS [1, 2, 255] = BS := ⟨_, rfl⟩
    have EQS : Hid (∀ w : World, (binOp .eql 9 (.string BS) (.string ⟨#[1, 2, 255]⟩)).run Try.prog w = .ok (.bool true) w) := hid (by
      rw [← hBS]
      intro w
      kernel_rfl)
    have HCV : Hid (∀ W : World, W.rangeAt B17 0 (bC [1, 2, 255]) → (convert 53 9 (.slice (some ⟨B17, 0, none⟩) 3 3)).run Try.prog W = .ok (.string BS) W) := hid (fun W hW => hBS ▸ conv_b (pv := .slice (some ⟨B17, 0, none⟩) ([1, 2, 255] : List Int).length 3) (l := [1, 2, 255]) (.inl ⟨B17, 0, 3, rfl, Nat.le_refl _, hW⟩) (by intro x hx; simp at hx; omega))
    clear hBS
    as_aux_lemma =>
      have lp : B17 < q14.heap.size := range_lt (by decide) HRp.out
      have l14 := X14.out.lt
      refine wp_region_held_drew (S := (fun w' : World => w'.rangeAt B13 0 [.int .u8 1, .int .i64 0, .int .u64 7, .int .i64 0] ∧ w'.rangeAt B17 0 (bC [1, 2, 255]) ∧ Below q14.heap.size q14 w')) (by kernel_rfl) ⟨(World.rangeAt_drew _ _ _ _).2 X14.out.range, (World.rangeAt_drew _ _ _ _).2 HRp.out, below_dr q14⟩ (fun hS0 => ?_)
      change wpAnyH _ _ _ _ _ 32 #[false, false, false, false, false, false, false, false, false, false, false, false, false, false, false, false, false, false, false, false, false, false, false, false, false, false, false, false, false, false, false, false] _ _
      refine take_h (i := 0) #[true, false, false, false, false, false, false, false, false, false, false, false, false, false, false, false, false, false, false, false, false, false, false, false, false, false, false, false, false, false, false, false] rfl rfl (by kernel_rfl) (by kernel_rfl) (by kernel_rfl) rfl (fun _ _ _ h => h) hS0 ((yl_move (by rfl) rfl rfl).yieldsIf) ?_
      (try simp only [List.setIfInBounds_toArray, List.set_cons_zero, List.set_cons_succ])
      refine take_h (i := 1) #[true, true, false, false, false, false, false, false, false, false, false, false, false, false, false, false, false, false, false, false, false, false, false, false, false, false, false, false, false, false, false, false] rfl rfl (by kernel_rfl) (by kernel_rfl) (by kernel_rfl) rfl (fun _ _ _ h => h) hS0 ((yl_bin (u := .int .i64 0) (v := .int .i64 0) (r := .bool true) (by rfl) rfl (by rfl) (by rfl) (fun w => by simp [go_sem]) (fun w => by rfl)).yieldsIf) ?_
      (try simp only [List.setIfInBounds_toArray, List.set_cons_zero, List.set_cons_succ])
      refine take_h (i := 2) #[true, true, true, false, false, false, false, false, false, false, false, false, false, false, false, false, false, false, false, false, false, false, false, false, false, false, false, false, false, false, false, false] rfl rfl (by kernel_rfl) (by kernel_rfl) (by kernel_rfl) rfl (fun _ _ _ h => h) hS0 ((yl_move (by rfl) rfl rfl).yieldsIf) ?_
      (try simp only [List.setIfInBounds_toArray, List.set_cons_zero, List.set_cons_succ])
      refine take_h (i := 3) #[true, true, true, true, false, false, false, false, false, false, false, false, false, false, false, false, false, false, false, false, false, false, false, false, false, false, false, false, false, false, false, false] rfl rfl (by kernel_rfl) (by kernel_rfl) (by kernel_rfl) rfl (fun _ _ _ h => h) hS0 ((yl_move (by rfl) rfl rfl).yieldsIf) ?_
      (try simp only [List.setIfInBounds_toArray, List.set_cons_zero, List.set_cons_succ])
      refine take_h (i := 4) #[true, true, true, true, true, false, false, false, false, false, false, false, false, false, false, false, false, false, false, false, false, false, false, false, false, false, false, false, false, false, false, false] rfl rfl (by kernel_rfl) (by kernel_rfl) (by kernel_rfl) rfl (fun _ _ _ h => h) hS0 ((yl_bin (u := .int .i64 0) (v := .int .i64 0) (r := .bool true) (by rfl) rfl (by rfl) (by rfl) (fun w => by simp [go_sem]) (fun w => by rfl)).yieldsIf) ?_
      (try simp only [List.setIfInBounds_toArray, List.set_cons_zero, List.set_cons_succ])
      refine take_h (i := 5) #[true, true, true, true, true, true, false, false, false, false, false, false, false, false, false, false, false, false, false, false, false, false, false, false, false, false, false, false, false, false, false, false] rfl rfl (by kernel_rfl) (by kernel_rfl) (by kernel_rfl) rfl (fun _ _ _ h => h) hS0 ((yl_pick (by rfl) rfl (by rfl) (by rfl)).yieldsIf) ?_
      (try simp only [List.setIfInBounds_toArray, List.set_cons_zero, List.set_cons_succ])
      refine take_h (i := 6) #[true, true, true, true, true, true, true, false, false, false, false, false, false, false, false, false, false, false, false, false, false, false, false, false, false, false, false, false, false, false, false, false] rfl rfl (by kernel_rfl) (by kernel_rfl) (by kernel_rfl) rfl (fun _ _ _ h => h) hS0 ((yl_move (by rfl) rfl rfl).yieldsIf) ?_
      (try simp only [List.setIfInBounds_toArray, List.set_cons_zero, List.set_cons_succ])
      as_aux_lemma =>
        refine take_h (i := 7) #[true, true, true, true, true, true, true, true, false, false, false, false, false, false, false, false, false, false, false, false, false, false, false, false, false, false, false, false, false, false, false, false] rfl rfl (by kernel_rfl) (by kernel_rfl) (by kernel_rfl) rfl (fun _ _ _ h => h) hS0 (yieldsIf_load_mid (by rfl) 25 _ rfl B13 0 rfl [.int .u8 1, .int .i64 0, .int .u64 7, .int .i64 0] _ (fun w h => h.1) Try.underlying25 rfl info25o) ?_
        (try simp only [List.setIfInBounds_toArray, List.set_cons_zero, List.set_cons_succ])
        refine one_h (i := 8) #[true, true, true, true, true, true, true, true, true, false, false, false, false, false, false, false, false, false, false, false, false, false, false, false, false, false, false, false, false, false, false, false] (by kernel_rfl) rfl rfl (by rfl) rfl (fun Kc hK => ?_)
        refine wp_fn (f := 28) Try.func28 (by kernel_rfl) rfl rfl [.int .u64 7] (by rfl) (HNum.out _) ?_
        intro u3 b3
        have b3x := below_next (below_dr q14) b3
        have hS1 : (fun w' : World => w'.rangeAt B13 0 [.int .u8 1, .int .i64 0, .int .u64 7, .int .i64 0] ∧ w'.rangeAt B17 0 (bC [1, 2, 255]) ∧ Below q14.heap.size q14 w') u3 := ⟨range_below X14.out.range l14 (bcell b3x).1, range_below HRp.out lp (bcell b3x).1, b3x⟩
        refine hK _ _ hS1 ?_
        clear hK Kc
        (try simp only [List.setIfInBounds_toArray, List.set_cons_zero, List.set_cons_succ])
        refine take_h (i := 9) #[true, true, true, true, true, true, true, true, true, true, false, false, false, false, false, false, false, false, false, false, false, false, false, false, false, false, false, false, false, false, false, false] rfl rfl (by kernel_rfl) (by kernel_rfl) (by kernel_rfl) rfl (fun _ _ _ h => h) hS1 ((yl_bin (u := .agg #[.int .u8 1, .int .i64 0, .int .u64 7, .int .i64 0]) (v := .agg #[.int .u8 1, .int .i64 0, .int .u64 7, .int .i64 0]) (r := .bool true) (by rfl) rfl (by rfl) (by rfl) EQ7 (fun w => by kernel_rfl)).yieldsIf) ?_
        (try simp only [List.setIfInBounds_toArray, List.set_cons_zero, List.set_cons_succ])
        refine take_h (i := 10) #[true, true, true, true, true, true, true, true, true, true, true, false, false, false, false, false, false, false, false, false, false, false, false, false, false, false, false, false, false, false, false, false] rfl rfl (by kernel_rfl) (by kernel_rfl) (by kernel_rfl) rfl (fun _ _ _ h => h) hS1 ((yl_pick (by rfl) rfl (by rfl) (by rfl)).yieldsIf) ?_
        (try simp only [List.setIfInBounds_toArray, List.set_cons_zero, List.set_cons_succ])
        refine take_h (i := 11) #[true, true, true, true, true, true, true, true, true, true, true, true, false, false, false, false, false, false, false, false, false, false, false, false, false, false, false, false, false, false, false, false] rfl rfl (by kernel_rfl) (by kernel_rfl) (by kernel_rfl) rfl (fun _ _ _ h => h) hS1 ((yl_move (by rfl) rfl rfl).yieldsIf) ?_
        (try simp only [List.setIfInBounds_toArray, List.set_cons_zero, List.set_cons_succ])
        refine take_h (i := 12) #[true, true, true, true, true, true, true, true, true, true, true, true, true, false, false, false, false, false, false, false, false, false, false, false, false, false, false, false, false, false, false, false] rfl rfl (by kernel_rfl) (by kernel_rfl) (by kernel_rfl) rfl (fun _ _ _ h => h) hS1 ((yl_move (by rfl) rfl rfl).yieldsIf) ?_
        (try simp only [List.setIfInBounds_toArray, List.set_cons_zero, List.set_cons_succ])
        refine take_h (i := 13) #[true, true, true, true, true, true, true, true, true, true, true, true, true, true, false, false, false, false, false, false, false, false, false, false, false, false, false, false, false, false, false, false] rfl rfl (by kernel_rfl) (by kernel_rfl) (by kernel_rfl) rfl (fun _ _ _ h => h) hS1 ((yl_bin (u := .int .i64 40) (v := .int .i64 40) (r := .bool true) (by rfl) rfl (by rfl) (by rfl) (fun w => by simp [go_sem]) (fun w => by rfl)).yieldsIf) ?_
        (try simp only [List.setIfInBounds_toArray, List.set_cons_zero, List.set_cons_succ])
        refine take_h (i := 14) #[true, true, true, true, true, true, true, true, true, true, true, true, true, true, true, false, false, false, false, false, false, false, false, false, false, false, false, false, false, false, false, false] rfl rfl (by kernel_rfl) (by kernel_rfl) (by kernel_rfl) rfl (fun _ _ _ h => h) hS1 ((yl_pick (by rfl) rfl (by rfl) (by rfl)).yieldsIf) ?_
        (try simp only [List.setIfInBounds_toArray, List.set_cons_zero, List.set_cons_succ])
        as_aux_lemma =>
          refine take_h (i := 15) #[true, true, true, true, true, true, true, true, true, true, true, true, true, true, true, true, false, false, false, false, false, false, false, false, false, false, false, false, false, false, false, false] rfl rfl (by kernel_rfl) (by kernel_rfl) (by kernel_rfl) rfl (fun _ _ _ h => h) hS1 ((yl_move (by rfl) rfl rfl).yieldsIf) ?_
          (try simp only [List.setIfInBounds_toArray, List.set_cons_zero, List.set_cons_succ])
          refine take_h (i := 16) #[true, true, true, true, true, true, true, true, true, true, true, true, true, true, true, true, true, false, false, false, false, false, false, false, false, false, false, false, false, false, false, false] rfl rfl (by kernel_rfl) (by kernel_rfl) (by kernel_rfl) rfl (fun _ _ _ h => h) hS1 ((yl_move (by rfl) rfl rfl).yieldsIf) ?_
          (try simp only [List.setIfInBounds_toArray, List.set_cons_zero, List.set_cons_succ])
          refine take_h (i := 17) #[true, true, true, true, true, true, true, true, true, true, true, true, true, true, true, true, true, true, false, false, false, false, false, false, false, false, false, false, false, false, false, false] rfl rfl (by kernel_rfl) (by kernel_rfl) (by kernel_rfl) rfl (fun _ _ _ h => h) hS1 ((yl_bin (u := .int .i64 0) (v := .int .i64 0) (r := .bool true) (by rfl) rfl (by rfl) (by rfl) (fun w => by simp [go_sem]) (fun w => by rfl)).yieldsIf) ?_
          (try simp only [List.setIfInBounds_toArray, List.set_cons_zero, List.set_cons_succ])
          refine take_h (i := 18) #[true, true, true, true, true, true, true, true, true, true, true, true, true, true, true, true, true, true, true, false, false, false, false, false, false, false, false, false, false, false, false, false] rfl rfl (by kernel_rfl) (by kernel_rfl) (by kernel_rfl) rfl (fun _ _ _ h => h) hS1 ((yl_pick (by rfl) rfl (by rfl) (by rfl)).yieldsIf) ?_
          (try simp only [List.setIfInBounds_toArray, List.set_cons_zero, List.set_cons_succ])
          refine take_h (i := 19) #[true, true, true, true, true, true, true, true, true, true, true, true, true, true, true, true, true, true, true, true, false, false, false, false, false, false, false, false, false, false, false, false] rfl rfl (by kernel_rfl) (by kernel_rfl) (by kernel_rfl) rfl (fun _ _ _ h => h) hS1 ((yl_move (by rfl) rfl rfl).yieldsIf) ?_
          (try simp only [List.setIfInBounds_toArray, List.set_cons_zero, List.set_cons_succ])
          refine take_h (i := 20) #[true, true, true, true, true, true, true, true, true, true, true, true, true, true, true, true, true, true, true, true, true, false, false, false, false, false, false, false, false, false, false, false] rfl rfl (by kernel_rfl) (by kernel_rfl) (by kernel_rfl) rfl (fun _ _ _ h => h) hS1 ((yl_move (by rfl) rfl rfl).yieldsIf) ?_
          (try simp only [List.setIfInBounds_toArray, List.set_cons_zero, List.set_cons_succ])
          as_aux_lemma =>
            refine take_h (i := 21) (v := .string BS) #[true, true, true, true, true, true, true, true, true, true, true, true, true, true, true, true, true, true, true, true, true, true, false, false, false, false, false, false, false, false, false, false] rfl rfl (by kernel_rfl) (by kernel_rfl) (by kernel_rfl) rfl (fun _ _ _ h => h) hS1 ?hy21 ?_
            case hy21 =>
              refine yl_conv (v := .string BS) (A := 53) (D := 9) (x := .tmp 158) (u := .slice (some ⟨B17, 0, none⟩) 3 3) ?y1 ?y2 ?y3 ?y4
              case y1 => rfl
              case y2 => rfl
              case y3 => rfl
              case y4 => exact fun w h => HCV.out w h.2.1
            (try simp only [List.setIfInBounds_toArray, List.set_cons_zero, List.set_cons_succ])
            refine take_h (i := 22) (v := .bool true) #[true, true, true, true, true, true, true, true, true, true, true, true, true, true, true, true, true, true, true, true, true, true, true, false, false, false, false, false, false, false, false, false] rfl rfl (by kernel_rfl) (by kernel_rfl) (by kernel_rfl) rfl (fun _ _ _ h => h) hS1 ?hy22 ?_
            case hy22 =>
              refine (yl_bin (u := .string BS) (v := .string ⟨#[1, 2, 255]⟩) (r := .bool true) (op := .eql) (T := 9) (U := 9) (x := .tmp 159) (y := .const (.string ⟨#[1, 2, 255]⟩)) ?z1 ?z2 ?z3 ?z4 ?z5 ?z6).yieldsIf
              case z1 => rfl
              case z2 => rfl
              case z3 => rfl
              case z4 => rfl
              case z5 => exact EQS.out
              case z6 => exact fun w => rfl
            (try simp only [List.setIfInBounds_toArray, List.set_cons_zero, List.set_cons_succ])
            refine take_h (i := 23) (v := .bool true) #[true, true, true, true, true, true, true, true, true, true, true, true, true, true, true, true, true, true, true, true, true, true, true, true, false, false, false, false, false, false, false, false] rfl rfl (by kernel_rfl) (by kernel_rfl) (by kernel_rfl) rfl (fun _ _ _ h => h) hS1 ?hy23 ?_
            case hy23 =>
              refine (yl_pick (c := .tmp 157) (x := .tmp 160) (y := .const (.bool false)) (b := true) (v := .bool true) ?q0 ?q1 ?q2 ?q3).yieldsIf
              case q0 => rfl
              case q1 => rfl
              case q2 => rfl
              case q3 => rfl
            (try simp only [List.setIfInBounds_toArray, List.set_cons_zero, List.set_cons_succ])
            refine take_h (i := 24) (v := .bool true) #[true, true, true, true, true, true, true, true, true, true, true, true, true, true, true, true, true, true, true, true, true, true, true, true, true, false, false, false, false, false, false, false] rfl rfl (by kernel_rfl) (by kernel_rfl) (by kernel_rfl) rfl (fun _ _ _ h => h) hS1 ?hy24 ?_
            case hy24 =>
              refine (yl_move (x := .tmp 161) (v := .bool true) ?q0 ?q1 ?q2).yieldsIf
              case q0 => rfl
              case q1 => rfl
              case q2 => rfl
            (try simp only [List.setIfInBounds_toArray, List.set_cons_zero, List.set_cons_succ])
            as_aux_lemma =>
              refine take_h (i := 25) (v := .int .i64 42) #[true, true, true, true, true, true, true, true, true, true, true, true, true, true, true, true, true, true, true, true, true, true, true, true, true, true, false, false, false, false, false, false] rfl rfl (by kernel_rfl) (by kernel_rfl) (by kernel_rfl) rfl (fun _ _ _ h => h) hS1 ?hy25 ?_
              case hy25 =>
                refine (yl_move (x := .tmp 20) (v := .int .i64 42) ?q0 ?q1 ?q2).yieldsIf
                case q0 => rfl
                case q1 => rfl
                case q2 => rfl
              (try simp only [List.setIfInBounds_toArray, List.set_cons_zero, List.set_cons_succ])
              refine take_h (i := 26) (v := .bool true) #[true, true, true, true, true, true, true, true, true, true, true, true, true, true, true, true, true, true, true, true, true, true, true, true, true, true, true, false, false, false, false, false] rfl rfl (by kernel_rfl) (by kernel_rfl) (by kernel_rfl) rfl (fun _ _ _ h => h) hS1 ?hy26 ?_
              case hy26 =>
                refine (yl_bin (op := .eql) (T := 30) (U := 30) (x := .tmp 163) (y := .const (.int .i64 42)) (u := .int .i64 42) (v := .int .i64 42) (r := .bool true) ?q0 ?q1 ?q2 ?q3 ?q4 ?q5).yieldsIf
                case q0 => rfl
                case q1 => rfl
                case q2 => rfl
                case q3 => rfl
                case q4 => exact fun w => by simp [go_sem]
                case q5 => exact fun w => rfl
              (try simp only [List.setIfInBounds_toArray, List.set_cons_zero, List.set_cons_succ])
              refine take_h (i := 27) (v := .bool true) #[true, true, true, true, true, true, true, true, true, true, true, true, true, true, true, true, true, true, true, true, true, true, true, true, true, true, true, true, false, false, false, false] rfl rfl (by kernel_rfl) (by kernel_rfl) (by kernel_rfl) rfl (fun _ _ _ h => h) hS1 ?hy27 ?_
              case hy27 =>
                refine (yl_pick (c := .tmp 162) (x := .tmp 164) (y := .const (.bool false)) (b := true) (v := .bool true) ?q0 ?q1 ?q2 ?q3).yieldsIf
                case q0 => rfl
                case q1 => rfl
                case q2 => rfl
                case q3 => rfl
              (try simp only [List.setIfInBounds_toArray, List.set_cons_zero, List.set_cons_succ])
              refine take_h (i := 28) (v := .bool true) #[true, true, true, true, true, true, true, true, true, true, true, true, true, true, true, true, true, true, true, true, true, true, true, true, true, true, true, true, true, false, false, false] rfl rfl (by kernel_rfl) (by kernel_rfl) (by kernel_rfl) rfl (fun _ _ _ h => h) hS1 ?hy28 ?_
              case hy28 =>
                refine (yl_move (x := .tmp 165) (v := .bool true) ?q0 ?q1 ?q2).yieldsIf
                case q0 => rfl
                case q1 => rfl
                case q2 => rfl
              (try simp only [List.setIfInBounds_toArray, List.set_cons_zero, List.set_cons_succ])
              as_aux_lemma =>
                refine one_h (i := 29) #[true, true, true, true, true, true, true, true, true, true, true, true, true, true, true, true, true, true, true, true, true, true, true, true, true, true, true, true, true, true, false, false] (by kernel_rfl) rfl rfl (by rfl) rfl (fun Kc hK => ?_)
                refine wp_fn (f := 14) Try.func14 (by kernel_rfl) rfl rfl [] (by rfl) (awake_any _) ?_
                intro u4 b4
                have b4x := below_next b3x b4
                have hS2 : (fun w' : World => w'.rangeAt B13 0 [.int .u8 1, .int .i64 0, .int .u64 7, .int .i64 0] ∧ w'.rangeAt B17 0 (bC [1, 2, 255]) ∧ Below q14.heap.size q14 w') u4 := ⟨range_below X14.out.range l14 (bcell b4x).1, range_below HRp.out lp (bcell b4x).1, b4x⟩
                refine hK _ _ hS2 ?_
                clear hK Kc
                (try simp only [List.setIfInBounds_toArray, List.set_cons_zero, List.set_cons_succ])
                refine take_h (i := 30) (v := .bool true) #[true, true, true, true, true, true, true, true, true, true, true, true, true, true, true, true, true, true, true, true, true, true, true, true, true, true, true, true, true, true, true, false] rfl rfl (by kernel_rfl) (by kernel_rfl) (by kernel_rfl) rfl (fun _ _ _ h => h) hS2 ?hy30 ?_
                case hy30 =>
                  refine (yl_pick (c := .tmp 166) (x := .tmp 167) (y := .const (.bool false)) (b := true) (v := .bool true) ?q0 ?q1 ?q2 ?q3).yieldsIf
                  case q0 => rfl
                  case q1 => rfl
                  case q2 => rfl
                  case q3 => rfl
                (try simp only [List.setIfInBounds_toArray, List.set_cons_zero, List.set_cons_succ])
                refine take_h (i := 31) (v := .bool true) #[true, true, true, true, true, true, true, true, true, true, true, true, true, true, true, true, true, true, true, true, true, true, true, true, true, true, true, true, true, true, true, true] rfl rfl (by kernel_rfl) (by kernel_rfl) (by kernel_rfl) rfl (fun _ _ _ h => h) hS2 ?hy31 ?_
                case hy31 =>
                  refine (yl_assign (x := .tmp 168) (v := .bool true) ?q0 ?q1 ?q2).yieldsIf
                  case q0 => rfl
                  case q1 => rfl
                  case q2 => rfl
                (try simp only [List.setIfInBounds_toArray, List.set_cons_zero, List.set_cons_succ])
                refine wpAnyH_done (by kernel_rfl) ?_ _
                have hfin := below_next_w K14.out.bel b4x K14.out.sz
                go_wp2
                go_ret
                exact ⟨rfl, hfin⟩
  · refine wp_fn (f := 28) Try.func28 (by kernel_rfl) rfl rfl [.int .u64 7] (by rfl) (HNum.out _) ?_
    intro u1 b1
    have KU := hid (K.out.next (below_next (below_dr q8) b1))
    have TU := hid (there_below T13.out l13 (bcell (below_next (below_dr q8) b1)).1 (bcell (below_next (below_dr q8) b1)).2)
    refine hK _ _ ?_
    clear hK Kc
    (try simp only [List.setIfInBounds_toArray, List.set_cons_zero, List.set_cons_succ])
    refine any1 (i := 0) (by kernel_rfl) rfl rfl (by rfl) (fun Kc hK => ?_)
    refine wp_load_mid 35 _ rfl B11 0 rfl (fC F2) _ KU.out.r Try.underlying35 rfl HI2.out ?_
    refine hK _ _ ?_
    clear hK Kc
    (try simp only [List.setIfInBounds_toArray, List.set_cons_zero, List.set_cons_succ])
    refine any1 (i := 2) (by kernel_rfl) rfl rfl (by rfl) (fun Kc hK => ?_)
    refine wp_fn (f := 17) Try.func17 (by kernel_rfl) rfl rfl [.agg (fC F2).toArray, .int .i64 20, .int .i64 4, .agg #[.int .u8 1, .int .i64 0, .int .u64 7, .int .i64 0]] (by rfl) (S1.out _) ?_
    intro u2 b2
    have KV := hid (KU.out.next b2)
    have TV := hid (there_below TU.out (Nat.lt_of_lt_of_le l13 (below_next (below_dr q8) b1).size) (bcell b2).1 (bcell b2).2)
    refine hK _ _ ?_
    clear hK Kc
    (try simp only [List.setIfInBounds_toArray, List.set_cons_zero, List.set_cons_succ])
    refine take_a (i := 3) rfl rfl (by kernel_rfl) (by kernel_rfl) (by kernel_rfl) (fun _ _ _ h => h) (yl_move (by rfl) rfl rfl) ?_
    (try simp only [List.setIfInBounds_toArray, List.set_cons_zero, List.set_cons_succ])
    refine take_a (i := 4) rfl rfl (by kernel_rfl) (by kernel_rfl) (by kernel_rfl) (fun _ _ _ h => h) (yl_extract (by rfl) rfl rfl rfl) ?_
    (try simp only [List.setIfInBounds_toArray, List.set_cons_zero, List.set_cons_succ])
    refine take_a (i := 5) rfl rfl (by kernel_rfl) (by kernel_rfl) (by kernel_rfl) (fun _ _ _ h => h) (yl_extract (by rfl) rfl rfl rfl) ?_
    (try simp only [List.setIfInBounds_toArray, List.set_cons_zero, List.set_cons_succ])
    refine any1s (i := 6) (by kernel_rfl) rfl rfl (by rfl) (fun Kc hK => ?_)
    refine wp_store_f _ _ rfl B11 F3 F3_ok rfl rfl KV.out.t ?_
    refine hK _ _ ?_
    clear hK Kc
    refine take_a (i := 7) rfl rfl (by kernel_rfl) (by kernel_rfl) (by kernel_rfl) (fun _ _ _ h => h) (yl_assign (by rfl) rfl rfl) ?_
    (try simp only [List.setIfInBounds_toArray, List.set_cons_zero, List.set_cons_succ])
    refine wpAny_done (by kernel_rfl) ?_ _
    have l9 : B13 < (u2.setCells B11 0 (fC F3)).heap.size := Nat.lt_of_lt_of_le (Nat.lt_of_lt_of_le (Nat.lt_of_lt_of_le l13 (below_next (below_dr q8) b1).size) b2.size) (below_setCells (n := 0) (a := u2) B11 (Nat.zero_le _) (fC F3) 0 u2 (Below.refl _ _)).size
    have K9 := hid (KV.out.put F3_ok)
    have T9 := hid (World.there_setCells TV.out B11 0 (fC F3))
    generalize u2.setCells B11 0 (fC F3) = q9 at K9 T9 l9 ⊢
    clear KV TV KU TU b1 b2
    have lo13 : w.heap.size ≤ B13 := Nat.le_trans K9.out.lo (Nat.le_of_lt l11)
    clear K T13 X13 l13
    go_wp2_with ((with_reducible refine at_load 35 ?_); refine wpList_load_mid rfl 35 _ rfl B11 0 rfl (fC F3) _ K9.out.r Try.underlying35 rfl HI3.out ?_)
    refine (L6.out _).mono ?_
    rintro e q10 ⟨rfl, b⟩
    have Ka := hid ((K9.out.next b).far (cs := [.int .u8 1, .int .i64 0, .int .u64 7, .int .i64 0]) lo13 (Nat.ne_of_lt l11))
    have T10 := hid (there_below T9.out l9 (bcell b).1 (bcell b).2)
    have X13 := hid (CV.put ⟨1, 0, 7, 0⟩ T10.out)
    clear b K9 T9
    obtain ⟨v0, hv0⟩ : ∃ v, q10.cell? ⟨B13, 0, none⟩ = some v := Option.isSome_iff_exists.1 (T10.out 0 (by decide)).1
    have hf0 : q10.frozen? ⟨B13, 0, none⟩ = false := (T10.out 0 (by decide)).2
    obtain ⟨v1, hv1⟩ : ∃ v, q10.cell? ⟨B13, 1, none⟩ = some v := Option.isSome_iff_exists.1 (T10.out 1 (by decide)).1
    have hf1 : q10.frozen? ⟨B13, 1, none⟩ = false := (T10.out 1 (by decide)).2
    obtain ⟨v2, hv2⟩ : ∃ v, q10.cell? ⟨B13, 2, none⟩ = some v := Option.isSome_iff_exists.1 (T10.out 2 (by decide)).1
    have hf2 : q10.frozen? ⟨B13, 2, none⟩ = false := (T10.out 2 (by decide)).2
    obtain ⟨v3, hv3⟩ : ∃ v, q10.cell? ⟨B13, 3, none⟩ = some v := Option.isSome_iff_exists.1 (T10.out 3 (by decide)).1
    have hf3 : q10.frozen? ⟨B13, 3, none⟩ = false := (T10.out 3 (by decide)).2
    have Kn : KnI w B11 F3 ((((q10.setCell ⟨B13, 0, none⟩ (.int .u8 1)).setCell ⟨B13, 1, none⟩ (.int .i64 0)).setCell ⟨B13, 2, none⟩ (.int .u64 7)).setCell ⟨B13, 3, none⟩ (.int .i64 0)) := Ka.out
    have Xn : CV ((((q10.setCell ⟨B13, 0, none⟩ (.int .u8 1)).setCell ⟨B13, 1, none⟩ (.int .i64 0)).setCell ⟨B13, 2, none⟩ (.int .u64 7)).setCell ⟨B13, 3, none⟩ (.int .i64 0)) B13 ⟨1, 0, 7, 0⟩ := X13.out
    have KN := hid Kn
    have XN := hid Xn
    clear Kn Xn
    go_wp2_with ((with_reducible refine at_load 35 ?_); refine wpList_load_mid rfl 35 _ rfl B11 0 rfl (fC F3) _ KN.out.r Try.underlying35 rfl HI3.out ?_)
    clear hv0 hv1 hv2 hv3 hf0 hf1 hf2 hf3
    refine (L7.out _).mono ?_
    rintro e q12 ⟨rfl, b⟩
    replace Ka := hid (KN.out.next b)
    replace X13 := hid (XN.out.next b)
    clear b T10 KN XN
    go_wp2_with fail
    have hr3 : (q12.alloc (.cells #[.int .u8 1, .int .u8 2, .int .u8 3] 5)).rangeAt q12.heap.size 0 (bC [1, 2, 3]) := range_new q12 #[.int .u8 1, .int .u8 2, .int .u8 3] 5
    refine (Put_ok q12.heap.size 0 3 [1, 2, 3] 2 1 255 _ (Nat.le_refl _) hr3 (by decide) ⟨by decide, by decide⟩ (by kernel_rfl)).mono ?_
    rintro e q13 ⟨rfl, hr, hz, b, _⟩
    have hp3 : putL [1, 2, 3] (2 : Int).toNat (layL 255 (1 : Int).toNat) = [1, 2, 255] := by kernel_rfl
    rw [hp3] at hr
    replace Ka := hid ((Ka.out.alloc (.cells #[.int .u8 1, .int .u8 2, .int .u8 3] 5)).next b)
    replace X13 := hid ((X13.out.alloc (.cells #[.int .u8 1, .int .u8 2, .int .u8 3] 5)).next b)
    have esz : (q12.alloc (.cells #[.int .u8 1, .int .u8 2, .int .u8 3] 5)).heap.size = q12.heap.size + 1 := by simp
    rw [esz] at hr
    have HRp := hid hr
    clear b hr hr3 hp3 esz
    go_wp2_with fail
    have hE42 : getE 3 2 2 = 42 := by kernel_rfl
    have hpb := Put_bad (some ⟨q13.heap.size, 0, none⟩) 3 3 2 2 255 (q13.alloc (.cells #[.int .u8 1, .int .u8 2, .int .u8 3] 5)) (by decide) ⟨by decide, by decide⟩ (by rw [hE42]; decide)
    rw [hE42] at hpb
    refine hpb.mono ?_
    rintro e q15 ⟨rfl, rfl⟩
    clear hE42 hpb
    go_wp2_with fail
    have K14 := hid (Ka.out.alloc (.cells #[.int .u8 1, .int .u8 2, .int .u8 3] 5))
    have X14 := hid (X13.out.alloc (.cells #[.int .u8 1, .int .u8 2, .int .u8 3] 5))
    replace HRp := hid (World.rangeAt_alloc HRp.out (.cells #[.int .u8 1, .int .u8 2, .int .u8 3] 5))
    clear Ka X13 hz
    generalize q13.alloc (.cells #[.int .u8 1, .int .u8 2, .int .u8 3] 5) = q14 at *
    generalize q12.heap.size + 1 = B17 at *
    obtain ⟨BS, hBS⟩ : ∃ BS, bS [1, 2, 255] = BS := ⟨_, rfl⟩
    have EQS : Hid (∀ w : World, (binOp .eql 9 (.string BS) (.string ⟨#[1, 2, 255]⟩)).run Try.prog w = .ok (.bool true) w) := hid (by
      rw [← hBS]
      intro w
      kernel_rfl)
    have HCV : Hid (∀ W : World, W.rangeAt B17 0 (bC [1, 2, 255]) → (convert 53 9 (.slice (some ⟨B17, 0, none⟩) 3 3)).run Try.prog W = .ok (.string BS) W) := hid (fun W hW => hBS ▸ conv_b (pv := .slice (some ⟨B17, 0, none⟩) ([1, 2, 255] : List Int).length 3) (l := [1, 2, 255]) (.inl ⟨B17, 0, 3, rfl, Nat.le_refl _, hW⟩) (by intro x hx; simp at hx; omega))
    clear hBS
    as_aux_lemma =>
      have lp : B17 < q14.heap.size := range_lt (by decide) HRp.out
      have l14 := X14.out.lt
      refine wp_region_held_drew (S := (fun w' : World => w'.rangeAt B13 0 [.int .u8 1, .int .i64 0, .int .u64 7, .int .i64 0] ∧ w'.rangeAt B17 0 (bC [1, 2, 255]) ∧ Below q14.heap.size q14 w')) (by kernel_rfl) ⟨(World.rangeAt_drew _ _ _ _).2 X14.out.range, (World.rangeAt_drew _ _ _ _).2 HRp.out, below_dr q14⟩ (fun hS0 => ?_)
      change wpAnyH _ _ _ _ _ 32 #[false, false, false, false, false, false, false, false, false, false, false, false, false, false, false, false, false, false, false, false, false, false, false, false, false, false, false, false, false, false, false, false] _ _
      refine take_h (i := 0) #[true, false, false, false, false, false, false, false, false, false, false, false, false, false, false, false, false, false, false, false, false, false, false, false, false, false, false, false, false, false, false, false] rfl rfl (by kernel_rfl) (by kernel_rfl) (by kernel_rfl) rfl (fun _ _ _ h => h) hS0 ((yl_move (by rfl) rfl rfl).yieldsIf) ?_
      (try simp only [List.setIfInBounds_toArray, List.set_cons_zero, List.set_cons_succ])
      refine take_h (i := 1) #[true, true, false, false, false, false, false, false, false, false, false, false, false, false, false, false, false, false, false, false, false, false, false, false, false, false, false, false, false, false, false, false] rfl rfl (by kernel_rfl) (by kernel_rfl) (by kernel_rfl) rfl (fun _ _ _ h => h) hS0 ((yl_bin (u := .int .i64 0) (v := .int .i64 0) (r := .bool true) (by rfl) rfl (by rfl) (by rfl) (fun w => by simp [go_sem]) (fun w => by rfl)).yieldsIf) ?_
      (try simp only [List.setIfInBounds_toArray, List.set_cons_zero, List.set_cons_succ])
      refine take_h (i := 2) #[true, true, true, false, false, false, false, false, false, false, false, false, false, false, false, false, false, false, false, false, false, false, false, false, false, false, false, false, false, false, false, false] rfl rfl (by kernel_rfl) (by kernel_rfl) (by kernel_rfl) rfl (fun _ _ _ h => h) hS0 ((yl_move (by rfl) rfl rfl).yieldsIf) ?_
      (try simp only [List.setIfInBounds_toArray, List.set_cons_zero, List.set_cons_succ])
      refine take_h (i := 3) #[true, true, true, true, false, false, false, false, false, false, false, false, false, false, false, false, false, false, false, false, false, false, false, false, false, false, false, false, false, false, false, false] rfl rfl (by kernel_rfl) (by kernel_rfl) (by kernel_rfl) rfl (fun _ _ _ h => h) hS0 ((yl_move (by rfl) rfl rfl).yieldsIf) ?_
      (try simp only [List.setIfInBounds_toArray, List.set_cons_zero, List.set_cons_succ])
      refine take_h (i := 4) #[true, true, true, true, true, false, false, false, false, false, false, false, false, false, false, false, false, false, false, false, false, false, false, false, false, false, false, false, false, false, false, false] rfl rfl (by kernel_rfl) (by kernel_rfl) (by kernel_rfl) rfl (fun _ _ _ h => h) hS0 ((yl_bin (u := .int .i64 0) (v := .int .i64 0) (r := .bool true) (by rfl) rfl (by rfl) (by rfl) (fun w => by simp [go_sem]) (fun w => by rfl)).yieldsIf) ?_
      (try simp only [List.setIfInBounds_toArray, List.set_cons_zero, List.set_cons_succ])
      refine take_h (i := 5) #[true, true, true, true, true, true, false, false, false, false, false, false, false, false, false, false, false, false, false, false, false, false, false, false, false, false, false, false, false, false, false, false] rfl rfl (by kernel_rfl) (by kernel_rfl) (by kernel_rfl) rfl (fun _ _ _ h => h) hS0 ((yl_pick (by rfl) rfl (by rfl) (by rfl)).yieldsIf) ?_
      (try simp only [List.setIfInBounds_toArray, List.set_cons_zero, List.set_cons_succ])
      refine take_h (i := 6) #[true, true, true, true, true, true, true, false, false, false, false, false, false, false, false, false, false, false, false, false, false, false, false, false, false, false, false, false, false, false, false, false] rfl rfl (by kernel_rfl) (by kernel_rfl) (by kernel_rfl) rfl (fun _ _ _ h => h) hS0 ((yl_move (by rfl) rfl rfl).yieldsIf) ?_
      (try simp only [List.setIfInBounds_toArray, List.set_cons_zero, List.set_cons_succ])
      as_aux_lemma =>
        refine take_h (i := 7) #[true, true, true, true, true, true, true, true, false, false, false, false, false, false, false, false, false, false, false, false, false, false, false, false, false, false, false, false, false, false, false, false] rfl rfl (by kernel_rfl) (by kernel_rfl) (by kernel_rfl) rfl (fun _ _ _ h => h) hS0 (yieldsIf_load_mid (by rfl) 25 _ rfl B13 0 rfl [.int .u8 1, .int .i64 0, .int .u64 7, .int .i64 0] _ (fun w h => h.1) Try.underlying25 rfl info25o) ?_
        (try simp only [List.setIfInBounds_toArray, List.set_cons_zero, List.set_cons_succ])
        refine one_h (i := 8) #[true, true, true, true, true, true, true, true, true, false, false, false, false, false, false, false, false, false, false, false, false, false, false, false, false, false, false, false, false, false, false, false] (by kernel_rfl) rfl rfl (by rfl) rfl (fun Kc hK => ?_)
        refine wp_fn (f := 28) Try.func28 (by kernel_rfl) rfl rfl [.int .u64 7] (by rfl) (HNum.out _) ?_
        intro u3 b3
        have b3x := below_next (below_dr q14) b3
        have hS1 : (fun w' : World => w'.rangeAt B13 0 [.int .u8 1, .int .i64 0, .int .u64 7, .int .i64 0] ∧ w'.rangeAt B17 0 (bC [1, 2, 255]) ∧ Below q14.heap.size q14 w') u3 := ⟨range_below X14.out.range l14 (bcell b3x).1, range_below HRp.out lp (bcell b3x).1, b3x⟩
        refine hK _ _ hS1 ?_
        clear hK Kc
        (try simp only [List.setIfInBounds_toArray, List.set_cons_zero, List.set_cons_succ])
        refine take_h (i := 9) #[true, true, true, true, true, true, true, true, true, true, false, false, false, false, false, false, false, false, false, false, false, false, false, false, false, false, false, false, false, false, false, false] rfl rfl (by kernel_rfl) (by kernel_rfl) (by kernel_rfl) rfl (fun _ _ _ h => h) hS1 ((yl_bin (u := .agg #[.int .u8 1, .int .i64 0, .int .u64 7, .int .i64 0]) (v := .agg #[.int .u8 1, .int .i64 0, .int .u64 7, .int .i64 0]) (r := .bool true) (by rfl) rfl (by rfl) (by rfl) EQ7 (fun w => by kernel_rfl)).yieldsIf) ?_
        (try simp only [List.setIfInBounds_toArray, List.set_cons_zero, List.set_cons_succ])
        refine take_h (i := 10) #[true, true, true, true, true, true, true, true, true, true, true, false, false, false, false, false, false, false, false, false, false, false, false, false, false, false, false, false, false, false, false, false] rfl rfl (by kernel_rfl) (by kernel_rfl) (by kernel_rfl) rfl (fun _ _ _ h => h) hS1 ((yl_pick (by rfl) rfl (by rfl) (by rfl)).yieldsIf) ?_
        (try simp only [List.setIfInBounds_toArray, List.set_cons_zero, List.set_cons_succ])
        refine take_h (i := 11) #[true, true, true, true, true, true, true, true, true, true, true, true, false, false, false, false, false, false, false, false, false, false, false, false, false, false, false, false, false, false, false, false] rfl rfl (by kernel_rfl) (by kernel_rfl) (by kernel_rfl) rfl (fun _ _ _ h => h) hS1 ((yl_move (by rfl) rfl rfl).yieldsIf) ?_
        (try simp only [List.setIfInBounds_toArray, List.set_cons_zero, List.set_cons_succ])
        refine take_h (i := 12) #[true, true, true, true, true, true, true, true, true, true, true, true, true, false, false, false, false, false, false, false, false, false, false, false, false, false, false, false, false, false, false, false] rfl rfl (by kernel_rfl) (by kernel_rfl) (by kernel_rfl) rfl (fun _ _ _ h => h) hS1 ((yl_move (by rfl) rfl rfl).yieldsIf) ?_
        (try simp only [List.setIfInBounds_toArray, List.set_cons_zero, List.set_cons_succ])
        refine take_h (i := 13) #[true, true, true, true, true, true, true, true, true, true, true, true, true, true, false, false, false, false, false, false, false, false, false, false, false, false, false, false, false, false, false, false] rfl rfl (by kernel_rfl) (by kernel_rfl) (by kernel_rfl) rfl (fun _ _ _ h => h) hS1 ((yl_bin (u := .int .i64 40) (v := .int .i64 40) (r := .bool true) (by rfl) rfl (by rfl) (by rfl) (fun w => by simp [go_sem]) (fun w => by rfl)).yieldsIf) ?_
        (try simp only [List.setIfInBounds_toArray, List.set_cons_zero, List.set_cons_succ])
        refine take_h (i := 14) #[true, true, true, true, true, true, true, true, true, true, true, true, true, true, true, false, false, false, false, false, false, false, false, false, false, false, false, false, false, false, false, false] rfl rfl (by kernel_rfl) (by kernel_rfl) (by kernel_rfl) rfl (fun _ _ _ h => h) hS1 ((yl_pick (by rfl) rfl (by rfl) (by rfl)).yieldsIf) ?_
        (try simp only [List.setIfInBounds_toArray, List.set_cons_zero, List.set_cons_succ])
        as_aux_lemma =>
          refine take_h (i := 15) #[true, true, true, true, true, true, true, true, true, true, true, true, true, true, true, true, false, false, false, false, false, false, false, false, false, false, false, false, false, false, false, false] rfl rfl (by kernel_rfl) (by kernel_rfl) (by kernel_rfl) rfl (fun _ _ _ h => h) hS1 ((yl_move (by rfl) rfl rfl).yieldsIf) ?_
          (try simp only [List.setIfInBounds_toArray, List.set_cons_zero, List.set_cons_succ])
          refine take_h (i := 16) #[true, true, true, true, true, true, true, true, true, true, true, true, true, true, true, true, true, false, false, false, false, false, false, false, false, false, false, false, false, false, false, false] rfl rfl (by kernel_rfl) (by kernel_rfl) (by kernel_rfl) rfl (fun _ _ _ h => h) hS1 ((yl_move (by rfl) rfl rfl).yieldsIf) ?_
          (try simp only [List.setIfInBounds_toArray, List.set_cons_zero, List.set_cons_succ])
          refine take_h (i := 17) #[true, true, true, true, true, true, true, true, true, true, true, true, true, true, true, true, true, true, false, false, false, false, false, false, false, false, false, false, false, false, false, false] rfl rfl (by kernel_rfl) (by kernel_rfl) (by kernel_rfl) rfl (fun _ _ _ h => h) hS1 ((yl_bin (u := .int .i64 0) (v := .int .i64 0) (r := .bool true) (by rfl) rfl (by rfl) (by rfl) (fun w => by simp [go_sem]) (fun w => by rfl)).yieldsIf) ?_
          (try simp only [List.setIfInBounds_toArray, List.set_cons_zero, List.set_cons_succ])
          refine take_h (i := 18) #[true, true, true, true, true, true, true, true, true, true, true, true, true, true, true, true, true, true, true, false, false, false, false, false, false, false, false, false, false, false, false, false] rfl rfl (by kernel_rfl) (by kernel_rfl) (by kernel_rfl) rfl (fun _ _ _ h => h) hS1 ((yl_pick (by rfl) rfl (by rfl) (by rfl)).yieldsIf) ?_
          (try simp only [List.setIfInBounds_toArray, List.set_cons_zero, List.set_cons_succ])
          refine take_h (i := 19) #[true, true, true, true, true, true, true, true, true, true, true, true, true, true, true, true, true, true, true, true, false, false, false, false, false, false, false, false, false, false, false, false] rfl rfl (by kernel_rfl) (by kernel_rfl) (by kernel_rfl) rfl (fun _ _ _ h => h) hS1 ((yl_move (by rfl) rfl rfl).yieldsIf) ?_
          (try simp only [List.setIfInBounds_toArray, List.set_cons_zero, List.set_cons_succ])
          refine take_h (i := 20) #[true, true, true, true, true, true, true, true, true, true, true, true, true, true, true, true, true, true, true, true, true, false, false, false, false, false, false, false, false, false, false, false] rfl rfl (by kernel_rfl) (by kernel_rfl) (by kernel_rfl) rfl (fun _ _ _ h => h) hS1 ((yl_move (by rfl) rfl rfl).yieldsIf) ?_
          (try simp only [List.setIfInBounds_toArray, List.set_cons_zero, List.set_cons_succ])
          as_aux_lemma =>
            refine take_h (i := 21) (v := .string BS) #[true, true, true, true, true, true, true, true, true, true, true, true, true, true, true, true, true, true, true, true, true, true, false, false, false, false, false, false, false, false, false, false] rfl rfl (by kernel_rfl) (by kernel_rfl) (by kernel_rfl) rfl (fun _ _ _ h => h) hS1 ?hy21 ?_
            case hy21 =>
              refine yl_conv (v := .string BS) (A := 53) (D := 9) (x := .tmp 158) (u := .slice (some ⟨B17, 0, none⟩) 3 3) ?y1 ?y2 ?y3 ?y4
              case y1 => rfl
              case y2 => rfl
              case y3 => rfl
              case y4 => exact fun w h => HCV.out w h.2.1
            (try simp only [List.setIfInBounds_toArray, List.set_cons_zero, List.set_cons_succ])
            refine take_h (i := 22) (v := .bool true) #[true, true, true, true, true, true, true, true, true, true, true, true, true, true, true, true, true, true, true, true, true, true, true, false, false, false, false, false, false, false, false, false] rfl rfl (by kernel_rfl) (by kernel_rfl) (by kernel_rfl) rfl (fun _ _ _ h => h) hS1 ?hy22 ?_
            case hy22 =>
              refine (yl_bin (u := .string BS) (v := .string ⟨#[1, 2, 255]⟩) (r := .bool true) (op := .eql) (T := 9) (U := 9) (x := .tmp 159) (y := .const (.string ⟨#[1, 2, 255]⟩)) ?z1 ?z2 ?z3 ?z4 ?z5 ?z6).yieldsIf
              case z1 => rfl
              case z2 => rfl
              case z3 => rfl
              case z4 => rfl
              case z5 => exact EQS.out
              case z6 => exact fun w => rfl
            (try simp only [List.setIfInBounds_toArray, List.set_cons_zero, List.set_cons_succ])
            refine take_h (i := 23) (v := .bool true) #[true, true, true, true, true, true, true, true, true, true, true, true, true, true, true, true, true, true, true, true, true, true, true, true, false, false, false, false, false, false, false, false] rfl rfl (by kernel_rfl) (by kernel_rfl) (by kernel_rfl) rfl (fun _ _ _ h => h) hS1 ?hy23 ?_
            case hy23 =>
              refine (yl_pick (c := .tmp 157) (x := .tmp 160) (y := .const (.bool false)) (b := true) (v := .bool true) ?q0 ?q1 ?q2 ?q3).yieldsIf
              case q0 => rfl
              case q1 => rfl
              case q2 => rfl
              case q3 => rfl
            (try simp only [List.setIfInBounds_toArray, List.set_cons_zero, List.set_cons_succ])
            refine take_h (i := 24) (v := .bool true) #[true, true, true, true, true, true, true, true, true, true, true, true, true, true, true, true, true, true, true, true, true, true, true, true, true, false, false, false, false, false, false, false] rfl rfl (by kernel_rfl) (by kernel_rfl) (by kernel_rfl) rfl (fun _ _ _ h => h) hS1 ?hy24 ?_
            case hy24 =>
              refine (yl_move (x := .tmp 161) (v := .bool true) ?q0 ?q1 ?q2).yieldsIf
              case q0 => rfl
              case q1 => rfl
              case q2 => rfl
            (try simp only [List.setIfInBounds_toArray, List.set_cons_zero, List.set_cons_succ])
            as_aux_lemma =>
              refine take_h (i := 25) (v := .int .i64 42) #[true, true, true, true, true, true, true, true, true, true, true, true, true, true, true, true, true, true, true, true, true, true, true, true, true, true, false, false, false, false, false, false] rfl rfl (by kernel_rfl) (by kernel_rfl) (by kernel_rfl) rfl (fun _ _ _ h => h) hS1 ?hy25 ?_
              case hy25 =>
                refine (yl_move (x := .tmp 20) (v := .int .i64 42) ?q0 ?q1 ?q2).yieldsIf
                case q0 => rfl
                case q1 => rfl
                case q2 => rfl
              (try simp only [List.setIfInBounds_toArray, List.set_cons_zero, List.set_cons_succ])
              refine take_h (i := 26) (v := .bool true) #[true, true, true, true, true, true, true, true, true, true, true, true, true, true, true, true, true, true, true, true, true, true, true, true, true, true, true, false, false, false, false, false] rfl rfl (by kernel_rfl) (by kernel_rfl) (by kernel_rfl) rfl (fun _ _ _ h => h) hS1 ?hy26 ?_
              case hy26 =>
                refine (yl_bin (op := .eql) (T := 30) (U := 30) (x := .tmp 163) (y := .const (.int .i64 42)) (u := .int .i64 42) (v := .int .i64 42) (r := .bool true) ?q0 ?q1 ?q2 ?q3 ?q4 ?q5).yieldsIf
                case q0 => rfl
                case q1 => rfl
                case q2 => rfl
                case q3 => rfl
                case q4 => exact fun w => by simp [go_sem]
                case q5 => exact fun w => rfl
              (try simp only [List.setIfInBounds_toArray, List.set_cons_zero, List.set_cons_succ])
              refine take_h (i := 27) (v := .bool true) #[true, true, true, true, true, true, true, true, true, true, true, true, true, true, true, true, true, true, true, true, true, true, true, true, true, true, true, true, false, false, false, false] rfl rfl (by kernel_rfl) (by kernel_rfl) (by kernel_rfl) rfl (fun _ _ _ h => h) hS1 ?hy27 ?_
              case hy27 =>
                refine (yl_pick (c := .tmp 162) (x := .tmp 164) (y := .const (.bool false)) (b := true) (v := .bool true) ?q0 ?q1 ?q2 ?q3).yieldsIf
                case q0 => rfl
                case q1 => rfl
                case q2 => rfl
                case q3 => rfl
              (try simp only [List.setIfInBounds_toArray, List.set_cons_zero, List.set_cons_succ])
              refine take_h (i := 28) (v := .bool true) #[true, true, true, true, true, true, true, true, true, true, true, true, true, true, true, true, true, true, true, true, true, true, true, true, true, true, true, true, true, false, false, false] rfl rfl (by kernel_rfl) (by kernel_rfl) (by kernel_rfl) rfl (fun _ _ _ h => h) hS1 ?hy28 ?_
              case hy28 =>
                refine (yl_move (x := .tmp 165) (v := .bool true) ?q0 ?q1 ?q2).yieldsIf
                case q0 => rfl
                case q1 => rfl
                case q2 => rfl
              (try simp only [List.setIfInBounds_toArray, List.set_cons_zero, List.set_cons_succ])
              as_aux_lemma =>
                refine one_h (i := 29) #[true, true, true, true, true, true, true, true, true, true, true, true, true, true, true, true, true, true, true, true, true, true, true, true, true, true, true, true, true, true, false, false] (by kernel_rfl) rfl rfl (by rfl) rfl (fun Kc hK => ?_)
                refine wp_fn (f := 14) Try.func14 (by kernel_rfl) rfl rfl [] (by rfl) (awake_any _) ?_
                intro u4 b4
                have b4x := below_next b3x b4
                have hS2 : (fun w' : World => w'.rangeAt B13 0 [.int .u8 1, .int .i64 0, .int .u64 7, .int .i64 0] ∧ w'.rangeAt B17 0 (bC [1, 2, 255]) ∧ Below q14.heap.size q14 w') u4 := ⟨range_below X14.out.range l14 (bcell b4x).1, range_below HRp.out lp (bcell b4x).1, b4x⟩
                refine hK _ _ hS2 ?_
                clear hK Kc
                (try simp only [List.setIfInBounds_toArray, List.set_cons_zero, List.set_cons_succ])
                refine take_h (i := 30) (v := .bool true) #[true, true, true, true, true, true, true, true, true, true, true, true, true, true, true, true, true, true, true, true, true, true, true, true, true, true, true, true, true, true, true, false] rfl rfl (by kernel_rfl) (by kernel_rfl) (by kernel_rfl) rfl (fun _ _ _ h => h) hS2 ?hy30 ?_
                case hy30 =>
                  refine (yl_pick (c := .tmp 166) (x := .tmp 167) (y := .const (.bool false)) (b := true) (v := .bool true) ?q0 ?q1 ?q2 ?q3).yieldsIf
                  case q0 => rfl
                  case q1 => rfl
                  case q2 => rfl
                  case q3 => rfl
                (try simp only [List.setIfInBounds_toArray, List.set_cons_zero, List.set_cons_succ])
                refine take_h (i := 31) (v := .bool true) #[true, true, true, true, true, true, true, true, true, true, true, true, true, true, true, true, true, true, true, true, true, true, true, true, true, true, true, true, true, true, true, true] rfl rfl (by kernel_rfl) (by kernel_rfl) (by kernel_rfl) rfl (fun _ _ _ h => h) hS2 ?hy31 ?_
                case hy31 =>
                  refine (yl_assign (x := .tmp 168) (v := .bool true) ?q0 ?q1 ?q2).yieldsIf
                  case q0 => rfl
                  case q1 => rfl
                  case q2 => rfl
                (try simp only [List.setIfInBounds_toArray, List.set_cons_zero, List.set_cons_succ])
                refine wpAnyH_done (by kernel_rfl) ?_ _
                have hfin := below_next_w K14.out.bel b4x K14.out.sz
                go_wp2
                go_ret
                exact ⟨rfl, hfin⟩

end Go.Proofs.Ytjlaenkfjejbkaa
