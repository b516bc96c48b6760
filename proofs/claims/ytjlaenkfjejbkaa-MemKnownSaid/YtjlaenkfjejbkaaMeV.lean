/-
  Contracts of a slot's load, as the landed code has it.
-/
import Derived.Test.YtjlaenkfjejbkaaMeU
namespace Go.Proofs.Ytjlaenkfjejbkaa
set_option linter.unusedSimpArgs false
set_option linter.unusedVariables false
open Go.ChangeShapes Go.WideShapes Go.ChangeAt Go.RowKit

def SzP (i n : Nat) : Prop := (n = 1 ∨ n = 2 ∨ n = 4 ∨ n = 8) ∧ i + n ≤ 8
theorem and_t : ([1, 2, 4, 8].all fun n => (List.range 9).all fun i => (List.range 256).all fun h => (decide (8 < i + n)) || ((bits .and .u8 (h : Int) (bitsI i n) != bitsI i n) == !allB h i n)) = true := by kernel_rfl
theorem and_bits (h : Int) (i n : Nat) (h0 : 0 ≤ h) (h1 : h < 256) (hp : SzP i n) : (bits .and .u8 h (bitsI i n) != bitsI i n) = !allB h i n := by
  have t := and_t
  rw [List.all_eq_true] at t
  have t1 := t n (by obtain ⟨h | h | h | h, _⟩ := hp <;> simp [h])
  rw [List.all_eq_true] at t1
  have t2 := t1 i (List.mem_range.2 (by have := hp.2; omega))
  rw [List.all_eq_true] at t2
  have t3 := t2 h.toNat (List.mem_range.2 (by omega))
  rw [show ((h.toNat : Nat) : Int) = h by omega] at t3
  rw [Bool.or_eq_true, decide_eq_true_eq, beq_iff_eq] at t3
  rcases t3 with t3 | t3
  · exact absurd t3 (by have := hp.2; omega)
  · exact t3
theorem sl8 (g : Nat) (W : World) : (Instr.sliceAt 22 (.pointer (some ⟨g, 1, none⟩)) none none none).run Try.prog W = .ok (.slice (some ⟨g, 1, none⟩) 8 8) W := by kernel_rfl

theorem range_below {W W' : World} {b o : Nat} {cs : List Value} (h : W.rangeAt b o cs) (hb : b < W.heap.size) (hc : ∀ b o, b < W.heap.size → W'.cell? ⟨b, o, none⟩ = W.cell? ⟨b, o, none⟩) : W'.rangeAt b o cs := fun j v hv => by
  rw [hc _ _ hb]
  exact h j v hv
theorem range_box (w : World) (C : Array Value) (t : TypeId) (o n : Nat) : (w.alloc (.cells C t)).rangeAt w.heap.size o (C.extract o (o + n)).toList := World.rangeAt_of_block (heap_alloc_last w _) o n

theorem sload_a (s : Sl) (i n : Nat) (w : World) (hs : SOk s) (hp : SzP i n) (hv : s.v = v0) :
    Calls Try.prog 31 #[sV s, .int .i64 (i : Int), .int .i64 (n : Int)] w fun e w' => e = .returned (.tuple #[vV (loadS s i n).1, .int .i64 (loadS s i n).2]) ∧ Below w.heap.size w w' := by
  obtain ⟨h, l, v⟩ := s
  obtain rfl : v = v0 := hv
  obtain ⟨h0, h1⟩ := hs.1
  have HH : Hid (∀ W, Calls Try.prog 43 #[sV ⟨h, l, v0⟩] W fun e w' => e = .returned (.bool false) ∧ Below W.heap.size W w') := fun W =>
    (holds_any ⟨h, l, v0⟩ W hs).mono fun e w' ⟨a, b⟩ => ⟨by rw [a]; rfl, b⟩
  have HB := hid (fun W => bitsOf_any i n W hp.1 hp.2)
  have HN := and_bits h i n h0 h1 hp
  have HG := hid (fun pv W hb => Get_any pv l i n W hb hs.2.2.1 (by rw [hs.2.1]; decide) ⟨by omega, by have := hp.2; omega⟩)
  have hl : l.length = 8 := hs.2.1
  have hE : getE l.length i n = 0 := by
    have := hp.2
    unfold getE withinB
    rw [hl]
    obtain ⟨h | h | h | h, _⟩ := hp <;> simp [h, sizeB] <;> omega
  have hg : getN l i n = numL (partL l i n) := by unfold getN; rw [if_pos hE]; simp
  rw [hE, hg] at HG
  have hL : loadS ⟨h, l, v0⟩ i n = if allB h i n = true then (⟨1, 0, numL (partL l i n), 0⟩, 0) else (v0, 40) := by simp [loadS]
  rw [hL]
  have BV := bld_v0
  have BN := bld_v02 1 (numL (partL l i n))
  have SL := sl8 w.heap.size
  obtain ⟨hn1, hn2⟩ : 1 ≤ n ∧ n ≤ 8 := by obtain ⟨h | h | h | h, _⟩ := hp <;> omega
  generalize numL (partL l i n) = x at HG BN ⊢
  obtain ⟨a, b, c, d, e, f, g, k, rfl⟩ := eight hl
  rw [sV_eight] at HH ⊢
  unfold v0 at HH ⊢
  dsimp only at HH ⊢
  generalize hBI : bitsI i n = B at HN HB
  clear hBI hL hg hE hl hs
  cases hA : allB h i n
  · rw [hA] at HN
    simp only [Bool.not_false] at HN
    clear hA
    simp only [Bool.false_eq_true, if_false]
    unfold vV
    dsimp only
    go_enter Try.func31, Try.ntmps31
    go_wp2_with (go_at_call 42; refine (HB.out _).mono ?_; rintro e w1 ⟨rfl, rfl⟩)
    refine (HH.out _).mono ?_
    rintro e w1 ⟨rfl, b1⟩
    have B1 := hid ((((Below.refl w.heap.size w).alloc (Nat.le_refl _) _).alloc (by simp) _).trans (b1.mono (by simp; omega)))
    have q1 : w.heap.size + 1 < w1.heap.size := by have := b1.size; simp at this; omega
    have r1 : w.heap.size < w1.heap.size := by omega
    obtain ⟨hc1, hf1⟩ := bcell b1
    clear b1
    go_wp2_with fail
    refine (HH.out _).mono ?_
    rintro e w2 ⟨rfl, b2⟩
    have B2 := hid (below_next_w B1.out b2)
    have q2 : w.heap.size + 1 < w2.heap.size := by have := b2.size; omega
    have r2 : w.heap.size < w2.heap.size := by omega
    obtain ⟨hc2, hf2⟩ := bcell b2
    clear b2
    go_wp2
    exact bodyPost_ret (v := .tuple #[.agg #[.int .u8 0, .int .i64 0, .int .u64 0, .int .i64 0], .int .i64 40]) (by simp [results, Try.results31, go_sem, hc1, q1, hc2, q2]) rfl ⟨rfl, ((((B2.out.setCell (by simp) _).setCell (by simp) _).setCell (by simp) _).setCell (by simp) _)⟩
  · rw [hA] at HN
    simp only [Bool.not_true] at HN
    clear hA
    simp only [if_true]
    unfold vV
    dsimp only
    go_enter Try.func31, Try.ntmps31
    go_wp2_with (go_at_call 42; refine (HB.out _).mono ?_; rintro e w1 ⟨rfl, rfl⟩)
    refine (HH.out _).mono ?_
    rintro e w1 ⟨rfl, b1⟩
    have B1 := hid ((((Below.refl w.heap.size w).alloc (Nat.le_refl _) _).alloc (by simp) _).trans (b1.mono (by simp; omega)))
    have q1 : w.heap.size + 1 < w1.heap.size := by have := b1.size; simp at this; omega
    have r1 : w.heap.size < w1.heap.size := by omega
    obtain ⟨hc1, hf1⟩ := bcell b1
    clear b1
    go_wp2_with fail
    refine (HH.out _).mono ?_
    rintro e w2 ⟨rfl, b2⟩
    have B2 := hid (below_next_w B1.out b2)
    have q2 : w.heap.size + 1 < w2.heap.size := by have := b2.size; omega
    have r2 : w.heap.size < w2.heap.size := by omega
    obtain ⟨hc2, hf2⟩ := bcell b2
    clear b2
    go_wp2_with fail
    have hr : w2.rangeAt w.heap.size 1 (bC [a, b, c, d, e, f, g, k]) := range_below (range_below (World.rangeAt_alloc (range_box w #[.int .u8 h, .int .u8 a, .int .u8 b, .int .u8 c, .int .u8 d, .int .u8 e, .int .u8 f, .int .u8 g, .int .u8 k, .int .u8 0, .int .i64 0, .int .u64 0, .int .i64 0] 33 1 8) _) (by simp; omega) hc1) r1 hc2
    refine (HG.out _ _ (.inl ⟨w.heap.size, 1, 8, rfl, Nat.le_refl _, hr⟩)).mono ?_
    rintro e w3 ⟨rfl, rfl⟩
    go_wp2
    exact bodyPost_ret (v := .tuple #[.agg #[.int .u8 1, .int .i64 0, .int .u64 x, .int .i64 0], .int .i64 0]) (by simp [results, Try.results31, go_sem, hc1, q1, hc2, q2]) rfl ⟨rfl, ((((B2.out.setCell (by simp) _).setCell (by simp) _).setCell (by simp) _).setCell (by simp) _)⟩

theorem sload_b (s : Sl) (i n : Nat) (w : World) (hs : SOk s) (hp : SzP i n) (hv : s.v ≠ v0) :
    Calls Try.prog 31 #[sV s, .int .i64 (i : Int), .int .i64 (n : Int)] w fun e w' => e = .returned (.tuple #[vV (loadS s i n).1, .int .i64 (loadS s i n).2]) ∧ Below w.heap.size w w' := by
  obtain ⟨h, l, v⟩ := s
  have hv' : v ≠ v0 := hv
  have HH : Hid (∀ W, Calls Try.prog 43 #[sV ⟨h, l, v⟩] W fun e w' => e = .returned (.bool true) ∧ Below W.heap.size W w') := fun W =>
    (holds_any ⟨h, l, v⟩ W hs).mono fun e w' ⟨a, b⟩ => ⟨by rw [a]; simp [vB_false.2 hv'], b⟩
  have HB := hid (fun W => bitsOf_any i n W hp.1 hp.2)
  have hL : loadS ⟨h, l, v⟩ i n = if n = 8 then (v, 0) else (v0, 41) := by simp [loadS, hv']
  rw [hL]
  obtain ⟨a, b, c, d, e, f, g, k, rfl⟩ := eight hs.2.1
  have BV := bld_v0
  obtain ⟨q, m, x, o⟩ := v
  rw [sV_eight] at HH ⊢
  dsimp only at HH ⊢
  generalize hBI : bitsI i n = B at HB
  clear hBI hL hs hv hv'
  by_cases h8 : n = 8
  · subst h8
    simp only [if_true]
    clear hp
    unfold vV
    dsimp only
    go_enter Try.func31, Try.ntmps31
    go_wp2_with (go_at_call 42; refine (HB.out _).mono ?_; rintro e w1 ⟨rfl, rfl⟩)
    refine (HH.out _).mono ?_
    rintro e w1 ⟨rfl, b1⟩
    have B1 := hid ((((Below.refl w.heap.size w).alloc (Nat.le_refl _) _).alloc (by simp) _).trans (b1.mono (by simp; omega)))
    have q1 : w.heap.size + 1 < w1.heap.size := by have := b1.size; simp at this; omega
    have r1 : w.heap.size < w1.heap.size := by omega
    obtain ⟨hc1, hf1⟩ := bcell b1
    clear b1
    go_wp2_with fail
    refine (HH.out _).mono ?_
    rintro e w2 ⟨rfl, b2⟩
    have B2 := hid (below_next_w B1.out b2)
    have q2 : w.heap.size + 1 < w2.heap.size := by have := b2.size; omega
    have r2 : w.heap.size < w2.heap.size := by omega
    obtain ⟨hc2, hf2⟩ := bcell b2
    clear b2
    go_wp2
    exact bodyPost_ret (v := .tuple #[.agg #[.int .u8 q, .int .i64 m, .int .u64 x, .int .i64 o], .int .i64 0]) (by simp [results, Try.results31, go_sem, hc1, q1, hc2, q2]) rfl ⟨rfl, ((((B2.out.setCell (by simp) _).setCell (by simp) _).setCell (by simp) _).setCell (by simp) _)⟩
  · simp only [h8, if_false]
    have h9 : ((n : Int) != 8) = true := by simp; omega
    clear hp h8
    unfold vV v0
    dsimp only
    go_enter Try.func31, Try.ntmps31
    go_wp2_with (go_at_call 42; refine (HB.out _).mono ?_; rintro e w1 ⟨rfl, rfl⟩)
    refine (HH.out _).mono ?_
    rintro e w1 ⟨rfl, b1⟩
    have B1 := hid ((((Below.refl w.heap.size w).alloc (Nat.le_refl _) _).alloc (by simp) _).trans (b1.mono (by simp; omega)))
    have q1 : w.heap.size + 1 < w1.heap.size := by have := b1.size; simp at this; omega
    have r1 : w.heap.size < w1.heap.size := by omega
    obtain ⟨hc1, hf1⟩ := bcell b1
    clear b1
    go_wp2
    exact bodyPost_ret (v := .tuple #[.agg #[.int .u8 0, .int .i64 0, .int .u64 0, .int .i64 0], .int .i64 41]) (by simp [results, Try.results31, go_sem, hc1, q1]) rfl ⟨rfl, ((((B1.out.setCell (by simp) _).setCell (by simp) _).setCell (by simp) _).setCell (by simp) _)⟩

theorem sload_any (s : Sl) (i n : Nat) (w : World) (hs : SOk s) (hp : SzP i n) :
    Calls Try.prog 31 #[sV s, .int .i64 (i : Int), .int .i64 (n : Int)] w fun e w' => e = .returned (.tuple #[vV (loadS s i n).1, .int .i64 (loadS s i n).2]) ∧ Below w.heap.size w w' := by
  by_cases hv : s.v = v0
  · exact sload_a s i n w hs hp hv
  · exact sload_b s i n w hs hp hv

end Go.Proofs.Ytjlaenkfjejbkaa
