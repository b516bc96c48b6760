/-
  Contracts of a slot's store, as the landed code has it.
-/
import Derived.Test.YtjlaenkfjejbkaaMeV
import Derived.StillTactics
import Derived.Deep.RegionHeld3
namespace Go.Proofs.Ytjlaenkfjejbkaa
set_option linter.unusedSimpArgs false
set_option linter.unusedVariables false
open Go.ChangeShapes Go.WideShapes Go.ChangeAt Go.RowKit

theorem bld_s0 (W : World) : (Instr.build 33 #[]).run Try.prog W = .ok (.agg #[.int .u8 0, .int .u8 0, .int .u8 0, .int .u8 0, .int .u8 0, .int .u8 0, .int .u8 0, .int .u8 0, .int .u8 0, .int .u8 0, .int .i64 0, .int .u64 0, .int .i64 0]) W := by kernel_rfl
theorem below_setCells {n : Nat} {a : World} (g : Nat) (hg : n ≤ g) : ∀ (vs : List Value) (o : Nat) (b : World), Below n a b → Below n a (b.setCells g o vs)
  | [], _, _, h => h
  | v :: r, o, b, h => by
    rw [World.setCells]
    exact below_setCells g hg r (o + 1) _ (h.setCell hg _)
theorem there_box (w : World) (C : Array Value) (t : TypeId) (n : Nat) (hn : n = C.size) : (w.alloc (.cells C t)).there w.heap.size 0 n := by
  intro j hj
  refine ⟨?_, ?_⟩
  · rw [cell_of_row _ _ _ C t (0, 0) (heap_alloc_last w _)]
    simp; omega
  · unfold World.frozen?
    rw [heap_alloc_last]
    simp
theorem there_below {W W' : World} {b o n : Nat} (h : W.there b o n) (hb : b < W.heap.size) (hc : ∀ b o, b < W.heap.size → W'.cell? ⟨b, o, none⟩ = W.cell? ⟨b, o, none⟩) (hf : ∀ b o, b < W.heap.size → W'.frozen? ⟨b, o, none⟩ = W.frozen? ⟨b, o, none⟩) : W'.there b o n := fun j hj => by
  rw [hc _ _ hb, hf _ _ hb]
  exact h j hj

/-- What a store keeps in its own memory: the slot at g, the value at g + 1, the answer's place at g + 2. -/
structure StI (g : Nat) (w W : World) (b : Sl) (N : Int) : Prop where
  bel : Below g w W
  sz : g + 1 + 1 < W.heap.size
  r0 : W.rangeAt g 0 (sC b)
  t0 : W.there g 0 13
  r1 : W.cell? ⟨g + 1, 2, none⟩ = some (.int .u64 N)
  t2 : W.there (g + 1 + 1) 0 13
theorem StI.next {g : Nat} {w W W' : World} {b : Sl} {N : Int} (h : StI g w W b N) (hb : Below W.heap.size W W') : StI g w W' b N := by
  obtain ⟨hc, hf⟩ := bcell hb
  have hz := h.sz
  have hz' := hb.size
  exact ⟨below_next_w h.bel hb, by omega, range_below h.r0 (by omega) hc, there_below h.t0 (by omega) hc hf, by rw [hc _ _ (by omega)]; exact h.r1, there_below h.t2 (by omega) hc hf⟩
theorem StI.first (w : World) (s : Sl) (hs : SOk s) (v : Vl) (Z : Array Value) (hZ : 13 = Z.size) (t0 t1 t2 : TypeId) :
    StI w.heap.size w (((w.alloc (.cells (sC s).toArray t0)).alloc (.cells #[.int .u8 v.k, .int .i64 v.m, .int .u64 v.n, .int .i64 v.o] t1)).alloc (.cells Z t2)) s v.n := by
  refine ⟨(((Below.refl _ _).alloc (Nat.le_refl _) _).alloc (by simp) _).alloc (by simp; omega) _, by simp, ?_, ?_, ?_, ?_⟩
  · have := range_box w (sC s).toArray t0 0 13
    have e : (((sC s).toArray.extract 0 (0 + 13)).toList) = sC s := by
      have hl := sC_len hs
      simp [← hl]
    rw [e] at this
    exact World.rangeAt_alloc (World.rangeAt_alloc this _) _
  · exact World.there_alloc (World.there_alloc (there_box w _ t0 13 (by simp [sC_len hs])) _) _
  · simp [go_sem]
  · have := there_box ((w.alloc (.cells (sC s).toArray t0)).alloc (.cells #[.int .u8 v.k, .int .i64 v.m, .int .u64 v.n, .int .i64 v.o] t1)) Z t2 13 hZ
    simpa using this

theorem sstore_addr (s : Sl) (i n : Nat) (v : Vl) (w : World) (hs : SOk s) (hp : SzP i n) (hv : VOk v) (ha : adrB v = true) :
    Calls Try.prog 37 #[sV s, .int .i64 (i : Int), .int .i64 (n : Int), vV v] w fun e w' => e = .returned (.tuple #[sV (storeS s i n v).1, .int .i64 (storeS s i n v).2]) ∧ Below w.heap.size w w' := by
  have HA : Hid (∀ W, Calls Try.prog 44 #[vV v] W fun e w' => e = .returned (.bool true) ∧ Below W.heap.size W w') := fun W => ha ▸ isAddress_any v W
  have hL : storeS s i n v = if n = 8 then (⟨255, z8, v⟩, 0) else (s0, 41) := by simp [storeS, ha]
  rw [hL]
  obtain ⟨h, l, u⟩ := s
  obtain ⟨a, b, c, d, e, f, g, k, rfl⟩ := eight hs.2.1
  have BS := bld_s0
  obtain ⟨q, m, x, o⟩ := v
  have BF := bld_full q m x o
  rw [sV_eight]
  unfold vV at HA ⊢
  dsimp only at HA ⊢
  clear hL hs hv ha
  by_cases h8 : n = 8
  · subst h8
    simp only [if_true]
    clear hp
    unfold z8
    rw [sV_eight]
    dsimp only
    go_enter Try.func37, Try.ntmps37
    go_wp2_with fail
    refine (HA.out _).mono ?_
    rintro e w1 ⟨rfl, b1⟩
    have B1 := hid (((((Below.refl w.heap.size w).alloc (Nat.le_refl _) _).alloc (by simp) _).alloc (by simp; omega) _).trans (b1.mono (by simp; omega)))
    have p1 : w.heap.size + 1 + 1 < w1.heap.size := by have := b1.size; simp at this; omega
    have q1 : w.heap.size + 1 < w1.heap.size := by omega
    have r1 : w.heap.size < w1.heap.size := by omega
    obtain ⟨hc1, hf1⟩ := bcell b1
    clear b1
    go_wp2_with fail
    refine (HA.out _).mono ?_
    rintro e w2 ⟨rfl, b2⟩
    have B2 := hid (below_next_w B1.out b2)
    have p2 : w.heap.size + 1 + 1 < w2.heap.size := by have := b2.size; omega
    have q2 : w.heap.size + 1 < w2.heap.size := by omega
    have r2 : w.heap.size < w2.heap.size := by omega
    obtain ⟨hc2, hf2⟩ := bcell b2
    clear b2
    go_wp2
    exact bodyPost_ret (v := .tuple #[.agg #[.int .u8 255, .int .u8 0, .int .u8 0, .int .u8 0, .int .u8 0, .int .u8 0, .int .u8 0, .int .u8 0, .int .u8 0, .int .u8 q, .int .i64 m, .int .u64 x, .int .i64 o], .int .i64 0]) (by simp [results, Try.results37, go_sem, hc1, p1, q1, r1, hc2, p2, q2, r2]) rfl ⟨rfl, (((((((((((((B2.out.setCell (by simp; omega) _).setCell (by simp; omega) _).setCell (by simp; omega) _).setCell (by simp; omega) _).setCell (by simp; omega) _).setCell (by simp; omega) _).setCell (by simp; omega) _).setCell (by simp; omega) _).setCell (by simp; omega) _).setCell (by simp; omega) _).setCell (by simp; omega) _).setCell (by simp; omega) _).setCell (by simp; omega) _)⟩
  · simp only [h8, if_false]
    have h9 : ((n : Int) != 8) = true := by simp; omega
    clear hp h8
    unfold s0 z8
    rw [sV_eight]
    unfold v0
    dsimp only
    go_enter Try.func37, Try.ntmps37
    go_wp2_with fail
    refine (HA.out _).mono ?_
    rintro e w1 ⟨rfl, b1⟩
    have B1 := hid (((((Below.refl w.heap.size w).alloc (Nat.le_refl _) _).alloc (by simp) _).alloc (by simp; omega) _).trans (b1.mono (by simp; omega)))
    have p1 : w.heap.size + 1 + 1 < w1.heap.size := by have := b1.size; simp at this; omega
    have q1 : w.heap.size + 1 < w1.heap.size := by omega
    have r1 : w.heap.size < w1.heap.size := by omega
    obtain ⟨hc1, hf1⟩ := bcell b1
    clear b1
    go_wp2
    exact bodyPost_ret (v := .tuple #[.agg #[.int .u8 0, .int .u8 0, .int .u8 0, .int .u8 0, .int .u8 0, .int .u8 0, .int .u8 0, .int .u8 0, .int .u8 0, .int .u8 0, .int .i64 0, .int .u64 0, .int .i64 0], .int .i64 41]) (by simp [results, Try.results37, go_sem, hc1, p1, q1, r1]) rfl ⟨rfl, (((((((((((((B1.out.setCell (by simp; omega) _).setCell (by simp; omega) _).setCell (by simp; omega) _).setCell (by simp; omega) _).setCell (by simp; omega) _).setCell (by simp; omega) _).setCell (by simp; omega) _).setCell (by simp; omega) _).setCell (by simp; omega) _).setCell (by simp; omega) _).setCell (by simp; omega) _).setCell (by simp; omega) _).setCell (by simp; omega) _)⟩

end Go.Proofs.Ytjlaenkfjejbkaa
