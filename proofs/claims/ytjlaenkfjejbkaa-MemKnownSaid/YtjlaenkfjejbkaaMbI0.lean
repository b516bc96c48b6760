/-
  What MemKinds and MemApart keep.
-/
import Derived.Test.YtjlaenkfjejbkaaMbW
import Derived.Test.YtjlaenkfjejbkaaMbQ
import Derived.Test.YtjlaenkfjejbkaaMeD
namespace Go.Proofs.Ytjlaenkfjejbkaa
set_option linter.unusedSimpArgs false
set_option linter.unusedVariables false
open Go.ChangeShapes Go.WideShapes Go.ChangeAt Go.RowKit

theorem kinds8 {xo xs : Int} {v : Vl} (hm : mayB v = true) (hs : sizeB xs = true) (hk : v.k ≠ 0) (hp : placeE xo xs = 0) (h8 : xs = 8) : kindsE xo xs v = 0 := by
  unfold kindsE
  rw [if_neg (by simp [hm, hs]), if_neg hk, if_neg (by simp [hp]), if_neg (fun h => h.2 h8)]
theorem keepK {g Bf : Nat} {w2 W : World} {cs : List Value} {xo xs xk xm xn xv : Int} (h : C6 w2 g xo xs xk xm xn xv) (hg : g < Bf + 1) (hr : w2.rangeAt Bf 0 cs) (hb : Below (Bf + 1) w2 W) : W.cell? ⟨g, 0, none⟩ = some (.int .i64 xo) ∧ W.cell? ⟨g, 1, none⟩ = some (.int .i64 xs) ∧ W.cell? ⟨g, 2, none⟩ = some (.int .u8 xk) ∧ W.cell? ⟨g, 3, none⟩ = some (.int .i64 xm) ∧ W.cell? ⟨g, 4, none⟩ = some (.int .u64 xn) ∧ W.cell? ⟨g, 5, none⟩ = some (.int .i64 xv) ∧ W.rangeAt Bf 0 cs ∧ Below (Bf + 1) w2 W := by
  have k := h.near hg hb
  exact ⟨k.1, k.2.1, k.2.2.1, k.2.2.2.1, k.2.2.2.2.1, k.2.2.2.2.2, (keepF hr (Nat.lt_succ_self _) hb).1, hb⟩
/-- What the laws keep behind a store: the argument, the frame ahead of it, the frame behind it. -/
structure ApI (w : World) (Bf Bg : Nat) (F G : Nat → Sl) (xo xs xk xm xn xv : Int) (W : World) : Prop where
  bel : Below w.heap.size w W
  sz : w.heap.size < W.heap.size
  c6 : C6 W w.heap.size xo xs xk xm xn xv
  lf : Bf < W.heap.size
  lg : Bg < W.heap.size
  rf : W.rangeAt Bf 0 (fC F)
  rg : W.rangeAt Bg 0 (fC G)
theorem ApI.next {w W V : World} {Bf Bg : Nat} {F G : Nat → Sl} {xo xs xk xm xn xv : Int} (h : ApI w Bf Bg F G xo xs xk xm xn xv W) (b : Below W.heap.size W V) : ApI w Bf Bg F G xo xs xk xm xn xv V := by
  obtain ⟨hc, hf⟩ := bcell b
  exact ⟨below_next_w h.bel b (Nat.le_of_lt h.sz), Nat.lt_of_lt_of_le h.sz b.size, h.c6.next b, Nat.lt_of_lt_of_le h.lf b.size, Nat.lt_of_lt_of_le h.lg b.size, range_below h.rf h.lf hc, range_below h.rg h.lg hc⟩
theorem ApI.alloc {w W : World} {Bf Bg : Nat} {F G : Nat → Sl} {xo xs xk xm xn xv : Int} (h : ApI w Bf Bg F G xo xs xk xm xn xv W) (o : Obj) : ApI w Bf Bg F G xo xs xk xm xn xv (W.alloc o) := h.next ((Below.refl _ _).alloc (Nat.le_refl _) _)
theorem ApI.mk2 {w w2 wb : World} {Bf : Nat} {F G : Nat → Sl} {xo xs xk xm xn xv : Int} {o : Obj} (B2 : Below w.heap.size w w2) (X2 : C6 w2 w.heap.size xo xs xk xm xn xv) (R2 : w2.rangeAt Bf 0 (fC F)) (p2 : Bf < w2.heap.size) (pf : w.heap.size < Bf) (bb : Below w2.heap.size w2 wb) (hG : FOk G) (hT : (wb.alloc o).there wb.heap.size 0 832) :
    ApI w Bf wb.heap.size F G xo xs xk xm xn xv ((wb.alloc o).setCells wb.heap.size 0 (fC G)) := by
  have h3 : Below wb.heap.size wb ((wb.alloc o).setCells wb.heap.size 0 (fC G)) := below_setCells wb.heap.size (Nat.le_refl _) (fC G) 0 _ ((Below.refl _ _).alloc (Nat.le_refl _) _)
  have h23 := below_next bb h3
  have hz : wb.heap.size < ((wb.alloc o).setCells wb.heap.size 0 (fC G)).heap.size := Nat.lt_of_lt_of_le (by simp) (below_setCells (n := 0) (a := wb.alloc o) wb.heap.size (Nat.zero_le _) (fC G) 0 _ (Below.refl _ _)).size
  exact ⟨below_next_w B2 h23 (Nat.le_of_lt (Nat.lt_trans pf p2)), Nat.lt_of_lt_of_le (Nat.lt_trans pf p2) h23.size, X2.next h23, Nat.lt_of_lt_of_le p2 h23.size, hz, range_below R2 p2 (bcell h23).1, World.rangeAt_setCells_same _ _ 0 (fC G) (by rw [fC_len hG]; exact hT)⟩

end Go.Proofs.Ytjlaenkfjejbkaa
