/-
  Contracts of the document's Sure, InSlot (layer 12).
-/
import Derived.Test.YtodmikjpmcabiaaJSiB
import Derived.Test.YtodmikjpmcabiaaJHrU
import Derived.Deep.RegionHeld3
namespace Go.Proofs.Ytodmikjpmcabiaa
set_option linter.unusedSimpArgs false
set_option linter.unusedVariables false
set_option maxRecDepth 100000
set_option maxRecDepth 100000
open Go.ChangeShapes Go.WideShapes Go.ChangeAt Go.RowKit Me

theorem bit8_all : ∀ x : Fin 256, ∀ j : Fin 8, (bits .and .u8 ((x.val : Int) / 2 ^ j.val) 1 == 1) = (BitVec.ofNat 8 x.val).getLsbD j.val := by decide +kernel
theorem bit8 (h : B8) (j : Nat) (hj : j < 8) : (bits .and .u8 (vb h / 2 ^ j) 1 == 1) = h.getLsbD j := by
  have := bit8_all ⟨h.toNat, h.isLt⟩ ⟨j, hj⟩
  dsimp only at this
  rw [show BitVec.ofNat 8 h.toNat = h by simp] at this
  exact this
theorem ones8 (j : Nat) (hj : j < 8) : (255#8).getLsbD j = true := by
  have : ∀ i : Fin 8, (255#8).getLsbD i.val = true := by decide
  exact this ⟨j, hj⟩
set_option maxHeartbeats 4000000 in
theorem rSure_any (x : Sk) (j : Nat) (hj : j < 8) (w : World) : Calls Try.prog 85 #[kV x, .int .i64 j] w fun e w' => e = .returned (.bool ((sure x).getLsbD j)) ∧ Below w.heap.size w w' := by
  obtain ⟨h, k, l, m, s, lo, hi⟩ := x
  have hb := bit8 h j hj
  have hj0 : (0 : Int) ≤ j := by omega
  have hj8 : (j : Int) < 8 := by omega
  unfold sure
  dsimp only
  by_cases h1 : k = 1
  · subst h1
    rw [if_neg (by decide), if_pos rfl, ones8 j hj]
    clear hb
    unfold kV
    dsimp only
    go_enter Try.func85, Try.ntmps85
    go_wp2
    go_ret
    exact ⟨rfl, bel_alloc (Below.refl _ _)⟩
  by_cases h0 : k = 0
  · subst h0
    rw [if_pos rfl]
    generalize h.getLsbD j = q at *
    clear h1
    unfold kV
    dsimp only
    go_enter Try.func85, Try.ntmps85
    go_wp2
    go_ret
    exact ⟨rfl, bel_alloc (Below.refl _ _)⟩
  · rw [if_neg h0, if_neg h1]
    have e0 : (k == 0) = false := by simpa using h0
    have e1 : (k == 1) = false := by simpa using h1
    rw [show (0#8).getLsbD j = false by simp]
    clear h0 h1 hb
    unfold kV
    dsimp only
    go_enter Try.func85, Try.ntmps85
    go_wp2
    go_ret
    exact ⟨rfl, bel_alloc (Below.refl _ _)⟩
structure KI (w : World) (a b : Sk) (wr : World) : Prop where
  ja : KC wr w.heap.size a
  jb : KC wr (w.heap.size + 1) b
  bel : Below w.heap.size w wr
theorem KI.next {w wr w' : World} {a b : Sk} (h : KI w a b wr) (z : Below wr.heap.size wr w') : KI w a b w' := ⟨h.ja.below z, h.jb.below z, below_next h.bel z⟩
theorem KI.new (w : World) (a b : Sk) : KI w a b ((w.alloc (.cells #[.int .u8 (vb a.h), .int .u8 a.r.k, .bool a.r.l, .int .i64 a.r.m, .int .u64 (ub a.r.s.1.1), .int .u64 (ub a.r.s.1.2), .int .u64 (ub a.r.s.2.1), .int .u64 (ub a.r.s.2.2), .int .i64 a.r.lo, .int .i64 a.r.hi] 33)).alloc (.cells #[.int .u8 (vb b.h), .int .u8 b.r.k, .bool b.r.l, .int .i64 b.r.m, .int .u64 (ub b.r.s.1.1), .int .u64 (ub b.r.s.1.2), .int .u64 (ub b.r.s.2.1), .int .u64 (ub b.r.s.2.2), .int .i64 b.r.lo, .int .i64 b.r.hi] 33)) :=
  ⟨(KC.new (x := a) rfl).alloc _, KC.new (x := b) (by simp), bel_alloc (bel_alloc (Below.refl _ _))⟩
end Go.Proofs.Ytodmikjpmcabiaa
