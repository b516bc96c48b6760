/-
  Contract of the document's Least: the least or the greatest result of Or, And, Xor.
-/
import Derived.Test.YtjcnpjidkimldaaASqB
import Derived.Test.YtjcnpjidkimldaaASpS
namespace Go.Proofs.Ytjcnpjidkimldaa
set_option linter.unusedSimpArgs false
set_option linter.unusedVariables false
set_option maxRecDepth 100000
set_option maxRecDepth 100000
open Go.ChangeShapes Go.WideShapes Go.ChangeAt Go.RowKit Sq

namespace Sq
def pN (a : Tn) : Nat × Nat := (a.1.toNat, a.2.toNat)
def oB (G : Nat → Nat → Nat) (a b : Tn) (want k : Nat) : B64 := BitVec.ofNat 64 (lstN G (pN a) (pN b) want k).2
theorem lst_some {G : Nat → Nat → Nat} {a b : Tn} {want k : Nat} (h : someN (lstN G (pN a) (pN b) want k).1 G (pN a) (pN b) (63 - k) want 64 = true) :
    (lstN G (pN a) (pN b) want (k + 1)).1 = nextN (lstN G (pN a) (pN b) want k).1 G (pN a) (pN b) (63 - k) want 64 ∧ (lstN G (pN a) (pN b) want (k + 1)).2 = 2 * (lstN G (pN a) (pN b) want k).2 + want := by
  show (stN G (pN a) (pN b) want (63 - k) (lstN G (pN a) (pN b) want k)).1 = _ ∧ (stN G (pN a) (pN b) want (63 - k) (lstN G (pN a) (pN b) want k)).2 = _
  unfold stN
  rw [if_pos h]
  exact ⟨rfl, rfl⟩
theorem lst_none {G : Nat → Nat → Nat} {a b : Tn} {want k : Nat} (h : someN (lstN G (pN a) (pN b) want k).1 G (pN a) (pN b) (63 - k) want 64 = false) :
    (lstN G (pN a) (pN b) want (k + 1)).1 = nextN (lstN G (pN a) (pN b) want k).1 G (pN a) (pN b) (63 - k) (1 - want) 64 ∧ (lstN G (pN a) (pN b) want (k + 1)).2 = 2 * (lstN G (pN a) (pN b) want k).2 + (1 - want) := by
  show (stN G (pN a) (pN b) want (63 - k) (lstN G (pN a) (pN b) want k)).1 = _ ∧ (stN G (pN a) (pN b) want (63 - k) (lstN G (pN a) (pN b) want k)).2 = _
  unfold stN
  rw [if_neg (by rw [h]; decide)]
  exact ⟨rfl, rfl⟩
theorem o_up {n m : Nat} (c : Nat) (h : m = 2 * n + c) : BitVec.ofNat 64 m = 2#64 * BitVec.ofNat 64 n + BitVec.ofNat 64 c := by
  subst h
  apply BitVec.eq_of_toNat_eq
  simp [BitVec.toNat_add, BitVec.toNat_mul]
theorem ub_nat (x : B64) (c : Nat) (hc : c < 2) : IntKind.u64.wrap (ub x + (c : Int)) = ub (x + BitVec.ofNat 64 c) := by
  obtain rfl | rfl : c = 0 ∨ c = 1 := by omega
  · exact ub_wadd x 0#64
  · exact ub_wadd x 1#64
theorem oB_up {G : Nat → Nat → Nat} {a b : Tn} {want k c : Nat} (hc : c < 2) (h : (lstN G (pN a) (pN b) want (k + 1)).2 = 2 * (lstN G (pN a) (pN b) want k).2 + c) :
    IntKind.u64.wrap (ub (2#64 * oB G a b want k) + (c : Int)) = ub (oB G a b want (k + 1)) := by
  rw [ub_nat _ _ hc]
  unfold oB
  rw [o_up c h]
/-- What lies where in the course of Least. -/
structure LI (w : World) (a b : Tn) (g : Nat) (f : Nat → Bool) (wr : World) : Prop where
  ca : TC wr w.heap.size a
  cb : TC wr (w.heap.size + 1) b
  nx : S16 wr g f
  bel : Below w.heap.size w wr
theorem LI.next {w : World} {a b : Tn} {g g' : Nat} {f f' : Nat → Bool} {wr w' : World} (h : LI w a b g f wr) (hb : Below wr.heap.size wr w') (hn : S16 w' g' f') : LI w a b g' f' w' :=
  ⟨h.ca.below hb, h.cb.below hb, hn, h.bel.trans (hb.mono h.bel.size)⟩
theorem LI.stay {w : World} {a b : Tn} {g : Nat} {f : Nat → Bool} {wr w' : World} (h : LI w a b g f wr) (hb : Below wr.heap.size wr w') : LI w a b g f w' :=
  ⟨h.ca.below hb, h.cb.below hb, h.nx.below hb, h.bel.trans (hb.mono h.bel.size)⟩
theorem set_new (W : World) (arr : Array Value) (t : TypeId) (v : Value) (k g : Nat) (hg : W.heap.size = g) : (W.alloc (.cells arr t)).setCell ⟨g, k, none⟩ v = W.alloc (.cells (arr.setIfInBounds k v) t) := by
  subst hg
  simp [go_sem]
end Sq
set_option maxHeartbeats 16000000 in
theorem qLeast_any (op : Nat) (G : Nat → Nat → Nat) (HG : ∀ x y, x < 2 → y < 2 → G x y < 2 ∧ ∀ W, Calls Try.prog 79 #[.int .i64 (op : Int), .bool true, .int .u64 (x : Int), .int .u64 (y : Int)] W fun e w' => e = .returned (.int .u64 ((G x y : Nat) : Int)) ∧ w' = W)
    (a b : Tn) (want : Nat) (w : World) (hw : want < 2) :
    Calls Try.prog 24 #[.int .i64 (op : Int), tv a, tv b, .int .u64 (want : Int)] w fun e w' =>
      e = .returned (.int .u64 (ub (oB G a b want 64))) ∧ Below w.heap.size w w' := by
  have HS := hid fun (i u g0 : Nat) now W hi hu hn => qStep_any op G HG a b i u g0 now W hi hu hn
  clear HG
  obtain ⟨R, hR⟩ : ∃ R, R = oB G a b want 64 := ⟨_, rfl⟩
  rw [← hR]
  have hR' := hid hR
  clear hR
  obtain ⟨arr, hmk, hcs⟩ := make16 ((w.alloc (.cells #[.int .u64 (ub a.1), .int .u64 (ub a.2)] 24)).alloc (.cells #[.int .u64 (ub b.1), .int .u64 (ub b.2)] 24))
  obtain ⟨g, hg⟩ : ∃ g : Nat, g = w.heap.size + 1 + 1 := ⟨_, rfl⟩
  have sz : ((w.alloc (.cells #[.int .u64 (ub a.1), .int .u64 (ub a.2)] 24)).alloc (.cells #[.int .u64 (ub b.1), .int .u64 (ub b.2)] 24)).heap.size = g := by rw [hg]; simp
  rw [sz] at hmk hcs
  have qs := (hcs.2 15 (by decide)).1
  have qf := (hcs.2 15 (by decide)).2
  have I0 : LI w a b g (lstN G (pN a) (pN b) want 0).1 ((((w.alloc (.cells #[.int .u64 (ub a.1), .int .u64 (ub a.2)] 24)).alloc (.cells #[.int .u64 (ub b.1), .int .u64 (ub b.2)] 24)).alloc (.cells arr 4)).setCell ⟨g, 15, none⟩ (.bool true)) := by
    refine ⟨(((TC.new rfl).alloc _).alloc _).other (by omega) _ _, ((TC.new (by simp)).alloc _).other (by omega) _ _, hcs.put (by decide) fun t ht => ?_, ((((Below.refl _ _).alloc (Nat.le_refl _) _).alloc (by simp) _).alloc (by simp; omega) _).setCell (by simp; omega) _⟩
    show (t == 15) = _
    simp
  rw [set_new _ _ _ _ _ _ sz] at I0
  have I1 := hid I0
  clear I0 hcs
  have hg' := hid hg
  clear hg
  unfold tv at *
  go_enter Try.func24, Try.ntmps24
  go_wp2_with fail
  clear hmk sz qs qf
  generalize (((w.alloc (.cells #[.int .u64 (ub a.1), .int .u64 (ub a.2)] 24)).alloc (.cells #[.int .u64 (ub b.1), .int .u64 (ub b.2)] 24)).alloc (.cells (arr.setIfInBounds 15 (.bool true)) 4)) = w3 at *
  go_loopw [9, 10, 11] (fun nw o i wr => ∃ (k : Nat) (q : Nat), k ≤ 64 ∧ i = .int .i64 (63 - (k : Int)) ∧ nw = .slice (some ⟨q, 0, none⟩) 16 16 ∧ o = .int .u64 (ub (oB G a b want k)) ∧ Hid (LI w a b q (lstN G (pN a) (pN b) want k).1 wr)) (fun _ _ i _ => (intOf i + 1).toNat)
  case atStart => exact ⟨0, g, by omega, rfl, rfl, rfl, I1⟩
  case round =>
    clear I1
    obtain ⟨k, q, hk, rfl, rfl, rfl, I0⟩ := hrel
    by_cases hlt : k < 64
    · have hlt' : (0 : Int) ≤ 63 - (k : Int) := by omega
      have ei : ((63 - k : Nat) : Int) = 63 - (k : Int) := by omega
      have q1 := I0.out.ca.2.1
      have q2 := I0.out.ca.2.2
      have q3 := I0.out.cb.2.1
      have q4 := I0.out.cb.2.2
      have H1 := hid fun W hn => HS.out (63 - k) want q (lstN G (pN a) (pN b) want k).1 W (by omega) hw hn
      have H2 := hid fun W hn => HS.out (63 - k) (1 - want) q (lstN G (pN a) (pN b) want k).1 W (by omega) (by omega) hn
      rw [ei] at H1 H2
      go_wp2_with fail
      refine (H1.out _ I0.out.nx).mono ?_
      rintro e wa ⟨g1, rfl, z1, z2, z3⟩
      have I1 := hid (I0.out.next z3 z2)
      have I2 := hid (I0.out.stay z3)
      clear z1 z2 z3 I0 q1 q2 q3 q4
      have q1 := I2.out.ca.2.1
      have q2 := I2.out.ca.2.2
      have q3 := I2.out.cb.2.1
      have q4 := I2.out.cb.2.2
      cases hS : someN (lstN G (pN a) (pN b) want k).1 G (pN a) (pN b) (63 - k) want 64
      · have hS' : someN (lstN G (pN a) (pN b) want k).1 G (a.1.toNat, a.2.toNat) (b.1.toNat, b.2.toNat) (63 - k) want 64 = false := hS
        obtain ⟨L1, L2⟩ := lst_none hS
        have hO := oB_up (by omega) L2
        rw [hS']
        have wb : IntKind.u64.wrap (1 - (want : Int)) = ((1 - want : Nat) : Int) := by
          obtain rfl | rfl : want = 0 ∨ want = 1 := by omega
          · rfl
          · rfl
        clear I1 hS hS'
        go_wp2_with fail
        refine (H2.out _ I2.out.nx).mono ?_
        rintro e wb ⟨g2, rfl, z1, z2, z3⟩
        have I1 := hid (I2.out.next (f' := (lstN G (pN a) (pN b) want (k + 1)).1) z3 (by rw [L1]; exact z2))
        clear z1 z2 z3 I2 q1 q2 q3 q4
        clear L1 L2
        go_wp2_with fail
        refine ⟨⟨k + 1, g2, by omega, by go_num, rfl, rfl, I1⟩, by simp [intOf]; omega⟩
      · have hS' : someN (lstN G (pN a) (pN b) want k).1 G (a.1.toNat, a.2.toNat) (b.1.toNat, b.2.toNat) (63 - k) want 64 = true := hS
        obtain ⟨L1, L2⟩ := lst_some hS
        have hO := oB_up hw L2
        rw [hS']
        have I3 := hid (show LI w a b g1 (lstN G (pN a) (pN b) want (k + 1)).1 wa by rw [L1]; exact I1.out)
        clear I1 I2 hS hS' q1 q2 q3 q4 L1 L2
        go_wp2_with fail
        refine ⟨⟨k + 1, g1, by omega, by go_num, rfl, rfl, I3⟩, by simp [intOf]; omega⟩
    · have hlt' : ¬ (0 : Int) ≤ 63 - (k : Int) := by omega
      obtain rfl : k = 64 := by omega
      rw [← hR'.out]
      go_wp2
      go_ret
      exact ⟨rfl, I0.out.bel⟩
end Go.Proofs.Ytjcnpjidkimldaa
