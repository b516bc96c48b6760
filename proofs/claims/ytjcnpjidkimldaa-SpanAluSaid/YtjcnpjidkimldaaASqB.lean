/-
  Contract of the document's step: which marks of two numbers are there behind a bit.
-/
import Derived.Test.YtjcnpjidkimldaaASqA
import Derived.Test.YtjcnpjidkimldaaATnT2
namespace Go.Proofs.Ytjcnpjidkimldaa
set_option linter.unusedSimpArgs false
set_option linter.unusedVariables false
set_option maxRecDepth 100000
set_option maxRecDepth 100000
open Go.ChangeShapes Go.WideShapes Go.ChangeAt Go.RowKit

namespace Sq
theorem boolInfo : (Try.prog.info? 4).map (fun i => (i.zero, i.size, i.bytes)) = some (some (.bool false), 1, 1) := by kernel_rfl
/-- Sixteen marks. -/
def S16 (w : World) (g : Nat) (f : Nat → Bool) : Prop := g < w.heap.size ∧ ∀ t, t < 16 → w.cell? ⟨g, t, none⟩ = some (.bool (f t)) ∧ w.frozen? ⟨g, t, none⟩ = false
theorem S16.below {w w' : World} {g : Nat} {f : Nat → Bool} (h : S16 w g f) (hb : Below w.heap.size w w') : S16 w' g f :=
  ⟨Nat.lt_of_lt_of_le h.1 hb.size, fun t ht => ⟨(hb.cell (p := ⟨g, t, none⟩) h.1).trans (h.2 t ht).1, (hb.frozen (p := ⟨g, t, none⟩) h.1).trans (h.2 t ht).2⟩⟩
theorem S16.put {w : World} {g : Nat} {f f' : Nat → Bool} (h : S16 w g f) {k : Nat} (hk : k < 16) (hf : ∀ t, t < 16 → f' t = (f t || t == k)) : S16 (w.setCell ⟨g, k, none⟩ (.bool true)) g f' := by
  refine ⟨by simp; exact h.1, fun t ht => ⟨?_, by rw [World.frozen?_setCell]; exact (h.2 t ht).2⟩⟩
  rw [hf t ht]
  by_cases e : t = k
  · subst e
    rw [World.cell?_setCell_same' _ _ _ (by rw [(h.2 t ht).1]; rfl)]
    simp
  · have : w.setCell ⟨g, k, none⟩ (.bool true) = w.setCell ⟨g, k, none⟩ (.bool true) := rfl
    have e2 : (⟨g, t, none⟩ : Addr) ≠ ⟨g, k, none⟩ := by intro h; apply e; injection h
    have e3 : (w.setCell ⟨g, k, none⟩ (.bool true)).cell? ⟨g, t, none⟩ = w.cell? ⟨g, t, none⟩ := by
      first | exact World.cell?_setCell_other _ _ _ _ (Ne.symm e2) | exact World.cell?_setCell_other e2 | exact World.cell?_setCell_other _ e2 | exact World.cell?_setCell_other _ _ e2 | exact World.cell?_setCell_other _ _ _ e2 | exact World.cell?_setCell_other _ _ _ _ e2
    rw [e3, (h.2 t ht).1]
    simp [e]
theorem S16.other {w : World} {g c : Nat} {f : Nat → Bool} (h : S16 w g f) (hc : g ≠ c) (j : Nat) (u : Value) : S16 (w.setCell ⟨c, j, none⟩ u) g f := by
  refine ⟨by simp; exact h.1, fun t ht => ⟨?_, by rw [World.frozen?_setCell]; exact (h.2 t ht).2⟩⟩
  have e2 : (⟨g, t, none⟩ : Addr) ≠ ⟨c, j, none⟩ := by intro h; injection h with h1 h2; exact hc h1
  have e3 : (w.setCell ⟨c, j, none⟩ u).cell? ⟨g, t, none⟩ = w.cell? ⟨g, t, none⟩ := by
    first | exact World.cell?_setCell_other _ _ _ _ (Ne.symm e2) | exact World.cell?_setCell_other e2 | exact World.cell?_setCell_other _ e2 | exact World.cell?_setCell_other _ _ e2 | exact World.cell?_setCell_other _ _ _ e2 | exact World.cell?_setCell_other _ _ _ _ e2
  rw [e3]
  exact (h.2 t ht).1
theorem make16 (w : World) : ∃ arr : Array Value, (Instr.makeSlice 74 (.int .i64 16) (.int .i64 16)).run Try.prog w = .ok (.slice (some ⟨w.heap.size, 0, none⟩) 16 16) (w.alloc (.cells arr 4)) ∧ S16 (w.alloc (.cells arr 4)) w.heap.size (fun _ => false) := by
  obtain ⟨i, hi, hp⟩ := Option.map_eq_some_iff.1 boolInfo
  injection hp with hp1 hp
  injection hp with hp2 hp3
  have h := run_make (P := Try.prog) w 74 4 i (.bool false) Try.underlying74 hi hp1 .i64 .i64 16 16 (by omega) (Int.le_refl _) (by rw [hp3]; omega) (by omega)
  rw [hp2] at h
  refine ⟨_, h, by simp, fun t ht => ⟨?_, ?_⟩⟩
  · have hs : ((madeCells (Value.bool false).cells (16 * 1))[t]?) = some (.bool false) := by
      simp [madeCells, ht, Value.cells, Nat.mod_one]
    unfold World.cell?
    dsimp only
    rw [heap_alloc_new]
    exact hs
  · unfold World.frozen?
    dsimp only
    rw [heap_alloc_new]
    simp
/-- What lies where in the course of a step. -/
structure SI (w : World) (a b : Tn) (g0 : Nat) (now : Nat → Bool) (g : Nat) (f : Nat → Bool) (wr : World) : Prop where
  ca : TC wr w.heap.size a
  cb : TC wr (w.heap.size + 1) b
  nw : S16 wr g0 now
  nx : S16 wr g f
  bel : Below w.heap.size w wr
  big : w.heap.size + 1 < g
  low : g0 < w.heap.size
theorem SI.next {w : World} {a b : Tn} {g0 g : Nat} {now f : Nat → Bool} {wr w' : World} (h : SI w a b g0 now g f wr) (hb : Below wr.heap.size wr w') : SI w a b g0 now g f w' :=
  ⟨h.ca.below hb, h.cb.below hb, h.nw.below hb, h.nx.below hb, h.bel.trans (hb.mono h.bel.size), h.big, h.low⟩
theorem SI.put {w : World} {a b : Tn} {g0 g : Nat} {now f f' : Nat → Bool} {wr : World} (h : SI w a b g0 now g f wr) {k : Nat} (hk : k < 16) (hf : ∀ t, t < 16 → f' t = (f t || t == k)) : SI w a b g0 now g f' (wr.setCell ⟨g, k, none⟩ (.bool true)) := by
  have h1 := h.big
  have h2 := h.low
  exact ⟨h.ca.other (by omega) _ _, h.cb.other (by omega) _ _, h.nw.other (by omega) _ _, h.nx.put hk hf, h.bel.setCell (by simp; omega) _, h.big, h.low⟩
theorem SI.same {w : World} {a b : Tn} {g0 g : Nat} {now f f' : Nat → Bool} {wr : World} (h : SI w a b g0 now g f wr) (hf : ∀ t, t < 16 → f' t = f t) : SI w a b g0 now g f' wr :=
  ⟨h.ca, h.cb, h.nw, ⟨h.nx.1, fun t ht => by rw [hf t ht]; exact h.nx.2 t ht⟩, h.bel, h.big, h.low⟩
theorem lt16 {x y t : Nat} (ht : t = x + 4 * y) (h : x < 4 ∧ y < 4) : t < 16 ∧ (t : Int) < 16 ∧ (0 : Int) ≤ t ∧ wrap64 (4 * (y : Int)) = 4 * y ∧ wrap64 ((x : Int) + 4 * y) = t := by
  unfold wrap64; omega
theorem toJ_lt {a b : Nat × Nat} {i j : Nat} : mkS (j / 4 % 4) (bitN a.1 i) (bitN a.2 i) (j % 4 % 2) < 4 ∧ mkS (j / 4 / 4) (bitN b.1 i) (bitN b.2 i) (j % 4 / 2) < 4 := by
  constructor <;> (unfold mkS; split <;> split <;> omega)
end Sq
open Sq
set_option maxHeartbeats 16000000 in
theorem qStep_any (op : Nat) (G : Nat → Nat → Nat) (HG : ∀ x y, x < 2 → y < 2 → G x y < 2 ∧ ∀ W, Calls Try.prog 79 #[.int .i64 (op : Int), .bool true, .int .u64 (x : Int), .int .u64 (y : Int)] W fun e w' => e = .returned (.int .u64 ((G x y : Nat) : Int)) ∧ w' = W)
    (a b : Tn) (i want g0 : Nat) (now : Nat → Bool) (w : World) (hi : i < 64) (hw : want < 2) (hnow : S16 w g0 now) :
    Calls Try.prog 54 #[.slice (some ⟨g0, 0, none⟩) 16 16, .int .i64 (op : Int), tv a, tv b, .int .i64 (i : Int), .int .u64 (want : Int)] w fun e w' =>
      ∃ g, e = .returned (.tuple #[.slice (some ⟨g, 0, none⟩) 16 16, .bool (someN now G (a.1.toNat, a.2.toNat) (b.1.toNat, b.2.toNat) i want 64)]) ∧ w.heap.size ≤ g ∧ S16 w' g (nextN now G (a.1.toNat, a.2.toNat) (b.1.toNat, b.2.toNat) i want 64) ∧ Below w.heap.size w w' := by
  have HGx := hid HG
  clear HG
  have HMa := hid fun s x W hs hx => qMark_any s i x a W hs hi hx
  have HMb := hid fun s x W hs hx => qMark_any s i x b W hs hi hx
  obtain ⟨aN, haN⟩ : ∃ p : Nat × Nat, p = (a.1.toNat, a.2.toNat) := ⟨_, rfl⟩
  obtain ⟨bN, hbN⟩ : ∃ p : Nat × Nat, p = (b.1.toNat, b.2.toNat) := ⟨_, rfl⟩
  have ea1 : a.1.toNat = aN.1 := by rw [haN]
  have ea2 : a.2.toNat = aN.2 := by rw [haN]
  have eb1 : b.1.toNat = bN.1 := by rw [hbN]
  have eb2 : b.2.toNat = bN.2 := by rw [hbN]
  rw [← haN, ← hbN]
  rw [ea1, ea2] at HMa
  rw [eb1, eb2] at HMb
  clear haN hbN ea1 ea2 eb1 eb2
  have lowg := hnow.1
  have B1 : Below w.heap.size w (w.alloc (.cells #[.int .u64 (ub a.1), .int .u64 (ub a.2)] 24)) := (Below.refl _ _).alloc (Nat.le_refl _) _
  have B2 : Below w.heap.size w ((w.alloc (.cells #[.int .u64 (ub a.1), .int .u64 (ub a.2)] 24)).alloc (.cells #[.int .u64 (ub b.1), .int .u64 (ub b.2)] 24)) := B1.alloc (by simp) _
  obtain ⟨arr, hmk, hcs⟩ := make16 ((w.alloc (.cells #[.int .u64 (ub a.1), .int .u64 (ub a.2)] 24)).alloc (.cells #[.int .u64 (ub b.1), .int .u64 (ub b.2)] 24))
  obtain ⟨g, hg⟩ : ∃ g : Nat, g = w.heap.size + 1 + 1 := ⟨_, rfl⟩
  have sz : ((w.alloc (.cells #[.int .u64 (ub a.1), .int .u64 (ub a.2)] 24)).alloc (.cells #[.int .u64 (ub b.1), .int .u64 (ub b.2)] 24)).heap.size = g := by rw [hg]; simp
  rw [sz] at hmk hcs
  have I0 : SI w a b g0 now g (nextN now G aN bN i want 0) (((w.alloc (.cells #[.int .u64 (ub a.1), .int .u64 (ub a.2)] 24)).alloc (.cells #[.int .u64 (ub b.1), .int .u64 (ub b.2)] 24)).alloc (.cells arr 4)) := by
    refine ⟨((TC.new rfl).alloc _).alloc _, (TC.new (by simp)).alloc _, hnow.below (B2.alloc (by simp; omega) _), ⟨hcs.1, fun t ht => ?_⟩, B2.alloc (by simp; omega) _, by omega, hnow.1⟩
    exact hcs.2 t ht
  have I1 := hid I0
  clear I0 hcs B1 B2
  have hg' := hid hg
  clear hg
  unfold tv at *
  go_enter Try.func54, Try.ntmps54
  go_wp2_with fail
  clear hmk sz
  generalize ((w.alloc (.cells #[.int .u64 (ub a.1), .int .u64 (ub a.2)] 24)).alloc (.cells #[.int .u64 (ub b.1), .int .u64 (ub b.2)] 24)).alloc (.cells arr 4) = w3 at *
  go_loopw [15, 16] (fun sm s wr => ∃ k : Nat, k ≤ 16 ∧ s = .int .i64 k ∧ sm = .bool (someN now G aN bN i want (4 * k)) ∧ Hid (SI w a b g0 now g (nextN now G aN bN i want (4 * k)) wr)) (fun _ s _ => 16 - (intOf s).toNat)
  case atStart => exact ⟨0, by omega, rfl, rfl, I1⟩
  case round =>
    clear I1
    obtain ⟨k, hk, rfl, rfl, I0⟩ := hrel
    obtain ⟨wo, rfl⟩ : ∃ wo : World, wo = wr := ⟨_, rfl⟩
    by_cases hlt : k < 16
    · have hlt' : (k : Int) < 16 := by omega
      have hk0 : (0 : Int) ≤ k := by omega
      have s3 : bits .and .i64 (k : Int) 3 = ((k % 4 : Nat) : Int) := by
        have : ∀ n : Fin 16, bits .and .i64 ((n.val : Nat) : Int) 3 = ((n.val % 4 : Nat) : Int) := by decide +kernel
        exact this ⟨k, hlt⟩
      have s4 : (k : Int) / 4 = ((k / 4 : Nat) : Int) := by omega
      go_wp2_with fail
      go_loopw [15, 17] (fun sm v wi => ∃ j : Nat, j ≤ 4 ∧ (j = 0 ∨ now k = true) ∧ v = .int .i64 j ∧ sm = .bool (someN now G aN bN i want (4 * k + j)) ∧ Hid (SI w a b g0 now g (nextN now G aN bN i want (4 * k + j)) wi)) (fun _ v _ => 4 - (intOf v).toNat)
      case atStart => exact ⟨0, by omega, .inl rfl, rfl, rfl, I0⟩
      case round =>
        clear I0
        obtain ⟨j, hj, hz, rfl, rfl, I0⟩ := hrel
        have q0 := (I0.out.nw.2 k hlt).1
        by_cases hjl : j < 4
        · have hjl' : (j : Int) < 4 := by omega
          cases hN : now k
          · rw [hN] at q0
            have E1 := hid (someN_skip (g := G) (a := aN) (b := bN) (i := i) (want := want) hN)
            have E2 := hid fun t => nextN_skip (g := G) (a := aN) (b := bN) (i := i) (want := want) (t := t) hN
            obtain rfl : j = 0 := by rcases hz with h | h; exact h; rw [hN] at h; cases h
            go_wp2_with fail
            refine ⟨⟨k + 1, by omega, by go_num, by rw [show 4 * (k + 1) = 4 * k + 4 by omega, E1.out]; rfl, hid (I0.out.same fun t ht => by rw [show 4 * (k + 1) = 4 * k + 4 by omega, E2.out]; rfl)⟩, by simp [intOf]; omega⟩
          · rw [hN] at q0
            have e1 : bits .and .i64 (j : Int) 1 = ((j % 2 : Nat) : Int) := by
              have : ∀ n : Fin 4, bits .and .i64 ((n.val : Nat) : Int) 1 = ((n.val % 2 : Nat) : Int) := by decide +kernel
              exact this ⟨j, hjl⟩
            have e2 : (j : Int) / 2 = ((j / 2 : Nat) : Int) := by omega
            have e4 : (k : Int) / 4 = ((k / 4 : Nat) : Int) := by omega
            have e3 := s3
            have J1 : 4 * k + j < 64 := by omega
            have K1 : (4 * k + j) / 4 = k := by omega
            have K2 : (4 * k + j) % 4 = j := by omega
            obtain ⟨g2, HO⟩ := HGx.out (j % 2) (j / 2) (by omega) (by omega)
            have HA := HMa.out (k % 4) (j % 2)
            have HB := HMb.out (k / 4) (j / 2)
            have HOK : Hid (okJ now G aN bN i want (4 * k + j) = (G (j % 2) (j / 2) == want && (mkOk (k % 4) (bitN aN.1 i) (bitN aN.2 i) (j % 2) && mkOk (k / 4) (bitN bN.1 i) (bitN bN.2 i) (j / 2)))) := hid (by
              unfold okJ; rw [K1, K2, hN, Bool.true_and])
            have HTO : Hid (toJ aN bN i (4 * k + j) = mkS (k % 4) (bitN aN.1 i) (bitN aN.2 i) (j % 2) + 4 * mkS (k / 4) (bitN bN.1 i) (bitN bN.2 i) (j / 2)) := hid (by
              unfold toJ; rw [K1, K2])
            have TL := toJ_lt (a := aN) (b := bN) (i := i) (j := 4 * k + j)
            rw [K1, K2] at TL
            have SN := hid (someN_succ (now := now) (g := G) (a := aN) (b := bN) (i := i) (want := want) (k := 4 * k + j))
            have NN := hid fun t => nextN_succ (now := now) (g := G) (a := aN) (b := bN) (i := i) (want := want) (k := 4 * k + j) (t := t)
            have HA' := hid fun W => HA W (by omega) (by omega)
            have HB' := hid fun W => HB W (by omega) (by omega)
            have HO' := hid HO
            clear HA HB HO K1 K2
            have xm : ((j % 2 : Nat) : Int) < 2 ∧ 0 ≤ ((j % 2 : Nat) : Int) := by omega
            have ym : ((j / 2 : Nat) : Int) < 2 ∧ 0 ≤ ((j / 2 : Nat) : Int) := by omega
            generalize j % 2 = X at *
            generalize j / 2 = Y at *
            generalize mkS (k % 4) (bitN aN.1 i) (bitN aN.2 i) X = SA at *
            generalize mkS (k / 4) (bitN bN.1 i) (bitN bN.2 i) Y = SB at *
            generalize mkOk (k % 4) (bitN aN.1 i) (bitN aN.2 i) X = OA at *
            generalize mkOk (k / 4) (bitN bN.1 i) (bitN bN.2 i) Y = OB at *
            generalize G X Y = GG at *
            generalize k % 4 = RK at *
            generalize k / 4 = QK at *
            go_wp2_with fail
            refine (HO'.out _).mono ?_
            rintro e w' ⟨rfl, rfl⟩
            by_cases hG : GG = want
            · have hGw : ((GG : Int) == (want : Int)) = true := by rw [hG]; simp
              have hG2 : (GG == want) = true := by rw [hG]; simp
              rw [hG2, Bool.true_and] at HOK
              have q1 := I0.out.ca.2.1
              have q2 := I0.out.ca.2.2
              have hGi : (GG : Int) = (want : Int) := by rw [hG]
              go_wp2_with fail
              refine (HA'.out _).mono ?_
              rintro e wa ⟨rfl, z⟩
              have I1 := hid (I0.out.next z)
              clear I0 z q0 q1 q2
              have q1 := I1.out.cb.2.1
              have q2 := I1.out.cb.2.2
              obtain ⟨NA, hNA⟩ : ∃ n : Nat, n = if OA = true then SA else 0 := ⟨_, rfl⟩
              rw [← hNA]
              have HNA := hid hNA
              clear hNA
              go_wp2_with fail
              refine (HB'.out _).mono ?_
              rintro e wb ⟨rfl, z⟩
              have I2 := hid (I1.out.next z)
              clear I1 z q1 q2
              obtain ⟨NB, hNB⟩ : ∃ n : Nat, n = if OB = true then SB else 0 := ⟨_, rfl⟩
              rw [← hNB]
              have HNB := hid hNB
              clear hNB
              cases OA
              · rw [Bool.false_and] at HOK
                go_wp2_with fail
                refine ⟨⟨j + 1, by omega, by simp [hN], by go_num, by rw [show 4 * k + (j + 1) = 4 * k + j + 1 by omega, SN.out, HOK.out, Bool.or_false], hid (I2.out.same fun t ht => by rw [show 4 * k + (j + 1) = 4 * k + j + 1 by omega, NN.out, HOK.out, Bool.false_and, Bool.or_false])⟩, by simp [intOf]; omega⟩
              · cases OB
                · rw [Bool.and_false] at HOK
                  go_wp2_with fail
                  refine ⟨⟨j + 1, by omega, by simp [hN], by go_num, by rw [show 4 * k + (j + 1) = 4 * k + j + 1 by omega, SN.out, HOK.out, Bool.or_false], hid (I2.out.same fun t ht => by rw [show 4 * k + (j + 1) = 4 * k + j + 1 by omega, NN.out, HOK.out, Bool.false_and, Bool.or_false])⟩, by simp [intOf]; omega⟩
                · rw [Bool.and_true] at HOK
                  have eA : NA = SA := HNA.out.trans (if_pos rfl)
                  have eB : NB = SB := HNB.out.trans (if_pos rfl)
                  subst eA eB
                  clear HNA HNB
                  obtain ⟨T, hT⟩ : ∃ T : Nat, T = NA + 4 * NB := ⟨_, rfl⟩
                  have hT' := hid hT
                  obtain ⟨l16, l17, l18, w1, w2⟩ := lt16 hT TL
                  rw [← hT] at HTO
                  clear hT
                  have qs := (I2.out.nx.2 T l16).1
                  have qf := (I2.out.nx.2 T l16).2
                  clear hN xm ym TL g2 hG hGw
                  go_wp2_with fail
                  refine ⟨⟨j + 1, by omega, .inr trivial, by go_num, by rw [show 4 * k + (j + 1) = 4 * k + j + 1 by omega, SN.out, HOK.out, Bool.or_true], hid (I2.out.put l16 fun t ht => by rw [show 4 * k + (j + 1) = 4 * k + j + 1 by omega, NN.out, HOK.out, Bool.true_and, HTO.out])⟩, by simp [intOf]; omega⟩
            · have hGi : ¬ (GG : Int) = (want : Int) := by omega
              have hG2 : (GG == want) = false := by simp [hG]
              rw [hG2, Bool.false_and] at HOK
              go_wp2_with fail
              refine ⟨⟨j + 1, by omega, by simp [hN], by go_num, by rw [show 4 * k + (j + 1) = 4 * k + j + 1 by omega, SN.out, HOK.out, Bool.or_false], hid (I0.out.same fun t ht => by rw [show 4 * k + (j + 1) = 4 * k + j + 1 by omega, NN.out, HOK.out, Bool.false_and, Bool.or_false])⟩, by simp [intOf]; omega⟩
        · have hjl' : ¬ (j : Int) < 4 := by omega
          obtain rfl : j = 4 := by omega
          go_wp2_with fail
          refine ⟨⟨k + 1, by omega, by go_num, by rw [show 4 * (k + 1) = 4 * k + 4 by omega], hid (by rw [show 4 * (k + 1) = 4 * k + 4 by omega]; exact I0.out)⟩, by simp [intOf]; omega⟩
    · have hlt' : ¬ (k : Int) < 16 := by omega
      obtain rfl : k = 16 := by omega
      go_wp2
      refine bodyPost_ret (v := .tuple #[.slice (some ⟨g, 0, none⟩) 16 16, .bool (someN now G aN bN i want 64)]) (by simp [results, Try.results54, go_sem]; try rfl) rfl ⟨g, rfl, by have := hg'.out; omega, I0.out.nx, I0.out.bel⟩
end Go.Proofs.Ytjcnpjidkimldaa
