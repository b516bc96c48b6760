/-
  Contracts of package tnum's Meet and of what is shifted and cut, as the landed code has them. Contracts of package tnum's shifts and cuts, as the landed code has them. Contracts of package tnum's Cut and Arsh, as the landed code has them. Contracts of package tnum's Mul and Meet, as the landed code has them. Contracts of package tnum's Mul and Meet, as the landed code has them.
-/
import Derived.Test.YtjcnpjidkimldaaGreatDoorATnC
import Derived.Deep.RegionHeld3
import Derived.BigRegion
import Derived.Deep.RegionWith
import Derived.Deep.RegionLaw
namespace Go.Proofs.YtjcnpjidkimldaaGreatDoor
set_option linter.unusedSimpArgs false
set_option linter.unusedVariables false
set_option maxRecDepth 100000
open Go.ChangeShapes Go.WideShapes Go.ChangeAt Go.RowKit

theorem cn {w w' : World} (hb : Below w.heap.size w w') {p : Addr} {c : Value} (h : w.cell? p = some c) : w'.cell? p = some c :=
  (hb.cell (World.block_lt_of_cell? w _ h)).trans h
theorem below_dr (w : World) : Below w.heap.size w w.drew := (Below.refl _ _).drew
end Go.Proofs.YtjcnpjidkimldaaGreatDoor

namespace Go.Proofs.YtjcnpjidkimldaaGreatDoor
set_option linter.unusedSimpArgs false
set_option linter.unusedVariables false
set_option maxRecDepth 100000
open Go.ChangeShapes Go.WideShapes Go.ChangeAt Go.RowKit

theorem nc {w : World} {u : Value} {t : TypeId} {o : Obj} {b : Nat} (hb : b = w.heap.size) : ((w.alloc (.cells #[u] t)).alloc o).cell? ⟨b, 0, none⟩ = some u := by
  subst hb
  exact cn ((Below.refl _ _).alloc (Nat.le_refl _) o) (by simp)
def lowB (k : Nat) : B64 := 1#64 <<< k - 1#64
end Go.Proofs.YtjcnpjidkimldaaGreatDoor

namespace Go.Proofs.YtjcnpjidkimldaaGreatDoor
set_option linter.unusedSimpArgs false
set_option linter.unusedVariables false
set_option maxRecDepth 100000
open Go.ChangeShapes Go.WideShapes Go.ChangeAt Go.RowKit

theorem ib_of2 (x : B64) : IntKind.i64.wrap (ub x) = ib x := by rw [← ib_of]; first | rfl | (unfold wrap64; exact IntKind.wrap_i64 _)
theorem cna {w : World} (o : Obj) {p : Addr} {c : Value} (h : w.cell? p = some c) : (w.alloc o).cell? p = some c := cn ((Below.refl w.heap.size w).alloc (Nat.le_refl _) o) h
end Go.Proofs.YtjcnpjidkimldaaGreatDoor

namespace Go.Proofs.YtjcnpjidkimldaaGreatDoor
set_option linter.unusedSimpArgs false
set_option linter.unusedVariables false
set_option maxRecDepth 100000
open Go.ChangeShapes Go.WideShapes Go.ChangeAt Go.RowKit

/-- A block of the call's own that holds a tnum. -/
def TB (w : World) (b : Nat) (t : Tn) : Prop := TC w b t ∧ w.frozen? ⟨b, 0, none⟩ = false ∧ w.frozen? ⟨b, 1, none⟩ = false
theorem TB.below {w w' : World} {b : Nat} {t : Tn} (h : TB w b t) (hb : Below w.heap.size w w') : TB w' b t :=
  ⟨h.1.below hb, (hb.frozen (p := ⟨b, 0, none⟩) h.1.1).trans h.2.1, (hb.frozen (p := ⟨b, 1, none⟩) h.1.1).trans h.2.2⟩
theorem TB.new {w : World} {a : Tn} {t : TypeId} {b : Nat} (hb : b = w.heap.size) : TB (w.alloc (.cells #[.int .u64 (ub a.1), .int .u64 (ub a.2)] t)) b a :=
  ⟨TC.new hb, by subst hb; simp, by subst hb; simp⟩
theorem TB.put {w : World} {b : Nat} {t : Tn} (h : TB w b t) (u : Tn) : TB ((w.setCell ⟨b, 0, none⟩ (.int .u64 (ub u.1))).setCell ⟨b, 1, none⟩ (.int .u64 (ub u.2))) b u := by
  obtain ⟨⟨h0, h1, h2⟩, h3, h4⟩ := h
  refine ⟨⟨by simp; exact h0, ?_, ?_⟩, by simp; exact h3, by simp; exact h4⟩
  · exact (World.cell?_setCell_other _ _ _ _ (by simp)).trans (World.cell?_setCell_same _ _ _ h1)
  · exact World.cell?_setCell_same _ _ _ ((World.cell?_setCell_other _ _ _ _ (by simp)).trans h2)
theorem TB.other {w : World} {b c : Nat} {t : Tn} (h : TB w b t) (hbc : b ≠ c) (u v : Value) : TB ((w.setCell ⟨c, 0, none⟩ u).setCell ⟨c, 1, none⟩ v) b t := by
  obtain ⟨⟨h0, h1, h2⟩, h3, h4⟩ := h
  have e : ∀ b', b' ≠ c → ((w.setCell ⟨c, 0, none⟩ u).setCell ⟨c, 1, none⟩ v).heap[b']? = w.heap[b']? := fun b' hb' => (Below.heap_setCell _ _ _ _ hb').trans (Below.heap_setCell _ _ _ _ hb')
  refine ⟨⟨by simp; exact h0, ?_, ?_⟩, ?_, ?_⟩
  · exact (World.cell?_of_block (w := w) (a := ⟨b, 0, none⟩) (e b hbc)).trans h1
  · exact (World.cell?_of_block (w := w) (a := ⟨b, 1, none⟩) (e b hbc)).trans h2
  · exact (World.frozen?_of_block (w := w) (a := ⟨b, 0, none⟩) (e b hbc)).trans h3
  · exact (World.frozen?_of_block (w := w) (a := ⟨b, 1, none⟩) (e b hbc)).trans h4

theorem TC.put {w : World} {g c : Nat} {t : Tn} (h : TC w g t) (hgc : g ≠ c) (u v : Value) : TC ((w.setCell ⟨c, 0, none⟩ u).setCell ⟨c, 1, none⟩ v) g t := by
  obtain ⟨h0, h1, h2⟩ := h
  have e : ((w.setCell ⟨c, 0, none⟩ u).setCell ⟨c, 1, none⟩ v).heap[g]? = w.heap[g]? := (Below.heap_setCell _ _ _ _ hgc).trans (Below.heap_setCell _ _ _ _ hgc)
  exact ⟨by simp; exact h0, (World.cell?_of_block (w := w) (a := ⟨g, 0, none⟩) e).trans h1, (World.cell?_of_block (w := w) (a := ⟨g, 1, none⟩) e).trans h2⟩
structure MuI (w : World) (p q : Nat) (a b : Tn) (b3 : Nat) (t : Tn) (wr : World) : Prop where
  ca : TC wr p a
  cb : TC wr q b
  res : TB wr w.heap.size t0
  acc : TB wr b3 t
  bel : Below w.heap.size w wr
  n1 : w.heap.size < b3
theorem MuI.next {w : World} {p q : Nat} {a b : Tn} {b3 : Nat} {t : Tn} {wr w' : World} (h : MuI w p q a b b3 t wr) (hb : Below wr.heap.size wr w') : MuI w p q a b b3 t w' :=
  ⟨h.ca.below hb, h.cb.below hb, h.res.below hb, h.acc.below hb, h.bel.trans (hb.mono h.bel.size), h.n1⟩
theorem MuI.put {w : World} {p q : Nat} {a b : Tn} {b3 : Nat} {t : Tn} {wr : World} (h : MuI w p q a b b3 t wr) (hp : p < w.heap.size) (hq : q < w.heap.size) (u : Tn) :
    MuI w p q a b b3 u ((wr.setCell ⟨b3, 0, none⟩ (.int .u64 (ub u.1))).setCell ⟨b3, 1, none⟩ (.int .u64 (ub u.2))) := by
  have hn := h.n1
  have e : ∀ b', b' ≠ b3 → ((wr.setCell ⟨b3, 0, none⟩ (.int .u64 (ub u.1))).setCell ⟨b3, 1, none⟩ (.int .u64 (ub u.2))).heap[b']? = wr.heap[b']? := fun b' hb' => (Below.heap_setCell _ _ _ _ hb').trans (Below.heap_setCell _ _ _ _ hb')
  refine ⟨⟨by simp; exact h.ca.1, ?_, ?_⟩, ⟨by simp; exact h.cb.1, ?_, ?_⟩, h.res.other (by omega) _ _, h.acc.put u, (h.bel.setCell (Nat.le_of_lt hn) _).setCell (Nat.le_of_lt hn) _, hn⟩
  · exact (World.cell?_of_block (w := wr) (a := ⟨p, 0, none⟩) (e p (by omega))).trans h.ca.2.1
  · exact (World.cell?_of_block (w := wr) (a := ⟨p, 1, none⟩) (e p (by omega))).trans h.ca.2.2
  · exact (World.cell?_of_block (w := wr) (a := ⟨q, 0, none⟩) (e q (by omega))).trans h.cb.2.1
  · exact (World.cell?_of_block (w := wr) (a := ⟨q, 1, none⟩) (e q (by omega))).trans h.cb.2.2
end Go.Proofs.YtjcnpjidkimldaaGreatDoor

namespace Go.Proofs.YtjcnpjidkimldaaGreatDoor
set_option linter.unusedSimpArgs false
set_option linter.unusedVariables false
set_option maxRecDepth 100000
open Go.ChangeShapes Go.WideShapes Go.ChangeAt Go.RowKit

def meetB (a b : Tn) : Bool := tmay a && tmay b && tin (meetT a b) a && tin (meetT a b) b
theorem tMeet_any (a b : Tn) (w : World) : Calls Tryz.prog 286 #[tv a, tv b] w fun e w' => e = .returned (.tuple #[tv (if meetB a b then meetT a b else t0), .bool (meetB a b)]) ∧ Below w.heap.size w w' := by
  have HH := fun (p q : Nat) (w : World) (ha : TC w p a) (hb : TC w q b) => both_any a b (meetT a b) 336 #[.pointer (some ⟨p, 0, none⟩), .pointer (some ⟨q, 0, none⟩)] w (fun _ _ => by kernel_rfl) (fun W hW _ _ => cMeet p q a b W (ha.below hW) (hb.below hW))
  have HI1 := fun W => tIn_any (meetT a b) a W
  have HI2 := fun W => tIn_any (meetT a b) b W
  unfold bothT bothE at HH
  unfold meetB
  generalize meetT a b = R at *
  cases hm : (tmay a && tmay b)
  · rw [hm] at HH
    obtain ⟨V, hV⟩ : ∃ V, V = (if (false && tin R a && tin R b) = true then R else t0) := ⟨_, rfl⟩
    rw [← hV]
    obtain rfl : V = t0 := hV
    have hB : (false && tin R a && tin R b) = false := rfl
    rw [hB]
    have HX := hid HH
    clear HH HI1 HI2 hm hB
    simp only [Bool.false_eq_true, if_false] at HX
    unfold tv at HX ⊢
    go_enter Tryz.func286, Tryz.ntmps286
    go_wp2_with fail
    refine Calls.mono (HX.out w.heap.size (w.heap.size + 1) _ ?_ ?_) ?_
    · exact ((TC.new rfl).alloc _).alloc _
    · exact (TC.new (by simp)).alloc _
    rintro e w1 ⟨rfl, b1⟩
    have hb : Below w.heap.size w w1 := (((((Below.refl _ _).alloc (Nat.le_refl _) _).alloc (by simp) _).alloc (by simp; omega) _).trans (b1.mono (by simp; omega)))
    obtain ⟨hc, hf⟩ := bcell b1
    have hz : w.heap.size + 1 + 1 < w1.heap.size := by have := b1.size; simp at this; omega
    have HB := hid hb
    clear b1 hb
    go_wp2
    refine bodyPost_ret (v := .tuple #[.agg #[.int .u64 0, .int .u64 0], .bool false]) (by simp [results, Tryz.results286, go_sem, hc, hz]; try rfl) rfl ⟨rfl, ?_⟩
    exact ((HB.out.setCell (by simp; omega) _).setCell (by simp; omega) _).alloc (by simp; omega) _
  rw [hm] at HH
  have HX := hid HH
  have H1 := hid HI1
  have H2 := hid HI2
  clear HH HI1 HI2 hm
  simp only [if_true] at HX
  unfold tv at HX H1 H2
  cases h1 : tin R a
  · rw [h1] at H1
    clear h1
    obtain ⟨V, hV⟩ : ∃ V, V = (if (true && false && tin R b) = true then R else t0) := ⟨_, rfl⟩
    rw [← hV]
    obtain rfl : V = t0 := hV
    rw [show (true && false && tin R b) = false from rfl]
    clear H2
    unfold tv
    go_enter Tryz.func286, Tryz.ntmps286
    go_wp2_with fail
    refine Calls.mono (HX.out w.heap.size (w.heap.size + 1) _ ?_ ?_) ?_
    · exact ((TC.new rfl).alloc _).alloc _
    · exact (TC.new (by simp)).alloc _
    rintro e w1 ⟨rfl, b1⟩
    have hb : Below w.heap.size w w1 := (((((Below.refl _ _).alloc (Nat.le_refl _) _).alloc (by simp) _).alloc (by simp; omega) _).trans (b1.mono (by simp; omega)))
    have F1 : TC w1 w.heap.size a := (((TC.new rfl).alloc _).alloc _).below b1
    have F2 : TC w1 (w.heap.size + 1) b := ((TC.new (by simp)).alloc _).below b1
    have F3 : TB w1 (w.heap.size + 1 + 1) t0 := (TB.new (a := t0) (by simp)).below b1
    have G1 := F1.alloc (.cells #[.int .u64 (ub R.1), .int .u64 (ub R.2)] 35)
    have G2 := F2.alloc (.cells #[.int .u64 (ub R.1), .int .u64 (ub R.2)] 35)
    have G3 := F3.below ((Below.refl _ _).alloc (Nat.le_refl _) (.cells #[.int .u64 (ub R.1), .int .u64 (ub R.2)] 35))
    have G4 : TC (w1.alloc (.cells #[.int .u64 (ub R.1), .int .u64 (ub R.2)] 35)) w1.heap.size R := TC.new rfl
    have G5 := hb.alloc hb.size (.cells #[.int .u64 (ub R.1), .int .u64 (ub R.2)] 35)
    have k1 := F1.1
    have k2 := F2.1
    have k3 := F3.1.1
    have x1 := F1.2.1
    have x2 := F1.2.2
    clear F1 F2 F3 b1 hb
    go_wp2_with fail
    refine (H1.out _).mono ?_
    rintro e w2 ⟨rfl, b2⟩
    replace G1 := G1.below b2
    replace G2 := G2.below b2
    replace G3 := G3.below b2
    replace G4 := G4.below b2
    replace G5 := G5.trans (b2.mono G5.size)
    clear x1 x2 k1 k2 k3 b2
    generalize w1.heap.size = g at G4 ⊢
    have y1 := G3.1.2.1
    have y2 := G3.1.2.2
    have y3 := G3.2.1
    have y4 := G3.2.2
    have y5 := G3.1.1
    have z1 := G4.2.1
    have z2 := G4.2.2
    have HB := hid G5
    clear G1 G2 G3 G4 G5
    go_wp2
    refine bodyPost_ret (v := .tuple #[.agg #[.int .u64 0, .int .u64 0], .bool false]) (by simp [results, Tryz.results286, go_sem, y1, y2, y5]; try rfl) rfl ⟨rfl, ?_⟩
    exact (HB.out.setCell (by simp; omega) _).setCell (by simp; omega) _
  rw [h1] at H1
  clear h1
  cases h2 : tin R b
  · rw [h2] at H2
    clear h2
    obtain ⟨V, hV⟩ : ∃ V, V = (if (true && true && false) = true then R else t0) := ⟨_, rfl⟩
    rw [← hV]
    obtain rfl : V = t0 := hV
    rw [show (true && true && false) = false from rfl]
    unfold tv
    go_enter Tryz.func286, Tryz.ntmps286
    go_wp2_with fail
    refine Calls.mono (HX.out w.heap.size (w.heap.size + 1) _ ?_ ?_) ?_
    · exact ((TC.new rfl).alloc _).alloc _
    · exact (TC.new (by simp)).alloc _
    rintro e w1 ⟨rfl, b1⟩
    have hb : Below w.heap.size w w1 := (((((Below.refl _ _).alloc (Nat.le_refl _) _).alloc (by simp) _).alloc (by simp; omega) _).trans (b1.mono (by simp; omega)))
    have F1 : TC w1 w.heap.size a := (((TC.new rfl).alloc _).alloc _).below b1
    have F2 : TC w1 (w.heap.size + 1) b := ((TC.new (by simp)).alloc _).below b1
    have F3 : TB w1 (w.heap.size + 1 + 1) t0 := (TB.new (a := t0) (by simp)).below b1
    have G1 := F1.alloc (.cells #[.int .u64 (ub R.1), .int .u64 (ub R.2)] 35)
    have G2 := F2.alloc (.cells #[.int .u64 (ub R.1), .int .u64 (ub R.2)] 35)
    have G3 := F3.below ((Below.refl _ _).alloc (Nat.le_refl _) (.cells #[.int .u64 (ub R.1), .int .u64 (ub R.2)] 35))
    have G4 : TC (w1.alloc (.cells #[.int .u64 (ub R.1), .int .u64 (ub R.2)] 35)) w1.heap.size R := TC.new rfl
    have G5 := hb.alloc hb.size (.cells #[.int .u64 (ub R.1), .int .u64 (ub R.2)] 35)
    have k1 := F1.1
    have k2 := F2.1
    have k3 := F3.1.1
    have x1 := F1.2.1
    have x2 := F1.2.2
    clear F1 F2 F3 b1 hb
    go_wp2_with fail
    refine (H1.out _).mono ?_
    rintro e w2 ⟨rfl, b2⟩
    replace G1 := G1.below b2
    replace G2 := G2.below b2
    replace G3 := G3.below b2
    replace G4 := G4.below b2
    replace G5 := G5.trans (b2.mono G5.size)
    clear x1 x2 k1 k2 k3 b2
    generalize w1.heap.size = g at G4 ⊢
    have z1 := G4.2.1
    have z2 := G4.2.2
    have x1 := G2.2.1
    have x2 := G2.2.2
    go_wp2_with fail
    refine (H2.out _).mono ?_
    rintro e w3 ⟨rfl, b3⟩
    replace G3 := G3.below b3
    replace G4 := G4.below b3
    replace G5 := G5.trans (b3.mono G5.size)
    clear x1 x2 z1 z2 b3 G1 G2
    have G1 := trivial
    have G2 := trivial
    have y1 := G3.1.2.1
    have y2 := G3.1.2.2
    have y3 := G3.2.1
    have y4 := G3.2.2
    have y5 := G3.1.1
    have z1 := G4.2.1
    have z2 := G4.2.2
    have HB := hid G5
    clear G1 G2 G3 G4 G5
    go_wp2
    refine bodyPost_ret (v := .tuple #[.agg #[.int .u64 0, .int .u64 0], .bool false]) (by simp [results, Tryz.results286, go_sem, y1, y2, y5]; try rfl) rfl ⟨rfl, ?_⟩
    exact (HB.out.setCell (by simp; omega) _).setCell (by simp; omega) _
  · rw [h2] at H2
    clear h2
    obtain ⟨V, hV⟩ : ∃ V, V = (if (true && true && true) = true then R else t0) := ⟨_, rfl⟩
    rw [← hV]
    rw [show V = R from hV]
    clear hV
    rw [show (true && true && true) = true from rfl]
    unfold tv
    go_enter Tryz.func286, Tryz.ntmps286
    go_wp2_with fail
    refine Calls.mono (HX.out w.heap.size (w.heap.size + 1) _ ?_ ?_) ?_
    · exact ((TC.new rfl).alloc _).alloc _
    · exact (TC.new (by simp)).alloc _
    rintro e w1 ⟨rfl, b1⟩
    have hb : Below w.heap.size w w1 := (((((Below.refl _ _).alloc (Nat.le_refl _) _).alloc (by simp) _).alloc (by simp; omega) _).trans (b1.mono (by simp; omega)))
    have F1 : TC w1 w.heap.size a := (((TC.new rfl).alloc _).alloc _).below b1
    have F2 : TC w1 (w.heap.size + 1) b := ((TC.new (by simp)).alloc _).below b1
    have F3 : TB w1 (w.heap.size + 1 + 1) t0 := (TB.new (a := t0) (by simp)).below b1
    have G1 := F1.alloc (.cells #[.int .u64 (ub R.1), .int .u64 (ub R.2)] 35)
    have G2 := F2.alloc (.cells #[.int .u64 (ub R.1), .int .u64 (ub R.2)] 35)
    have G3 := F3.below ((Below.refl _ _).alloc (Nat.le_refl _) (.cells #[.int .u64 (ub R.1), .int .u64 (ub R.2)] 35))
    have G4 : TC (w1.alloc (.cells #[.int .u64 (ub R.1), .int .u64 (ub R.2)] 35)) w1.heap.size R := TC.new rfl
    have G5 := hb.alloc hb.size (.cells #[.int .u64 (ub R.1), .int .u64 (ub R.2)] 35)
    have k1 := F1.1
    have k2 := F2.1
    have k3 := F3.1.1
    have x1 := F1.2.1
    have x2 := F1.2.2
    clear F1 F2 F3 b1 hb
    go_wp2_with fail
    refine (H1.out _).mono ?_
    rintro e w2 ⟨rfl, b2⟩
    replace G1 := G1.below b2
    replace G2 := G2.below b2
    replace G3 := G3.below b2
    replace G4 := G4.below b2
    replace G5 := G5.trans (b2.mono G5.size)
    clear x1 x2 k1 k2 k3 b2
    generalize w1.heap.size = g at G4 ⊢
    have z1 := G4.2.1
    have z2 := G4.2.2
    have x1 := G2.2.1
    have x2 := G2.2.2
    go_wp2_with fail
    refine (H2.out _).mono ?_
    rintro e w3 ⟨rfl, b3⟩
    replace G3 := G3.below b3
    replace G4 := G4.below b3
    replace G5 := G5.trans (b3.mono G5.size)
    clear x1 x2 z1 z2 b3 G1 G2
    have G1 := trivial
    have G2 := trivial
    have y1 := G3.1.2.1
    have y2 := G3.1.2.2
    have y3 := G3.2.1
    have y4 := G3.2.2
    have y5 := G3.1.1
    have z1 := G4.2.1
    have z2 := G4.2.2
    have HB := hid G5
    clear G1 G2 G3 G4 G5
    go_wp2
    refine bodyPost_ret (v := .tuple #[.agg #[.int .u64 (ub R.1), .int .u64 (ub R.2)], .bool true]) (by simp [results, Tryz.results286, go_sem, y1, y2, y5]; try rfl) rfl ⟨rfl, ?_⟩
    exact (HB.out.setCell (by simp; omega) _).setCell (by simp; omega) _
end Go.Proofs.YtjcnpjidkimldaaGreatDoor
