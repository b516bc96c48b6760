/-
  Contract of Starts, as the landed code has it: a new list that says of each place whether an instruction begins there.
-/
import Derived.Test.YtdnkikgfiganaaaDoorShB
namespace Go.Proofs.YtdnkikgfiganaaaDoor
set_option linter.unusedSimpArgs false
set_option linter.unusedVariables false
open Go.ChangeShapes Go.WideShapes Go.ChangeAt Go.RowKit Go.Shelf
attribute [local go_sem] Oper.semAt_some

def StPost (w : World) (c : List I5) (e : Ending) (w' : World) : Prop :=
  ∃ g, e = .returned (.slice (some ⟨g, 0, none⟩) c.length c.length) ∧ w.heap.size ≤ g ∧ g < w'.heap.size ∧ (∀ j, j < c.length → w'.cell? ⟨g, j, none⟩ = some (.bool (stB c j)) ∧ w'.frozen? ⟨g, j, none⟩ = false) ∧ Below w.heap.size w w'

theorem _root_.Go.RowKit.Below.frz {B : Nat} {a b : World} (h : Below B a b) {p : Addr} (hp : p.block < B) : b.frozen? p = a.frozen? p := World.frozen?_of_block (h.block _ hp)
theorem set_oth {W : World} {p q : Addr} {v : Value} (h : p ≠ q) : (W.setCell p v).cell? q = W.cell? q := by
  first | exact World.cell?_setCell_other h | exact World.cell?_setCell_other _ h | exact World.cell?_setCell_other _ _ h | exact World.cell?_setCell_other _ _ _ h | exact World.cell?_setCell_other _ _ _ _ h
theorem boolInfo : (Tryd.prog.info? 4).map (fun i => (i.zero, i.size, i.bytes)) = some (some (.bool false), 1, 1) := by kernel_rfl
theorem made_cell (w : World) (n : Nat) (t : TypeId) (j : Nat) (hj : j < n) : (w.alloc (.cells (madeCells (Value.bool false).cells (n * 1)) t)).cell? ⟨w.heap.size, j, none⟩ = some (.bool false) := by
  have hs : ((madeCells (Value.bool false).cells (n * 1))[j]?) = some (.bool false) := by
    simp [madeCells, hj, Value.cells, Nat.mod_one]
  unfold World.cell?
  dsimp only
  rw [heap_alloc_new]
  exact hs
theorem make_bools (n : Nat) (hn : n < 11728124029440) (w : World) : ∃ arr : Array Value, (Instr.makeSlice 40 (.int .i64 n) (.int .i64 n)).run Tryd.prog w = .ok (.slice (some ⟨w.heap.size, 0, none⟩) n n) (w.alloc (.cells arr 4)) ∧
    ∀ j, j < n → (w.alloc (.cells arr 4)).cell? ⟨w.heap.size, j, none⟩ = some (.bool false) ∧ (w.alloc (.cells arr 4)).frozen? ⟨w.heap.size, j, none⟩ = false := by
  obtain ⟨i, hi, hp⟩ := Option.map_eq_some_iff.1 boolInfo
  injection hp with hp1 hp
  injection hp with hp2 hp3
  have h := run_make (P := Tryd.prog) w 40 4 i (.bool false) Tryd.underlying40 hi hp1 .i64 .i64 n n (by omega) (Int.le_refl _) (by rw [hp3]; omega) (by omega)
  rw [hp2] at h
  simp only [Int.toNat_natCast] at h
  refine ⟨_, h, fun j hj => ⟨made_cell w n _ j hj, ?_⟩⟩
  unfold World.frozen?
  dsimp only
  rw [heap_alloc_new]
  simp

set_option maxRecDepth 100000 in
set_option maxHeartbeats 2000000 in
theorem starts_any (p : Option Addr) (cap : Nat) (c : List I5) (w : World) (hz : SzOk w) (hsl : CdSl w.heap.size w p c.length c) : Calls Tryd.prog 21 #[.slice p c.length cap] w (StPost w c) := by
  refine (callsIn_wide (n := 6)).1 ?_
  refine callsIn_of_wp_marks Tryd.func21 rfl trivial ?_ rfl
  simp only [Tryd.ntmps21, List.size_toArray, List.length_cons, List.length_nil, Nat.reduceAdd, Nat.reduceSub, Array.replicate_succ, Array.replicate_zero, List.push_toArray, List.append_toArray, List.nil_append, List.cons_append]
  obtain ⟨arr, hmk, hcs⟩ := make_bools c.length hsl.2.2.1 w
  have HCS := hid hcs
  clear hcs
  gi_wp2
  refine ⟨trivial, ?_⟩
  refine (callsIn_wide.2 (begins_at _ _ _ _)).mono ?_
  rintro e w' ⟨rfl, rfl⟩
  gi_wp2
  have bS := Boxed.new (w.alloc (.cells arr 4)) 40 (.slice (some ⟨w.heap.size, 0, none⟩) c.length c.length)
  have bN := Boxed.new ((w.alloc (.cells arr 4)).alloc (.cells #[.slice (some ⟨w.heap.size, 0, none⟩) c.length c.length] 40)) 23 (.slice p c.length cap)
  rw [World.size_alloc] at bS bN
  rw [World.size_alloc] at bN
  have hB0 : Below w.heap.size w (((w.alloc (.cells arr 4)).alloc (.cells #[.slice (some ⟨w.heap.size, 0, none⟩) c.length c.length] 40)).alloc (.cells #[.slice p c.length cap] 23)) := (((Below.refl _ w).alloc (Nat.le_refl _) _).alloc (by simp) _).alloc (by simp; omega) _
  have hB1 : Below (w.heap.size + 1) (w.alloc (.cells arr 4)) (((w.alloc (.cells arr 4)).alloc (.cells #[.slice (some ⟨w.heap.size, 0, none⟩) c.length c.length] 40)).alloc (.cells #[.slice p c.length cap] 23)) := ((Below.refl _ _).alloc (by simp) _).alloc (by simp) _
  refine wpIn_rangeFunc_ownG rfl (by omega) (gf := 61) (lb := #[.pointer (some ⟨w.heap.size + 1 + 1, 0, none⟩)]) rfl trivial (enters_of Tryd.func61 (by kernel_rfl) rfl)
    (begins_stops _ (by omega) (w.heap.size + 1 + 1) w.heap.size cap p c _ (by simp; omega) hz.1 (by simp) (hz.below hB0) (hsl.kept hB0 (Nat.le_refl _)) bN.cell) KpS.trans (KpS.put (by simp; omega) (by simp)) (Below.refl _ _) (fun _ => rfl)
    (fun pre W => ((∀ j, j < c.length → W.cell? ⟨w.heap.size, j, none⟩ = some (.bool (decide (j ∈ pre.map (·.1)))) ∧ W.frozen? ⟨w.heap.size, j, none⟩ = false) ∧ W.cell? ⟨w.heap.size + 1, 0, none⟩ = some (.slice (some ⟨w.heap.size, 0, none⟩) c.length c.length)) ∧ Below w.heap.size w W)
    (fun _ _ _ => False)
    (OwnFrom.and (Own.from (fun s A B row hs hg hr => ⟨fun j hj => ⟨cell_kept (hs.1 j hj).1 hg hr, (frozen_kept (hs.1 j hj).1 hg hr).trans (hs.1 j hj).2⟩, cell_kept hs.2 hg hr⟩) _) (ownFrom_below (Nat.le_refl _) (by simp; omega)))
    (fun _ _ _ _ _ hs _ _ => hs)
    ⟨⟨fun j hj => ⟨?c0, ?f0⟩, (bS.alloc _).cell⟩, hB0⟩
    (fun x => { tmps := #[.slice p c.length cap, undef, .slice none 0 0, .pointer (some ⟨w.heap.size + 1, 0, none⟩), .int .i64 (x.1 : Int), .slice p c.length cap, .int .i64 c.length, .slice (some ⟨w.heap.size, 0, none⟩) c.length c.length, .slice p c.length cap, .func (.func 61) #[] #[.pointer (some ⟨w.heap.size + 1 + 1, 0, none⟩)], .int .i64 (x.1 : Int), (at5 c x.1).V, undef, undef, undef, undef], defers := [] }) ?assign ?body ?done ?stop
  case c0 =>
    rw [hB1.cell (p := ⟨w.heap.size, j, none⟩) (by simp), (HCS.out j hj).1]
    simp
  case f0 =>
    rw [hB1.frz (p := ⟨w.heap.size, j, none⟩) (by simp)]
    exact (HCS.out j hj).2
  case assign =>
    intro l x W K hK
    dsimp only [bgV]
    gi_wp2
    exact hK
  case body =>
    rintro l pre x W ⟨⟨hcs, hbx⟩, hB⟩ _
    have HC := hid hcs
    obtain ⟨k, hk, hst⟩ := x
    obtain ⟨hck, hfk⟩ := hcs k hk
    clear hcs
    dsimp only
    gi_wp2
    refine ⟨(KeepsOthers.setCell _ _ _).from _, (KpS.refl W).setCell (p := ⟨w.heap.size, k, none⟩) (Nat.le_refl _) (by simp; omega) _, ⟨⟨fun j hj => ⟨?_, ?_⟩, ?_⟩, hB.setCell (p := ⟨w.heap.size, k, none⟩) (Nat.le_refl _) _⟩⟩
    · by_cases e : j = k
      · subst e
        rw [World.cell?_setCell_same' _ _ _ (by rw [hck]; rfl)]
        simp
      · rw [set_oth (by intro h; apply e; injection h with _ h2; exact h2.symm), (HC.out j hj).1]
        simp [e]
    · rw [World.frozen?_setCell]
      exact (HC.out j hj).2
    · rw [set_oth (by intro h; injection h with h1; omega)]
      exact hbx
  case done =>
    rintro D ys W hD hall ⟨⟨hcs, hbx⟩, hB⟩ hK
    have HC := hid hcs
    clear hcs
    gi_wp2
    refine ⟨by simp, .inl ⟨_, _, rfl, run_takeDeferred hK, ?_⟩⟩
    have hP := grownBy_putObj' W D (.deferred none)
    have hr : ∀ r, some D = some r → ∃ o : Obj, W.heap[r]? = some o ∧ o.isCells = false := fun r e => by cases e; exact ⟨_, hK, rfl⟩
    refine ⟨_, results_tmp rfl _ _ _, w.heap.size, rfl, Nat.le_refl _, ?_, fun j hj => ?_, hB.trans (belowK_b (w := w) (Nat.le_refl _) W D _ _ (by simp at hD; omega) hK rfl rfl)⟩
    · have h1 := hP.size
      have h2 := hB.size
      have h3 := (Array.getElem?_eq_some_iff.1 hK).1
      simp at hD
      omega
    · obtain ⟨h1, h2⟩ := HC.out j hj
      refine ⟨?_, (frozen_kept h1 hP hr).trans h2⟩
      rw [cell_kept h1 hP hr]
      have hm : (j ∈ ys.map (·.1)) ↔ stB c j = true := by
        rw [show ys.map (·.1) = begsTo c c.length from hall, mem_begsTo]
        exact ⟨fun h => h.2, fun h => ⟨hj, h⟩⟩
      cases hs : stB c j
      · rw [decide_eq_false (fun h => by have := hm.1 h; rw [hs] at this; cases this)]
      · rw [decide_eq_true (hm.2 hs)]
  case stop =>
    rintro D c pre W _ _ h _
    exact h.elim
end Go.Proofs.YtdnkikgfiganaaaDoor
