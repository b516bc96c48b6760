/-
  The document's Right (layer 6), in this seat.
-/
import Derived.Test.YtoanbjnhoggpjaaJMeD
import Derived.Test.YtoanbjnhoggpjaaJMeF
import Derived.StillTactics
import Derived.Deep.RegionHeld3
import Derived.Laws.IdiomCopy
import Derived.Deep.OwnRows
import Derived.Deep.RegionLaw
namespace Go.Proofs.Ytoanbjnhoggpjaa.Me
set_option linter.unusedSimpArgs false
set_option linter.unusedVariables false
open Go.ChangeShapes Go.WideShapes Go.ChangeAt Go.RowKit

theorem below_setCells {n : Nat} {a : World} (g : Nat) (hg : n ≤ g) : ∀ (vs : List Value) (o : Nat) (b : World), Below n a b → Below n a (b.setCells g o vs)
  | [], _, _, h => h
  | v :: r, o, b, h => by
    rw [World.setCells]
    exact below_setCells g hg r (o + 1) _ (h.setCell hg _)
theorem there_box (w : World) (C : Array Value) (t : TypeId) (n : Nat) (hn : n = C.size) : (w.alloc (.cells C t)).there w.heap.size 0 n := by
  intro j hj
  refine ⟨?_, ?_⟩
  · rw [cell_of_row _ _ _ C t (0, 0) (heap_alloc_last w _)]
    simp; omega
  · unfold World.frozen?
    rw [heap_alloc_last]
    simp
theorem there_below {W W' : World} {b o n : Nat} (h : W.there b o n) (hb : b < W.heap.size) (hc : ∀ b o, b < W.heap.size → W'.cell? ⟨b, o, none⟩ = W.cell? ⟨b, o, none⟩) (hf : ∀ b o, b < W.heap.size → W'.frozen? ⟨b, o, none⟩ = W.frozen? ⟨b, o, none⟩) : W'.there b o n := fun j hj => by
  rw [hc _ _ hb, hf _ _ hb]
  exact h j hj

/-- What a store keeps in its own memory: the slot at g, the value at g + 1, the answer's place at g + 2. -/
structure StI (g : Nat) (w W : World) (b : Sl) (N : Int) : Prop where
  bel : Below g w W
  sz : g + 1 + 1 < W.heap.size
  r0 : W.rangeAt g 0 (sC b)
  t0 : W.there g 0 13
  r1 : W.cell? ⟨g + 1, 2, none⟩ = some (.int .u64 N)
  t2 : W.there (g + 1 + 1) 0 13
theorem StI.next {g : Nat} {w W W' : World} {b : Sl} {N : Int} (h : StI g w W b N) (hb : Below W.heap.size W W') : StI g w W' b N := by
  obtain ⟨hc, hf⟩ := bcell hb
  have hz := h.sz
  have hz' := hb.size
  exact ⟨below_next_w h.bel hb, by omega, range_below h.r0 (by omega) hc, there_below h.t0 (by omega) hc hf, by rw [hc _ _ (by omega)]; exact h.r1, there_below h.t2 (by omega) hc hf⟩
theorem StI.first (w : World) (s : Sl) (hs : SOk s) (v : Vl) (Z : Array Value) (hZ : 13 = Z.size) (t0 t1 t2 : TypeId) :
    StI w.heap.size w (((w.alloc (.cells (sC s).toArray t0)).alloc (.cells #[.int .u8 v.k, .int .i64 v.m, .int .u64 v.n, .int .i64 v.o] t1)).alloc (.cells Z t2)) s v.n := by
  refine ⟨(((Below.refl _ _).alloc (Nat.le_refl _) _).alloc (by simp) _).alloc (by simp; omega) _, by simp, ?_, ?_, ?_, ?_⟩
  · have := range_box w (sC s).toArray t0 0 13
    have e : (((sC s).toArray.extract 0 (0 + 13)).toList) = sC s := by
      have hl := sC_len hs
      simp [← hl]
    rw [e] at this
    exact World.rangeAt_alloc (World.rangeAt_alloc this _) _
  · exact World.there_alloc (World.there_alloc (there_box w _ t0 13 (by simp [sC_len hs])) _) _
  · simp [go_sem]
  · have := there_box ((w.alloc (.cells (sC s).toArray t0)).alloc (.cells #[.int .u8 v.k, .int .i64 v.m, .int .u64 v.n, .int .i64 v.o] t1)) Z t2 13 hZ
    simpa using this

end Go.Proofs.Ytoanbjnhoggpjaa.Me

namespace Go.Proofs.Ytoanbjnhoggpjaa.Me
set_option linter.unusedSimpArgs false
set_option linter.unusedVariables false
open Go.ChangeShapes Go.WideShapes Go.ChangeAt Go.RowKit

theorem one_sC (s : Sl) : ∀ v ∈ sC s, v.oneCell' = true := by
  intro v hv
  simp only [sC, bC, vC, List.mem_cons, List.mem_append, List.mem_map, List.not_mem_nil, or_false] at hv
  rcases hv with rfl | ⟨x, _, rfl⟩ | rfl | rfl | rfl | rfl <;> rfl

theorem sC_len' {s : Sl} (h : s.b.length = 8) : (sC s).length = 13 := by simp [sC, bC, vC, h]
theorem StI.put {g : Nat} {w W : World} {b : Sl} {N : Int} (h : StI g w W b N) (c : Sl) (hc : c.b.length = 8) : StI g w (W.setCells g 0 (sC c)) c N := by
  have hl := sC_len' hc
  refine ⟨below_setCells g (Nat.le_refl _) _ _ _ h.bel, ?_, World.rangeAt_setCells_same W g 0 (sC c) (by rw [hl]; exact h.t0), World.there_setCells h.t0 g 0 _, ?_, World.there_setCells h.t2 g 0 _⟩
  · have := (below_setCells (n := W.heap.size) (a := W) g · (sC c) 0 W (Below.refl _ _))
    have hz : W.heap.size ≤ (W.setCells g 0 (sC c)).heap.size := (below_setCells (n := 0) (a := W) g (Nat.zero_le _) (sC c) 0 W (Below.refl _ _)).size
    have := h.sz
    omega
  · rw [World.cell?_setCells_out _ _ _ _ _ (fun e _ => by exfalso; revert e; show g + 1 = g → False; omega)]
    exact h.r1

end Go.Proofs.Ytoanbjnhoggpjaa.Me

namespace Go.Proofs.Ytoanbjnhoggpjaa.Me
set_option linter.unusedSimpArgs false
set_option linter.unusedVariables false
open Go.ChangeShapes Go.WideShapes Go.ChangeAt Go.RowKit

end Go.Proofs.Ytoanbjnhoggpjaa.Me

namespace Go.Proofs.Ytoanbjnhoggpjaa.Me
set_option linter.unusedSimpArgs false
set_option linter.unusedVariables false
open Go.ChangeShapes Go.WideShapes Go.ChangeAt Go.RowKit

end Go.Proofs.Ytoanbjnhoggpjaa.Me

namespace Go.Proofs.Ytoanbjnhoggpjaa.Me
set_option linter.unusedSimpArgs false
set_option linter.unusedVariables false
open Go.ChangeShapes Go.WideShapes Go.ChangeAt Go.RowKit

end Go.Proofs.Ytoanbjnhoggpjaa.Me

namespace Go.Proofs.Ytoanbjnhoggpjaa.Me
set_option linter.unusedSimpArgs false
set_option linter.unusedVariables false
open Go.ChangeShapes Go.WideShapes Go.ChangeAt Go.RowKit

def radrB (v : Vl) : Bool := decide (2 ≤ v.k) && decide (v.k ≤ 6)
theorem raddr_any (v : Vl) (w : World) : Calls Try.prog 142 #[vV v] w fun e w' => e = .returned (.bool (radrB v)) ∧ Below w.heap.size w w' := by
  unfold radrB vV
  cases h1 : decide (2 ≤ v.k) <;> cases h2 : decide (v.k ≤ 6) <;>
  (go_enter Try.func142, Try.ntmps142
   go_wp2
   go_ret
   exact ⟨rfl, (Below.refl _ _).alloc (Nat.le_refl _) _⟩)
theorem radr_may {v : Vl} (h : mayB v = true) : radrB v = adrB v := by
  unfold mayB at h
  unfold radrB adrB
  by_cases h0 : v.k = 0
  · simp [h0]
  · by_cases h1 : v.k = 1
    · simp [h1]
    · rw [if_neg h0, if_neg h1] at h
      by_cases h2 : v.k = 2 ∨ v.k = 3 ∨ v.k = 4
      · rcases h2 with e | e | e <;> simp [e]
      · rw [if_neg h2] at h
        by_cases h5 : v.k = 5
        · simp [h5]
        · rw [if_neg h5] at h
          by_cases h6 : v.k = 6
          · simp [h6]
          · rw [if_neg h6] at h
            exact absurd h (by simp)
theorem rhas_any (s : Sl) (j : Nat) (w : World) (hs : SOk s) (hj : j < 8) : Calls Try.prog 143 #[sV s, .int .i64 (j : Int)] w fun e w' => e = .returned (.bool (hasB s.h j)) ∧ Below w.heap.size w w' := by
  obtain ⟨h, l, v⟩ := s
  obtain ⟨a, b, c, d, e, f, g, i, rfl⟩ := eight hs.2.1
  rw [sV_eight]
  obtain ⟨h0, h1⟩ := hs.1
  dsimp only at h0 h1 ⊢
  have hp : (0 : Int) < 2 ^ j := Int.pow_pos (by decide)
  have q0 : 0 ≤ h / 2 ^ j := Int.ediv_nonneg h0 (by omega)
  have q1 : h / 2 ^ j < 256 := Int.lt_of_le_of_lt (Int.ediv_le_self _ h0) h1
  unfold hasB
  generalize hr : (h / 2 ^ j % 2 == 1) = r
  clear hs
  go_enter Try.func143, Try.ntmps143
  go_wp2
  go_ret
  exact ⟨rfl, (Below.refl _ _).alloc (Nat.le_refl _) _⟩

end Go.Proofs.Ytoanbjnhoggpjaa.Me

namespace Go.Proofs.Ytoanbjnhoggpjaa.Me
set_option linter.unusedSimpArgs false
set_option linter.unusedVariables false
open Go.ChangeShapes Go.WideShapes Go.ChangeAt Go.RowKit

end Go.Proofs.Ytoanbjnhoggpjaa.Me

namespace Go.Proofs.Ytoanbjnhoggpjaa.Me
set_option linter.unusedSimpArgs false
set_option linter.unusedVariables false
open Go.ChangeShapes Go.WideShapes Go.ChangeAt Go.RowKit

/-- What a store keeps in its own memory: the frame at g, the value at g + 1, the answer's place at g + 2. -/
structure StF (g : Nat) (w W : World) (F : Nat → Sl) : Prop where
  bel : Below g w W
  sz : g + 1 + 1 < W.heap.size
  r0 : W.rangeAt g 0 (fC F)
  t0 : W.there g 0 832
  t2 : W.there (g + 1 + 1) 0 832
theorem StF.next {g : Nat} {w W W' : World} {F : Nat → Sl} (h : StF g w W F) (hb : Below W.heap.size W W') : StF g w W' F := by
  obtain ⟨hc, hf⟩ := bcell hb
  have hz := h.sz
  have hz' := hb.size
  exact ⟨below_next_w h.bel hb, by omega, range_below h.r0 (by omega) hc, there_below h.t0 (by omega) hc hf, there_below h.t2 (by omega) hc hf⟩
theorem StF.first (w : World) (F : Nat → Sl) (hF : FOk F) (o : Obj) (t0 t2 : TypeId) :
    StF w.heap.size w (((w.alloc (.cells (fC F).toArray t0)).alloc o).alloc (.cells (fC f0).toArray t2)) F := by
  refine ⟨(((Below.refl _ _).alloc (Nat.le_refl _) _).alloc (by simp) _).alloc (by simp; omega) _, by simp, ?_, ?_, ?_⟩
  · exact World.rangeAt_alloc (World.rangeAt_alloc (FrI.first w F t0).r0 _) _
  · exact World.there_alloc (World.there_alloc (there_box w _ t0 832 (by simp [fC_len hF])) _) _
  · have := there_box ((w.alloc (.cells (fC F).toArray t0)).alloc o) (fC f0).toArray t2 832 (by simp [fC_len f0_ok])
    simpa using this

end Go.Proofs.Ytoanbjnhoggpjaa.Me

namespace Go.Proofs.Ytoanbjnhoggpjaa.Me
set_option linter.unusedSimpArgs false
set_option linter.unusedVariables false
open Go.ChangeShapes Go.WideShapes Go.ChangeAt Go.RowKit

end Go.Proofs.Ytoanbjnhoggpjaa.Me

namespace Go.Proofs.Ytoanbjnhoggpjaa.Me
set_option linter.unusedSimpArgs false
set_option linter.unusedVariables false
open Go.ChangeShapes Go.WideShapes Go.ChangeAt Go.RowKit

theorem at_load {P : Program} {ops : Array Oper} {Q : Exit → Act → World → Prop} {rest : List Oper} {a : Act} {w : World} {d : Option Tmp} {x : Operand} {ty : TypeId} {ps : String} {af : Array Edge} {gd : Option (Tmp × Bool)} (T : TypeId)
    (h : wpList P ops Q (⟨d, .load T x, ty, ps, af, gd⟩ :: rest) a w) : wpList P ops Q (⟨d, .load T x, ty, ps, af, gd⟩ :: rest) a w := h
theorem at_store {P : Program} {ops : Array Oper} {Q : Exit → Act → World → Prop} {rest : List Oper} {a : Act} {w : World} {d : Option Tmp} {x y : Operand} {ty : TypeId} {ps : String} {af : Array Edge} {gd : Option (Tmp × Bool)} (T : TypeId)
    (h : wpList P ops Q (⟨d, .store T x y, ty, ps, af, gd⟩ :: rest) a w) : wpList P ops Q (⟨d, .store T x y, ty, ps, af, gd⟩ :: rest) a w := h
end Go.Proofs.Ytoanbjnhoggpjaa.Me

namespace Go.Proofs.Ytoanbjnhoggpjaa.Me
set_option linter.unusedSimpArgs false
set_option linter.unusedVariables false
open Go.ChangeShapes Go.WideShapes Go.ChangeAt Go.RowKit

theorem info27 : (Try.prog.info? 48).map (·.size) = some 13 := by kernel_rfl
/-- A frame in a block of the call's own, a slot of it in another. -/
structure RrI (w : World) (g : Nat) (F : Nat → Sl) (s : Sl) (W : World) : Prop where
  fr : FrI w.heap.size w W F
  lt : g < W.heap.size
  rs : W.rangeAt g 0 (sC s)
theorem RrI.next {w W V : World} {g : Nat} {F : Nat → Sl} {s : Sl} (h : RrI w g F s W) (b : Below W.heap.size W V) : RrI w g F s V :=
  ⟨h.fr.next b, Nat.lt_of_lt_of_le h.lt b.size, range_below h.rs h.lt (bcell b).1⟩
theorem rs_v {W : World} {g : Nat} {hh : Int} {l : List Int} {k m n o : Int} (h : W.rangeAt g 0 (sC ⟨hh, l, ⟨k, m, n, o⟩⟩)) (hl : l.length = 8) : W.cell? ⟨g, 0, none⟩ = some (.int .u8 hh) ∧ W.cell? ⟨g, 9, none⟩ = some (.int .u8 k) ∧ W.cell? ⟨g, 10, none⟩ = some (.int .i64 m) ∧ W.cell? ⟨g, 11, none⟩ = some (.int .u64 n) ∧ W.cell? ⟨g, 12, none⟩ = some (.int .i64 o) := by
  obtain ⟨a, b, c, d, e, f, g', i, rfl⟩ := eight hl
  exact ⟨h 0 _ rfl, h 9 _ rfl, h 10 _ rfl, h 11 _ rfl, h 12 _ rfl⟩
theorem rs_b {W : World} {g : Nat} {s : Sl} (h : W.rangeAt g 0 (sC s)) (hl : s.b.length = 8) (i : Nat) (hi : i < 8) : W.cell? ⟨g, 1 + i, none⟩ = some (.int .u8 (s.b.getD i 0)) := by
  have := h (1 + i) (.int .u8 (s.b.getD i 0)) (by
    unfold sC bC
    rw [Nat.add_comm 1 i, List.getElem?_cons_succ, List.getElem?_append_left (by simp; omega), List.getElem?_map, List.getD_eq_getElem?_getD, List.getElem?_eq_getElem (by omega)]
    rfl)
  rwa [Nat.zero_add] at this
theorem wpList_store_s {ops : Array Oper} {rest : List Oper} {op : Oper} {a : Act} {w : World} {Q : Exit → Act → World → Prop} (x y : Operand) (hgd : op.guard = none) (ho : op.op = .store 48 x y)
    (b : Nat) (s : Sl) (hs : SOk s) (hx : a.eval x = .pointer (some ⟨b, 0, none⟩)) (hy : a.eval y = .agg (sC s).toArray) (ht : w.there b 0 13)
    (h : wpList Try.prog ops Q rest (a.put op.dst undef) (w.setCells b 0 (sC s))) : wpList Try.prog ops Q (op :: rest) a w :=
  wpList_store_mid hgd 48 x y ho b 0 (sC s).toArray hx hy (by rw [List.size_toArray, sC_len hs]; exact ht) (by rw [List.size_toArray, sC_len hs]; exact info27) (all_oneCell_toArray (one_sC s)) h
theorem RrI.mk3 {w W : World} {F : Nat → Sl} {s : Sl} {o : Obj} (h : FrI w.heap.size w W F) (hs : SOk s) (hT : (W.alloc o).there W.heap.size 0 13) : RrI w W.heap.size F s ((W.alloc o).setCells W.heap.size 0 (sC s)) := by
  have h3 : Below W.heap.size W ((W.alloc o).setCells W.heap.size 0 (sC s)) := below_setCells W.heap.size (Nat.le_refl _) (sC s) 0 _ ((Below.refl _ _).alloc (Nat.le_refl _) _)
  have hz : W.heap.size < ((W.alloc o).setCells W.heap.size 0 (sC s)).heap.size := Nat.lt_of_lt_of_le (by simp) (below_setCells (n := 0) (a := W.alloc o) W.heap.size (Nat.zero_le _) (sC s) 0 _ (Below.refl _ _)).size
  exact ⟨h.next h3, hz, World.rangeAt_setCells_same _ _ 0 (sC s) (by rw [sC_len hs]; exact hT)⟩
theorem wpList_load_g {P : Program} {ops : Array Oper} {rest : List Oper} {op : Oper} {a : Act} {w : World} {Q : Exit → Act → World → Prop} (hw : Region.wanted op (yielded ops a.tmps) = true) (ty : TypeId) (x : Operand) (ho : op.op = .load ty x)
    (b o : Nat) (hx : a.eval x = .pointer (some ⟨b, o, none⟩)) (cs : List Value) (d : TypeDesc) (hc : w.rangeAt b o cs)
    (hu : P.underlying ty = some d) (hd : d.isRow = true) (hi : (P.info? ty).map (·.size) = some cs.length)
    (h : wpList P ops Q rest (a.put op.dst (.agg cs.toArray)) w) : wpList P ops Q (op :: rest) a w := by
  rw [wpList, if_pos hw]
  exact .inl (wp_load_mid ty x ho b o hx cs d hc hu hd hi h)
theorem slot_bad {F : Nat → Sl} {k : Nat} (hk : k < 64) (h : rightS (F k) = false) : (List.range 64).all (fun k => rightS (F k)) = false := by
  rw [List.all_eq_false]
  exact ⟨k, List.mem_range.2 hk, by rw [h]; simp⟩
theorem byte_bad {s : Sl} (hv : s.v = v0) {j : Nat} (hj : j < 8) (h : byteB s j = false) : rightS s = false := by
  unfold rightS
  rw [if_pos hv, List.all_eq_false]
  exact ⟨j, List.mem_range.2 hj, by rw [h]; simp⟩
theorem byte_all {s : Sl} (hv : s.v = v0) (h : ∀ j, j < 8 → byteB s j = true) : rightS s = true := by
  unfold rightS
  rw [if_pos hv, List.all_eq_true]
  exact fun j hj => h j (List.mem_range.1 hj)
theorem addr_eq {s : Sl} (hv : s.v ≠ v0) : rightS s = (mayB s.v && (adrB s.v && (s.h == 255 && s.b == z8))) := by
  unfold rightS
  rw [if_neg hv]
theorem z8_all {l : List Int} (hl : l.length = 8) (h : ∀ j, j < 8 → l.getD j 0 = 0) : (l == z8) = true := by
  obtain ⟨a, b, c, d, e, f, g, i, rfl⟩ := eight hl
  have h0 := h 0 (by decide)
  have h1 := h 1 (by decide)
  have h2 := h 2 (by decide)
  have h3 := h 3 (by decide)
  have h4 := h 4 (by decide)
  have h5 := h 5 (by decide)
  have h6 := h 6 (by decide)
  have h7 := h 7 (by decide)
  simp at h0 h1 h2 h3 h4 h5 h6 h7
  subst h0 h1 h2 h3 h4 h5 h6 h7
  rfl
theorem z8_bad {l : List Int} {j : Nat} (hj : j < 8) (h : l.getD j 0 ≠ 0) : (l == z8) = false := by
  rw [beq_eq_false_iff_ne]
  rintro rfl
  have : j = 0 ∨ j = 1 ∨ j = 2 ∨ j = 3 ∨ j = 4 ∨ j = 5 ∨ j = 6 ∨ j = 7 := by omega
  rcases this with rfl | rfl | rfl | rfl | rfl | rfl | rfl | rfl <;> exact h rfl

set_option maxRecDepth 100000 in
set_option maxHeartbeats 3200000 in
theorem rRight_any (F : Nat → Sl) (w : World) (hF : FOk F) : Calls Try.prog 80 #[fV F] w fun e w' => e = .returned (.bool (rightF F)) ∧ Below w.heap.size w w' := by
  have HF := hid hF
  have I0 := hid (FrI.first w F 50)
  have hr : rightF F = (List.range 64).all fun k => rightS (F k) := rfl
  generalize hRR : rightF F = R at hr ⊢
  have HRR := hid hr
  obtain ⟨CF, hCF⟩ : ∃ CF, (fC F).toArray = CF := ⟨_, rfl⟩
  unfold fV
  rw [hCF] at I0 ⊢
  clear hF hr hRR hCF
  go_enter Try.func80, Try.ntmps80
  go_wp2_with fail
  go_loopw [3] (fun i w' => ∃ k : Nat, k ≤ 64 ∧ i = .int .i64 k ∧ Hid (∀ j, j < k → rightS (F j) = true) ∧ Hid (FrI w.heap.size w w' F)) (fun i _ => 64 - (intOf i).toNat)
  case atStart => exact ⟨0, by omega, rfl, hid (fun j hj => by omega), I0⟩
  case round =>
    obtain ⟨k, hk, rfl, hP, I1⟩ := hrel
    by_cases hlt : k < 64
    · have hlt' : (k : Int) < 64 := by omega
      obtain ⟨wo, rfl⟩ : ∃ wo : World, wo = wr := ⟨_, rfl⟩
      have hrk : Hid (wo.rangeAt w.heap.size (k * 13) (sC (F k))) := hid (by have := range_at HF.out I1.out.r0 k hlt; rwa [Nat.zero_add] at this)
      have hsk := HF.out k hlt
      have hiS : (Try.prog.info? 48).map (·.size) = some (sC (F k)).length := by rw [sC_len hsk]; exact info27
      have HS := hid hiS
      have HT := hid (there_box wo #[.int .u8 0, .int .u8 0, .int .u8 0, .int .u8 0, .int .u8 0, .int .u8 0, .int .u8 0, .int .u8 0, .int .u8 0, .int .u8 0, .int .i64 0, .int .u64 0, .int .i64 0] 48 13 rfl)
      have J4 := hid (RrI.mk3 (s := F k) I1.out hsk HT.out)
      have HBAD := hid (@slot_bad F k hlt)
      have HGOOD : Hid (rightS (F k) = true → ∀ j, j < k + 1 → rightS (F j) = true) := hid (fun h i hi => (Nat.lt_succ_iff_lt_or_eq.1 hi).elim (fun q => hP.out i q) (fun q => q ▸ h))
      clear hP hiS
      generalize F k = s at hrk hsk HS J4 HBAD HGOOD
      have HSK := hid hsk
      obtain ⟨h, l, ⟨vk, vm, vn, vo⟩⟩ := s
      have hl8 : l.length = 8 := hsk.2.1
      have hlb := hsk.2.2.1
      have hh := hsk.1
      dsimp only at hlb hh
      have HLB := hid hlb
      have HSL := hid (fun i (hi : i < 8) W => rhas_any ⟨h, l, ⟨vk, vm, vn, vo⟩⟩ i W hsk hi)
      have HMay := hid (fun W => rmay_any ⟨vk, vm, vn, vo⟩ W)
      have HAdr := hid (fun W => raddr_any ⟨vk, vm, vn, vo⟩ W)
      unfold vV at HMay HAdr
      unfold sV at HSL
      dsimp only at HMay HAdr
      obtain ⟨hh0, hh1⟩ := hh
      clear hsk hlb
      by_cases hvv : (⟨vk, vm, vn, vo⟩ : Vl) = v0
      · injection hvv with e1 e2 e3 e4
        subst e1 e2 e3 e4
        go_wp2_with (first | ((with_reducible refine at_load 48 ?_); refine wpList_load_mid rfl 48 _ rfl w.heap.size (k * 13) rfl (sC ⟨h, l, ⟨0, 0, 0, 0⟩⟩) _ hrk.out Try.underlying48 rfl HS.out ?_) | ((with_reducible refine at_store 48 ?_); refine wpList_store_s _ _ rfl rfl wo.heap.size ⟨h, l, ⟨0, 0, 0, 0⟩⟩ HSK.out rfl rfl HT.out ?_; generalize (wo.alloc (.cells #[.int .u8 0, .int .u8 0, .int .u8 0, .int .u8 0, .int .u8 0, .int .u8 0, .int .u8 0, .int .u8 0, .int .u8 0, .int .u8 0, .int .i64 0, .int .u64 0, .int .i64 0] 48)).setCells wo.heap.size 0 (sC ⟨h, l, ⟨0, 0, 0, 0⟩⟩) = w4 at J4 ⊢; generalize wo.heap.size = g at J4 ⊢; obtain ⟨c0, c9, c10, c11, c12⟩ := rs_v J4.out.rs hl8))
        go_loopw [6] (fun jv w' => ∃ i : Nat, i ≤ 8 ∧ jv = .int .i64 i ∧ Hid (∀ i2, i2 < i → byteB ⟨h, l, ⟨0, 0, 0, 0⟩⟩ i2 = true) ∧ Hid (RrI w g F ⟨h, l, ⟨0, 0, 0, 0⟩⟩ w')) (fun jv _ => 8 - (intOf jv).toNat)
        case atStart => exact ⟨0, by omega, rfl, hid (fun i2 h2 => by omega), J4⟩
        case round =>
          obtain ⟨i, hi, rfl, HI, JI⟩ := hrel
          by_cases hi8 : i < 8
          · have hi8' : (i : Int) < 8 := by omega
            have hcb := rs_b JI.out.rs hl8 i hi8
            have hz := HLB.out (l.getD i 0) (by rw [List.getD_eq_getElem?_getD, List.getElem?_eq_getElem (by omega)]; exact List.getElem_mem _)
            dsimp only at hcb
            obtain ⟨hz0, hz1⟩ := hz
            by_cases hzz : l.getD i 0 = 0
            · rw [hzz] at hcb
              clear hz0 hz1
              go_wp2
              go_roundw
              case rel => exact ⟨i + 1, by omega, by go_num, hid (fun i2 h2 => (Nat.lt_succ_iff_lt_or_eq.1 h2).elim (fun q => HI.out i2 q) (fun q => by subst q; unfold byteB; rw [hzz]; rfl)), JI⟩
              case measure => simp [intOf]; omega
            · have HZZ := hid hzz
              generalize hzv : l.getD i 0 = z at hcb hz0 hz1 hzz
              replace hzv := hid hzv
              have dz : decide (0 < z) = true := decide_eq_true (by omega)
              clear hzz
              have HH := hid (HSL.out i hi8)
              cases hhb : hasB h i
              · rw [hhb] at HH
                go_wp2_with ((with_reducible refine at_load 48 ?_); refine wpList_load_g (by rfl) 48 _ rfl g 0 rfl (sC ⟨h, l, ⟨0, 0, 0, 0⟩⟩) _ JI.out.rs Try.underlying48 rfl HS.out ?_)
                refine (HH.out _).mono ?_
                rintro e w7 ⟨rfl, b7⟩
                have J7 := hid (JI.out.next b7)
                clear b7
                go_wp2
                go_ret
                refine ⟨ret_val ?_, J7.out.fr.bel⟩
                rw [HRR.out, HBAD.out (byte_bad rfl hi8 (by unfold byteB; rw [hhb]; simpa using HZZ.out))]
                rfl
              · rw [hhb] at HH
                go_wp2_with ((with_reducible refine at_load 48 ?_); refine wpList_load_g (by rfl) 48 _ rfl g 0 rfl (sC ⟨h, l, ⟨0, 0, 0, 0⟩⟩) _ JI.out.rs Try.underlying48 rfl HS.out ?_)
                refine (HH.out _).mono ?_
                rintro e w7 ⟨rfl, b7⟩
                have J7 := hid (JI.out.next b7)
                clear b7
                go_wp2
                go_roundw
                case rel => exact ⟨i + 1, by omega, by go_num, hid (fun i2 h2 => (Nat.lt_succ_iff_lt_or_eq.1 h2).elim (fun q => HI.out i2 q) (fun q => by subst q; unfold byteB; rw [hhb, Bool.or_true])), J7⟩
                case measure => simp [intOf]; omega
          · go_wp2
            go_roundw
            case rel => exact ⟨k + 1, by omega, by go_num, hid (HGOOD.out (byte_all rfl (fun i2 h2 => HI.out i2 (by omega)))), hid JI.out.fr⟩
            case measure => simp [intOf]; omega
      · have hvv' : (⟨h, l, ⟨vk, vm, vn, vo⟩⟩ : Sl).v ≠ v0 := hvv
        replace hvv := hvv'
        clear hvv'
        by_cases hk0 : vk = 0
        · subst hk0
          have hm : mayB ⟨0, vm, vn, vo⟩ = false := by
            cases hm : mayB ⟨0, vm, vn, vo⟩
            · rfl
            · exfalso
              unfold mayB at hm
              simp at hm
              obtain ⟨e1, e2, e3⟩ := hm
              subst e1 e2 e3
              exact hvv rfl
          rw [hm] at HMay
          by_cases hm0 : vm = 0
          · subst hm0
            by_cases hn0 : vn = 0
            · subst hn0
              have eo : (vo == 0) = false := by
                rw [beq_eq_false_iff_ne]
                rintro rfl
                exact hvv rfl
              go_wp2_with (first | ((with_reducible refine at_load 48 ?_); refine wpList_load_mid rfl 48 _ rfl w.heap.size (k * 13) rfl (sC ⟨h, l, ⟨0, 0, 0, vo⟩⟩) _ hrk.out Try.underlying48 rfl HS.out ?_) | ((with_reducible refine at_store 48 ?_); refine wpList_store_s _ _ rfl rfl wo.heap.size ⟨h, l, ⟨0, 0, 0, vo⟩⟩ HSK.out rfl rfl HT.out ?_; generalize (wo.alloc (.cells #[.int .u8 0, .int .u8 0, .int .u8 0, .int .u8 0, .int .u8 0, .int .u8 0, .int .u8 0, .int .u8 0, .int .u8 0, .int .u8 0, .int .i64 0, .int .u64 0, .int .i64 0] 48)).setCells wo.heap.size 0 (sC ⟨h, l, ⟨0, 0, 0, vo⟩⟩) = w4 at J4 ⊢; generalize wo.heap.size = g at J4 ⊢; obtain ⟨c0, c9, c10, c11, c12⟩ := rs_v J4.out.rs hl8) | (go_at_call 81; refine (HMay.out _).mono ?_; rintro e w5 ⟨rfl, b5⟩; have J5 := hid (J4.out.next b5); obtain ⟨d0, d9, d10, d11, d12⟩ := rs_v J5.out.rs hl8; clear b5))
              go_ret
              refine ⟨ret_val ?_, J5.out.fr.bel⟩
              rw [HRR.out, HBAD.out (by rw [addr_eq hvv, hm]; rfl)]
              rfl
            · have en : (vn == 0) = false := by simpa using hn0
              go_wp2_with (first | ((with_reducible refine at_load 48 ?_); refine wpList_load_mid rfl 48 _ rfl w.heap.size (k * 13) rfl (sC ⟨h, l, ⟨0, 0, vn, vo⟩⟩) _ hrk.out Try.underlying48 rfl HS.out ?_) | ((with_reducible refine at_store 48 ?_); refine wpList_store_s _ _ rfl rfl wo.heap.size ⟨h, l, ⟨0, 0, vn, vo⟩⟩ HSK.out rfl rfl HT.out ?_; generalize (wo.alloc (.cells #[.int .u8 0, .int .u8 0, .int .u8 0, .int .u8 0, .int .u8 0, .int .u8 0, .int .u8 0, .int .u8 0, .int .u8 0, .int .u8 0, .int .i64 0, .int .u64 0, .int .i64 0] 48)).setCells wo.heap.size 0 (sC ⟨h, l, ⟨0, 0, vn, vo⟩⟩) = w4 at J4 ⊢; generalize wo.heap.size = g at J4 ⊢; obtain ⟨c0, c9, c10, c11, c12⟩ := rs_v J4.out.rs hl8) | (go_at_call 81; refine (HMay.out _).mono ?_; rintro e w5 ⟨rfl, b5⟩; have J5 := hid (J4.out.next b5); obtain ⟨d0, d9, d10, d11, d12⟩ := rs_v J5.out.rs hl8; clear b5))
              go_ret
              refine ⟨ret_val ?_, J5.out.fr.bel⟩
              rw [HRR.out, HBAD.out (by rw [addr_eq hvv, hm]; rfl)]
              rfl
          · have em : (vm == 0) = false := by simpa using hm0
            go_wp2_with (first | ((with_reducible refine at_load 48 ?_); refine wpList_load_mid rfl 48 _ rfl w.heap.size (k * 13) rfl (sC ⟨h, l, ⟨0, vm, vn, vo⟩⟩) _ hrk.out Try.underlying48 rfl HS.out ?_) | ((with_reducible refine at_store 48 ?_); refine wpList_store_s _ _ rfl rfl wo.heap.size ⟨h, l, ⟨0, vm, vn, vo⟩⟩ HSK.out rfl rfl HT.out ?_; generalize (wo.alloc (.cells #[.int .u8 0, .int .u8 0, .int .u8 0, .int .u8 0, .int .u8 0, .int .u8 0, .int .u8 0, .int .u8 0, .int .u8 0, .int .u8 0, .int .i64 0, .int .u64 0, .int .i64 0] 48)).setCells wo.heap.size 0 (sC ⟨h, l, ⟨0, vm, vn, vo⟩⟩) = w4 at J4 ⊢; generalize wo.heap.size = g at J4 ⊢; obtain ⟨c0, c9, c10, c11, c12⟩ := rs_v J4.out.rs hl8) | (go_at_call 81; refine (HMay.out _).mono ?_; rintro e w5 ⟨rfl, b5⟩; have J5 := hid (J4.out.next b5); obtain ⟨d0, d9, d10, d11, d12⟩ := rs_v J5.out.rs hl8; clear b5))
            go_ret
            refine ⟨ret_val ?_, J5.out.fr.bel⟩
            rw [HRR.out, HBAD.out (by rw [addr_eq hvv, hm]; rfl)]
            rfl
        · have ek : (vk == 0) = false := by simpa using hk0
          cases hm : mayB ⟨vk, vm, vn, vo⟩
          · rw [hm] at HMay
            go_wp2_with (first | ((with_reducible refine at_load 48 ?_); refine wpList_load_mid rfl 48 _ rfl w.heap.size (k * 13) rfl (sC ⟨h, l, ⟨vk, vm, vn, vo⟩⟩) _ hrk.out Try.underlying48 rfl HS.out ?_) | ((with_reducible refine at_store 48 ?_); refine wpList_store_s _ _ rfl rfl wo.heap.size ⟨h, l, ⟨vk, vm, vn, vo⟩⟩ HSK.out rfl rfl HT.out ?_; generalize (wo.alloc (.cells #[.int .u8 0, .int .u8 0, .int .u8 0, .int .u8 0, .int .u8 0, .int .u8 0, .int .u8 0, .int .u8 0, .int .u8 0, .int .u8 0, .int .i64 0, .int .u64 0, .int .i64 0] 48)).setCells wo.heap.size 0 (sC ⟨h, l, ⟨vk, vm, vn, vo⟩⟩) = w4 at J4 ⊢; generalize wo.heap.size = g at J4 ⊢; obtain ⟨c0, c9, c10, c11, c12⟩ := rs_v J4.out.rs hl8) | (go_at_call 81; refine (HMay.out _).mono ?_; rintro e w5 ⟨rfl, b5⟩; have J5 := hid (J4.out.next b5); obtain ⟨d0, d9, d10, d11, d12⟩ := rs_v J5.out.rs hl8; clear b5))
            go_ret
            refine ⟨ret_val ?_, J5.out.fr.bel⟩
            rw [HRR.out, HBAD.out (by rw [addr_eq hvv, hm]; rfl)]
            rfl
          · rw [hm] at HMay
            have hra := radr_may hm
            rw [hra] at HAdr
            cases ha : adrB ⟨vk, vm, vn, vo⟩
            · rw [ha] at HAdr
              go_wp2_with (first | ((with_reducible refine at_load 48 ?_); refine wpList_load_mid rfl 48 _ rfl w.heap.size (k * 13) rfl (sC ⟨h, l, ⟨vk, vm, vn, vo⟩⟩) _ hrk.out Try.underlying48 rfl HS.out ?_) | ((with_reducible refine at_store 48 ?_); refine wpList_store_s _ _ rfl rfl wo.heap.size ⟨h, l, ⟨vk, vm, vn, vo⟩⟩ HSK.out rfl rfl HT.out ?_; generalize (wo.alloc (.cells #[.int .u8 0, .int .u8 0, .int .u8 0, .int .u8 0, .int .u8 0, .int .u8 0, .int .u8 0, .int .u8 0, .int .u8 0, .int .u8 0, .int .i64 0, .int .u64 0, .int .i64 0] 48)).setCells wo.heap.size 0 (sC ⟨h, l, ⟨vk, vm, vn, vo⟩⟩) = w4 at J4 ⊢; generalize wo.heap.size = g at J4 ⊢; obtain ⟨c0, c9, c10, c11, c12⟩ := rs_v J4.out.rs hl8) | (go_at_call 81; refine (HMay.out _).mono ?_; rintro e w5 ⟨rfl, b5⟩; have J5 := hid (J4.out.next b5); obtain ⟨d0, d9, d10, d11, d12⟩ := rs_v J5.out.rs hl8; clear b5) | (go_at_call 142; refine (HAdr.out _).mono ?_; rintro e w6 ⟨rfl, b6⟩; have J6 := hid (J5.out.next b6); obtain ⟨f0, f9, f10, f11, f12⟩ := rs_v J6.out.rs hl8; clear b6))
              go_ret
              refine ⟨ret_val ?_, J6.out.fr.bel⟩
              rw [HRR.out, HBAD.out (by rw [addr_eq hvv, hm, ha]; rfl)]
              rfl
            · rw [ha] at HAdr
              by_cases h255 : h = 255
              · have e255 : (h != 255) = false := by simpa using h255
                have H255 := hid h255
                clear h255
                go_wp2_with (first | ((with_reducible refine at_load 48 ?_); refine wpList_load_mid rfl 48 _ rfl w.heap.size (k * 13) rfl (sC ⟨h, l, ⟨vk, vm, vn, vo⟩⟩) _ hrk.out Try.underlying48 rfl HS.out ?_) | ((with_reducible refine at_store 48 ?_); refine wpList_store_s _ _ rfl rfl wo.heap.size ⟨h, l, ⟨vk, vm, vn, vo⟩⟩ HSK.out rfl rfl HT.out ?_; generalize (wo.alloc (.cells #[.int .u8 0, .int .u8 0, .int .u8 0, .int .u8 0, .int .u8 0, .int .u8 0, .int .u8 0, .int .u8 0, .int .u8 0, .int .u8 0, .int .i64 0, .int .u64 0, .int .i64 0] 48)).setCells wo.heap.size 0 (sC ⟨h, l, ⟨vk, vm, vn, vo⟩⟩) = w4 at J4 ⊢; generalize wo.heap.size = g at J4 ⊢; obtain ⟨c0, c9, c10, c11, c12⟩ := rs_v J4.out.rs hl8) | (go_at_call 81; refine (HMay.out _).mono ?_; rintro e w5 ⟨rfl, b5⟩; have J5 := hid (J4.out.next b5); obtain ⟨d0, d9, d10, d11, d12⟩ := rs_v J5.out.rs hl8; clear b5) | (go_at_call 142; refine (HAdr.out _).mono ?_; rintro e w6 ⟨rfl, b6⟩; have J6 := hid (J5.out.next b6); obtain ⟨f0, f9, f10, f11, f12⟩ := rs_v J6.out.rs hl8; clear b6))
                go_loopw [6] (fun jv w' => ∃ i : Nat, i ≤ 8 ∧ jv = .int .i64 i ∧ Hid (∀ i2, i2 < i → l.getD i2 0 = 0) ∧ Hid (RrI w g F ⟨h, l, ⟨vk, vm, vn, vo⟩⟩ w')) (fun jv _ => 8 - (intOf jv).toNat)
                case atStart => exact ⟨0, by omega, rfl, hid (fun i2 h2 => by omega), J6⟩
                case round =>
                  obtain ⟨i, hi, rfl, HI, JI⟩ := hrel
                  by_cases hi8 : i < 8
                  · have hi8' : (i : Int) < 8 := by omega
                    have hcb := rs_b JI.out.rs hl8 i hi8
                    have hz := HLB.out (l.getD i 0) (by rw [List.getD_eq_getElem?_getD, List.getElem?_eq_getElem (by omega)]; exact List.getElem_mem _)
                    dsimp only at hcb
                    obtain ⟨hz0, hz1⟩ := hz
                    by_cases hzz : l.getD i 0 = 0
                    · rw [hzz] at hcb
                      clear hz0 hz1
                      go_wp2
                      go_roundw
                      case rel => exact ⟨i + 1, by omega, by go_num, hid (fun i2 h2 => (Nat.lt_succ_iff_lt_or_eq.1 h2).elim (fun q => HI.out i2 q) (fun q => by subst q; exact hzz)), JI⟩
                      case measure => simp [intOf]; omega
                    · have HZZ := hid hzz
                      generalize hzv : l.getD i 0 = z at hcb hz0 hz1 hzz
                      replace hzv := hid hzv
                      have dz : decide (0 < z) = true := decide_eq_true (by omega)
                      clear hzz
                      go_wp2
                      go_ret
                      refine ⟨ret_val ?_, JI.out.fr.bel⟩
                      rw [HRR.out, HBAD.out (by rw [addr_eq hvv, z8_bad hi8 HZZ.out]; simp)]
                      rfl
                  · go_wp2
                    go_roundw
                    case rel => exact ⟨k + 1, by omega, by go_num, hid (HGOOD.out (by rw [addr_eq hvv, z8_all hl8 (fun i2 h2 => HI.out i2 (by omega))]; simp [hm, ha, H255.out])), hid JI.out.fr⟩
                    case measure => simp [intOf]; omega
              · have e255 : (h != 255) = true := by simpa using h255
                go_wp2_with (first | ((with_reducible refine at_load 48 ?_); refine wpList_load_mid rfl 48 _ rfl w.heap.size (k * 13) rfl (sC ⟨h, l, ⟨vk, vm, vn, vo⟩⟩) _ hrk.out Try.underlying48 rfl HS.out ?_) | ((with_reducible refine at_store 48 ?_); refine wpList_store_s _ _ rfl rfl wo.heap.size ⟨h, l, ⟨vk, vm, vn, vo⟩⟩ HSK.out rfl rfl HT.out ?_; generalize (wo.alloc (.cells #[.int .u8 0, .int .u8 0, .int .u8 0, .int .u8 0, .int .u8 0, .int .u8 0, .int .u8 0, .int .u8 0, .int .u8 0, .int .u8 0, .int .i64 0, .int .u64 0, .int .i64 0] 48)).setCells wo.heap.size 0 (sC ⟨h, l, ⟨vk, vm, vn, vo⟩⟩) = w4 at J4 ⊢; generalize wo.heap.size = g at J4 ⊢; obtain ⟨c0, c9, c10, c11, c12⟩ := rs_v J4.out.rs hl8) | (go_at_call 81; refine (HMay.out _).mono ?_; rintro e w5 ⟨rfl, b5⟩; have J5 := hid (J4.out.next b5); obtain ⟨d0, d9, d10, d11, d12⟩ := rs_v J5.out.rs hl8; clear b5) | (go_at_call 142; refine (HAdr.out _).mono ?_; rintro e w6 ⟨rfl, b6⟩; have J6 := hid (J5.out.next b6); obtain ⟨f0, f9, f10, f11, f12⟩ := rs_v J6.out.rs hl8; clear b6))
                go_ret
                refine ⟨ret_val ?_, J6.out.fr.bel⟩
                rw [HRR.out, HBAD.out (by rw [addr_eq hvv]; simp [h255])]
                rfl
    · have hk8 : k = 64 := by omega
      subst hk8
      go_wp2
      go_ret
      refine ⟨ret_val ?_, I1.out.bel⟩
      have : (List.range 64).all (fun k => rightS (F k)) = true := by
        rw [List.all_eq_true]
        exact fun i hi => hP.out i (List.mem_range.1 hi)
      rw [HRR.out, this]
      rfl

end Go.Proofs.Ytoanbjnhoggpjaa.Me
