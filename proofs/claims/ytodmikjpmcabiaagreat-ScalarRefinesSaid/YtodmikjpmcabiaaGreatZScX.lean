import Derived.Test.YtodmikjpmcabiaaGreatZScO
import Derived.Test.YtodmikjpmcabiaaGreatZScZ
import Derived.Laws.AppendOwn
import Derived.Laws.OwnMore
import Derived.OwnWalk
namespace Go.Proofs.YtodmikjpmcabiaaGreat
set_option linter.unusedSimpArgs false
set_option linter.unusedVariables false
set_option maxRecDepth 100000
open Go.ChangeShapes Go.WideShapes Go.ChangeAt Go.RowKit

abbrev Sm := Int × Bool × Sc × Sc
def smCells (r : Sm) : List Value := [.int .i64 r.1, .bool r.2.1, .int .u64 (ub r.2.2.1.1.1), .int .u64 (ub r.2.2.1.1.2), .int .u64 (ub r.2.2.1.2.1), .int .u64 (ub r.2.2.1.2.2), .int .u64 (ub r.2.2.2.1.1), .int .u64 (ub r.2.2.2.1.2), .int .u64 (ub r.2.2.2.2.1), .int .u64 (ub r.2.2.2.2.2)]
def OwnM (w0 w : World) (v : Value) (L : List Sm) : Prop := w.ownsRow w0.heap.size 49 10 v L.length (L.flatMap smCells) ∧ Below w0.heap.size w0 w
theorem smInfo : (Tryz.prog.info? 49).map (fun i => ((i.zero.map fun z => z.cells.size), i.size, i.bytes)) = some (some 10, 10, 80) := by kernel_rfl
theorem sm_one (r r2 : Sm) : ∀ u ∈ smCells r ++ smCells r2, u.oneCell' = true := by
  intro u hu
  simp only [smCells, List.mem_append, List.mem_cons, List.not_mem_nil, or_false] at hu
  rcases hu with (rfl | rfl | rfl | rfl | rfl | rfl | rfl | rfl | rfl | rfl) | (rfl | rfl | rfl | rfl | rfl | rfl | rfl | rfl | rfl | rfl) <;> rfl
theorem append_two {ops : Array Oper} {rest : List Oper} {o : Oper} {a : Act} {Q : Exit → Act → World → Prop} (hgd : o.guard = none) (s x : Operand)
    (ho : o.op = .call { callee := .builtin .append, args := #[s, x], argTypes := #[50, 50] })
    (w0 w : World) (v : Value) (L : List Sm) (r r2 : Sm) (hs : a.eval s = v) (hown : OwnM w0 w v L) (wm : World) (hx : a.eval x = .slice (some ⟨w.heap.size, 0, none⟩) 2 2)
    (hw : wm = w.alloc (.cells (smCells r ++ smCells r2).toArray 49)) (hlen : L.length < 1000)
    (h : ∀ v' w', OwnM w0 w' v' (L ++ [r, r2]) → wpList Tryz.prog ops Q rest (a.put o.dst v') w') : wpList Tryz.prog ops Q (o :: rest) a wm := by
  subst hw
  obtain ⟨i, hi, hp⟩ := Option.map_eq_some_iff.1 smInfo
  injection hp with hp1 hp
  injection hp with hp2 hp3
  obtain ⟨z, hz, hzc⟩ := Option.map_eq_some_iff.1 hp1
  obtain ⟨ho1, hb⟩ := hown
  refine wpList_append_own _ hgd s x 50 ho w0.heap.size 49 i z 10 80 Tryz.underlying50 hi hz hp2 hp3 hzc (by decide) v L.length (L.flatMap smCells) hs (ho1.alloc _)
    ⟨w.heap.size, 0, none⟩ 2 2 (smCells r ++ smCells r2) hx rfl ?_ (sm_one r r2) (by simp only [maxLen]; omega) (by omega) ?_ ?_
  · intro j u hu
    have hj : (((w.alloc (.cells (smCells r ++ smCells r2).toArray 49)).cell? ⟨w.heap.size, j, none⟩) = (smCells r ++ smCells r2).toArray[j]?) := by
      rw [World.cell?_alloc_at _ _ _ _ rfl]
    have : ((⟨w.heap.size, 0, none⟩ : Addr).add j) = ⟨w.heap.size, j, none⟩ := by simp [Addr.add]; omega
    rw [this, hj]
    simpa using hu
  · have := hb.size
    simp
    omega
  · intro v' w' h1 h2 _
    refine h v' w' ⟨?_, ?_⟩
    · rw [List.length_append, List.flatMap_append]
      simpa using h1
    · refine (hb.alloc hb.size _).grown h2 (by have := hb.size; simp; omega) ?_
      intro k hk
      exact (ho1.lt k hk).1
def eachL (s : Sm) : Nat → List Sm
  | 0 => [s]
  | k + 1 => eachL s k ++ [((k : Int), true, s.2.2.1, s.2.2.2), ((k : Int), false, s.2.2.1, s.2.2.2)]
theorem eachL_len (s : Sm) : ∀ k, (eachL s k).length = 1 + 2 * k
  | 0 => rfl
  | k + 1 => by rw [eachL, List.length_append, eachL_len s k]; show _ + 2 = _; omega
theorem eachL_mem (s : Sm) : ∀ k, ∀ r ∈ eachL s k, r.2.2 = s.2.2
  | 0, r, h => by
    have : r = s := List.mem_singleton.1 h
    rw [this]
  | k + 1, r, h => by
    rw [eachL, List.mem_append] at h
    rcases h with h | h
    · exact eachL_mem s k r h
    · simp only [List.mem_cons, List.not_mem_nil, or_false] at h
      rcases h with rfl | rfl <;> rfl
structure SmC (w : World) (b : Nat) (op : Int) (c : Bool) (x y : Sc) : Prop where
  lt : b < w.heap.size
  c0 : w.cell? ⟨b, 0, none⟩ = some (.int .i64 op)
  c1 : w.cell? ⟨b, 1, none⟩ = some (.bool c)
  c2 : w.cell? ⟨b, 2, none⟩ = some (.int .u64 (ub x.1.1))
  c3 : w.cell? ⟨b, 3, none⟩ = some (.int .u64 (ub x.1.2))
  c4 : w.cell? ⟨b, 4, none⟩ = some (.int .u64 (ub x.2.1))
  c5 : w.cell? ⟨b, 5, none⟩ = some (.int .u64 (ub x.2.2))
  c6 : w.cell? ⟨b, 6, none⟩ = some (.int .u64 (ub y.1.1))
  c7 : w.cell? ⟨b, 7, none⟩ = some (.int .u64 (ub y.1.2))
  c8 : w.cell? ⟨b, 8, none⟩ = some (.int .u64 (ub y.2.1))
  c9 : w.cell? ⟨b, 9, none⟩ = some (.int .u64 (ub y.2.2))
theorem SmC.below {w w' : World} {b : Nat} {op : Int} {c : Bool} {x y : Sc} (h : SmC w b op c x y) (hb : Below w.heap.size w w') : SmC w' b op c x y :=
  ⟨Nat.lt_of_lt_of_le h.lt hb.size, (hb.cell h.lt).trans h.c0, (hb.cell h.lt).trans h.c1, (hb.cell h.lt).trans h.c2, (hb.cell h.lt).trans h.c3, (hb.cell h.lt).trans h.c4, (hb.cell h.lt).trans h.c5, (hb.cell h.lt).trans h.c6, (hb.cell h.lt).trans h.c7, (hb.cell h.lt).trans h.c8, (hb.cell h.lt).trans h.c9⟩
theorem SmC.alloc {w : World} {b : Nat} {op : Int} {c : Bool} {x y : Sc} (h : SmC w b op c x y) (o : Obj) : SmC (w.alloc o) b op c x y := h.below ((Below.refl _ _).alloc (Nat.le_refl _) o)
theorem SmC.new {w : World} {op : Int} {c : Bool} {x y : Sc} {t : TypeId} {b : Nat} (hb : b = w.heap.size) : SmC (w.alloc (.cells (smCells (op, c, x, y)).toArray t)) b op c x y := by
  subst hb
  unfold smCells
  exact ⟨by simp, by simp, by simp, by simp, by simp, by simp, by simp, by simp, by simp, by simp, by simp⟩
def EachPost (w : World) (s : Sm) (e : Ending) (w' : World) : Prop := ∃ v w0, e = .returned v ∧ Below w.heap.size w w0 ∧ OwnM w0 w' v (eachL s 14)
set_option maxHeartbeats 8000000 in
theorem each_any (op : Int) (c : Bool) (x y : Sc) (w : World) : Calls Tryz.prog 28 #[sumV op c x y] w (EachPost w (op, c, x, y)) := by
  have J0 : SmC (w.alloc (.cells (smCells (op, c, x, y)).toArray 49)) w.heap.size op c x y := SmC.new rfl
  have B0 : Below w.heap.size w (w.alloc (.cells (smCells (op, c, x, y)).toArray 49)) := bel_alloc (Below.refl _ _)
  have O0 : OwnM (w.alloc (.cells (smCells (op, c, x, y)).toArray 49)) ((w.alloc (.cells (smCells (op, c, x, y)).toArray 49)).alloc (.cells (smCells (op, c, x, y)).toArray 49)) (.slice (some ⟨(w.alloc (.cells (smCells (op, c, x, y)).toArray 49)).heap.size, 0, none⟩) 1 1) [(op, c, x, y)] :=
    ⟨World.ownsRow_lit _ (smCells (op, c, x, y)).toArray 1 (Nat.le_refl _) (by decide) rfl, bel_alloc (Below.refl _ _)⟩
  have hz : (w.alloc (.cells (smCells (op, c, x, y)).toArray 49)).heap.size = w.heap.size + 1 := by simp
  rw [hz] at O0
  clear hz
  unfold sumV
  go_enter Tryz.func28, Tryz.ntmps28
  unfold smCells at J0 B0 O0
  dsimp only [List.flatMap_cons] at J0 B0 O0
  go_wp2_with fail
  generalize w.alloc (.cells #[.int .i64 op, .bool c, .int .u64 (ub x.1.1), .int .u64 (ub x.1.2), .int .u64 (ub x.2.1), .int .u64 (ub x.2.2), .int .u64 (ub y.1.1), .int .u64 (ub y.1.2), .int .u64 (ub y.2.1), .int .u64 (ub y.2.2)] 49) = w1 at J0 B0 O0
  go_loopw [3, 4] (fun v i wr => ∃ k : Nat, k ≤ 14 ∧ i = .int .i64 k ∧ Hid (OwnM w1 wr v (eachL (op, c, x, y) k))) (fun _ i _ => 14 - (intOf i).toNat)
  case atStart => exact ⟨0, by omega, rfl, hid O0⟩
  case round =>
    obtain ⟨k, hk, rfl, HO⟩ := hrel
    obtain ⟨wo, rfl⟩ : ∃ wo : World, wo = wr := ⟨_, rfl⟩
    clear O0
    have J := J0.below HO.out.2
    have j0 := J.c0
    have j1 := J.c1
    have j2 := J.c2
    have j3 := J.c3
    have j4 := J.c4
    have j5 := J.c5
    have j6 := J.c6
    have j7 := J.c7
    have j8 := J.c8
    have j9 := J.c9
    have jl := J.lt
    by_cases hlt : k ≤ 13
    · have hk13 : (k : Int) ≤ 13 := by omega
      have hlen : (eachL (op, c, x, y) k).length < 1000 := by rw [eachL_len]; omega
      have HL : Hid (eachL (op, c, x, y) (k + 1) = eachL (op, c, x, y) k ++ [((k : Int), true, x, y), ((k : Int), false, x, y)]) := hid rfl
      generalize eachL (op, c, x, y) k = L at HO hlen HL
      replace hlen := hid hlen
      clear J
      go_wp2_with (at_builtin; refine append_two rfl (.tmp 11) (.tmp 24) rfl w1 wo _ L ((k : Int), true, x, y) ((k : Int), false, x, y) (by exact rfl) HO.out _ (by exact rfl) (by exact rfl) hlen.out ?_; intro v1 w2 own1)
      go_roundw
      case rel => exact ⟨k + 1, by omega, by go_num, hid (by rw [HL.out]; exact own1)⟩
      case measure => simp [intOf]; omega
    · have hk14 : k = 14 := by omega
      subst hk14
      have hno : ¬ ((14 : Int) ≤ 13) := by decide
      go_wp2
      go_ret
      exact ⟨_, w1, rfl, B0, HO.out⟩
end Go.Proofs.YtodmikjpmcabiaaGreat
