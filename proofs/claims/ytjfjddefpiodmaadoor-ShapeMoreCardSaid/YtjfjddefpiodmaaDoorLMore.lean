/-
  The walk of law ShapeMore: a right image with one more map that may be, or one more Exit at its end, is right, as far as the limits let it. The table of sizes is as start-up lays it (the card ties it); no other condition.
-/
import Derived.Test.YtjfjddefpiodmaaDoorTwin
import Derived.Test.YtjfjddefpiodmaaDoorShQ
import Derived.Deep.RegionLaw
namespace Go.Proofs.YtjfjddefpiodmaaDoor
set_option linter.unusedSimpArgs false
set_option linter.unusedVariables false
open Go.ChangeShapes Go.WideShapes Go.ChangeAt Go.RowKit

theorem own_cell {w : World} {b : Nat} {e : TypeId} {k n g cap : Nat} {xs : List Value} (h : w.ownsRow b e k (.slice (some ⟨g, 0, none⟩) n cap) n xs) (j : Nat) (u : Value) (hu : xs[j]? = some u) : w.cell? ⟨g, j, none⟩ = some u := by
  have := h.cells (g := g) rfl j u hu
  rwa [add_none, Nat.zero_add] at this
theorem own_cd {w : World} {b n g cap : Nat} {c : List I5} (h : w.ownsRow b 40 5 (.slice (some ⟨g, 0, none⟩) n cap) n (c.flatMap cellsI)) (hn : c.length = n) (hok : CdOk c) (hl : n < 11728124029440) : CdSl w.heap.size w (some ⟨g, 0, none⟩) n c := by
  refine ⟨hn, hok, hl, .inr ⟨g, 0, rfl, (h.lt g rfl).2, fun j hj => ?_⟩⟩
  have hc : ∀ i, i < 5 → ∀ u, (cellsI (at5 c j))[i]? = some u → w.cell? ⟨g, j * 5 + i, none⟩ = some u := fun i hi u hu => own_cell h _ u (by rw [flat5_get c j (by omega) i hi]; exact hu)
  rw [Nat.zero_add]
  exact ⟨hc 0 (by omega) _ rfl, hc 1 (by omega) _ rfl, hc 2 (by omega) _ rfl, hc 3 (by omega) _ rfl, hc 4 (by omega) _ rfl⟩
theorem own_mp {w : World} {b n g cap : Nat} {l : List M4} (h : w.ownsRow b 52 4 (.slice (some ⟨g, 0, none⟩) n cap) n (l.flatMap cellsM)) (hn : l.length = n) (hl : n < 4398046511104) : MpSl w.heap.size w (some ⟨g, 0, none⟩) n l := by
  refine ⟨hn, hl, .inr ⟨g, 0, rfl, (h.lt g rfl).2, fun j hj => ?_⟩⟩
  have hc : ∀ i, i < 4 → ∀ u, (cellsM (mpA l j))[i]? = some u → w.cell? ⟨g, j * 4 + i, none⟩ = some u := fun i hi u hu => own_cell h _ u (by rw [flat4_get l j (by omega) i hi]; exact hu)
  rw [Nat.zero_add]
  exact ⟨hc 0 (by omega) _ rfl, hc 1 (by omega) _ rfl, hc 2 (by omega) _ rfl, hc 3 (by omega) _ rfl⟩
theorem xI_ok : xI.ok := by unfold I5.ok; decide
theorem ok_app {c : List I5} (h : CdOk c) : CdOk (c ++ [xI]) := by
  intro x hx
  rcases List.mem_append.1 hx with h1 | h1
  · exact h x h1
  · rw [List.mem_singleton.1 h1]; exact xI_ok
theorem OwnL.kept {w0 w w' : World} {e : TypeId} {k g n cap : Nat} {xs : List Value} (h : OwnL w0 w e k g n cap xs) (hb : Below w.heap.size w w') : OwnL w0 w' e k g n cap xs := ⟨h.1.kept (grown_of_below hb) (.inr (by simp [Value.ownBlock])), h.2⟩

def MapC (W : World) (b : Nat) (kd ky vl cp : Int) : Prop := W.cell? ⟨b, 0, none⟩ = some (.int .i64 kd) ∧ W.cell? ⟨b, 1, none⟩ = some (.int .i64 ky) ∧ W.cell? ⟨b, 2, none⟩ = some (.int .i64 vl) ∧ W.cell? ⟨b, 3, none⟩ = some (.int .i64 cp)
theorem mapC_new (W : World) (kd ky vl cp : Int) : MapC (W.alloc (.cells #[.int .i64 kd, .int .i64 ky, .int .i64 vl, .int .i64 cp] 52)) W.heap.size kd ky vl cp := by
  refine ⟨?_, ?_, ?_, ?_⟩ <;> (rw [World.cell?_alloc_at _ _ _ _ rfl]; rfl)
theorem MapC.kept {W W' : World} {b : Nat} {kd ky vl cp : Int} (h : MapC W b kd ky vl cp) (hb : Below W.heap.size W W') : MapC W' b kd ky vl cp := ⟨cn hb h.1, cn hb h.2.1, cn hb h.2.2.1, cn hb h.2.2.2⟩
def InsC (W : World) (b : Nat) : Prop := InsAt W b 0 xI
theorem insC_new (W : World) : InsC (W.alloc (.cells #[.int .u8 149, .int .u8 0, .int .u8 0, .int .i16 0, .int .i32 0] 40)) W.heap.size := by
  refine ⟨?_, ?_, ?_, ?_, ?_⟩ <;> (rw [World.cell?_alloc_at _ _ _ _ rfl]; rfl)
theorem InsC.kept {W W' : World} {b : Nat} (h : InsC W b) (hb : Below W.heap.size W W') : InsC W' b := ⟨cn hb h.1, cn hb h.2.1, cn hb h.2.2.1, cn hb h.2.2.2.1, cn hb h.2.2.2.2⟩
theorem right_lit {W : World} {bm bc : Nat} {kd ky vl cp : Int} (hz : SzOk W) (hm : MapC W bm kd ky vl cp) (hi : InsC W bc) : Calls Tryd.prog 21 #[.agg #[.slice (some ⟨bm, 0, none⟩) 1 1, .slice (some ⟨bc, 0, none⟩) 1 1]] W fun e w' => e = .returned (.bool (mayB ⟨kd, ky, vl, cp⟩)) ∧ Below W.heap.size W w' := by
  have hbm := World.block_lt_of_cell? W _ hm.1
  have hbc := World.block_lt_of_cell? W _ hi.1
  have h := right_I (some ⟨bm, 0, none⟩) (some ⟨bc, 0, none⟩) 1 1 1 1 [(⟨kd, ky, vl, cp⟩ : M4)] [xI] W hz
    ⟨rfl, by decide, .inr ⟨bm, 0, rfl, hbm, fun j hj => by have e : j = 0 := Nat.lt_one_iff.1 hj; subst e; exact hm⟩⟩
    ⟨rfl, fun x hx => by rw [List.mem_singleton.1 hx]; exact xI_ok, by decide, .inr ⟨bc, 0, rfl, hbc, fun j hj => by have e : j = 0 := Nat.lt_one_iff.1 hj; subst e; exact hi⟩⟩ (Nat.le_refl _)
  rw [right_one] at h
  exact h

/-- Here the walk stands still. -/
@[irreducible] def Stop (p : Prop) : Prop := p
theorem stop_app {P : Program} {ops : Array Oper} {Q : Exit → Act → World → Prop} {d : Option Nat} {s x : Operand} {t u ty : TypeId} {ps : String} {af : Array _} {gd : _} {rest : List Oper} {a : Act} {w : World}
    (h : Stop (wpList P ops Q (⟨d, .call { callee := .builtin .append, args := #[s, x], argTypes := #[t, u] }, ty, ps, af, gd⟩ :: rest) a w)) : wpList P ops Q (⟨d, .call { callee := .builtin .append, args := #[s, x], argTypes := #[t, u] }, ty, ps, af, gd⟩ :: rest) a w := by unfold Stop at h; exact h
/-- An append to a list of the call's own, at the head of a list of operations. -/
theorem list_app (w : World) {ops : Array Oper} {rest : List Oper} {o : Oper} {a : Act} {Q : Exit → Act → World → Prop} (hgd : o.guard = none) (s x : Operand) (t : TypeId)
    (ho : o.op = .call { callee := .builtin .append, args := #[s, x], argTypes := #[t, t] })
    (base : Nat) (e : TypeId) (i : TypeInfo) (z : Value) (size bytes : Nat) (ht : Tryd.prog.underlying t = some (.slice e)) (hi : Tryd.prog.info? e = some i) (hz : i.zero = some z)
    (hsize : i.size = size) (hby : i.bytes = bytes) (hzs : z.cells.size = size) (hsz : 0 < size) (v : Value) (n : Nat) (xs : List Value) (hsv : a.eval s = v) (hown : w.ownsRow base e size v n xs)
    (n₀ : Nat) (p : Option Addr) (m c : Nat) (news : List Value) (hx : a.eval x = .slice p m c) (hl : news.length = m * size) (hs : SrcP n₀ w p news) (h1 : ∀ u ∈ news, u.oneCell' = true)
    (h63 : n + m ≤ maxLen) (hbytes : (n + m) * bytes ≤ 140737488355328) (hbase : base ≤ w.heap.size)
    (h : ∀ v' w', w'.ownsRow base e size v' (n + m) (xs ++ news) → w.grownBy w' v.ownBlock → (v'.ownBlock = v.ownBlock ∨ v'.ownBlock = some w.heap.size) → wpList Tryd.prog ops Q rest (a.put o.dst v') w') :
    wpList Tryd.prog ops Q (o :: rest) a w := wpList_plain hgd fun _ hK => by
  obtain ⟨v', w', hrun, h2, h3, h4⟩ := run_app (P := Tryd.prog) w base t o.type e i z size bytes ht hi hz hsize hby hzs hsz v n xs hown n₀ p m c news hl hs h1 h63 hbytes hbase
  unfold Oper.wp execOp
  simp only [ho, resolve, invoke, builtin, Sem.run_bind, Sem.run_pure, Result.andThen_ok, List.map_toArray, List.map_cons, List.map_nil, hsv, hx, hrun]
  exact hK _ _ (h v' w' h2 h3 h4)

/-- The map that comes in, boxed. -/
def MoN (w : World) (kd ky vl cp : Int) (W : World) : Prop := W.cell? ⟨w.heap.size + 1, 0, none⟩ = some (.int .i64 kd) ∧ W.cell? ⟨w.heap.size + 1, 1, none⟩ = some (.int .i64 ky) ∧ W.cell? ⟨w.heap.size + 1, 2, none⟩ = some (.int .i64 vl) ∧ W.cell? ⟨w.heap.size + 1, 3, none⟩ = some (.int .i64 cp)
theorem MoN.kept {w : World} {kd ky vl cp : Int} {X Y : World} (h : MoN w kd ky vl cp X) (hb : Below X.heap.size X Y) : MoN w kd ky vl cp Y := ⟨cn hb h.1, cn hb h.2.1, cn hb h.2.2.1, cn hb h.2.2.2⟩

/-- What lies in ShapeMore's own memory: the image and the map, boxed; the twin, boxed. -/
def MoK (w : World) (kd ky vl cp : Int) (pm pc : Option Addr) (cm cc n m b5 : Nat) (x y : Value) (W : World) : Prop :=
  W.cell? ⟨w.heap.size, 0, none⟩ = some (.slice pm n cm) ∧ W.cell? ⟨w.heap.size, 1, none⟩ = some (.slice pc m cc) ∧ MoN w kd ky vl cp W ∧ W.heap[b5]? = some (.cells #[x, y] 25 (0, 0)) ∧ Below w.heap.size w W
theorem MoK.grow {w : World} {kd ky vl cp : Int} {pm pc : Option Addr} {cm cc n m b5 : Nat} {x y : Value} {A B : World} {row : Option Nat} (h : MoK w kd ky vl cp pm pc cm cc n m b5 x y A) (hg : A.grownBy B row) (hr : ∀ k, row = some k → w.heap.size + 1 < k ∧ k ≠ b5) : MoK w kd ky vl cp pm pc cm cc n m b5 x y B := by
  obtain ⟨h1, h2, ⟨n0, n1, n2, n3⟩, h4, h5⟩ := h
  have hn : ∀ k, k < w.heap.size + 1 + 1 → some k ≠ row := fun k hk e => by have := (hr k e.symm).1; omega
  exact ⟨hg.cell h1 (hn _ (by simp; omega)), hg.cell h2 (hn _ (by simp; omega)), ⟨hg.cell n0 (hn _ (by simp)), hg.cell n1 (hn _ (by simp)), hg.cell n2 (hn _ (by simp)), hg.cell n3 (hn _ (by simp))⟩, (hg.block _ (Array.getElem?_eq_some_iff.1 h4).1 (fun e => (hr _ e.symm).2 rfl)).trans h4, Below.trans h5 (grown_below hg h5.size (fun k hk => by have := (hr k hk).1; omega))⟩
theorem MoK.x0 {w : World} {kd ky vl cp : Int} {pm pc : Option Addr} {cm cc n m b5 : Nat} {x y : Value} {A : World} (h : MoK w kd ky vl cp pm pc cm cc n m b5 x y A) : A.cell? ⟨b5, 0, none⟩ = some x := by unfold World.cell?; dsimp only; rw [h.2.2.2.1]; rfl
theorem MoK.x1 {w : World} {kd ky vl cp : Int} {pm pc : Option Addr} {cm cc n m b5 : Nat} {x y : Value} {A : World} (h : MoK w kd ky vl cp pm pc cm cc n m b5 x y A) : A.cell? ⟨b5, 1, none⟩ = some y := by unfold World.cell?; dsimp only; rw [h.2.2.2.1]; rfl
theorem MoK.fz {w : World} {kd ky vl cp : Int} {pm pc : Option Addr} {cm cc n m b5 : Nat} {x y : Value} {A : World} (h : MoK w kd ky vl cp pm pc cm cc n m b5 x y A) (j : Nat) : A.frozen? ⟨b5, j, none⟩ = false := by unfold World.frozen?; dsimp only; rw [h.2.2.2.1]; simp
theorem MoK.set {w : World} {kd ky vl cp : Int} {pm pc : Option Addr} {cm cc n m b5 : Nat} {x y : Value} {A : World} (h : MoK w kd ky vl cp pm pc cm cc n m b5 x y A) (hb : w.heap.size + 1 < b5) (u : Value) : MoK w kd ky vl cp pm pc cm cc n m b5 u y (A.setCell ⟨b5, 0, none⟩ u) ∧ MoK w kd ky vl cp pm pc cm cc n m b5 x u (A.setCell ⟨b5, 1, none⟩ u) := by
  obtain ⟨h1, h2, ⟨n0, n1, n2, n3⟩, h4, h5⟩ := h
  obtain ⟨hl, hk⟩ := Array.getElem?_eq_some_iff.1 h4
  have hf : ∀ (j : Nat) (p : Addr) (v : Value), p.block < b5 → A.cell? p = some v → (A.setCell ⟨b5, j, none⟩ u).cell? p = some v := fun j p v hp hv => by rw [set_oth (by intro e; rw [← e] at hp; exact Nat.lt_irrefl _ hp)]; exact hv
  refine ⟨⟨hf _ _ _ (by simp; omega) h1, hf _ _ _ (by simp; omega) h2, ⟨hf _ _ _ (by simp; omega) n0, hf _ _ _ (by simp; omega) n1, hf _ _ _ (by simp; omega) n2, hf _ _ _ (by simp; omega) n3⟩, ?_, h5.setCell (p := ⟨b5, 0, none⟩) (by simp; omega) u⟩, ⟨hf _ _ _ (by simp; omega) h1, hf _ _ _ (by simp; omega) h2, ⟨hf _ _ _ (by simp; omega) n0, hf _ _ _ (by simp; omega) n1, hf _ _ _ (by simp; omega) n2, hf _ _ _ (by simp; omega) n3⟩, ?_, h5.setCell (p := ⟨b5, 1, none⟩) (by simp; omega) u⟩⟩
  all_goals
    show (A.heap.modify b5 _)[b5]? = _
    rw [Array.getElem?_eq_getElem (by rw [Array.size_modify]; exact hl), Array.getElem_modify_self, hk]
    rfl

set_option maxRecDepth 100000 in
set_option maxHeartbeats 8000000 in
theorem shapeMore_walk (pm pc : Option Addr) (cm cc n m : Nat) (l : List M4) (c : List I5) (kd ky vl cp : Int) (w : World) (hz : SzOk w) (hml : MpSl w.heap.size w pm n l) (hsl : CdSl w.heap.size w pc m c) (hcap : m ≤ cc) :
    Calls Tryd.prog 7 #[.agg #[.slice pm n cm, .slice pc m cc], .agg #[.int .i64 kd, .int .i64 ky, .int .i64 vl, .int .i64 cp]] w fun e w' => e = .returned (.bool true) ∧ Below w.heap.size w w' := by
  obtain rfl := hml.1
  obtain rfl := hsl.1
  have HZ := hid hz
  have HOK := hid hsl.2.1
  have HR := hid fun W (hb : Below w.heap.size w W) => right_I pm pc cm cc c.length l.length l c W (hz.below hb) ((hml.kept hb (Nat.le_refl _)).wide hb.size) ((hsl.kept hb (Nat.le_refl _)).wide hb.size) hcap
  have HT := hid fun W (hb : Below w.heap.size w W) => twin_any pm pc cm cc l.length c.length l c W ((hml.kept hb (Nat.le_refl _)).wide hb.size) ((hsl.kept hb (Nat.le_refl _)).wide hb.size)
  have HA := hid fun W (hb : Below w.heap.size w W) => awake_any W (hz.below hb)
  clear hz hml hsl
  go_enter Tryd.func7, Tryd.ntmps7
  go_wp2_with fail
  have hB0 : Below w.heap.size w ((w.alloc (.cells #[.slice pm l.length cm, .slice pc c.length cc] 25)).alloc (.cells #[.int .i64 kd, .int .i64 ky, .int .i64 vl, .int .i64 cp] 52)) := ((Below.refl _ w).alloc (Nat.le_refl _) _).alloc (by simp) _
  have k0 : ((w.alloc (.cells #[.slice pm l.length cm, .slice pc c.length cc] 25)).alloc (.cells #[.int .i64 kd, .int .i64 ky, .int .i64 vl, .int .i64 cp] 52)).cell? ⟨w.heap.size, 0, none⟩ = some (.slice pm l.length cm) := cna _ (by simp)
  have k1 : ((w.alloc (.cells #[.slice pm l.length cm, .slice pc c.length cc] 25)).alloc (.cells #[.int .i64 kd, .int .i64 ky, .int .i64 vl, .int .i64 cp] 52)).cell? ⟨w.heap.size, 1, none⟩ = some (.slice pc c.length cc) := cna _ (by simp)
  have n0 : ((w.alloc (.cells #[.slice pm l.length cm, .slice pc c.length cc] 25)).alloc (.cells #[.int .i64 kd, .int .i64 ky, .int .i64 vl, .int .i64 cp] 52)).cell? ⟨w.heap.size + 1, 0, none⟩ = some (.int .i64 kd) := by simp
  have n1 : ((w.alloc (.cells #[.slice pm l.length cm, .slice pc c.length cc] 25)).alloc (.cells #[.int .i64 kd, .int .i64 ky, .int .i64 vl, .int .i64 cp] 52)).cell? ⟨w.heap.size + 1, 1, none⟩ = some (.int .i64 ky) := by simp
  have n2 : ((w.alloc (.cells #[.slice pm l.length cm, .slice pc c.length cc] 25)).alloc (.cells #[.int .i64 kd, .int .i64 ky, .int .i64 vl, .int .i64 cp] 52)).cell? ⟨w.heap.size + 1, 2, none⟩ = some (.int .i64 vl) := by simp
  have n3 : ((w.alloc (.cells #[.slice pm l.length cm, .slice pc c.length cc] 25)).alloc (.cells #[.int .i64 kd, .int .i64 ky, .int .i64 vl, .int .i64 cp] 52)).cell? ⟨w.heap.size + 1, 3, none⟩ = some (.int .i64 cp) := by simp
  generalize (w.alloc (.cells #[.slice pm l.length cm, .slice pc c.length cc] 25)).alloc (.cells #[.int .i64 kd, .int .i64 ky, .int .i64 vl, .int .i64 cp] 52) = W0 at *
  refine (HA.out W0 hB0).mono ?_
  rintro e w1 ⟨rfl, b1⟩
  replace k0 := cn b1 k0
  replace k1 := cn b1 k1
  have hN : MoN w kd ky vl cp w1 := ⟨cn b1 n0, cn b1 n1, cn b1 n2, cn b1 n3⟩
  have HB1 := hid (below_next hB0 b1)
  clear b1 hB0 n0 n1 n2 n3
  go_wp2_with fail
  refine (HR.out w1 HB1.out).mono ?_
  rintro e w2 ⟨rfl, b2⟩
  replace k0 := cn b2 k0
  replace k1 := cn b2 k1
  have HN := hid (hN.kept b2)
  have HB2 := hid (below_next HB1.out b2)
  clear b2 HB1 HR hN
  by_cases hrt : (chkI l c).2 = 0
  · have hrb : ((chkI l c).2 == 0) = true := by rw [hrt]; rfl
    have HRT := hid ((right_iff l c).1 hrt)
    rw [hrb]
    clear hrt hrb
    go_wp2_with fail
    refine (HT.out w2 HB2.out).mono ?_
    rintro e w3 ⟨g1, c1_, g2, c2_, rfl, om, oc, hne, b3⟩
    replace k0 := cn b3 k0
    replace k1 := cn b3 k1
    have HN3 := hid (HN.out.kept b3)
    have HB3 := hid (below_next HB2.out b3)
    have HOM := hid om
    have HOC := hid oc
    have HG := hid (om.1.lt g1 rfl)
    have HG2 := hid (oc.1.lt g2 rfl)
    have HN2 := HN
    clear b3 om oc HB2 HN
    go_wp2_with fail
    have hbo := (Below.refl w3.heap.size w3).alloc (Nat.le_refl _) (.cells #[.slice (some ⟨g1, 0, none⟩) l.length c1_, .slice (some ⟨g2, 0, none⟩) c.length c2_] 25)
    have hob := heap_alloc_new w3 (.cells #[.slice (some ⟨g1, 0, none⟩) l.length c1_, .slice (some ⟨g2, 0, none⟩) c.length c2_] 25)
    have hK : MoK w kd ky vl cp pm pc cm cc l.length c.length w3.heap.size (.slice (some ⟨g1, 0, none⟩) l.length c1_) (.slice (some ⟨g2, 0, none⟩) c.length c2_) (w3.alloc (.cells #[.slice (some ⟨g1, 0, none⟩) l.length c1_, .slice (some ⟨g2, 0, none⟩) c.length c2_] 25)) := ⟨cn hbo k0, cn hbo k1, HN3.out.kept hbo, hob, below_next HB3.out hbo⟩
    have OM := hid (HOM.out.1.kept (grown_of_below hbo) (.inr (by simp [Value.ownBlock])))
    have OC := hid (HOC.out.1.kept (grown_of_below hbo) (.inr (by simp [Value.ownBlock])))
    have hgs : w.heap.size + 1 < w2.heap.size := by
      have := World.block_lt_of_cell? w2 _ HN2.out.1
      exact this
    have HQ2 := hid hgs
    have hqq : w3.heap.size < (w3.alloc (.cells #[.slice (some ⟨g1, 0, none⟩) l.length c1_, .slice (some ⟨g2, 0, none⟩) c.length c2_] 25)).heap.size := by simp
    clear hbo hob k0 k1 HN3 HOM hgs
    generalize w3.alloc (.cells #[.slice (some ⟨g1, 0, none⟩) l.length c1_, .slice (some ⟨g2, 0, none⟩) c.length c2_] 25) = W4 at *
    generalize w3.heap.size = b5 at *
    have x0 := hK.x0
    have x1 := hK.x1
    have HIX := hid insInfo
    refine Code.wp_mono (Q := CutR (fun a W' => ∃ (bq g k : Nat) (W5 : World), MoK w kd ky vl cp pm pc cm cc l.length c.length b5 (.slice (some ⟨g1, 0, none⟩) l.length c1_) (.slice (some ⟨g2, 0, none⟩) c.length c2_) W5 ∧ W5.ownsRow w2.heap.size 40 5 (.slice (some ⟨g, 0, none⟩) (c.length + 1) k) (c.length + 1) (c.flatMap cellsI ++ [.int .u8 149, .int .u8 0, .int .u8 0, .int .i16 0, .int .i32 0]) ∧ c.length + 1 ≤ k ∧ W5.ownsRow w2.heap.size 52 4 (.slice (some ⟨g1, 0, none⟩) l.length c1_) l.length (l.flatMap cellsM) ∧
        a = { tmps := #[.agg #[.slice pm l.length cm, .slice pc c.length cc], .agg #[.int .i64 kd, .int .i64 ky, .int .i64 vl, .int .i64 cp], .pointer (some ⟨w.heap.size, 0, none⟩), .pointer (some ⟨w.heap.size + 1, 0, none⟩), .bool false, .pointer (some ⟨b5, 0, none⟩), undef, undef, undef, .bool true, .bool false, .bool false, .agg #[.slice pm l.length cm, .slice pc c.length cc], .bool true, .bool false, .bool false, undef, .agg #[.slice pm l.length cm, .slice pc c.length cc], .agg #[.slice (some ⟨g1, 0, none⟩) l.length c1_, .slice (some ⟨g2, 0, none⟩) c.length c2_], .pointer (some ⟨b5, 1, none⟩), .slice (some ⟨g2, 0, none⟩) c.length c2_, .agg #[.int .u8 149, .int .u8 0, .int .u8 0, .int .i16 0, .int .i32 0], .slice (some ⟨bq, 0, none⟩) 1 1, .slice (some ⟨g, 0, none⟩) (c.length + 1) k, .pointer (some ⟨b5, 1, none⟩), undef, undef, undef, undef, undef, undef, undef, undef, undef, undef, undef, undef, undef, undef, undef, undef, undef, undef, undef, undef, undef, undef, undef, undef, undef, undef, undef, undef, undef, undef, undef, undef, undef, undef, undef, undef, undef, undef, undef, undef, undef, undef, undef, undef, undef, undef, undef, undef, undef, undef, undef, undef, undef, undef, undef, undef, undef, undef, undef, undef, undef, undef, undef, undef], defers := [] } ∧ W' = W5.setCell ⟨b5, 1, none⟩ (.slice (some ⟨g, 0, none⟩) (c.length + 1) k))) (CutR.imp ?_) ?_
    · rintro a W' ⟨bq, g, k, W5, hK5, oc5, hk, om5, rfl, rfl⟩
      have hb5 : w.heap.size + 1 < b5 := by have := HQ2.out; have := HG.out; omega
      have hK6 := (hK5.set hb5 (.slice (some ⟨g, 0, none⟩) (c.length + 1) k)).2
      have hgl := oc5.lt g rfl
      have hg1b : g1 < b5 := HG.out.2
      have hgb : g ≠ b5 := by
        intro e
        have h1 := own_elem oc5
        rw [e, hK5.2.2.2.1] at h1
        cases h1
      have om6 := om5.kept (grown_set W5 ⟨b5, 1, none⟩ (.slice (some ⟨g, 0, none⟩) (c.length + 1) k)) (.inr (by simp [Value.ownBlock]; omega))
      have oc6 := oc5.kept (grown_set W5 ⟨b5, 1, none⟩ (.slice (some ⟨g, 0, none⟩) (c.length + 1) k)) (.inr (by simp [Value.ownBlock]; exact hgb))
      generalize W5.setCell ⟨b5, 1, none⟩ (.slice (some ⟨g, 0, none⟩) (c.length + 1) k) = W6 at *
      have x0 := hK6.x0
      have x1 := hK6.x1
      have hlen : (c ++ [xI]).length = c.length + 1 := by simp
      have hfl : (c ++ [xI]).flatMap cellsI = c.flatMap cellsI ++ [.int .u8 149, .int .u8 0, .int .u8 0, .int .i16 0, .int .i32 0] := by rw [List.flatMap_append]; rfl
      rw [← hfl] at oc6
      have hbd := HRT.out.top
      have hbm := HRT.out.maps
      have HCK := hid (check_any (some ⟨g1, 0, none⟩) (some ⟨g, 0, none⟩) c1_ k l (c ++ [xI]) W6 (HZ.out.below hK6.2.2.2.2) (own_mp om6 rfl (by omega)) (hlen ▸ own_cd oc6 hlen (ok_app HOK.out) (by omega)) (by omega))
      rw [hlen] at HCK
      have HK6 := hid hK6
      clear hK5 oc5 om5 hK6 hgl om6 oc6 hfl hlen OM OC
      go_wp2_with fail
      refine HCK.out.mono ?_
      rintro e w7 ⟨rfl, b7⟩
      have hK7 := HK6.out.grow (grown_of_below b7) (fun k e => by cases e)
      have y0 := hK7.x0
      have y1 := hK7.x1
      have HK7 := hid hK7
      clear b7 hK7 x0 x1 HCK HK6
      by_cases ht : c.length + 1 ≤ 512
      · have hr := (right_iff _ _).2 (right_exit HRT.out ht)
        generalize chkI l (c ++ [xI]) = r at hr
        obtain ⟨r1, r2⟩ := r
        have hr' : r2 = 0 := hr
        subst hr'
        have t1 : decide (512 < c.length + 1) = false := decide_eq_false (by omega)
        have t2 : decide ((512 : Int) < (c.length : Int) + 1) = false := decide_eq_false (by omega)
        clear hr
        dsimp only
        have k0 := HK7.out.1
        have k1 := HK7.out.2.1
        go_wp2_with fail
        obtain ⟨im, him, hp⟩ := Option.map_eq_some_iff.1 mapInfo
        injection hp with hm1 hp
        injection hp with hm2 hm3
        have HIM := hid (And.intro him (And.intro hm1 (And.intro hm2 hm3)))
        clear him hm1 hm2 hm3
        refine (HT.out w7 HK7.out.2.2.2.2).mono ?_
        rintro e w8 ⟨g3, c3_, g4, c4_, rfl, om, oc, hne3, b8⟩
        have hK8 := HK7.out.grow (grown_of_below b8) (fun k e => by cases e)
        have h78 := b8.size
        have hb7 : b5 < w7.heap.size := World.block_lt_of_cell? w7 _ y0
        have hb8 : b5 < w8.heap.size := by omega
        have z0 := hK8.x0
        have z1 := hK8.x1
        have f0 := hK8.fz 0
        have f1 := hK8.fz 1
        replace k0 := hK8.1
        replace k1 := hK8.2.1
        obtain ⟨n0, n1, n2, n3⟩ := hK8.2.2.1
        have hg3 := om.1.lt g3 rfl
        have hg4 := oc.1.lt g4 rfl
        have hcl4 := oc.2
        have HK9 := hid (((hK8.set hb5 (.slice (some ⟨g3, 0, none⟩) l.length c3_)).1.set hb5 (.slice (some ⟨g4, 0, none⟩) c.length c4_)).2.grow (World.grownBy_alloc ((w8.setCell ⟨b5, 0, none⟩ (.slice (some ⟨g3, 0, none⟩) l.length c3_)).setCell ⟨b5, 1, none⟩ (.slice (some ⟨g4, 0, none⟩) c.length c4_)) (.cells #[.int .i64 kd, .int .i64 ky, .int .i64 vl, .int .i64 cp] 52) none) (fun k e => by cases e))
        have HO9 := hid (((om.1.kept (grown_set w8 ⟨b5, 0, none⟩ (.slice (some ⟨g3, 0, none⟩) l.length c3_)) (.inr (by simp [Value.ownBlock]; omega))).kept (grown_set (w8.setCell ⟨b5, 0, none⟩ (.slice (some ⟨g3, 0, none⟩) l.length c3_)) ⟨b5, 1, none⟩ (.slice (some ⟨g4, 0, none⟩) c.length c4_)) (.inr (by simp [Value.ownBlock]; omega))).alloc (.cells #[.int .i64 kd, .int .i64 ky, .int .i64 vl, .int .i64 cp] 52))
        have HC9 := hid (((oc.1.kept (grown_set w8 ⟨b5, 0, none⟩ (.slice (some ⟨g3, 0, none⟩) l.length c3_)) (.inr (by simp [Value.ownBlock]; omega))).kept (grown_set (w8.setCell ⟨b5, 0, none⟩ (.slice (some ⟨g3, 0, none⟩) l.length c3_)) ⟨b5, 1, none⟩ (.slice (some ⟨g4, 0, none⟩) c.length c4_)) (.inr (by simp [Value.ownBlock]; omega))).alloc (.cells #[.int .i64 kd, .int .i64 ky, .int .i64 vl, .int .i64 cp] 52))
        have hsr := src_new4 ((w8.setCell ⟨b5, 0, none⟩ (.slice (some ⟨g3, 0, none⟩) l.length c3_)).setCell ⟨b5, 1, none⟩ (.slice (some ⟨g4, 0, none⟩) c.length c4_)) (.int .i64 kd) (.int .i64 ky) (.int .i64 vl) (.int .i64 cp) 52
        rw [show ((w8.setCell ⟨b5, 0, none⟩ (.slice (some ⟨g3, 0, none⟩) l.length c3_)).setCell ⟨b5, 1, none⟩ (.slice (some ⟨g4, 0, none⟩) c.length c4_)).heap.size = w8.heap.size by simp] at hsr
        have HSR := hid hsr
        have HB9 := hid (show w7.heap.size ≤ (((w8.setCell ⟨b5, 0, none⟩ (.slice (some ⟨g3, 0, none⟩) l.length c3_)).setCell ⟨b5, 1, none⟩ (.slice (some ⟨g4, 0, none⟩) c.length c4_)).alloc (.cells #[.int .i64 kd, .int .i64 ky, .int .i64 vl, .int .i64 cp] 52)).heap.size by simp; omega)
        have HL9 := hid (show l.length + 1 ≤ maxLen ∧ (l.length + 1) * 32 ≤ 140737488355328 by simp only [maxLen]; omega)
        clear b8 HK7 y0 y1 HT hK8 hsr om oc
        go_wp2_with (at_builtin; refine stop_app ?_)
        unfold Stop
        refine list_app _ rfl (.tmp 45) (.tmp 47) _ (by rfl) w7.heap.size 52 im _ 4 32 Tryd.underlying22 HIM.out.1 HIM.out.2.1 HIM.out.2.2.1 HIM.out.2.2.2 rfl (by decide) (.slice (some ⟨g3, 0, none⟩) l.length c3_) l.length (l.flatMap cellsM) (by exact rfl) HO9.out (w8.heap.size + 1) (some ⟨w8.heap.size, 0, none⟩) 1 1 [.int .i64 kd, .int .i64 ky, .int .i64 vl, .int .i64 cp] (by exact rfl) rfl HSR.out (by simp [Value.oneCell']) HL9.out.1 HL9.out.2 HB9.out ?_
        intro v9 w9 own9 grow9 at9; have hKA := HK9.out.grow grow9 (fun k e => by simp [Value.ownBlock] at e; subst e; exact ⟨by omega, by omega⟩); have oc9 := HC9.out.kept grow9 (.inr (by simp [Value.ownBlock]; exact fun e => hne3 e.symm)); obtain ⟨g9, c9_, rfl, hk9, hgb9, hgl9⟩ := own_some own9 (by omega); have z2 := hKA.x0; have z3 := hKA.x1; have z4 := hKA.fz 0; clear n0 n1 n2 n3 z0 z1 f0 f1
        have q9 : b5 < w9.heap.size := World.block_lt_of_cell? w9 _ z2
        have hKB := (hKA.set hb5 (.slice (some ⟨g9, 0, none⟩) (l.length + 1) c9_)).1
        have omB := own9.kept (grown_set w9 ⟨b5, 0, none⟩ (.slice (some ⟨g9, 0, none⟩) (l.length + 1) c9_)) (.inr (by simp [Value.ownBlock]; omega))
        have ocB := oc9.kept (grown_set w9 ⟨b5, 0, none⟩ (.slice (some ⟨g9, 0, none⟩) (l.length + 1) c9_)) (.inr (by simp [Value.ownBlock]; omega))
        have hlen2 : (l ++ [(⟨kd, ky, vl, cp⟩ : M4)]).length = l.length + 1 := by simp
        have hfl2 : (l ++ [(⟨kd, ky, vl, cp⟩ : M4)]).flatMap cellsM = l.flatMap cellsM ++ [.int .i64 kd, .int .i64 ky, .int .i64 vl, .int .i64 cp] := by rw [List.flatMap_append]; rfl
        rw [← hfl2] at omB
        have HKB := hid hKB
        have HOM := hid omB
        have HOCB := hid ocB
        clear hKA hKB omB ocB own9 oc9 grow9 at9 HK9 HO9 HC9 HSR hfl2
        go_wp2_with fail
        generalize w9.setCell ⟨b5, 0, none⟩ (.slice (some ⟨g9, 0, none⟩) (l.length + 1) c9_) = W10 at *
        have HCK := hid (check_any (some ⟨g9, 0, none⟩) (some ⟨g4, 0, none⟩) c9_ c4_ (l ++ [(⟨kd, ky, vl, cp⟩ : M4)]) c W10 (HZ.out.below HKB.out.2.2.2.2) (hlen2 ▸ own_mp HOM.out hlen2 (by omega)) (own_cd HOCB.out rfl HOK.out (by omega)) (by omega))
        rw [hlen2] at HCK
        refine HCK.out.mono ?_
        rintro e w11 ⟨rfl, b11⟩
        have hKC := HKB.out.grow (grown_of_below b11) (fun k e => by cases e)
        have z5 := hKC.x0
        have z6 := hKC.x1
        replace k0 := hKC.1
        replace k1 := hKC.2.1
        obtain ⟨n0, n1, n2, n3⟩ := hKC.2.2.1
        have HKC := hid hKC
        clear b11 hKC HKB HOM HOCB HCK z2 z3 z4 q9
        by_cases ht4 : l.length + 1 ≤ 4
        · have hr := right_map HRT.out ⟨kd, ky, vl, cp⟩ ht4
          have hone := right_one ⟨kd, ky, vl, cp⟩
          generalize chkI (l ++ [(⟨kd, ky, vl, cp⟩ : M4)]) c = r at hr
          obtain ⟨r3, r4⟩ := r
          have HR := hid hr
          have HONE := hid hone
          have t3 : decide (4 < l.length + 1) = false := decide_eq_false (by omega)
          have t4 : decide ((4 : Int) < (l.length : Int) + 1) = false := decide_eq_false (by omega)
          clear hr hone
          dsimp only
          go_wp2_with fail
          have hsz11 : w.heap.size + 1 < w11.heap.size := by have := HKC.out.2.2.2.2.size; have := World.block_lt_of_cell? w11 _ n0; exact this
          go_region_law (first
            | (go_simp; go_at_call 24; refine (exit_is _).mono ?_; rintro e we ⟨rfl, be⟩; first
                | (have hbe : Below w11.heap.size w11 we := below_next (below_dr w11) be; have m0 := cn hbe n0; have m1 := cn hbe n1; have m2 := cn hbe n2; have m3 := cn hbe n3; have q1 : w.heap.size + 1 < we.heap.size := Nat.lt_of_lt_of_le hsz11 hbe.size)
                | (have hmc : MapC we w11.heap.size kd ky vl cp := MapC.kept (W := (w11.alloc (.cells #[.int .i64 kd, .int .i64 ky, .int .i64 vl, .int .i64 cp] 52)).drew) (mapC_new w11 kd ky vl cp) be; have hbe : Below w11.heap.size w11 we := below_next ((Below.refl _ w11).alloc (Nat.le_refl _) (.cells #[.int .i64 kd, .int .i64 ky, .int .i64 vl, .int .i64 cp] 52)).drew be))
            | (go_simp; go_at_call 21; first
                | (have hbW : Below w11.heap.size w11 (we.alloc (.cells #[.int .u8 149, .int .u8 0, .int .u8 0, .int .i16 0, .int .i32 0] 40)) := hbe.alloc hbe.size _; have hrc := right_lit (W := we.alloc (.cells #[.int .u8 149, .int .u8 0, .int .u8 0, .int .i16 0, .int .i32 0] 40)) (HZ.out.below (below_next HKC.out.2.2.2.2 hbW)) (hmc.kept ((Below.refl _ we).alloc (Nat.le_refl _) _)) (insC_new we); with_reducible refine hrc.mono ?_)
                | (have hbW : Below w11.heap.size w11 ((we.alloc (.cells #[.int .i64 kd, .int .i64 ky, .int .i64 vl, .int .i64 cp] 52)).alloc (.cells #[.int .u8 149, .int .u8 0, .int .u8 0, .int .i16 0, .int .i32 0] 40)) := (hbe.alloc hbe.size _).alloc (by have := hbe.size; simp; omega) _; have hrc := right_lit (W := (we.alloc (.cells #[.int .i64 kd, .int .i64 ky, .int .i64 vl, .int .i64 cp] 52)).alloc (.cells #[.int .u8 149, .int .u8 0, .int .u8 0, .int .i16 0, .int .i32 0] 40)) (HZ.out.below (below_next HKC.out.2.2.2.2 hbW)) ((mapC_new we kd ky vl cp).kept ((Below.refl _ _).alloc (Nat.le_refl _) _)) (insC_new (we.alloc (.cells #[.int .i64 kd, .int .i64 ky, .int .i64 vl, .int .i64 cp] 52))); rw [World.size_alloc] at hrc; with_reducible refine hrc.mono ?_)
                | (have hbW : Below w11.heap.size w11 ((we.alloc (.cells #[.int .u8 149, .int .u8 0, .int .u8 0, .int .i16 0, .int .i32 0] 40)).alloc (.cells #[.int .i64 kd, .int .i64 ky, .int .i64 vl, .int .i64 cp] 52)) := (hbe.alloc hbe.size _).alloc (by have := hbe.size; simp; omega) _; have hrc := right_lit (W := (we.alloc (.cells #[.int .u8 149, .int .u8 0, .int .u8 0, .int .i16 0, .int .i32 0] 40)).alloc (.cells #[.int .i64 kd, .int .i64 ky, .int .i64 vl, .int .i64 cp] 52)) (HZ.out.below (below_next HKC.out.2.2.2.2 hbW)) (mapC_new (we.alloc (.cells #[.int .u8 149, .int .u8 0, .int .u8 0, .int .i16 0, .int .i32 0] 40)) kd ky vl cp) ((insC_new we).kept ((Below.refl _ _).alloc (Nat.le_refl _) _)); rw [World.size_alloc] at hrc; with_reducible refine hrc.mono ?_)
               rintro e w12 ⟨rfl, b12⟩))
          all_goals
            have hD := HKC.out.grow (grown_of_below (below_next hbW b12)) (fun k e => by cases e)
            replace k0 := hD.1
            replace k1 := hD.2.1
            have HD := hid hD.2.2.2.2
            have hr := HR.out
            clear hD hrc b12 HR HKC z5 z6 n0 n1 n2 n3
            cases hmb : mayB ⟨kd, ky, vl, cp⟩
            · rw [hmb] at hr
              simp only [Bool.false_eq_true, if_false, Prod.mk.injEq] at hr
              obtain ⟨rfl, rfl⟩ := hr
              go_wp2
              go_ret
              exact ⟨rfl, HD.out⟩
            · rw [hmb] at hr
              simp only [if_true, Prod.mk.injEq, true_and] at hr
              obtain rfl := hr
              go_wp2
              go_ret
              exact ⟨rfl, HD.out⟩
        · have hr : chkI (l ++ [(⟨kd, ky, vl, cp⟩ : M4)]) c = (0, 3) := by unfold chkI; rw [if_neg (by have := HRT.out.pos; omega), if_pos (.inr (by simp; omega))]
          rw [hr]
          have t3 : decide (4 < l.length + 1) = true := decide_eq_true (by omega)
          have t4 : decide ((4 : Int) < (l.length : Int) + 1) = true := decide_eq_true (by omega)
          clear hr
          dsimp only
          go_wp2
          go_ret
          exact ⟨rfl, HKC.out.2.2.2.2⟩
      · have hr : chkI l (c ++ [xI]) = (0, 3) := by unfold chkI; rw [if_neg (by simp), if_pos (.inl (by simp; omega))]
        rw [hr]
        have t1 : decide (512 < c.length + 1) = true := decide_eq_true (by omega)
        have t2 : decide ((512 : Int) < (c.length : Int) + 1) = true := decide_eq_true (by omega)
        clear hr
        dsimp only
        go_wp2
        go_ret
        exact ⟨rfl, HK7.out.2.2.2.2⟩
    obtain ⟨ii, hii, hp⟩ := Option.map_eq_some_iff.1 HIX.out
    injection hp with hi1 hp
    injection hp with hi2 hi3
    have HII := hid (And.intro hii (And.intro hi1 (And.intro hi2 hi3)))
    have hclen : c.length < 1000 := by have := HRT.out.top; omega
    clear hii hi1 hi2 hi3 HIX
    have HQ5 := hid (show w2.heap.size ≤ W4.heap.size by have := HG.out; omega)
    go_region_law (first
      | (go_simp; go_at_call 24; refine (exit_is _).mono ?_; rintro e we ⟨rfl, be⟩; have hbe := below_next (below_dr W4) be; have hKe := hK.grow (grown_of_below hbe) (fun k e => by cases e); have y1 := hKe.x1; have qy := World.block_lt_of_cell? we _ y1; simp only at qy)
      | (refine step_app _ (by rfl) (.tmp 20) (.tmp 22) _ (by rfl) w2.heap.size 40 ii _ 5 12 Tryd.underlying23 HII.out.1 HII.out.2.1 HII.out.2.2.1 HII.out.2.2.2 rfl (by decide) (.slice (some ⟨g2, 0, none⟩) c.length c2_) c.length (c.flatMap cellsI) (by rfl) ((OC.out.kept (grown_of_below hbe) (.inr (by simp [Value.ownBlock]))).alloc _) _ (some ⟨we.heap.size, 0, none⟩) 1 1 [.int .u8 149, .int .u8 0, .int .u8 0, .int .i16 0, .int .i32 0] (by rfl) rfl (src_new5 we _ _ _ _ _ _) (by simp [Value.oneCell']) (by simp only [maxLen]; omega) (by omega) (Nat.le_trans HQ5.out (Nat.le_trans hbe.size (by simp))) ?_; intro v5 w5 own5 grow5 at5; have hK5 := (hKe.grow (World.grownBy_alloc we (.cells #[.int .u8 149, .int .u8 0, .int .u8 0, .int .i16 0, .int .i32 0] 40) none) (fun k e => by cases e)).grow grow5 (fun k e => by simp [Value.ownBlock] at e; subst e; exact ⟨by have := HG2.out; have := HQ2.out; omega, by have := HG2.out; omega⟩); have om5 := ((OM.out.kept (grown_of_below hbe) (.inr (by simp [Value.ownBlock]))).alloc (.cells #[.int .u8 149, .int .u8 0, .int .u8 0, .int .i16 0, .int .i32 0] 40)).kept grow5 (.inr (by simp [Value.ownBlock]; exact hne)); obtain ⟨g, k, rfl, hk, hgb, hgl⟩ := own_some own5 (by omega); have y5 := hK5.x1; have y6 := hK5.fz 1))
    all_goals exact ⟨_, _, _, _, hK5, own5, hk, om5, rfl, rfl⟩
  · have hrb : ((chkI l c).2 == 0) = false := by simpa using hrt
    rw [hrb]
    clear hrt hrb
    go_wp2_with fail
    refine (HA.out w2 HB2.out).mono ?_
    rintro e w3 ⟨rfl, b3⟩
    have HB3 := hid (below_next HB2.out b3)
    clear b3
    go_wp2
    go_ret
    exact ⟨rfl, HB3.out⟩
end Go.Proofs.YtjfjddefpiodmaaDoor
