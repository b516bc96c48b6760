/-
  A closed call evaluated: the memory of one's own, and what it says of a world.
-/
import Derived.Test.YtoanbjnhoggpjaaEvV
namespace Go.Proofs.Ytoanbjnhoggpjaa.Ev
set_option linter.unusedSimpArgs false
set_option linter.unusedVariables false
set_option maxRecDepth 100000
open Go Go.RowKit

inductive AObj where
  | dead
  | cells (cs : List Value) (elem : TypeId) (op : Bool)
  | ro (cs : List Value)
  | obj (o : Obj)

inductive Tr where
  | nil
  | node (o : AObj) (l r : Tr)

theorem beqF {a b : Nat} (h : a ≠ b) : Nat.beq a b = false := by
  cases hb : Nat.beq a b with
  | false => rfl
  | true => exact absurd (Nat.eq_of_beq_eq_true hb) h
def Tr.get : Tr → Nat → AObj
  | .nil, _ => .dead
  | .node o l r, n => match Nat.beq n 0 with
    | true => o
    | false => match Nat.beq (n % 2) 1 with
      | true => l.get (n / 2)
      | false => r.get (n / 2 - 1)
def Tr.top : Tr → AObj
  | .nil => .dead
  | .node o _ _ => o
def Tr.left : Tr → Tr
  | .nil => .nil
  | .node _ l _ => l
def Tr.right : Tr → Tr
  | .nil => .nil
  | .node _ _ r => r
def Tr.set : Nat → Tr → Nat → AObj → Tr
  | 0, t, _, _ => t
  | k + 1, t, n, x => match Nat.beq n 0 with
    | true => .node x t.left t.right
    | false => match Nat.beq (n % 2) 1 with
      | true => .node t.top (Tr.set k t.left (n / 2) x) t.right
      | false => .node t.top t.left (Tr.set k t.right (n / 2 - 1) x)
theorem Tr.get_eq (t : Tr) (n : Nat) : t.get n = if n = 0 then t.top else if n % 2 = 1 then t.left.get (n / 2) else t.right.get (n / 2 - 1) := by
  cases t with
  | nil => simp [Tr.get, Tr.top, Tr.left, Tr.right]
  | node o l r =>
    simp only [Tr.get, Tr.top, Tr.left, Tr.right]
    by_cases h0 : n = 0
    · subst h0; rfl
    · have : Nat.beq n 0 = false := beqF h0
      rw [this, if_neg h0]
      by_cases h1 : n % 2 = 1
      · have : Nat.beq (n % 2) 1 = true := by rw [h1]; rfl
        rw [this, if_pos h1]
      · have : Nat.beq (n % 2) 1 = false := beqF h1
        rw [this, if_neg h1]
theorem Tr.get_set : ∀ (k : Nat) (t : Tr) (n m : Nat) (x : AObj), n + 1 < 2 ^ k → (Tr.set k t n x).get m = if m = n then x else t.get m := by
  intro k
  induction k with
  | zero => intro t n m x h; simp at h
  | succ k ih =>
    intro t n m x h
    have hp : 2 ^ (k + 1) = 2 * 2 ^ k := by rw [Nat.pow_succ]; omega
    rw [Tr.get_eq t m]
    by_cases h0 : n = 0
    · subst h0
      have : Tr.set (k + 1) t 0 x = .node x t.left t.right := rfl
      rw [this, Tr.get_eq]
      simp only [Tr.top, Tr.left, Tr.right]
      by_cases hm : m = 0 <;> simp [hm]
    · have e0 : Nat.beq n 0 = false := beqF h0
      by_cases h1 : n % 2 = 1
      · have e1 : Nat.beq (n % 2) 1 = true := by rw [h1]; rfl
        have : Tr.set (k + 1) t n x = .node t.top (Tr.set k t.left (n / 2) x) t.right := by simp only [Tr.set, e0, e1]
        rw [this, Tr.get_eq]
        simp only [Tr.top, Tr.left, Tr.right]
        by_cases hm : m = 0
        · subst hm; rw [if_pos rfl, if_neg (Ne.symm h0), if_pos rfl]
        · rw [if_neg hm, if_neg hm]
          by_cases hm1 : m % 2 = 1
          · rw [if_pos hm1, if_pos hm1, ih _ _ _ _ (by omega)]
            by_cases e : m = n
            · subst e; simp
            · rw [if_neg e, if_neg (by omega)]
          · rw [if_neg hm1, if_neg hm1, if_neg (by omega)]
      · have e1 : Nat.beq (n % 2) 1 = false := beqF h1
        have : Tr.set (k + 1) t n x = .node t.top t.left (Tr.set k t.right (n / 2 - 1) x) := by simp only [Tr.set, e0, e1]
        rw [this, Tr.get_eq]
        simp only [Tr.top, Tr.left, Tr.right]
        by_cases hm : m = 0
        · subst hm; rw [if_pos rfl, if_neg (Ne.symm h0), if_pos rfl]
        · rw [if_neg hm, if_neg hm]
          by_cases hm1 : m % 2 = 1
          · rw [if_pos hm1, if_pos hm1, if_neg (by omega)]
          · rw [if_neg hm1, if_neg hm1, ih _ _ _ _ (by omega)]
            by_cases e : m = n
            · subst e; simp
            · rw [if_neg e, if_neg (by omega)]

/-- Blocks that are no rows of cells: as they are, but for the numbers. -/
def rO (η : Env) : Obj → Obj
  | .map es c => .map (es.map fun e => { e with key := rV η e.key, val := rV η e.val }) c
  | .mapIter (some m) s seen st => .mapIter (some (η.blk m)) s seen st
  | o => o
def WfO (n : Nat) (o : Obj) : Prop := ∀ η η', Agree n η η' → rO η' o = rO η o
theorem WfO.mono {n m : Nat} {o : Obj} (h : WfO n o) (hm : n ≤ m) : WfO m o := fun η η' ha => h η η' (ha.mono hm)
def notCells : Obj → Prop
  | .cells .. => False
  | _ => True

def OkObj (P : Program) (η : Env) (W : World) (n i : Nat) : AObj → Prop
  | .dead => True
  | .cells cs e op => WfL n cs ∧ ∃ ex fz, W.heap[η.blk i]? = some (.cells (cs.map (rV η) ++ ex).toArray e fz) ∧
      (fz.1 = fz.2 ∨ cs.length + ex.length ≤ fz.1) ∧ (op = false → ex = []) ∧ (op = true → cs.length + ex.length = η.cap i * P.cellsOf e)
  | .ro cs => WfL n cs ∧ ∀ j v, cs[j]? = some v → W.cell? ⟨η.blk i, j, none⟩ = some (rV η v)
  | .obj o => WfO n o ∧ notCells (rO η o) ∧ W.heap[η.blk i]? = some (rO η o)

def live : AObj → Prop
  | .dead => False
  | _ => True

/-- What is known of memory: enough to read it. -/
structure Inq (P : Program) (n0 : Nat) (H : Tr) (n : Nat) (η : Env) (W : World) : Prop where
  n0n : n0 ≤ n
  fix : Fix n0 η
  at' : ∀ i, i < n → OkObj P η W n i (H.get i)
  beyond : ∀ i, n ≤ i → H.get i = .dead
/-- What is known of memory, and that nothing else has turned: enough to write it. -/
structure Inv (P : Program) (n0 : Nat) (w0 : World) (H : Tr) (n : Nat) (η : Env) (W : World) : Prop extends Inq P n0 H n η W where
  bel : Below w0.heap.size w0 W
  old : n0 ≤ w0.heap.size
  new : ∀ i, n0 ≤ i → i < n → w0.heap.size ≤ η.blk i
  lt : ∀ i, i < n → η.blk i < W.heap.size
  inj : ∀ i j, i < n → j < n → live (H.get i) → live (H.get j) → η.blk i = η.blk j → i = j
/-- The same, its parts in another order. -/
structure InvT (P : Program) (n0 : Nat) (w0 : World) (H : Tr) (n : Nat) (η : Env) (W : World) : Prop where
  bel : Below w0.heap.size w0 W
  n0n : n0 ≤ n
  old : n0 ≤ w0.heap.size
  fix : Fix n0 η
  new : ∀ i, n0 ≤ i → i < n → w0.heap.size ≤ η.blk i
  lt : ∀ i, i < n → η.blk i < W.heap.size
  inj : ∀ i j, i < n → j < n → live (H.get i) → live (H.get j) → η.blk i = η.blk j → i = j
  at' : ∀ i, i < n → OkObj P η W n i (H.get i)
  beyond : ∀ i, n ≤ i → H.get i = .dead
theorem InvT.to {P : Program} {n0 : Nat} {w0 : World} {H : Tr} {n : Nat} {η : Env} {W : World} (h : InvT P n0 w0 H n η W) : Inv P n0 w0 H n η W :=
  { n0n := h.n0n, fix := h.fix, at' := h.at', beyond := h.beyond, bel := h.bel, old := h.old, new := h.new, lt := h.lt, inj := h.inj }

/-- How many numbers there may be. -/
def depth : Nat := 40
def most : Nat := 2 ^ 40 - 2
theorem get_set {t : Tr} {n m : Nat} {x : AObj} (h : n < most) : (Tr.set depth t n x).get m = if m = n then x else t.get m :=
  Tr.get_set depth t n m x (by unfold most at h; unfold depth; omega)

def Env.put (η : Env) (i b c : Nat) : Env := { blk := fun j => if j = i then b else η.blk j, cap := fun j => if j = i then c else η.cap j }
theorem Env.put_agree (η : Env) (n b c : Nat) : Agree n η (η.put n b c) := fun i hi => by simp [Env.put, Nat.ne_of_lt hi]
@[simp] theorem Env.put_blk (η : Env) (n b c : Nat) : (η.put n b c).blk n = b := by simp [Env.put]
@[simp] theorem Env.put_cap (η : Env) (n b c : Nat) : (η.put n b c).cap n = c := by simp [Env.put]

section
variable {P : Program} {n0 : Nat} {w0 : World} {H : Tr} {n : Nat} {η : Env} {W : World}

theorem OkObj.agree {η' : Env} {i m : Nat} {x : AObj} (h : OkObj P η W n i x) (ha : Agree n η η') (hi : i < n) (hm : n ≤ m) : OkObj P η' W m i x := by
  cases x with
  | dead => trivial
  | cells cs e op =>
    obtain ⟨hw, ex, fz, h1, h2, h3, h4⟩ := h
    refine ⟨hw.mono hm, ex, fz, ?_, h2, h3, ?_⟩
    · rw [(ha i hi).1, hw.map ha]; exact h1
    · rw [(ha i hi).2]; exact h4
  | ro cs =>
    obtain ⟨hw, h1⟩ := h
    exact ⟨hw.mono hm, fun j v hv => by rw [(ha i hi).1, h1 j v hv, hw v (List.mem_of_getElem? hv) _ _ ha]⟩
  | obj o =>
    obtain ⟨hw, h1, h2⟩ := h
    exact ⟨hw.mono hm, by rw [hw _ _ ha]; exact h1, by rw [(ha i hi).1, hw _ _ ha]; exact h2⟩
theorem OkObj.world {i : Nat} {x : AObj} {W' : World} (h : OkObj P η W n i x) (hb : W'.heap[η.blk i]? = W.heap[η.blk i]?) : OkObj P η W' n i x := by
  cases x with
  | dead => trivial
  | cells cs e op =>
    obtain ⟨hw, ex, fz, h1, h⟩ := h
    exact ⟨hw, ex, fz, hb.trans h1, h⟩
  | ro cs =>
    obtain ⟨hw, h1⟩ := h
    exact ⟨hw, fun j v hv => (World.cell?_of_block (w := W) (w' := W') (a := ⟨η.blk i, j, none⟩) hb).trans (h1 j v hv)⟩
  | obj o =>
    obtain ⟨hw, h1, h2⟩ := h
    exact ⟨hw, h1, hb.trans h2⟩

theorem Inv.drew (h : Inv P n0 w0 H n η W) : Inv P n0 w0 H n η W.drew :=
  InvT.to ⟨h.bel.drew, h.n0n, h.old, h.fix, h.new, h.lt, h.inj, fun i hi => (h.at' i hi).world rfl, h.beyond⟩

/-- Numbers whose values are of no account any more. -/
theorem Inv.kill (h : Inv P n0 w0 H n η W) {b : Nat} (hb : b < n) (hm : n < most) : Inv P n0 w0 (Tr.set depth H b .dead) n η W := by
  have hg : ∀ m, (Tr.set depth H b .dead).get m = if m = b then .dead else H.get m := fun m => get_set (by omega)
  refine InvT.to ⟨h.bel, h.n0n, h.old, h.fix, h.new, h.lt, ?_, ?_, ?_⟩
  · intro i j hi hj li lj e
    rw [hg] at li lj
    split at li
    · exact li.elim
    · split at lj
      · exact lj.elim
      · exact h.inj i j hi hj li lj e
  · intro i hi
    rw [hg]
    split
    · trivial
    · exact h.at' i hi
  · intro i hi
    rw [hg]
    split
    · rfl
    · exact h.beyond i hi

/-- A new block. -/
theorem Inv.grow (h : Inv P n0 w0 H n η W) (hm : n < most) (c : Nat) (x : AObj) (o : Obj)
    (ho : ∀ η', Agree n η η' → η'.blk n = W.heap.size → η'.cap n = c → OkObj P η' (W.alloc o) (n + 1) n x) :
    Inv P n0 w0 (Tr.set depth H n x) (n + 1) (η.put n W.heap.size c) (W.alloc o) := by
  have ha := η.put_agree n W.heap.size c
  have hg : ∀ m, (Tr.set depth H n x).get m = if m = n then x else H.get m := fun m => get_set hm
  have hsz : (W.alloc o).heap.size = W.heap.size + 1 := by simp
  refine InvT.to ⟨h.bel.alloc h.bel.size o, Nat.le_succ_of_le h.n0n, h.old, fun i hi => ?_, ?_, ?_, ?_, ?_, ?_⟩
  · rw [(ha i (Nat.lt_of_lt_of_le hi h.n0n)).1]; exact h.fix i hi
  · intro i h1 h2
    by_cases e : i = n
    · subst e; simp; exact h.bel.size
    · rw [(ha i (by omega)).1]; exact h.new i h1 (by omega)
  · intro i hi
    by_cases e : i = n
    · subst e; simp
    · rw [(ha i (by omega)).1, hsz]; have := h.lt i (by omega); omega
  · intro i j hi hj li lj e
    rw [hg] at li lj
    by_cases ei : i = n <;> by_cases ej : j = n
    · omega
    · subst ei
      rw [Env.put_blk, (ha j (by omega)).1] at e
      have := h.lt j (by omega); omega
    · subst ej
      rw [Env.put_blk, (ha i (by omega)).1] at e
      have := h.lt i (by omega); omega
    · rw [if_neg ei] at li; rw [if_neg ej] at lj
      rw [(ha i (by omega)).1, (ha j (by omega)).1] at e
      exact h.inj i j (by omega) (by omega) li lj e
  · intro i hi
    rw [hg]
    split
    · rename_i e; subst e; exact ho _ ha (by simp) (by simp)
    · refine (((h.at' i (by omega)).world (W' := W.alloc o) ?_).agree ha (by omega) (Nat.le_succ n))
      exact Below.heap_alloc W o _ (h.lt i (by omega))
  · intro i hi
    rw [hg, if_neg (by omega)]
    exact h.beyond i (by omega)
theorem Inv.alloc (h : Inv P n0 w0 H n η W) (hm : n < most) {cs : List Value} (e : TypeId) (hw : WfL n cs) :
    Inv P n0 w0 (Tr.set depth H n (.cells cs e false)) (n + 1) (η.put n W.heap.size 0) (W.alloc (.cells (cs.map (rV η)).toArray e)) := by
  refine h.grow hm 0 _ _ fun η' ha hb hc => ⟨hw.mono (Nat.le_succ n), [], (0, 0), ?_, .inl rfl, fun _ => rfl, fun h => by cases h⟩
  rw [hb, hw.map ha, List.append_nil]
  show (W.heap.push _)[W.heap.size]? = _
  simp
theorem Inv.allocObj (h : Inv P n0 w0 H n η W) (hm : n < most) {o : Obj} (hw : WfO n o) (hn : notCells (rO η o)) :
    Inv P n0 w0 (Tr.set depth H n (.obj o)) (n + 1) (η.put n W.heap.size 0) (W.alloc (rO η o)) := by
  refine h.grow hm 0 _ _ fun η' ha hb hc => ⟨hw.mono (Nat.le_succ n), by rw [hw _ _ ha]; exact hn, ?_⟩
  rw [hb, hw _ _ ha]
  show (W.heap.push _)[W.heap.size]? = _
  simp

/-- One of the call's own blocks turned. -/
theorem Inv.turn (h : Inv P n0 w0 H n η W) (hm : n < most) {b : Nat} (hb : b < n) (h0 : n0 ≤ b) (hl : live (H.get b)) (x : AObj) {W' : World}
    (hw : W'.os = W.os ∧ W'.tape = W.tape ∧ W'.output = W.output ∧ W'.heap.size = W.heap.size) (hk : ∀ k, k ≠ η.blk b → W'.heap[k]? = W.heap[k]?)
    (ho : OkObj P η W' n b x) : Inv P n0 w0 (Tr.set depth H b x) n η W' := by
  have hg : ∀ m, (Tr.set depth H b x).get m = if m = b then x else H.get m := fun m => get_set (by omega)
  obtain ⟨e1, e2, e3, e4⟩ := hw
  have hbb := h.new b h0 hb
  refine InvT.to ⟨h.bel.trans ⟨e1, e2, e3, by omega, fun k hk' => hk k (by omega)⟩, h.n0n, h.old, h.fix, h.new, fun i hi => by rw [e4]; exact h.lt i hi, ?_, ?_, ?_⟩
  · intro i j hi hj li lj e
    rw [hg] at li lj
    refine h.inj i j hi hj ?_ ?_ e
    · by_cases ei : i = b
      · rw [ei]; exact hl
      · rw [if_neg ei] at li; exact li
    · by_cases ej : j = b
      · rw [ej]; exact hl
      · rw [if_neg ej] at lj; exact lj
  · intro i hi
    rw [hg]
    split
    · rename_i e; rw [e]; exact ho
    · rename_i e
      cases hx : H.get i with
      | dead => trivial
      | cells cs el op =>
        rw [← hx]
        refine (h.at' i hi).world (hk _ fun hh => e (h.inj i b hi hb (by rw [hx]; trivial) hl hh))
      | ro cs =>
        rw [← hx]
        refine (h.at' i hi).world (hk _ fun hh => e (h.inj i b hi hb (by rw [hx]; trivial) hl hh))
      | obj o =>
        rw [← hx]
        refine (h.at' i hi).world (hk _ fun hh => e (h.inj i b hi hb (by rw [hx]; trivial) hl hh))
  · intro i hi
    rw [hg]
    split
    · rename_i e; omega
    · exact h.beyond i hi

theorem Inq.lt_of_live (h : Inq P n0 H n η W) {b : Nat} (hl : live (H.get b)) : b < n := by
  rcases Nat.lt_or_ge b n with h' | h'
  · exact h'
  · rw [h.beyond b h'] at hl; exact hl.elim

/-- Reading cells. -/
theorem Inq.cell (h : Inq P n0 H n η W) {b : Nat} {cs : List Value} {e : TypeId} {op : Bool} (hb : H.get b = .cells cs e op) {k : Nat} {v : Value} (hv : cs[k]? = some v) :
    W.cell? ⟨η.blk b, k, none⟩ = some (rV η v) ∧ Wf n v := by
  have hlt := h.lt_of_live (b := b) (by rw [hb]; trivial)
  have := h.at' b hlt
  rw [hb] at this
  obtain ⟨hw, ex, fz, h1, -⟩ := this
  have hk : k < cs.length := (List.getElem?_eq_some_iff.1 hv).1
  refine ⟨?_, hw v (List.mem_of_getElem? hv)⟩
  simp only [World.cell?, h1, Option.isSome_none, Bool.false_eq_true, if_false]
  simp [List.getElem?_append_left (l₁ := cs.map (rV η)) (l₂ := ex) (i := k) (by simpa using hk), hv]
theorem Inq.frozen (h : Inq P n0 H n η W) {b : Nat} {cs : List Value} {e : TypeId} {op : Bool} (hb : H.get b = .cells cs e op) {k : Nat} (hk : k < cs.length) :
    W.frozen? ⟨η.blk b, k, none⟩ = false := by
  have hlt := h.lt_of_live (b := b) (by rw [hb]; trivial)
  have := h.at' b hlt
  rw [hb] at this
  obtain ⟨hw, ex, fz, h1, h2, -⟩ := this
  simp only [World.frozen?, h1]
  simp
  omega
/-- The cells of a block that may be read. -/
def cellsAt : AObj → Option (List Value)
  | .cells cs _ _ => some cs
  | .ro cs => some cs
  | _ => none
theorem Inq.cellAt (h : Inq P n0 H n η W) {b : Nat} {cs : List Value} (hb : cellsAt (H.get b) = some cs) {k : Nat} {v : Value} (hv : cs[k]? = some v) :
    W.cell? ⟨η.blk b, k, none⟩ = some (rV η v) ∧ Wf n v := by
  cases hx : H.get b with
  | dead => rw [hx] at hb; simp [cellsAt] at hb
  | obj o => rw [hx] at hb; simp [cellsAt] at hb
  | cells cs' e op =>
    rw [hx] at hb
    simp only [cellsAt, Option.some.injEq] at hb; subst hb
    exact h.cell hx hv
  | ro cs' =>
    have hlt := h.lt_of_live (b := b) (by rw [hx]; trivial)
    have := h.at' b hlt
    rw [hx] at this hb
    simp only [cellsAt, Option.some.injEq] at hb; subst hb
    exact ⟨this.2 k v hv, this.1 v (List.mem_of_getElem? hv)⟩
end
end Go.Proofs.Ytoanbjnhoggpjaa.Ev
