/-
  A closed call evaluated: values with numbers of one's own for blocks, and how they read in a world. A closed call evaluated: the memory of one's own, and what it says of a world. A closed call evaluated: the operations on memory, one by one. A closed call evaluated: operations that leave memory alone. A closed call evaluated: values and blocks made. A closed call evaluated: append and copy.
-/
import Derived.Below
import Derived.Orders
import Derived.LoopN
import Derived.Deep.MidRow
import Derived.IntWalk
namespace Go.Proofs.YtjcnpjidkimldaaGreatDoor.Ev
set_option linter.unusedSimpArgs false
set_option linter.unusedVariables false
set_option maxRecDepth 100000
open Go Go.RowKit

/-- Which block of the world each number stands for, and how much room an open block has. -/
structure Env where
  blk : Nat → Nat
  cap : Nat → Nat

def roomy : Nat := 2 ^ 80
def rCap (η : Env) (b c : Nat) : Nat := if c < 2 ^ 70 then c else η.cap b + c - roomy
def rA (η : Env) (a : Addr) : Addr := { block := η.blk a.block, off := a.off, spot := a.spot }
def rFn (η : Env) : Fn → Fn
  | .yield l => .yield (η.blk l)
  | f => f
def rV (η : Env) : Value → Value
  | .pointer (some a) => .pointer (some (rA η a))
  | .slice (some a) n c => .slice (some (rA η a)) n (rCap η a.block c)
  | .map (some r) => .map (some (η.blk r))
  | .func fn xs ys => .func (rFn η fn) (xs.attach.map fun x => rV η x.1) (ys.attach.map fun x => rV η x.1)
  | .iface t v => .iface t (rV η v)
  | .agg cs => .agg (cs.attach.map fun x => rV η x.1)
  | .tuple vs => .tuple (vs.attach.map fun x => rV η x.1)
  | v => v
termination_by v => SizeOf.sizeOf v
decreasing_by
  all_goals simp_wf
  all_goals first | (have := Array.sizeOf_lt_of_mem x.2; omega) | omega

section
variable (η : Env)
@[simp] theorem rV_bool (b : Bool) : rV η (.bool b) = .bool b := by rw [rV] <;> simp
@[simp] theorem rV_int (k : IntKind) (n : Int) : rV η (.int k n) = .int k n := by rw [rV] <;> simp
@[simp] theorem rV_float (k : FloatKind) (n : Nat) : rV η (.float k n) = .float k n := by rw [rV] <;> simp
@[simp] theorem rV_complex (k : FloatKind) (a b : Nat) : rV η (.complex k a b) = .complex k a b := by rw [rV] <;> simp
@[simp] theorem rV_string (s : ByteArray) : rV η (.string s) = .string s := by rw [rV] <;> simp
@[simp] theorem rV_pnone : rV η (.pointer none) = .pointer none := by rw [rV] <;> simp
@[simp] theorem rV_psome (a : Addr) : rV η (.pointer (some a)) = .pointer (some (rA η a)) := by rw [rV]
@[simp] theorem rV_snone (n c : Nat) : rV η (.slice none n c) = .slice none n c := by rw [rV] <;> simp
@[simp] theorem rV_ssome (a : Addr) (n c : Nat) : rV η (.slice (some a) n c) = .slice (some (rA η a)) n (rCap η a.block c) := by rw [rV]
@[simp] theorem rV_mnone : rV η (.map none) = .map none := by rw [rV] <;> simp
@[simp] theorem rV_msome (r : Nat) : rV η (.map (some r)) = .map (some (η.blk r)) := by rw [rV]
@[simp] theorem rV_chan (r : Option Nat) : rV η (.chan r) = .chan r := by rw [rV] <;> simp
@[simp] theorem rV_nilFunc : rV η .nilFunc = .nilFunc := by rw [rV] <;> simp
@[simp] theorem rV_nilIface : rV η .nilIface = .nilIface := by rw [rV] <;> simp
@[simp] theorem rV_iface (t : TypeId) (v : Value) : rV η (.iface t v) = .iface t (rV η v) := by rw [rV]
@[simp] theorem rV_func (fn : Fn) (xs ys : Array Value) : rV η (.func fn xs ys) = .func (rFn η fn) (xs.map (rV η)) (ys.map (rV η)) := by rw [rV]; simp
@[simp] theorem rV_agg (cs : Array Value) : rV η (.agg cs) = .agg (cs.map (rV η)) := by rw [rV]; simp
@[simp] theorem rV_tuple (cs : Array Value) : rV η (.tuple cs) = .tuple (cs.map (rV η)) := by rw [rV]; simp
@[simp] theorem rV_undef : rV η undef = undef := by unfold undef; simp
end

/-- No number of one's own stands in the value. -/
def fixed (n0 : Nat) : Nat → Value → Bool
  | _, .pointer (some a) => decide (a.block < n0)
  | _, .slice (some a) _ c => decide (a.block < n0) && decide (c < 2 ^ 70)
  | _, .map (some r) => decide (r < n0)
  | 0, .func _ _ _ | 0, .iface _ _ | 0, .agg _ | 0, .tuple _ => false
  | k + 1, .func fn xs ys => (match fn with | .yield _ => false | _ => true) && xs.toList.all (fixed n0 k) && ys.toList.all (fixed n0 k)
  | k + 1, .iface _ v => fixed n0 k v
  | k + 1, .agg cs => cs.toList.all (fixed n0 k)
  | k + 1, .tuple cs => cs.toList.all (fixed n0 k)
  | _, _ => true

def Fix (n0 : Nat) (η : Env) : Prop := ∀ i, i < n0 → η.blk i = i

theorem map_fixed {f : Value → Value} {cs : Array Value} (h : ∀ v ∈ cs.toList, f v = v) : cs.map f = cs := by
  conv => rhs; rw [← Array.map_id cs]
  exact Array.map_congr_left fun v hv => h v (by simpa using hv)

theorem fixed_spec {n0 : Nat} {η : Env} (hη : Fix n0 η) : ∀ (k : Nat) (v : Value), fixed n0 k v = true → rV η v = v := by
  intro k
  induction k with
  | zero =>
    intro v h
    cases v with
    | pointer a => cases a with
      | none => simp
      | some a => simp [fixed] at h; simp [rA, hη _ h]
    | slice a n c => cases a with
      | none => simp
      | some a => simp [fixed] at h; simp [rA, rCap, hη _ h.1, h.2]
    | map r => cases r with
      | none => simp
      | some r => simp [fixed] at h; simp [hη _ h]
    | func => simp [fixed] at h
    | iface => simp [fixed] at h
    | agg => simp [fixed] at h
    | tuple => simp [fixed] at h
    | _ => simp
  | succ k ih =>
    intro v h
    cases v with
    | pointer a => cases a with
      | none => simp
      | some a => simp [fixed] at h; simp [rA, hη _ h]
    | slice a n c => cases a with
      | none => simp
      | some a => simp [fixed] at h; simp [rA, rCap, hη _ h.1, h.2]
    | map r => cases r with
      | none => simp
      | some r => simp [fixed] at h; simp [hη _ h]
    | func fn xs ys =>
      simp only [fixed, Bool.and_eq_true, List.all_eq_true] at h
      obtain ⟨⟨h1, h2⟩, h3⟩ := h
      rw [rV_func, map_fixed fun v hv => ih v (h2 v hv), map_fixed fun v hv => ih v (h3 v hv)]
      cases fn <;> first | rfl | simp at h1
    | iface t v => simp only [fixed] at h; simp [ih v h]
    | agg cs =>
      simp only [fixed, List.all_eq_true] at h
      rw [rV_agg, map_fixed fun v hv => ih v (h v hv)]
    | tuple cs =>
      simp only [fixed, List.all_eq_true] at h
      rw [rV_tuple, map_fixed fun v hv => ih v (h v hv)]
    | _ => simp

def Agree (n : Nat) (η η' : Env) : Prop := ∀ i, i < n → η'.blk i = η.blk i ∧ η'.cap i = η.cap i
theorem Agree.refl (n : Nat) (η : Env) : Agree n η η := fun _ _ => ⟨rfl, rfl⟩
theorem Agree.trans {n m : Nat} {a b c : Env} (h : Agree n a b) (k : Agree m b c) (hm : n ≤ m) : Agree n a c :=
  fun i hi => ⟨(k i (by omega)).1.trans (h i hi).1, (k i (by omega)).2.trans (h i hi).2⟩
theorem Agree.mono {n m : Nat} {a b : Env} (h : Agree n a b) (hm : m ≤ n) : Agree m a b := fun i hi => h i (by omega)
/-- The value's own numbers are below n. -/
def Wf (n : Nat) (v : Value) : Prop := ∀ η η', Agree n η η' → rV η' v = rV η v
theorem Wf.mono {n m : Nat} {v : Value} (h : Wf n v) (hm : n ≤ m) : Wf m v := fun η η' ha => h η η' (ha.mono hm)
def WfL (n : Nat) (l : List Value) : Prop := ∀ v ∈ l, Wf n v
theorem WfL.mono {n m : Nat} {l : List Value} (h : WfL n l) (hm : n ≤ m) : WfL m l := fun v hv => (h v hv).mono hm
theorem WfL.map {n : Nat} {l : List Value} (h : WfL n l) {η η' : Env} (ha : Agree n η η') : l.map (rV η') = l.map (rV η) :=
  List.map_congr_left fun v hv => h v hv η η' ha
theorem Wf.of_fixed {n0 n k : Nat} {v : Value} (h : fixed n0 k v = true) (hn : n0 ≤ n) : Wf n v := by
  intro η η' ha
  have key : ∀ (k : Nat) (v : Value), fixed n0 k v = true → rV η' v = rV η v := by
    intro k
    induction k with
    | zero =>
      intro v h
      cases v with
      | pointer a => cases a with
        | none => simp
        | some a => simp [fixed] at h; simp [rA, (ha a.block (by omega)).1]
      | slice a n c => cases a with
        | none => simp
        | some a => simp [fixed] at h; simp [rA, rCap, h.2, (ha a.block (by omega)).1]
      | map r => cases r with
        | none => simp
        | some r => simp [fixed] at h; simp [(ha r (by omega)).1]
      | func => simp [fixed] at h
      | iface => simp [fixed] at h
      | agg => simp [fixed] at h
      | tuple => simp [fixed] at h
      | _ => simp
    | succ k ih =>
      intro v h
      cases v with
      | pointer a => cases a with
        | none => simp
        | some a => simp [fixed] at h; simp [rA, (ha a.block (by omega)).1]
      | slice a n c => cases a with
        | none => simp
        | some a => simp [fixed] at h; simp [rA, rCap, h.2, (ha a.block (by omega)).1]
      | map r => cases r with
        | none => simp
        | some r => simp [fixed] at h; simp [(ha r (by omega)).1]
      | func fn xs ys =>
        simp only [fixed, Bool.and_eq_true, List.all_eq_true] at h
        obtain ⟨⟨h1, h2⟩, h3⟩ := h
        rw [rV_func, rV_func, Array.map_congr_left (xs := xs) fun v hv => ih v (h2 v (by simpa using hv)), Array.map_congr_left (xs := ys) fun v hv => ih v (h3 v (by simpa using hv))]
        cases fn <;> first | rfl | simp at h1
      | iface t v => simp only [fixed] at h; simp [ih v h]
      | agg cs =>
        simp only [fixed, List.all_eq_true] at h
        rw [rV_agg, rV_agg, Array.map_congr_left (xs := cs) fun v hv => ih v (h v (by simpa using hv))]
      | tuple cs =>
        simp only [fixed, List.all_eq_true] at h
        rw [rV_tuple, rV_tuple, Array.map_congr_left (xs := cs) fun v hv => ih v (h v (by simpa using hv))]
      | _ => simp
  exact key k v h

theorem WfL.agg {n : Nat} {cs : Array Value} : Wf n (.agg cs) ↔ WfL n cs.toList := by
  constructor
  · intro h v hv η η' ha
    have := h η η' ha
    simp only [rV_agg, Value.agg.injEq] at this
    have h2 := congrArg Array.toList this
    simp only [Array.toList_map] at h2
    exact List.map_inj_left.1 h2 v hv
  · intro h η η' ha
    rw [rV_agg, rV_agg, Array.map_congr_left (xs := cs) fun v hv => h v (by simpa using hv) η η' ha]
theorem WfL.tuple {n : Nat} {cs : Array Value} : Wf n (.tuple cs) ↔ WfL n cs.toList := by
  constructor
  · intro h v hv η η' ha
    have := h η η' ha
    simp only [rV_tuple, Value.tuple.injEq] at this
    have h2 := congrArg Array.toList this
    simp only [Array.toList_map] at h2
    exact List.map_inj_left.1 h2 v hv
  · intro h η η' ha
    rw [rV_tuple, rV_tuple, Array.map_congr_left (xs := cs) fun v hv => h v (by simpa using hv) η η' ha]
theorem Wf.iface {n : Nat} {t : TypeId} {v : Value} : Wf n (.iface t v) ↔ Wf n v := by
  constructor
  · intro h η η' ha
    have := h η η' ha
    simpa using this
  · intro h η η' ha
    simp [h η η' ha]
theorem Wf.func {n : Nat} {fn : Fn} {xs ys : Array Value} (h : Wf n (.func fn xs ys)) : WfL n xs.toList ∧ WfL n ys.toList := by
  constructor <;>
  · intro v hv η η' ha
    have := h η η' ha
    simp only [rV_func, Value.func.injEq] at this
    first
      | exact List.map_inj_left.1 (by simpa using congrArg Array.toList this.2.1) v hv
      | exact List.map_inj_left.1 (by simpa using congrArg Array.toList this.2.2) v hv
theorem Wf.func_mk {n : Nat} {f : FuncId} {xs ys : Array Value} (hx : WfL n xs.toList) (hy : WfL n ys.toList) : Wf n (.func (.func f) xs ys) := by
  intro η η' ha
  rw [rV_func, rV_func, Array.map_congr_left (xs := xs) fun v hv => hx v (by simpa using hv) η η' ha, Array.map_congr_left (xs := ys) fun v hv => hy v (by simpa using hv) η η' ha]
  rfl
theorem Wf.ptr {n : Nat} {b o : Nat} {s : Option Nat} (hb : b < n) : Wf n (.pointer (some ⟨b, o, s⟩)) := by
  intro η η' ha
  simp [rA, (ha b hb).1]
theorem Wf.ptr_of {n : Nat} {b o o' : Nat} {s s' : Option Nat} (h : Wf n (.pointer (some ⟨b, o, s⟩))) : Wf n (.pointer (some ⟨b, o', s'⟩)) := by
  intro η η' ha
  have := h η η' ha
  simp [rA] at this
  simp [rA, this]
theorem Wf.slice {n : Nat} {b o len c : Nat} {s : Option Nat} (hb : b < n) : Wf n (.slice (some ⟨b, o, s⟩) len c) := by
  intro η η' ha
  simp [rA, rCap, (ha b hb).1, (ha b hb).2]
theorem Wf.map {n r : Nat} (hr : r < n) : Wf n (.map (some r)) := by
  intro η η' ha
  simp [(ha r hr).1]
theorem Wf.bool (n : Nat) (b : Bool) : Wf n (.bool b) := fun _ _ _ => by simp
theorem Wf.int (n : Nat) (k : IntKind) (b : Int) : Wf n (.int k b) := fun _ _ _ => by simp
theorem Wf.undef (n : Nat) : Wf n undef := fun _ _ _ => by simp
theorem cells_rV (η : Env) (v : Value) : (rV η v).cells = v.cells.map (rV η) := by
  cases v with
  | pointer a => cases a <;> simp [Value.cells]
  | slice a => cases a <;> simp [Value.cells]
  | map r => cases r <;> simp [Value.cells]
  | _ => simp [Value.cells]
theorem Wf.cells {n : Nat} {v : Value} (h : Wf n v) : WfL n v.cells.toList := by
  cases v with
  | agg cs => exact WfL.agg.1 h
  | _ => intro u hu; simp [Value.cells] at hu; subst hu; exact h
theorem oneCell_rV (η : Env) (v : Value) : (rV η v).oneCell' = v.oneCell' := by
  cases v with
  | pointer a => cases a <;> simp [Value.oneCell']
  | slice a => cases a <;> simp [Value.oneCell']
  | map r => cases r <;> simp [Value.oneCell']
  | _ => simp [Value.oneCell']
end Go.Proofs.YtjcnpjidkimldaaGreatDoor.Ev

namespace Go.Proofs.YtjcnpjidkimldaaGreatDoor.Ev
set_option linter.unusedSimpArgs false
set_option linter.unusedVariables false
set_option maxRecDepth 100000
open Go Go.RowKit

inductive AObj where
  | dead
  | cells (cs : List Value) (elem : TypeId) (op : Bool)
  | ro (cs : List Value)
  | obj (o : Obj)

inductive Tr where
  | nil
  | node (o : AObj) (l r : Tr)

theorem beqF {a b : Nat} (h : a ≠ b) : Nat.beq a b = false := by
  cases hb : Nat.beq a b with
  | false => rfl
  | true => exact absurd (Nat.eq_of_beq_eq_true hb) h
def Tr.get : Tr → Nat → AObj
  | .nil, _ => .dead
  | .node o l r, n => match Nat.beq n 0 with
    | true => o
    | false => match Nat.beq (n % 2) 1 with
      | true => l.get (n / 2)
      | false => r.get (n / 2 - 1)
def Tr.top : Tr → AObj
  | .nil => .dead
  | .node o _ _ => o
def Tr.left : Tr → Tr
  | .nil => .nil
  | .node _ l _ => l
def Tr.right : Tr → Tr
  | .nil => .nil
  | .node _ _ r => r
def Tr.set : Nat → Tr → Nat → AObj → Tr
  | 0, t, _, _ => t
  | k + 1, t, n, x => match Nat.beq n 0 with
    | true => .node x t.left t.right
    | false => match Nat.beq (n % 2) 1 with
      | true => .node t.top (Tr.set k t.left (n / 2) x) t.right
      | false => .node t.top t.left (Tr.set k t.right (n / 2 - 1) x)
theorem Tr.get_eq (t : Tr) (n : Nat) : t.get n = if n = 0 then t.top else if n % 2 = 1 then t.left.get (n / 2) else t.right.get (n / 2 - 1) := by
  cases t with
  | nil => simp [Tr.get, Tr.top, Tr.left, Tr.right]
  | node o l r =>
    simp only [Tr.get, Tr.top, Tr.left, Tr.right]
    by_cases h0 : n = 0
    · subst h0; rfl
    · have : Nat.beq n 0 = false := beqF h0
      rw [this, if_neg h0]
      by_cases h1 : n % 2 = 1
      · have : Nat.beq (n % 2) 1 = true := by rw [h1]; rfl
        rw [this, if_pos h1]
      · have : Nat.beq (n % 2) 1 = false := beqF h1
        rw [this, if_neg h1]
theorem Tr.get_set : ∀ (k : Nat) (t : Tr) (n m : Nat) (x : AObj), n + 1 < 2 ^ k → (Tr.set k t n x).get m = if m = n then x else t.get m := by
  intro k
  induction k with
  | zero => intro t n m x h; simp at h
  | succ k ih =>
    intro t n m x h
    have hp : 2 ^ (k + 1) = 2 * 2 ^ k := by rw [Nat.pow_succ]; omega
    rw [Tr.get_eq t m]
    by_cases h0 : n = 0
    · subst h0
      have : Tr.set (k + 1) t 0 x = .node x t.left t.right := rfl
      rw [this, Tr.get_eq]
      simp only [Tr.top, Tr.left, Tr.right]
      by_cases hm : m = 0 <;> simp [hm]
    · have e0 : Nat.beq n 0 = false := beqF h0
      by_cases h1 : n % 2 = 1
      · have e1 : Nat.beq (n % 2) 1 = true := by rw [h1]; rfl
        have : Tr.set (k + 1) t n x = .node t.top (Tr.set k t.left (n / 2) x) t.right := by simp only [Tr.set, e0, e1]
        rw [this, Tr.get_eq]
        simp only [Tr.top, Tr.left, Tr.right]
        by_cases hm : m = 0
        · subst hm; rw [if_pos rfl, if_neg (Ne.symm h0), if_pos rfl]
        · rw [if_neg hm, if_neg hm]
          by_cases hm1 : m % 2 = 1
          · rw [if_pos hm1, if_pos hm1, ih _ _ _ _ (by omega)]
            by_cases e : m = n
            · subst e; simp
            · rw [if_neg e, if_neg (by omega)]
          · rw [if_neg hm1, if_neg hm1, if_neg (by omega)]
      · have e1 : Nat.beq (n % 2) 1 = false := beqF h1
        have : Tr.set (k + 1) t n x = .node t.top t.left (Tr.set k t.right (n / 2 - 1) x) := by simp only [Tr.set, e0, e1]
        rw [this, Tr.get_eq]
        simp only [Tr.top, Tr.left, Tr.right]
        by_cases hm : m = 0
        · subst hm; rw [if_pos rfl, if_neg (Ne.symm h0), if_pos rfl]
        · rw [if_neg hm, if_neg hm]
          by_cases hm1 : m % 2 = 1
          · rw [if_pos hm1, if_pos hm1, if_neg (by omega)]
          · rw [if_neg hm1, if_neg hm1, ih _ _ _ _ (by omega)]
            by_cases e : m = n
            · subst e; simp
            · rw [if_neg e, if_neg (by omega)]

/-- Blocks that are no rows of cells: as they are, but for the numbers. -/
def rO (η : Env) : Obj → Obj
  | .map es c => .map (es.map fun e => { e with key := rV η e.key, val := rV η e.val }) c
  | .mapIter (some m) s seen st => .mapIter (some (η.blk m)) s seen st
  | o => o
def WfO (n : Nat) (o : Obj) : Prop := ∀ η η', Agree n η η' → rO η' o = rO η o
theorem WfO.mono {n m : Nat} {o : Obj} (h : WfO n o) (hm : n ≤ m) : WfO m o := fun η η' ha => h η η' (ha.mono hm)
def notCells : Obj → Prop
  | .cells .. => False
  | _ => True

def OkObj (P : Program) (η : Env) (W : World) (n i : Nat) : AObj → Prop
  | .dead => True
  | .cells cs e op => WfL n cs ∧ ∃ ex fz, W.heap[η.blk i]? = some (.cells (cs.map (rV η) ++ ex).toArray e fz) ∧
      (fz.1 = fz.2 ∨ cs.length + ex.length ≤ fz.1) ∧ (op = false → ex = []) ∧ (op = true → cs.length + ex.length = η.cap i * P.cellsOf e)
  | .ro cs => WfL n cs ∧ ∀ j v, cs[j]? = some v → W.cell? ⟨η.blk i, j, none⟩ = some (rV η v)
  | .obj o => WfO n o ∧ notCells (rO η o) ∧ W.heap[η.blk i]? = some (rO η o)

def live : AObj → Prop
  | .dead => False
  | _ => True

/-- What is known of memory: enough to read it. -/
structure Inq (P : Program) (n0 : Nat) (H : Tr) (n : Nat) (η : Env) (W : World) : Prop where
  n0n : n0 ≤ n
  fix : Fix n0 η
  at' : ∀ i, i < n → OkObj P η W n i (H.get i)
  beyond : ∀ i, n ≤ i → H.get i = .dead
/-- What is known of memory, and that nothing else has turned: enough to write it. -/
structure Inv (P : Program) (n0 : Nat) (w0 : World) (H : Tr) (n : Nat) (η : Env) (W : World) : Prop extends Inq P n0 H n η W where
  bel : Below w0.heap.size w0 W
  old : n0 ≤ w0.heap.size
  new : ∀ i, n0 ≤ i → i < n → w0.heap.size ≤ η.blk i
  lt : ∀ i, i < n → η.blk i < W.heap.size
  inj : ∀ i j, i < n → j < n → live (H.get i) → live (H.get j) → η.blk i = η.blk j → i = j
/-- The same, its parts in another order. -/
structure InvT (P : Program) (n0 : Nat) (w0 : World) (H : Tr) (n : Nat) (η : Env) (W : World) : Prop where
  bel : Below w0.heap.size w0 W
  n0n : n0 ≤ n
  old : n0 ≤ w0.heap.size
  fix : Fix n0 η
  new : ∀ i, n0 ≤ i → i < n → w0.heap.size ≤ η.blk i
  lt : ∀ i, i < n → η.blk i < W.heap.size
  inj : ∀ i j, i < n → j < n → live (H.get i) → live (H.get j) → η.blk i = η.blk j → i = j
  at' : ∀ i, i < n → OkObj P η W n i (H.get i)
  beyond : ∀ i, n ≤ i → H.get i = .dead
theorem InvT.to {P : Program} {n0 : Nat} {w0 : World} {H : Tr} {n : Nat} {η : Env} {W : World} (h : InvT P n0 w0 H n η W) : Inv P n0 w0 H n η W :=
  { n0n := h.n0n, fix := h.fix, at' := h.at', beyond := h.beyond, bel := h.bel, old := h.old, new := h.new, lt := h.lt, inj := h.inj }

/-- How many numbers there may be. -/
def depth : Nat := 40
def most : Nat := 2 ^ 40 - 2
theorem get_set {t : Tr} {n m : Nat} {x : AObj} (h : n < most) : (Tr.set depth t n x).get m = if m = n then x else t.get m :=
  Tr.get_set depth t n m x (by unfold most at h; unfold depth; omega)

def Env.put (η : Env) (i b c : Nat) : Env := { blk := fun j => if j = i then b else η.blk j, cap := fun j => if j = i then c else η.cap j }
theorem Env.put_agree (η : Env) (n b c : Nat) : Agree n η (η.put n b c) := fun i hi => by simp [Env.put, Nat.ne_of_lt hi]
@[simp] theorem Env.put_blk (η : Env) (n b c : Nat) : (η.put n b c).blk n = b := by simp [Env.put]
@[simp] theorem Env.put_cap (η : Env) (n b c : Nat) : (η.put n b c).cap n = c := by simp [Env.put]

section
variable {P : Program} {n0 : Nat} {w0 : World} {H : Tr} {n : Nat} {η : Env} {W : World}

theorem OkObj.agree {η' : Env} {i m : Nat} {x : AObj} (h : OkObj P η W n i x) (ha : Agree n η η') (hi : i < n) (hm : n ≤ m) : OkObj P η' W m i x := by
  cases x with
  | dead => trivial
  | cells cs e op =>
    obtain ⟨hw, ex, fz, h1, h2, h3, h4⟩ := h
    refine ⟨hw.mono hm, ex, fz, ?_, h2, h3, ?_⟩
    · rw [(ha i hi).1, hw.map ha]; exact h1
    · rw [(ha i hi).2]; exact h4
  | ro cs =>
    obtain ⟨hw, h1⟩ := h
    exact ⟨hw.mono hm, fun j v hv => by rw [(ha i hi).1, h1 j v hv, hw v (List.mem_of_getElem? hv) _ _ ha]⟩
  | obj o =>
    obtain ⟨hw, h1, h2⟩ := h
    exact ⟨hw.mono hm, by rw [hw _ _ ha]; exact h1, by rw [(ha i hi).1, hw _ _ ha]; exact h2⟩
theorem OkObj.world {i : Nat} {x : AObj} {W' : World} (h : OkObj P η W n i x) (hb : W'.heap[η.blk i]? = W.heap[η.blk i]?) : OkObj P η W' n i x := by
  cases x with
  | dead => trivial
  | cells cs e op =>
    obtain ⟨hw, ex, fz, h1, h⟩ := h
    exact ⟨hw, ex, fz, hb.trans h1, h⟩
  | ro cs =>
    obtain ⟨hw, h1⟩ := h
    exact ⟨hw, fun j v hv => (World.cell?_of_block (w := W) (w' := W') (a := ⟨η.blk i, j, none⟩) hb).trans (h1 j v hv)⟩
  | obj o =>
    obtain ⟨hw, h1, h2⟩ := h
    exact ⟨hw, h1, hb.trans h2⟩

theorem Inv.drew (h : Inv P n0 w0 H n η W) : Inv P n0 w0 H n η W.drew :=
  InvT.to ⟨h.bel.drew, h.n0n, h.old, h.fix, h.new, h.lt, h.inj, fun i hi => (h.at' i hi).world rfl, h.beyond⟩

/-- Numbers whose values are of no account any more. -/
theorem Inv.kill (h : Inv P n0 w0 H n η W) {b : Nat} (hb : b < n) (hm : n < most) : Inv P n0 w0 (Tr.set depth H b .dead) n η W := by
  have hg : ∀ m, (Tr.set depth H b .dead).get m = if m = b then .dead else H.get m := fun m => get_set (by omega)
  refine InvT.to ⟨h.bel, h.n0n, h.old, h.fix, h.new, h.lt, ?_, ?_, ?_⟩
  · intro i j hi hj li lj e
    rw [hg] at li lj
    split at li
    · exact li.elim
    · split at lj
      · exact lj.elim
      · exact h.inj i j hi hj li lj e
  · intro i hi
    rw [hg]
    split
    · trivial
    · exact h.at' i hi
  · intro i hi
    rw [hg]
    split
    · rfl
    · exact h.beyond i hi

/-- A new block. -/
theorem Inv.grow (h : Inv P n0 w0 H n η W) (hm : n < most) (c : Nat) (x : AObj) (o : Obj)
    (ho : ∀ η', Agree n η η' → η'.blk n = W.heap.size → η'.cap n = c → OkObj P η' (W.alloc o) (n + 1) n x) :
    Inv P n0 w0 (Tr.set depth H n x) (n + 1) (η.put n W.heap.size c) (W.alloc o) := by
  have ha := η.put_agree n W.heap.size c
  have hg : ∀ m, (Tr.set depth H n x).get m = if m = n then x else H.get m := fun m => get_set hm
  have hsz : (W.alloc o).heap.size = W.heap.size + 1 := by simp
  refine InvT.to ⟨h.bel.alloc h.bel.size o, Nat.le_succ_of_le h.n0n, h.old, fun i hi => ?_, ?_, ?_, ?_, ?_, ?_⟩
  · rw [(ha i (Nat.lt_of_lt_of_le hi h.n0n)).1]; exact h.fix i hi
  · intro i h1 h2
    by_cases e : i = n
    · subst e; simp; exact h.bel.size
    · rw [(ha i (by omega)).1]; exact h.new i h1 (by omega)
  · intro i hi
    by_cases e : i = n
    · subst e; simp
    · rw [(ha i (by omega)).1, hsz]; have := h.lt i (by omega); omega
  · intro i j hi hj li lj e
    rw [hg] at li lj
    by_cases ei : i = n <;> by_cases ej : j = n
    · omega
    · subst ei
      rw [Env.put_blk, (ha j (by omega)).1] at e
      have := h.lt j (by omega); omega
    · subst ej
      rw [Env.put_blk, (ha i (by omega)).1] at e
      have := h.lt i (by omega); omega
    · rw [if_neg ei] at li; rw [if_neg ej] at lj
      rw [(ha i (by omega)).1, (ha j (by omega)).1] at e
      exact h.inj i j (by omega) (by omega) li lj e
  · intro i hi
    rw [hg]
    split
    · rename_i e; subst e; exact ho _ ha (by simp) (by simp)
    · refine (((h.at' i (by omega)).world (W' := W.alloc o) ?_).agree ha (by omega) (Nat.le_succ n))
      exact Below.heap_alloc W o _ (h.lt i (by omega))
  · intro i hi
    rw [hg, if_neg (by omega)]
    exact h.beyond i (by omega)
theorem Inv.alloc (h : Inv P n0 w0 H n η W) (hm : n < most) {cs : List Value} (e : TypeId) (hw : WfL n cs) :
    Inv P n0 w0 (Tr.set depth H n (.cells cs e false)) (n + 1) (η.put n W.heap.size 0) (W.alloc (.cells (cs.map (rV η)).toArray e)) := by
  refine h.grow hm 0 _ _ fun η' ha hb hc => ⟨hw.mono (Nat.le_succ n), [], (0, 0), ?_, .inl rfl, fun _ => rfl, fun h => by cases h⟩
  rw [hb, hw.map ha, List.append_nil]
  show (W.heap.push _)[W.heap.size]? = _
  simp
theorem Inv.allocObj (h : Inv P n0 w0 H n η W) (hm : n < most) {o : Obj} (hw : WfO n o) (hn : notCells (rO η o)) :
    Inv P n0 w0 (Tr.set depth H n (.obj o)) (n + 1) (η.put n W.heap.size 0) (W.alloc (rO η o)) := by
  refine h.grow hm 0 _ _ fun η' ha hb hc => ⟨hw.mono (Nat.le_succ n), by rw [hw _ _ ha]; exact hn, ?_⟩
  rw [hb, hw _ _ ha]
  show (W.heap.push _)[W.heap.size]? = _
  simp

/-- One of the call's own blocks turned. -/
theorem Inv.turn (h : Inv P n0 w0 H n η W) (hm : n < most) {b : Nat} (hb : b < n) (h0 : n0 ≤ b) (hl : live (H.get b)) (x : AObj) {W' : World}
    (hw : W'.os = W.os ∧ W'.tape = W.tape ∧ W'.output = W.output ∧ W'.heap.size = W.heap.size) (hk : ∀ k, k ≠ η.blk b → W'.heap[k]? = W.heap[k]?)
    (ho : OkObj P η W' n b x) : Inv P n0 w0 (Tr.set depth H b x) n η W' := by
  have hg : ∀ m, (Tr.set depth H b x).get m = if m = b then x else H.get m := fun m => get_set (by omega)
  obtain ⟨e1, e2, e3, e4⟩ := hw
  have hbb := h.new b h0 hb
  refine InvT.to ⟨h.bel.trans ⟨e1, e2, e3, by omega, fun k hk' => hk k (by omega)⟩, h.n0n, h.old, h.fix, h.new, fun i hi => by rw [e4]; exact h.lt i hi, ?_, ?_, ?_⟩
  · intro i j hi hj li lj e
    rw [hg] at li lj
    refine h.inj i j hi hj ?_ ?_ e
    · by_cases ei : i = b
      · rw [ei]; exact hl
      · rw [if_neg ei] at li; exact li
    · by_cases ej : j = b
      · rw [ej]; exact hl
      · rw [if_neg ej] at lj; exact lj
  · intro i hi
    rw [hg]
    split
    · rename_i e; rw [e]; exact ho
    · rename_i e
      cases hx : H.get i with
      | dead => trivial
      | cells cs el op =>
        rw [← hx]
        refine (h.at' i hi).world (hk _ fun hh => e (h.inj i b hi hb (by rw [hx]; trivial) hl hh))
      | ro cs =>
        rw [← hx]
        refine (h.at' i hi).world (hk _ fun hh => e (h.inj i b hi hb (by rw [hx]; trivial) hl hh))
      | obj o =>
        rw [← hx]
        refine (h.at' i hi).world (hk _ fun hh => e (h.inj i b hi hb (by rw [hx]; trivial) hl hh))
  · intro i hi
    rw [hg]
    split
    · rename_i e; omega
    · exact h.beyond i hi

theorem Inq.lt_of_live (h : Inq P n0 H n η W) {b : Nat} (hl : live (H.get b)) : b < n := by
  rcases Nat.lt_or_ge b n with h' | h'
  · exact h'
  · rw [h.beyond b h'] at hl; exact hl.elim

/-- Reading cells. -/
theorem Inq.cell (h : Inq P n0 H n η W) {b : Nat} {cs : List Value} {e : TypeId} {op : Bool} (hb : H.get b = .cells cs e op) {k : Nat} {v : Value} (hv : cs[k]? = some v) :
    W.cell? ⟨η.blk b, k, none⟩ = some (rV η v) ∧ Wf n v := by
  have hlt := h.lt_of_live (b := b) (by rw [hb]; trivial)
  have := h.at' b hlt
  rw [hb] at this
  obtain ⟨hw, ex, fz, h1, -⟩ := this
  have hk : k < cs.length := (List.getElem?_eq_some_iff.1 hv).1
  refine ⟨?_, hw v (List.mem_of_getElem? hv)⟩
  simp only [World.cell?, h1, Option.isSome_none, Bool.false_eq_true, if_false]
  simp [List.getElem?_append_left (l₁ := cs.map (rV η)) (l₂ := ex) (i := k) (by simpa using hk), hv]
theorem Inq.frozen (h : Inq P n0 H n η W) {b : Nat} {cs : List Value} {e : TypeId} {op : Bool} (hb : H.get b = .cells cs e op) {k : Nat} (hk : k < cs.length) :
    W.frozen? ⟨η.blk b, k, none⟩ = false := by
  have hlt := h.lt_of_live (b := b) (by rw [hb]; trivial)
  have := h.at' b hlt
  rw [hb] at this
  obtain ⟨hw, ex, fz, h1, h2, -⟩ := this
  simp only [World.frozen?, h1]
  simp
  omega
/-- The cells of a block that may be read. -/
def cellsAt : AObj → Option (List Value)
  | .cells cs _ _ => some cs
  | .ro cs => some cs
  | _ => none
theorem Inq.cellAt (h : Inq P n0 H n η W) {b : Nat} {cs : List Value} (hb : cellsAt (H.get b) = some cs) {k : Nat} {v : Value} (hv : cs[k]? = some v) :
    W.cell? ⟨η.blk b, k, none⟩ = some (rV η v) ∧ Wf n v := by
  cases hx : H.get b with
  | dead => rw [hx] at hb; simp [cellsAt] at hb
  | obj o => rw [hx] at hb; simp [cellsAt] at hb
  | cells cs' e op =>
    rw [hx] at hb
    simp only [cellsAt, Option.some.injEq] at hb; subst hb
    exact h.cell hx hv
  | ro cs' =>
    have hlt := h.lt_of_live (b := b) (by rw [hx]; trivial)
    have := h.at' b hlt
    rw [hx] at this hb
    simp only [cellsAt, Option.some.injEq] at hb; subst hb
    exact ⟨this.2 k v hv, this.1 v (List.mem_of_getElem? hv)⟩
end
end Go.Proofs.YtjcnpjidkimldaaGreatDoor.Ev

namespace Go.Proofs.YtjcnpjidkimldaaGreatDoor.Ev
set_option linter.unusedSimpArgs false
set_option linter.unusedVariables false
set_option maxRecDepth 100000
open Go Go.RowKit

inductive Out where
  | val (v : Value)
  | skip
  | enter (f : FuncId) (args : List Value)

/-- What an operation came to, and the memory behind it. -/
structure Res where
  out : Out
  H : Tr
  n : Nat

def Runs (P : Program) (n0 : Nat) (w0 : World) (η : Env) (n : Nat) (W : World) (s : Sem Next) (r : Res) : Prop :=
  ∃ η' W', Agree n η η' ∧ n ≤ r.n ∧ Inv P n0 w0 r.H r.n η' W' ∧
    match r.out with
    | .val v => Wf r.n v ∧ s.run P W = .ok (.value (rV η' v)) W'
    | .skip => s.run P W = .ok .skip W'
    | .enter f args => WfL r.n args ∧ s.run P W = .ok (.enter f (args.map (rV η')).toArray) W'

section
variable {P : Program} {n0 : Nat} {w0 : World} {H : Tr} {n : Nat} {η : Env} {W : World}

theorem Runs.same {s : Sem Next} {v : Value} (h : Inv P n0 w0 H n η W) (hv : Wf n v) (hs : s.run P W = .ok (.value (rV η v)) W) : Runs P n0 w0 η n W s ⟨.val v, H, n⟩ :=
  ⟨η, W, .refl _ _, Nat.le_refl _, h, hv, hs⟩

/-! ### The load -/
def tyOf (P : Program) (t : TypeId) : Option (Bool × Nat) :=
  match P.underlying t, P.info? t with
  | some (.struct _), some i => some (true, i.size)
  | some (.array _ _), some i => some (true, i.size)
  | some _, some i => some (false, i.size)
  | _, _ => none
theorem tyOf_agg {t : TypeId} {k : Nat} (h : tyOf P t = some (true, k)) : ∃ d, P.underlying t = some d ∧ d.isRow = true ∧ (P.info? t).map (·.size) = some k := by
  unfold tyOf at h
  split at h
  · rename_i i h1 h2; simp at h; exact ⟨_, h1, rfl, by simp [h2, h]⟩
  · rename_i i h1 h2; simp at h; exact ⟨_, h1, rfl, by simp [h2, h]⟩
  · simp at h
  · simp at h
theorem tyOf_one {t : TypeId} {k : Nat} (h : tyOf P t = some (false, k)) : (∀ w, (isAgg t).run P w = .ok false w) ∧ (P.info? t).map (·.size) = some k := by
  unfold tyOf at h
  split at h
  · simp at h
  · simp at h
  · rename_i d i h1 h2 h3 h4
    simp at h
    refine ⟨fun w => ?_, by simp [h4, h]⟩
    unfold isAgg
    rw [Sem.run_bind, run_underlying h3 w]
    cases d <;> simp_all
  · simp at h
theorem run_sizeOf {t : TypeId} {k : Nat} (h : (P.info? t).map (·.size) = some k) (w : World) : (Go.sizeOf t).run P w = .ok k w := by
  cases hq : P.info? t with
  | none => simp [hq] at h
  | some i => simp [hq] at h; simp [Go.sizeOf, typeInfo, hq, h]

def readCells (cs : List Value) (o k : Nat) : Option (List Value) :=
  let l := (cs.drop o).take k
  if l.length = k then some l else none
theorem readCells_spec {cs l : List Value} {o k : Nat} (h : readCells cs o k = some l) : l.length = k ∧ ∀ j v, l[j]? = some v → cs[o + j]? = some v := by
  unfold readCells at h
  dsimp only at h
  split at h
  · rename_i hk
    simp at h; subst h
    refine ⟨hk, fun j v hv => ?_⟩
    rw [List.getElem?_take] at hv
    split at hv
    · rwa [List.getElem?_drop] at hv
    · simp at hv
  · simp at h
def evLoad (P : Program) (H : Tr) (t : TypeId) (x : Value) : Option Value :=
  match x with
  | .pointer (some ⟨b, o, none⟩) =>
    match cellsAt (H.get b) with
    | some cs =>
      match tyOf P t with
      | some (true, k) => (readCells cs o k).map fun l => .agg l.toArray
      | some (false, _) => cs[o]?
      | none => none
    | none => none
  | _ => none

theorem Inq.rangeAt (h : Inq P n0 H n η W) {b o : Nat} {cs l : List Value} (hb : cellsAt (H.get b) = some cs) (hr : ∀ j v, l[j]? = some v → cs[o + j]? = some v) :
    W.rangeAt (η.blk b) o (l.map (rV η)) ∧ WfL n l := by
  constructor
  · intro j v hv
    rw [List.getElem?_map] at hv
    cases hl : l[j]? with
    | none => rw [hl] at hv; simp at hv
    | some u =>
      rw [hl] at hv; simp at hv; subst hv
      exact (h.cellAt hb (hr j u hl)).1
  · intro v hv
    obtain ⟨j, hj⟩ := List.getElem?_of_mem hv
    exact (h.cellAt hb (hr j v hj)).2
theorem Inq.range (h : Inq P n0 H n η W) {b o : Nat} {cs l : List Value} {e : TypeId} {op : Bool} (hb : H.get b = .cells cs e op) (hr : ∀ j v, l[j]? = some v → cs[o + j]? = some v) :
    W.rangeAt (η.blk b) o (l.map (rV η)) ∧ WfL n l := by
  constructor
  · intro j v hv
    rw [List.getElem?_map] at hv
    cases hl : l[j]? with
    | none => rw [hl] at hv; simp at hv
    | some u =>
      rw [hl] at hv; simp at hv; subst hv
      exact (h.cell hb (hr j u hl)).1
  · intro v hv
    obtain ⟨j, hj⟩ := List.getElem?_of_mem hv
    exact (h.cell hb (hr j v hj)).2

theorem load_sound (h : Inq P n0 H n η W) {t : TypeId} {x v : Value} (he : evLoad P H t x = some v) :
    Wf n v ∧ (Instr.loadAt t (rV η x)).run P W = .ok (rV η v) W := by
  unfold evLoad at he
  split at he
  · rename_i b o
    split at he
    · rename_i cs hb
      split at he
      · rename_i k ht
        obtain ⟨d, hu, hd, hi⟩ := tyOf_agg ht
        cases hl : readCells cs o k with
        | none => rw [hl] at he; simp at he
        | some l =>
          rw [hl] at he; simp at he; subst he
          obtain ⟨h1, h2⟩ := readCells_spec hl
          obtain ⟨h3, h4⟩ := h.rangeAt hb h2
          refine ⟨WfL.agg.2 (by simpa using h4), ?_⟩
          rw [rV_psome, rV_agg]
          have := run_loadAt_mid W (η.blk b) o t (l.map (rV η)) d h3 hu hd (by rw [hi, List.length_map, h1])
          simp only [rA]
          rw [this]
          simp
      · rename_i k ht
        obtain ⟨h1, h2⟩ := h.cellAt hb he
        refine ⟨h2, ?_⟩
        rw [rV_psome]
        simp only [rA, Instr.loadAt, Instr.sureAddr, loadVar, Sem.run_bind, Sem.run_pure, Result.andThen_ok, (tyOf_one ht).1 W, Bool.false_eq_true, if_false, run_load, h1]
      · simp at he
    · simp at he
  · simp at he

/-! ### The store -/
def putCells (cs : List Value) (o : Nat) (vs : List Value) : List Value := cs.take o ++ vs ++ cs.drop (o + vs.length)
def isOne : Value → Bool
  | .agg _ => false
  | .tuple _ => false
  | _ => true
theorem isOne_spec {v : Value} (h : isOne v = true) (η : Env) : (rV η v).oneCell' = true := by
  rw [oneCell_rV]; cases v <;> first | rfl | simp [isOne] at h
theorem putCells_length {cs vs : List Value} {o : Nat} (h : o + vs.length ≤ cs.length) : (putCells cs o vs).length = cs.length := by
  simp [putCells]; omega
theorem putCells_get {cs vs : List Value} {o : Nat} (h : o + vs.length ≤ cs.length) (j : Nat) :
    (putCells cs o vs)[j]? = if j < o then cs[j]? else if j < o + vs.length then vs[j - o]? else cs[j]? := by
  unfold putCells
  by_cases h1 : j < o
  · rw [if_pos h1, List.append_assoc, List.getElem?_append_left (by simp; omega), List.getElem?_take, if_pos h1]
  · rw [if_neg h1]
    by_cases h2 : j < o + vs.length
    · rw [if_pos h2, List.getElem?_append_left (by simp; omega), List.getElem?_append_right (by simp; omega)]
      congr 1
      simp; omega
    · rw [if_neg h2, List.getElem?_append_right (by simp; omega), List.getElem?_drop]
      congr 1
      simp; omega
theorem putCells_map (f : Value → Value) (cs : List Value) (o : Nat) (vs : List Value) : (putCells cs o vs).map f = putCells (cs.map f) o (vs.map f) := by
  simp [putCells, List.map_take, List.map_drop]
theorem putCells_append {cs vs ex : List Value} {o : Nat} (h : o + vs.length ≤ cs.length) : putCells (cs ++ ex) o vs = putCells cs o vs ++ ex := by
  unfold putCells
  rw [List.take_append_of_le_length (by omega), List.drop_append_of_le_length (by omega)]
  simp
theorem putCells_wf {cs vs : List Value} {o : Nat} (h1 : WfL n cs) (h2 : WfL n vs) : WfL n (putCells cs o vs) := by
  intro v hv
  unfold putCells at hv
  rcases List.mem_append.1 hv with hv | hv
  · rcases List.mem_append.1 hv with hv | hv
    · exact h1 v (List.mem_of_mem_take hv)
    · exact h2 v hv
  · exact h1 v (List.mem_of_mem_drop hv)
theorem setCells_frame (b : Nat) : ∀ (vs : List Value) (o : Nat) (w : World), (w.setCells b o vs).os = w.os ∧ (w.setCells b o vs).tape = w.tape ∧ (w.setCells b o vs).output = w.output ∧ (w.setCells b o vs).heap.size = w.heap.size
  | [], _, _ => ⟨rfl, rfl, rfl, rfl⟩
  | v :: r, o, w => by
    obtain ⟨h1, h2, h3, h4⟩ := setCells_frame b r (o + 1) (w.setCell ⟨b, o, none⟩ v)
    exact ⟨h1, h2, h3, h4.trans (by simp)⟩
theorem setCells_other (b : Nat) : ∀ (vs : List Value) (o : Nat) (w : World) (k : Nat), k ≠ b → (w.setCells b o vs).heap[k]? = w.heap[k]?
  | [], _, _, _, _ => rfl
  | v :: r, o, w, k, hk => by
    rw [World.setCells, setCells_other b r (o + 1) _ k hk, Below.heap_setCell _ _ _ _ hk]
theorem setCells_block (b : Nat) (e : TypeId) (fz : Nat × Nat) : ∀ (vs : List Value) (o : Nat) (w : World) (cs : List Value), w.heap[b]? = some (.cells cs.toArray e fz) → o + vs.length ≤ cs.length →
    (w.setCells b o vs).heap[b]? = some (.cells (putCells cs o vs).toArray e fz)
  | [], o, w, cs, h, hl => by simp [World.setCells, putCells, h]
  | v :: r, o, w, cs, h, hl => by
    have hl' : o < cs.length := by simp at hl; omega
    have h1 : (w.setCell ⟨b, o, none⟩ v).heap[b]? = some (.cells (cs.set o v).toArray e fz) := by
      simp [World.setCell, Array.getElem?_modify, h]
    rw [World.setCells, setCells_block b e fz r (o + 1) _ _ h1 (by simp at hl ⊢; omega)]
    congr 3
    apply List.ext_getElem?
    intro j
    rw [putCells_get (by simp at hl ⊢; omega), putCells_get hl]
    simp only [List.length_cons] at hl ⊢
    by_cases h1 : j < o
    · simp [h1, show j < o + 1 by omega, List.getElem?_set_ne (show o ≠ j by omega)]
    · by_cases h2 : j = o
      · subst h2; simp [List.getElem?_set_self hl']
      · rw [if_neg (by omega), if_neg h1]
        by_cases h3 : j < o + 1 + r.length
        · rw [if_pos h3, if_pos (by omega), show j - o = (j - (o + 1)) + 1 by omega, List.getElem?_cons_succ]
        · rw [if_neg h3, if_neg (by omega), List.getElem?_set_ne (by omega)]
def evStore (P : Program) (n0 : Nat) (H : Tr) (n : Nat) (t : TypeId) (x y : Value) : Option Tr :=
  match x with
  | .pointer (some ⟨b, o, none⟩) =>
    match H.get b with
    | .cells cs e op =>
      match P.info? t with
      | some i =>
        let vs := y.cells.toList
        if decide (vs.length = i.size) && decide (o + vs.length ≤ cs.length) && decide (n0 ≤ b) && decide (n < most) && vs.all isOne then some (Tr.set depth H b (.cells (putCells cs o vs) e op)) else none
      | none => none
    | _ => none
  | _ => none

/-- A row of cells written, in the world and here. -/
theorem Inv.put (h : Inv P n0 w0 H n η W) (hm : n < most) {b o : Nat} {cs vs : List Value} {e : TypeId} {op : Bool} (hb : H.get b = .cells cs e op) (h0 : n0 ≤ b)
    (hl : o + vs.length ≤ cs.length) (hv : WfL n vs) : Inv P n0 w0 (Tr.set depth H b (.cells (putCells cs o vs) e op)) n η (W.setCells (η.blk b) o (vs.map (rV η))) := by
  have hlt := h.lt_of_live (b := b) (by rw [hb]; trivial)
  have hat := h.at' b hlt
  rw [hb] at hat
  obtain ⟨hw, ex, fz, h1, h2, h3, h4⟩ := hat
  refine h.turn hm hlt h0 (by rw [hb]; trivial) _ (setCells_frame _ _ _ _) (fun k hk => setCells_other _ _ _ _ k hk) ?_
  refine ⟨putCells_wf hw hv, ex, fz, ?_, ?_, h3, ?_⟩
  · rw [setCells_block _ e fz (vs.map (rV η)) o W _ h1 (by simp; omega), putCells_append (by simp; omega), putCells_map]
  · rw [putCells_length hl]; exact h2
  · rw [putCells_length hl]; exact h4
theorem Inq.there (h : Inq P n0 H n η W) {b o k : Nat} {cs : List Value} {e : TypeId} {op : Bool} (hb : H.get b = .cells cs e op) (hl : o + k ≤ cs.length) :
    W.there (η.blk b) o k := fun j hj => by
  have hlt : o + j < cs.length := by omega
  obtain ⟨h1, -⟩ := h.cell hb (List.getElem?_eq_getElem hlt)
  exact ⟨by rw [h1]; rfl, h.frozen hb hlt⟩
theorem run_storeVar_any (w : World) (b o : Nat) (ty : TypeId) (v : Value) (ht : w.there b o v.cells.size) (hi : (P.info? ty).map (·.size) = some v.cells.size) (h1 : ∀ u ∈ v.cells.toList, u.oneCell' = true) :
    (storeVar ty ⟨b, o, none⟩ v).run P w = .ok () (w.setCells b o v.cells.toList) := by
  have := run_storeCells_cells (P := P) b o v.cells.toList 0 w (fun j hj => by simpa using (ht j (by simpa using hj)).1) (fun j hj => by simpa using (ht j (by simpa using hj)).2) h1
  cases hq : P.info? ty with
  | none => simp [hq] at hi
  | some i =>
    have hs : v.cells.size = i.size := by simp [hq] at hi; omega
    simp only [Nat.add_zero] at this
    simp [storeVar, Go.sizeOf, typeInfo, hq, hs, this]
theorem store_sound (h : Inv P n0 w0 H n η W) {t : TypeId} {x y : Value} {H' : Tr} (hy : Wf n y) (he : evStore P n0 H n t x y = some H') :
    ∃ W', Inv P n0 w0 H' n η W' ∧ (Instr.storeAt t (rV η x) (rV η y)).run P W = .ok () W' := by
  unfold evStore at he
  split at he
  · rename_i b o
    split at he
    · rename_i cs e op hb
      split at he
      · rename_i i hi
        dsimp only at he
        split at he
        · rename_i hc
          simp only [Bool.and_eq_true, decide_eq_true_eq, List.all_eq_true] at hc
          obtain ⟨⟨⟨⟨h1, h2⟩, h3⟩, h4⟩, h5⟩ := hc
          simp at he; subst he
          refine ⟨_, h.put h4 hb h3 h2 hy.cells, ?_⟩
          have hsz : (rV η y).cells.size = y.cells.toList.length := by rw [cells_rV]; simp
          have := run_storeVar_any (P := P) W (η.blk b) o t (rV η y) (h.there hb (by rw [hsz]; exact h2)) (by rw [hi, hsz, h1]; rfl) (fun u hu => by
            rw [cells_rV] at hu
            simp only [Array.toList_map, List.mem_map] at hu
            obtain ⟨z, hz, rfl⟩ := hu
            exact isOne_spec (h5 z hz) η)
          rw [rV_psome]
          simp only [rA, Instr.storeAt, Instr.sureAddr, Sem.run_bind, Sem.run_pure, Result.andThen_ok, this]
          rw [cells_rV]; simp
        · simp at he
      · simp at he
    · simp at he
  · simp at he
end
end Go.Proofs.YtjcnpjidkimldaaGreatDoor.Ev

namespace Go.Proofs.YtjcnpjidkimldaaGreatDoor.Ev
set_option linter.unusedSimpArgs false
set_option linter.unusedVariables false
set_option maxRecDepth 100000
open Go Go.RowKit

section
variable {P : Program} {n0 : Nat} {w0 : World} {H : Tr} {n : Nat} {η : Env} {W : World}

/-! ### Operations that ask no memory at all -/
def pureRun {α : Type} (P : Program) : Sem α → Option α
  | .pure a => some a
  | .program k => pureRun P (k P)
  | .mark _ k => pureRun P k
  | _ => none
theorem pureRun_spec {α : Type} : ∀ (s : Sem α) (a : α), pureRun P s = some a → ∀ w, s.run P w = .ok a w := by
  intro s
  induction s with
  | pure b => intro a h w; simp [pureRun] at h; subst h; rfl
  | program k ih => intro a h w; exact ih P a h w
  | mark m k ih => intro a h w; exact ih a h w
  | _ => intro a h; simp [pureRun] at h

def sizeIn (P : Program) (t : TypeId) : Option Nat := (P.info? t).map (·.size)

def evPart (P : Program) (t : TypeId) (cs : List Value) (off : Nat) : Option Value :=
  match tyOf P t with
  | some (true, k) => some (.agg ((cs.drop off).take k).toArray)
  | some (false, _) => cs[off]?
  | none => none
theorem part_sound {t : TypeId} {cs : List Value} {off : Nat} {v : Value} (hw : WfL n cs) (he : evPart P t cs off = some v) (W : World) :
    Wf n v ∧ (part t (cs.map (rV η)).toArray off).run P W = .ok (rV η v) W := by
  unfold evPart at he
  split at he
  · rename_i k ht
    simp at he; subst he
    obtain ⟨d, hu, hd, hi⟩ := tyOf_agg ht
    have hagg : (isAgg t).run P W = .ok true W := by
      unfold isAgg
      rw [Sem.run_bind, run_underlying hu W]
      cases d <;> simp_all
    refine ⟨WfL.agg.2 fun v hv => hw v ?_, ?_⟩
    · simp only at hv; exact List.mem_of_mem_drop (List.mem_of_mem_take hv)
    · simp only [part, Sem.run_bind, hagg, Result.andThen_ok, if_true, run_sizeOf hi W, Sem.run_pure]
      rw [rV_agg]
      congr 2
      apply Array.ext'
      simp [List.map_take, List.map_drop, List.extract_eq_take_drop]
  · rename_i k ht
    refine ⟨hw v (List.mem_of_getElem? he), ?_⟩
    have : ((cs.map (rV η)).toArray)[off]? = some (rV η v) := by simp [he]
    simp only [part, Sem.run_bind, (tyOf_one ht).1 W, Result.andThen_ok, Bool.false_eq_true, if_false, this, Sem.run_pure]
  · simp at he

/-- The bounds of a slice expression: canonical operands. -/
def evBound (x : Value) (y : Nat) : Option Nat :=
  match x with
  | .int _ i => if decide (0 ≤ i) && decide (i ≤ (y : Int)) then some i.toNat else none
  | _ => none
theorem bound_sound {x : Value} {y m : Nat} (he : evBound x y = some m) (c : BoundsCode) (W : World) (z : Nat) (hz : y ≤ z) : (Instr.sliceBound x z c).run P W = .ok m W ∧ m ≤ y := by
  unfold evBound at he
  split at he
  · rename_i k i
    split at he
    · rename_i hc
      simp only [Bool.and_eq_true, decide_eq_true_eq] at hc
      simp at he; subst he
      refine ⟨?_, by omega⟩
      simp only [Instr.sliceBound, asIntOf, Sem.run_bind, Sem.run_pure, Result.andThen_ok]
      rw [if_pos ⟨hc.1, by omega⟩]
      rfl
    · simp at he
  · simp at he

/-- The room of a slice, as far as it is known. -/
def roomOf (P : Program) (H : Tr) (b sz cap : Nat) : Nat :=
  if cap < 2 ^ 70 then cap else match H.get b with
    | .cells cs e true => if decide (P.cellsOf e = sz) && decide (0 < sz) && decide (cap ≤ roomy) then cs.length / sz - (roomy - cap) else 0
    | _ => 0
theorem roomOf_le (hI : Inq P n0 H n η W) {b sz cap : Nat} : roomOf P H b sz cap ≤ rCap η b cap := by
  unfold roomOf
  split
  · rename_i hc; simp [rCap, hc]
  · rename_i hc
    split
    · rename_i cs e hb
      split
      · rename_i hh
        simp only [Bool.and_eq_true, decide_eq_true_eq] at hh
        obtain ⟨⟨q1, q2⟩, q3⟩ := hh
        have hlt := hI.lt_of_live (b := b) (by rw [hb]; trivial)
        have hat := hI.at' b hlt
        rw [hb] at hat
        obtain ⟨-, ex, fz, -, -, -, h5⟩ := hat
        have h6 := h5 rfl
        rw [q1] at h6
        have h7 : cs.length / sz ≤ η.cap b := Nat.div_le_of_le_mul (by rw [Nat.mul_comm]; omega)
        have hcap : rCap η b cap = η.cap b + cap - roomy := by simp [rCap, hc]
        rw [hcap]; omega
      · exact Nat.zero_le _
    · exact Nat.zero_le _
def evSlice (P : Program) (H : Tr) (t : TypeId) (x : Value) (lo hi mx : Option Value) : Option Value :=
  match P.underlying t, x, mx with
  | some (.slice elem), .slice (some ⟨b, o, none⟩) len cap, none =>
    match sizeIn P elem, (match hi with | some v => evBound v (if cap < 2 ^ 70 then cap else len) | none => some len) with
    | some sz, some h => match (match lo with | some v => evBound v h | none => some 0) with
      | some l =>
        if cap < 2 ^ 70 then some (.slice (some (if cap = l then ⟨b, o, none⟩ else (⟨b, o, none⟩ : Addr).add (l * sz))) (h - l) (cap - l))
        else match H.get b with
          | .cells cs e true =>
            if decide (P.cellsOf e = sz) && decide (0 < sz) && decide ((roomy - cap + len) * sz ≤ cs.length) && (decide (l < len) || decide (l = 0)) && decide (cap ≤ roomy) && decide (2 ^ 70 + l ≤ cap) then
              some (.slice (some ((⟨b, o, none⟩ : Addr).add (l * sz))) (h - l) (cap - l))
            else none
          | _ => none
      | none => none
    | _, _ => none
  | some (.array cnt elem), .pointer (some ⟨b, o, none⟩), none =>
    match sizeIn P elem, (match hi with | some v => evBound v cnt | none => some cnt) with
    | some sz, some h => match (match lo with | some v => evBound v h | none => some 0) with
      | some l => if cnt < 2 ^ 70 then some (.slice (some (if cnt = l then ⟨b, o, none⟩ else (⟨b, o, none⟩ : Addr).add (l * sz))) (h - l) (cnt - l)) else none
      | none => none
    | _, _ => none
  | some (.slice elem), .slice (some ⟨b, o, none⟩) len cap, some mv =>
    match sizeIn P elem, hi with
    | some sz, some hv => match evBound mv (roomOf P H b sz cap) with
      | some m => match evBound hv m with
        | some h => match (match lo with | some v => evBound v h | none => some 0) with
          | some l => if m < 2 ^ 70 then some (.slice (some (if m = l then ⟨b, o, none⟩ else (⟨b, o, none⟩ : Addr).add (l * sz))) (h - l) (m - l)) else none
          | none => none
        | none => none
      | none => none
    | _, _ => none
  | _, _, _ => none
theorem rA_mk (η : Env) (b o : Nat) (s : Option Nat) : rA η ⟨b, o, s⟩ = ⟨η.blk b, o, s⟩ := rfl
theorem rA_add (η : Env) (b o k : Nat) : rA η ((⟨b, o, none⟩ : Addr).add k) = (⟨η.blk b, o, none⟩ : Addr).add k := by
  unfold Addr.add; split <;> rfl
theorem rCap_lt {η : Env} {b c : Nat} (h : c < 2 ^ 70) : rCap η b c = c := by simp [rCap, h]
theorem add_block (b o k : Nat) : ((⟨b, o, none⟩ : Addr).add k).block = b := by unfold Addr.add; split <;> rfl
theorem bounds_sound {isS : Bool} {len cap y : Nat} {lo hi : Option Value} {h l : Nat} (hy : y ≤ cap)
    (h1 : (match hi with | some v => evBound v y | none => some len) = some h) (h2 : (match lo with | some v => evBound v h | none => some 0) = some l) (W : World) :
    (Instr.sliceBounds isS len cap (lo.map (rV η)) (hi.map (rV η)) none).run P W = .ok (l, h, cap) W := by
  have hint : ∀ (v : Value) (y m : Nat), evBound v y = some m → rV η v = v := by
    intro v y m hv; unfold evBound at hv; split at hv
    · simp
    · simp at hv
  cases hi with
  | none =>
    simp only [Option.some.injEq] at h1; subst h1
    cases lo with
    | none => simp only [Option.some.injEq] at h2; subst h2; simp [Instr.sliceBounds]
    | some u =>
      dsimp only at h2
      simp [Instr.sliceBounds, hint _ _ _ h2, (bound_sound h2 _ W _ (Nat.le_refl _)).1]
  | some v =>
    dsimp only at h1
    cases lo with
    | none => simp only [Option.some.injEq] at h2; subst h2; simp [Instr.sliceBounds, hint _ _ _ h1, (bound_sound h1 _ W _ hy).1]
    | some u =>
      dsimp only at h2
      simp [Instr.sliceBounds, hint _ _ _ h1, hint _ _ _ h2, (bound_sound h1 _ W _ hy).1, (bound_sound h2 _ W _ (Nat.le_refl _)).1]
theorem evBound_int {v : Value} {y m : Nat} (hv : evBound v y = some m) : rV η v = v := by
  unfold evBound at hv; split at hv
  · simp
  · simp at hv
theorem bounds3_sound {isS : Bool} {len cap y : Nat} {lo : Option Value} {hv mv : Value} {h l m : Nat} (hy : y ≤ cap)
    (h0 : evBound mv y = some m) (h1 : evBound hv m = some h) (h2 : (match lo with | some v => evBound v h | none => some 0) = some l) (W : World) :
    (Instr.sliceBounds isS len cap (lo.map (rV η)) (some (rV η hv)) (some (rV η mv))).run P W = .ok (l, h, m) W := by
  cases lo with
  | none =>
    simp only [Option.some.injEq] at h2; subst h2
    simp [Instr.sliceBounds, evBound_int h0, evBound_int h1, (bound_sound h0 _ W _ hy).1, (bound_sound h1 _ W _ (Nat.le_refl _)).1]
  | some u =>
    dsimp only at h2
    simp [Instr.sliceBounds, evBound_int h0, evBound_int h1, evBound_int h2, (bound_sound h0 _ W _ hy).1, (bound_sound h1 _ W _ (Nat.le_refl _)).1, (bound_sound h2 _ W _ (Nat.le_refl _)).1]
theorem slice_sound (hI : Inq P n0 H n η W) {t : TypeId} {x v : Value} {lo hi mx : Option Value} (hx : Wf n x) (he : evSlice P H t x lo hi mx = some v) :
    Wf n v ∧ (Instr.sliceAt t (rV η x) (lo.map (rV η)) (hi.map (rV η)) (mx.map (rV η))).run P W = .ok (rV η v) W := by
  unfold evSlice at he
  split at he
  · rename_i elem b o len cap hu
    split at he
    · rename_i sz h hs h1
      split at he
      · rename_i l h2
        split at he
        · rename_i hc
          simp only [Option.some.injEq] at he
          subst he
          simp only [hc, if_true] at h1
          have hl0 := bounds_sound (P := P) (η := η) (isS := true) (Nat.le_refl cap) h1 h2 W
          have hcap : rCap η b cap = cap := by simp [rCap, hc]
          refine ⟨?_, ?_⟩
          · intro η' η'' ha
            have := hx η' η'' ha
            simp [rA] at this
            have hc' : cap - l < 2 ^ 70 := by omega
            simp only [rV_ssome]
            split <;> simp [rA, rCap, Addr.add, hc, hc', this] <;> split <;> simp [this, hc']
          · simp only [Instr.sliceAt, Sem.run_bind, run_underlying hu, Result.andThen_ok, rV_ssome, rA_mk, hcap, Option.map_none, Instr.slice, hl0, run_sizeOf hs W, Sem.run_pure]
            have hc' : cap - l < 2 ^ 70 := by omega
            split
            · simp [rA, rCap, hc']
            · simp only [Option.map_some, rA_add, rV_ssome, rCap_lt hc']
        · rename_i hc
          simp only [hc, if_false] at h1
          split at he
          · rename_i cs e hb
            split at he
            · rename_i hh
              simp only [Bool.and_eq_true, Bool.or_eq_true, decide_eq_true_eq] at hh
              obtain ⟨⟨⟨⟨⟨q1, q2⟩, q3⟩, q4⟩, q5⟩, q6⟩ := hh
              simp only [Option.some.injEq] at he
              subst he
              have hlt := hI.lt_of_live (b := b) (by rw [hb]; trivial)
              have hat := hI.at' b hlt
              rw [hb] at hat
              obtain ⟨-, ex, fz, -, -, -, h5⟩ := hat
              have h6 := h5 rfl
              rw [q1] at h6
              have h7 : roomy - cap + len ≤ η.cap b := Nat.le_of_mul_le_mul_right (by omega) q2
              have hcap : rCap η b cap = η.cap b + cap - roomy := by simp [rCap, hc]
              have hl0 := bounds_sound (P := P) (η := η) (isS := true) (len := len) (cap := rCap η b cap) (by rw [hcap]; omega) h1 h2 W
              have hc' : ¬ cap - l < 2 ^ 70 := by omega
              have hcl : ∀ η : Env, rCap η b (cap - l) = rCap η b cap - l := fun η => by
                rw [rCap, if_neg hc', rCap, if_neg hc]; omega
              refine ⟨?_, ?_⟩
              · intro η' η'' ha
                have := hx η' η'' ha
                simp [rA] at this
                simp only [rV_ssome, add_block, hcl, rA_add, this]
              · simp only [Instr.sliceAt, Sem.run_bind, run_underlying hu, Result.andThen_ok, rV_ssome, rA_mk, Option.map_none, Instr.slice, hl0, run_sizeOf hs W, Sem.run_pure]
                rw [add_block, hcl, rA_add]
                split
                · rename_i hz
                  have : l = 0 := by
                    rcases q4 with q4 | q4
                    · rw [hcap] at hz; omega
                    · exact q4
                  subst this
                  simp [Addr.add]
                · rfl
            · simp at he
          · simp at he
      · simp at he
    · simp at he
  · rename_i cnt elem b o hu
    split at he
    · rename_i sz h hs h1
      split at he
      · rename_i l h2
        split at he
        · rename_i hc
          simp only [Option.some.injEq] at he
          subst he
          have hl0 := bounds_sound (P := P) (η := η) (isS := false) (Nat.le_refl cnt) h1 h2 W
          refine ⟨?_, ?_⟩
          · intro η' η'' ha
            have := hx η' η'' ha
            simp [rA] at this
            have hc' : cnt - l < 2 ^ 70 := by omega
            simp only [rV_ssome]
            split <;> simp [rA, rCap, Addr.add, hc, hc', this] <;> split <;> simp [this, hc']
          · simp only [Instr.sliceAt, Sem.run_bind, run_underlying hu, Result.andThen_ok, rV_psome, rA_mk, Instr.sureAddr, Option.map_none, hl0, run_sizeOf hs W, Sem.run_pure]
            have hc' : cnt - l < 2 ^ 70 := by omega
            split
            · simp [rA, rCap, hc']
            · simp only [rA_add, rV_ssome, rCap_lt hc']
        · simp at he
      · simp at he
    · simp at he
  · rename_i elem b o len cap mv hu
    split at he
    case h_2 => simp at he
    rename_i sz hv hs
    split at he
    case h_2 => simp at he
    rename_i m h0
    split at he
    case h_2 => simp at he
    rename_i h h1
    split at he
    case h_2 => simp at he
    rename_i l h2
    split at he
    case isFalse => simp at he
    rename_i hm
    simp only [Option.some.injEq] at he; subst he
    have hc' : m - l < 2 ^ 70 := by omega
    have hl0 := bounds3_sound (P := P) (η := η) (isS := true) (len := len) (cap := rCap η b cap) (roomOf_le hI) h0 h1 h2 W
    refine ⟨?_, ?_⟩
    · intro η' η'' ha
      have := hx η' η'' ha
      simp [rA] at this
      simp only [rV_ssome]
      split <;> simp [rA, rCap, Addr.add, hc', this] <;> split <;> simp [this, hc']
    · simp only [Instr.sliceAt, Sem.run_bind, run_underlying hu, Result.andThen_ok, rV_ssome, rA_mk, Option.map_some, Instr.slice, hl0, run_sizeOf hs W, Sem.run_pure]
      split
      · simp [rA, rCap, hc']
      · simp only [Option.map_some, rA_add, rV_ssome, rCap_lt hc']
  · simp at he

/-! ### Fields, indexes -/
def evField (P : Program) (t : TypeId) (x : Value) (f : Nat) : Option Value :=
  match P.underlying t, x with
  | some (.struct fields), .agg cs => match fields[f]? with
    | some fd => evPart P fd.type cs.toList fd.offset
    | none => none
  | _, _ => none
theorem field_sound {t : TypeId} {x v : Value} {f : Nat} (hx : Wf n x) (he : evField P t x f = some v) (W : World) :
    Wf n v ∧ (Instr.field t (rV η x) f).run P W = .ok (rV η v) W := by
  unfold evField at he
  split at he
  · rename_i fields cs hu
    split at he
    · rename_i fd hf
      obtain ⟨h1, h2⟩ := part_sound (η := η) (WfL.agg.1 hx) he W
      refine ⟨h1, ?_⟩
      simp only [Instr.field, Sem.run_bind, run_underlying hu, Result.andThen_ok, hf, rV_agg, asAgg, Sem.run_pure]
      rw [← h2]; congr 1; congr 1; apply Array.ext'; simp
    · simp at he
  · simp at he
def evIndex (P : Program) (t : TypeId) (x ix : Value) : Option Value :=
  match P.underlying t, x, ix with
  | some (.array len elem), .agg cs, .int _ i =>
    match sizeIn P elem with
    | some sz => if decide (0 ≤ i) && decide (i < (len : Int)) then evPart P elem cs.toList (i.toNat * sz) else none
    | none => none
  | _, _, _ => none
theorem index_sound {t : TypeId} {x ix v : Value} (hx : Wf n x) (he : evIndex P t x ix = some v) (W : World) :
    Wf n v ∧ (Instr.index t (rV η x) (rV η ix)).run P W = .ok (rV η v) W := by
  unfold evIndex at he
  split at he
  · rename_i len elem cs k i hu
    split at he
    · rename_i sz hs
      split at he
      · rename_i hc
        simp only [Bool.and_eq_true, decide_eq_true_eq] at hc
        obtain ⟨h1, h2⟩ := part_sound (η := η) (WfL.agg.1 hx) he W
        refine ⟨h1, ?_⟩
        simp only [Instr.index, asIntOf, rV_int, Sem.run_bind, Sem.run_pure, Result.andThen_ok, run_underlying hu, rV_agg, run_sizeOf hs W]
        rw [if_pos ⟨hc.1, hc.2⟩]
        simp only [Sem.run_bind, run_sizeOf hs W, Result.andThen_ok]
        rw [← h2]; congr 1; congr 1; apply Array.ext'; simp
      · simp at he
    · simp at he
  · simp at he
def evFieldAddr (P : Program) (t : TypeId) (x : Value) (f : Nat) : Option Value :=
  match P.underlying t, x with
  | some (.struct fields), .pointer (some ⟨b, o, none⟩) => match fields[f]? with
    | some fd => match sizeIn P fd.type with
      | some (_ + 1) => some (.pointer (some ((⟨b, o, none⟩ : Addr).add fd.offset)))
      | _ => none
    | none => none
  | _, _ => none
theorem Wf.add {b o k : Nat} (h : Wf n (.pointer (some ⟨b, o, none⟩))) : Wf n (.pointer (some ((⟨b, o, none⟩ : Addr).add k))) := by
  unfold Addr.add; split
  · exact h
  · exact Wf.ptr_of h
theorem fieldAddr_sound {t : TypeId} {x v : Value} {f : Nat} (hx : Wf n x) (he : evFieldAddr P t x f = some v) (W : World) :
    Wf n v ∧ (Instr.fieldAt t (rV η x) f).run P W = .ok (rV η v) W := by
  unfold evFieldAddr at he
  split at he
  · rename_i fields b o hu
    split at he
    · rename_i fd hf
      split at he
      · rename_i k hs
        simp only [Option.some.injEq] at he; subst he
        refine ⟨hx.add, ?_⟩
        simp only [Instr.fieldAt, Sem.run_bind, run_underlying hu, Result.andThen_ok, hf, rV_psome, rA_mk, Instr.sureAddr, Sem.run_pure, fieldPlace, run_sizeOf hs W, Nat.succ_ne_zero, if_false, rA_add]
      · simp at he
    · simp at he
  · simp at he
def evIndexAddr (P : Program) (t : TypeId) (x ix : Value) : Option Value :=
  match P.underlying t, x, ix with
  | some (.array len elem), .pointer (some ⟨b, o, none⟩), .int _ i =>
    match sizeIn P elem with
    | some sz => if decide (0 ≤ i) && decide (i < (len : Int)) then some (.pointer (some ((⟨b, o, none⟩ : Addr).add (i.toNat * sz)))) else none
    | none => none
  | some (.slice elem), .slice (some ⟨b, o, none⟩) len _, .int _ i =>
    match sizeIn P elem with
    | some sz => if decide (0 ≤ i) && decide (i < (len : Int)) then some (.pointer (some ((⟨b, o, none⟩ : Addr).add (i.toNat * sz)))) else none
    | none => none
  | _, _, _ => none
theorem Wf.slice_ptr {b o l c : Nat} {s : Option Nat} (h : Wf n (.slice (some ⟨b, o, s⟩) l c)) : Wf n (.pointer (some ⟨b, o, s⟩)) := by
  intro η η' ha
  have := h η η' ha
  simp [rA] at this
  simp [rA, this]
theorem indexAddr_sound {t : TypeId} {x ix v : Value} (hx : Wf n x) (he : evIndexAddr P t x ix = some v) (W : World) :
    Wf n v ∧ (Instr.indexAt t (rV η x) (rV η ix)).run P W = .ok (rV η v) W := by
  unfold evIndexAddr at he
  split at he
  · rename_i len elem b o k i hu
    split at he
    · rename_i sz hs
      split at he
      · rename_i hc
        simp only [Bool.and_eq_true, decide_eq_true_eq] at hc
        simp only [Option.some.injEq] at he; subst he
        refine ⟨hx.add, ?_⟩
        simp only [Instr.indexAt, asIntOf, rV_int, Sem.run_bind, Sem.run_pure, Result.andThen_ok, run_underlying hu, rV_psome, rA_mk, Instr.sureAddr]
        rw [if_pos ⟨hc.1, hc.2⟩]
        simp only [Sem.run_bind, run_sizeOf hs W, Result.andThen_ok, Sem.run_pure, rA_add]
      · simp at he
    · simp at he
  · rename_i elem b o len cap k i hu
    split at he
    · rename_i sz hs
      split at he
      · rename_i hc
        simp only [Bool.and_eq_true, decide_eq_true_eq] at hc
        simp only [Option.some.injEq] at he; subst he
        refine ⟨hx.slice_ptr.add, ?_⟩
        simp only [Instr.indexAt, asIntOf, rV_int, Sem.run_bind, Sem.run_pure, Result.andThen_ok, run_underlying hu, rV_ssome, rV_psome, rA_mk]
        rw [if_pos ⟨hc.1, hc.2⟩]
        simp only [Sem.run_bind, run_sizeOf hs W, Result.andThen_ok, Sem.run_pure, rA_add]
      · simp at he
    · simp at he
  · simp at he

/-! ### Values built -/
theorem foldl_map (f : Value → Value) : ∀ (l : List (Value × Nat)) (off : Nat) (cs : Array Value),
    (l.foldl (fun cs (x : Value × Nat) => cs.setIfInBounds (off + x.2) x.1) cs).map f = (l.map fun x => (f x.1, x.2)).foldl (fun cs (x : Value × Nat) => cs.setIfInBounds (off + x.2) x.1) (cs.map f)
  | [], _, _ => rfl
  | x :: l, off, cs => by
    simp only [List.foldl_cons, List.map_cons]
    rw [foldl_map f l off]
    congr 1
    apply Array.ext'
    simp [List.map_set]
theorem fill_map (η : Env) (place : Nat → Option (Nat × Nat)) : ∀ (parts : List (Nat × Value)) (cs : Array Value),
    Instr.fill place (cs.map (rV η)) (parts.map fun p => (p.1, rV η p.2)) = (Instr.fill place cs parts).map (·.map (rV η))
  | [], cs => by simp [Instr.fill]
  | (i, v) :: rest, cs => by
    simp only [List.map_cons, Instr.fill]
    cases place i with
    | none => rfl
    | some p =>
      obtain ⟨off, size⟩ := p
      simp only [cells_rV, Array.size_map]
      split
      · rfl
      · rw [← fill_map η place rest]
        congr 1
        rw [← Array.foldl_toList, ← Array.foldl_toList, Array.toList_zipIdx, Array.toList_zipIdx, foldl_map]
        congr 1
        rw [Array.toList_map, List.zipIdx_map]
        rfl
theorem foldl_wf {m : Nat} : ∀ (l : List (Value × Nat)) (off : Nat) (cs : Array Value), WfL m cs.toList → (∀ x ∈ l, Wf m x.1) →
    WfL m (l.foldl (fun cs (x : Value × Nat) => cs.setIfInBounds (off + x.2) x.1) cs).toList
  | [], _, _, h, _ => h
  | x :: l, off, cs, h, hl => by
    refine foldl_wf l off _ ?_ fun y hy => hl y (List.mem_cons_of_mem _ hy)
    intro v hv
    rw [Array.toList_setIfInBounds] at hv
    rcases List.mem_or_eq_of_mem_set hv with hv | hv
    · exact h v hv
    · rw [hv]; exact hl x List.mem_cons_self
theorem fill_wf {m : Nat} (place : Nat → Option (Nat × Nat)) : ∀ (parts : List (Nat × Value)) (cs r : Array Value), WfL m cs.toList → (∀ p ∈ parts, Wf m p.2) →
    Instr.fill place cs parts = some r → WfL m r.toList
  | [], cs, r, h, _, he => by simp [Instr.fill] at he; subst he; exact h
  | (i, v) :: rest, cs, r, h, hp, he => by
    simp only [Instr.fill] at he
    cases hpl : place i with
    | none => rw [hpl] at he; simp at he
    | some p =>
      rw [hpl] at he
      obtain ⟨off, size⟩ := p
      dsimp only at he
      split at he
      · simp at he
      · refine fill_wf place rest _ r ?_ (fun p hp' => hp p (List.mem_cons_of_mem _ hp')) he
        rw [← Array.foldl_toList, Array.toList_zipIdx]
        refine foldl_wf _ off cs h fun x hx => ?_
        have := List.mem_zipIdx hx
        have hv := (hp (i, v) List.mem_cons_self).cells
        obtain ⟨-, -, h3⟩ := this
        rw [h3]; exact hv _ (List.getElem_mem _)
end
end Go.Proofs.YtjcnpjidkimldaaGreatDoor.Ev

namespace Go.Proofs.YtjcnpjidkimldaaGreatDoor.Ev
set_option linter.unusedSimpArgs false
set_option linter.unusedVariables false
set_option maxRecDepth 100000
open Go Go.RowKit

section
variable {P : Program} {n0 : Nat} {w0 : World} {H : Tr} {n : Nat} {η : Env} {W : World}

def zeroIn (P : Program) (n0 : Nat) (t : TypeId) : Option Value :=
  match P.info? t with
  | some i => match i.zero with
    | some z => if fixed n0 4 z then some z else none
    | none => none
  | none => none
theorem zeroIn_spec (h : Inq P n0 H n η W) {t : TypeId} {z : Value} (he : zeroIn P n0 t = some z) : (∀ w, (zeroValue t).run P w = .ok z w) ∧ rV η z = z ∧ ∀ m, n ≤ m → Wf m z := by
  unfold zeroIn at he
  split at he
  · rename_i i hi
    split at he
    · rename_i u hu
      split at he
      · rename_i hf
        simp only [Option.some.injEq] at he; subst he
        exact ⟨fun w => by simp [zeroValue, typeInfo, hi, hu], fixed_spec h.fix 4 _ hf, fun m hm => Wf.of_fixed hf (Nat.le_trans h.n0n hm)⟩
      · simp at he
    · simp at he
  · simp at he
theorem toArr (f : Value → Value) (cs : Array Value) : (cs.toList.map f).toArray = cs.map f := by apply Array.ext'; simp

/-- The places of a struct's fields. -/
def placesOf (P : Program) : List Field → Option (List (Nat × Nat))
  | [] => some []
  | f :: r => match sizeIn P f.type, placesOf P r with
    | some s, some l => some ((f.offset, s) :: l)
    | _, _ => none
theorem placesOf_spec : ∀ (fs : List Field) (l : List (Nat × Nat)), placesOf P fs = some l → ∀ w, (fs.mapM fun f => (do let s ← Go.sizeOf f.type; pure (f.offset, s) : Sem (Nat × Nat))).run P w = .ok l w
  | [], l, h, w => by simp [placesOf] at h; subst h; rfl
  | f :: r, l, h, w => by
    unfold placesOf at h
    split at h
    · rename_i s l' hs hl
      simp only [Option.some.injEq] at h; subst h
      have ih := placesOf_spec r l' hl w
      simp only [List.mapM_cons, Sem.run_bind, run_sizeOf hs w, Result.andThen_ok, Sem.run_pure, ih]
    · simp at h

/-- Cells laid over others, as a list. -/
def over : List Value → List Value → List Value
  | cs, [] => cs
  | [], _ => []
  | _ :: cs, v :: l => v :: over cs l
def splice : List Value → Nat → List Value → List Value
  | cs, 0, l => over cs l
  | [], _ + 1, _ => []
  | c :: cs, n + 1, l => c :: splice cs n l
theorem splice_nil : ∀ (cs : List Value) (k : Nat), splice cs k [] = cs
  | cs, 0 => by cases cs <;> rfl
  | [], k + 1 => rfl
  | c :: cs, k + 1 => by show c :: splice cs k [] = _; rw [splice_nil cs k]
theorem splice_set : ∀ (cs : List Value) (k : Nat) (c : Value) (l : List Value), k < cs.length → splice (cs.set k c) (k + 1) l = splice cs k (c :: l)
  | [], k, c, l, h => by simp at h
  | x :: cs, 0, c, l, h => by
    show c :: splice cs 0 l = c :: over cs l
    cases cs <;> rfl
  | x :: cs, k + 1, c, l, h => by
    show x :: splice (cs.set k c) (k + 1) l = x :: splice cs k (c :: l)
    rw [splice_set cs k c l (by simpa using h)]
theorem fold_splice : ∀ (l : List Value) (s off : Nat) (cells : Array Value), off + s + l.length ≤ cells.size → ((l.zipIdx s).foldl (fun cs p => cs.setIfInBounds (off + p.2) p.1) cells).toList = splice cells.toList (off + s) l
  | [], s, off, cells, h => (splice_nil _ _).symm
  | c :: l, s, off, cells, h => by
    simp only [List.length_cons] at h
    rw [List.zipIdx_cons, List.foldl_cons, fold_splice l (s + 1) off _ (by rw [Array.size_setIfInBounds]; omega)]
    rw [Array.toList_setIfInBounds, ← splice_set _ _ _ _ (by simpa using by omega)]
    rfl
def fillF (place : Nat → Option (Nat × Nat)) (m : Nat) : List Value → List (Nat × Value) → Option (List Value)
  | cells, [] => some cells
  | cells, (i, v) :: rest => match place i with
    | none => none
    | some (off, size) => match Nat.beq v.cells.size size, Nat.ble (off + size) m with
      | true, true => fillF place m (splice cells off v.cells.toList) rest
      | _, _ => none
def fillO (place : Nat → Option (Nat × Nat)) (cells : Array Value) (parts : List (Nat × Value)) : Option (Array Value) :=
  match fillF place cells.size cells.toList parts with
  | some l => some l.toArray
  | none => none
theorem fillF_eq (place : Nat → Option (Nat × Nat)) (m : Nat) : ∀ (parts : List (Nat × Value)) (cells : Array Value) (l : List Value), cells.size = m → fillF place m cells.toList parts = some l → Instr.fill place cells parts = some l.toArray
  | [], cells, l, hm, h => by
    simp only [fillF, Option.some.injEq] at h; subst h
    simp [Instr.fill]
  | (i, v) :: rest, cells, l, hm, h => by
    unfold fillF at h
    unfold Instr.fill
    split at h
    · cases h
    · rename_i off size hp
      split at h
      · rename_i h1 h2
        have e1 : v.cells.size = size := Nat.eq_of_beq_eq_true h1
        have e2 := Nat.le_of_ble_eq_true h2
        rw [hp]
        dsimp only
        rw [if_neg (by simp [e1]; omega)]
        have hf : (v.cells.zipIdx.foldl (fun cs (x : Value × Nat) => cs.setIfInBounds (off + x.2) x.1) cells).toList = splice cells.toList off v.cells.toList := by
          rw [← Array.foldl_toList, Array.toList_zipIdx]
          have := fold_splice v.cells.toList 0 off cells (by simp; omega)
          simpa using this
        have hsz : (v.cells.zipIdx.foldl (fun cs (x : Value × Nat) => cs.setIfInBounds (off + x.2) x.1) cells).size = m := by
          rw [← hm]
          have key : ∀ (l : List (Value × Nat)) (cs : Array Value), (l.foldl (fun cs (x : Value × Nat) => cs.setIfInBounds (off + x.2) x.1) cs).size = cs.size := by
            intro l
            induction l with
            | nil => intro cs; rfl
            | cons x l ih => intro cs; rw [List.foldl_cons, ih, Array.size_setIfInBounds]
          rw [← Array.foldl_toList]
          exact key _ _
        exact fillF_eq place m rest _ l hsz (by rw [hf]; exact h)
      · cases h
theorem fillO_eq {place : Nat → Option (Nat × Nat)} {cells : Array Value} {parts : List (Nat × Value)} {r : Array Value} (h : fillO place cells parts = some r) : Instr.fill place cells parts = some r := by
  unfold fillO at h
  split at h
  · rename_i l hl
    simp only [Option.some.injEq] at h; subst h
    exact fillF_eq place _ parts cells l rfl hl
  · cases h
def evBuild (P : Program) (n0 : Nat) (t : TypeId) (parts : List (Nat × Value)) : Option Value :=
  match zeroIn P n0 t, P.underlying t with
  | some z, some (.struct fields) => match placesOf P fields.toList with
    | some l => (fillO (l.toArray[·]?) z.cells parts).map .agg
    | none => none
  | some z, some (.array _ elem) => match sizeIn P elem with
    | some s => (fillO (fun i => some (i * s, s)) z.cells parts).map .agg
    | none => none
  | _, _ => none
theorem build_sound (h : Inq P n0 H n η W) {t : TypeId} {parts : List (Nat × Value)} {v : Value} (hp : ∀ p ∈ parts, Wf n p.2) (he : evBuild P n0 t parts = some v) :
    Wf n v ∧ (Instr.build t (parts.map fun p => (p.1, rV η p.2)).toArray).run P W = .ok (rV η v) W := by
  unfold evBuild at he
  split at he
  · rename_i z fields hz hu
    obtain ⟨z1, z2, z3⟩ := zeroIn_spec h hz
    split at he
    · rename_i l hl
      cases hf : fillO (l.toArray[·]?) z.cells parts with
      | none => rw [hf] at he; simp at he
      | some r =>
        rw [hf] at he; simp only [Option.map_some, Option.some.injEq] at he; subst he
        replace hf := fillO_eq hf
        refine ⟨WfL.agg.2 (fill_wf _ parts _ r (z3 n (Nat.le_refl n)).cells hp hf), ?_⟩
        have hm := fill_map η (l.toArray[·]?) parts z.cells
        rw [hf, ← cells_rV, z2] at hm
        simp only [Instr.build, Sem.run_bind, z1, Result.andThen_ok, run_underlying hu]
        have hpl := placesOf_spec _ _ hl W
        have hpl' : (fields.mapM fun f => (do let s ← Go.sizeOf f.type; pure (f.offset, s) : Sem (Nat × Nat))).run P W = .ok l.toArray W := by
          rw [Array.mapM_eq_mapM_toList]
          simp only [map_eq_pure_bind, Sem.run_bind, hpl, Result.andThen_ok, Sem.run_pure]
        simp only [Sem.run_bind, hpl', Result.andThen_ok, hm, Option.map_some, Sem.run_pure, rV_agg]
    · simp at he
  · rename_i z len elem hz hu
    obtain ⟨z1, z2, z3⟩ := zeroIn_spec h hz
    split at he
    · rename_i s hs
      cases hf : fillO (fun i => some (i * s, s)) z.cells parts with
      | none => rw [hf] at he; simp at he
      | some r =>
        rw [hf] at he; simp only [Option.map_some, Option.some.injEq] at he; subst he
        replace hf := fillO_eq hf
        refine ⟨WfL.agg.2 (fill_wf _ parts _ r (z3 n (Nat.le_refl n)).cells hp hf), ?_⟩
        have hm := fill_map η (fun i => some (i * s, s)) parts z.cells
        rw [hf, ← cells_rV, z2] at hm
        simp only [Instr.build, Sem.run_bind, z1, Result.andThen_ok, run_underlying hu, run_sizeOf hs, hm, Option.map_some, Sem.run_pure, rV_agg]
    · simp at he
  · simp at he

/-! ### New blocks -/
def newCells (H : Tr) (n : Nat) (e : TypeId) (cs : List Value) (k : Nat → Value) : Option Res :=
  if n < most then some ⟨.val (k n), Tr.set depth H n (.cells cs e false), n + 1⟩ else none
theorem newRow_sound (h : Inv P n0 w0 H n η W) {e : TypeId} {cs : List Value} {k : Nat → Value} {r : Res} (hw : WfL n cs) (he : newCells H n e cs k = some r)
    (hk : Wf (n + 1) (k n)) (s : Sem Next)
    (hs : ∀ η' : Env, η'.blk n = W.heap.size → Agree n η η' → s.run P W = .ok (.value (rV η' (k n))) (W.alloc (.cells (cs.map (rV η)).toArray e))) :
    Runs P n0 w0 η n W s r := by
  unfold newCells at he
  split at he
  · rename_i hm
    simp only [Option.some.injEq] at he; subst he
    have ha := η.put_agree n W.heap.size 0
    exact ⟨_, _, ha, Nat.le_succ n, h.alloc hm e hw, hk, hs _ (Env.put_blk _ _ _ _) ha⟩
  · simp at he
theorem run_newRow (e : TypeId) (cs : Array Value) (w : World) : (newRow e cs).run P w = .ok ⟨w.heap.size, 0, none⟩ (w.alloc (.cells cs e)) := rfl

def evBox (H : Tr) (n : Nat) (e : TypeId) (x : Value) : Option Res := newCells H n e x.cells.toList fun b => .pointer (some ⟨b, 0, none⟩)
theorem box_sound (h : Inv P n0 w0 H n η W) {e : TypeId} {x : Value} {r : Res} (hx : Wf n x) (he : evBox H n e x = some r) :
    Runs P n0 w0 η n W (do pure (.value (← Instr.box e (rV η x)))) r := by
  refine newRow_sound h hx.cells he (Wf.ptr (Nat.lt_succ_self n)) _ fun η' hb ha => ?_
  simp [Instr.box, newVar, run_newRow, rA_mk, hb, cells_rV, toArr]
def evAlloc (P : Program) (n0 : Nat) (H : Tr) (n : Nat) (e : TypeId) : Option Res :=
  match zeroIn P n0 e with
  | some z => evBox H n e z
  | none => none
theorem alloc_sound (h : Inv P n0 w0 H n η W) {e : TypeId} {r : Res} (he : evAlloc P n0 H n e = some r) :
    Runs P n0 w0 η n W (do pure (.value (← Instr.alloc e true (.tuple #[])))) r := by
  unfold evAlloc at he
  split at he
  · rename_i z hz
    obtain ⟨z1, z2, z3⟩ := zeroIn_spec h.toInq hz
    refine newRow_sound h (z3 n (Nat.le_refl n)).cells he (Wf.ptr (Nat.lt_succ_self n)) _ fun η' hb ha => ?_
    have hc := cells_rV η z
    rw [z2] at hc
    simp [Instr.alloc, z1, newVar, run_newRow, rA_mk, hb, toArr, ← hc]
  · simp at he
/-- So many times the same cells. -/
def zerosOf (z : List Value) : Nat → List Value
  | 0 => []
  | k + 1 => z ++ zerosOf z k
theorem zerosOf_length (z : List Value) : ∀ k, (zerosOf z k).length = k * z.length
  | 0 => by simp [zerosOf]
  | k + 1 => by simp [zerosOf, zerosOf_length z k, Nat.succ_mul]; omega
theorem zerosOf_get (z : List Value) (hz : 0 < z.length) : ∀ (k i : Nat), i < k * z.length → (zerosOf z k)[i]? = some (z[i % z.length]'(Nat.mod_lt _ hz))
  | 0, i, h => by simp at h
  | k + 1, i, h => by
    unfold zerosOf
    by_cases hi : i < z.length
    · rw [List.getElem?_append_left hi, List.getElem?_eq_getElem hi]
      congr 2
      exact (Nat.mod_eq_of_lt hi).symm
    · rw [List.getElem?_append_right (by omega), zerosOf_get z hz k (i - z.length) (by rw [Nat.succ_mul] at h; omega)]
      congr 2
      conv => rhs; rw [show i = (i - z.length) + z.length by omega]
      simp
theorem zeros_eq (z : Array Value) (k : Nat) (hz : 0 < z.size) : (Array.range (k * z.size)).map (z[· % z.size]!) = (zerosOf z.toList k).toArray := by
  apply Array.ext'
  apply List.ext_getElem?
  intro i
  by_cases hi : i < k * z.size
  · rw [show (zerosOf z.toList k).toArray.toList = zerosOf z.toList k from rfl, zerosOf_get z.toList (by simpa using hz) k i (by simpa using hi)]
    have : i % z.size < z.size := Nat.mod_lt _ hz
    simp [hi, this]
  · rw [List.getElem?_eq_none (by simp; omega), List.getElem?_eq_none (by simp [zerosOf_length]; omega)]
theorem zerosOf_wf {m : Nat} {z : List Value} (hz : WfL m z) : ∀ k, WfL m (zerosOf z k)
  | 0 => fun v hv => by simp [zerosOf] at hv
  | k + 1 => fun v hv => by
    rcases List.mem_append.1 hv with hv | hv
    · exact hz v hv
    · exact zerosOf_wf hz k v hv
theorem zerosOf_map (f : Value → Value) (z : List Value) : ∀ k, (zerosOf z k).map f = zerosOf (z.map f) k
  | 0 => rfl
  | k + 1 => by simp [zerosOf, zerosOf_map f z k]
def evBuildSlice (P : Program) (n0 : Nat) (H : Tr) (n : Nat) (t : TypeId) (len : Nat) (parts : List (Nat × Value)) : Option Res :=
  match P.underlying t with
  | some (.slice elem) => match sizeIn P elem, zeroIn P n0 elem with
    | some s, some z =>
      if decide (len * s ≤ 2 ^ 24) && decide (0 < len * s) && decide (len < 2 ^ 70) && decide (z.cells.size = s) then
        match fillO (fun i => some (i * s, s)) (zerosOf z.cells.toList len).toArray parts with
        | some cs => newCells H n elem cs.toList fun b => .slice (some ⟨b, 0, none⟩) len len
        | none => none
      else if decide (len * s = 0) && (parts.isEmpty && decide (len < 2 ^ 70)) then newCells H n elem [] fun b => .slice (some ⟨b, 0, none⟩) len len
      else none
    | _, _ => none
  | _ => none
theorem zerosOf_fixed {z : Value} (hz : rV η z = z) (k : Nat) : (zerosOf z.cells.toList k).map (rV η) = zerosOf z.cells.toList k := by
  rw [zerosOf_map, ← Array.toList_map, ← cells_rV, hz]
theorem buildSlice_sound (h : Inv P n0 w0 H n η W) {t : TypeId} {len : Nat} {parts : List (Nat × Value)} {r : Res} (hp : ∀ p ∈ parts, Wf n p.2) (he : evBuildSlice P n0 H n t len parts = some r) :
    Runs P n0 w0 η n W (do pure (.value (← Instr.buildSlice t len (parts.map fun p => (p.1, rV η p.2)).toArray))) r := by
  unfold evBuildSlice at he
  split at he
  · rename_i elem hu
    split at he
    · rename_i s z hs hz
      obtain ⟨z1, z2, z3⟩ := zeroIn_spec h.toInq hz
      split at he
      · rename_i hc
        simp only [Bool.and_eq_true, decide_eq_true_eq] at hc
        split at he
        · rename_i cs hf
          replace hf := fillO_eq hf
          have hm := fill_map η (fun i => some (i * s, s)) parts (zerosOf z.cells.toList len).toArray
          rw [hf, List.map_toArray, zerosOf_fixed z2] at hm
          have hpos : 0 < z.cells.size := by rw [hc.2]; exact Nat.pos_of_ne_zero (fun e => by rw [e] at hc; omega)
          have hze := zeros_eq z.cells len hpos
          refine newRow_sound h (fill_wf _ parts _ cs (zerosOf_wf (z3 n (Nat.le_refl n)).cells len) hp hf) he (Wf.slice (Nat.lt_succ_self n)) _ fun η' hb ha => ?_
          simp only [Instr.buildSlice, Sem.run_bind, run_underlying hu, Result.andThen_ok, run_sizeOf hs]
          rw [if_neg (by omega), if_neg (by omega)]
          simp only [Sem.run_bind, z1, Result.andThen_ok, Sem.run_pure]
          rw [← hc.2] at hm ⊢
          simp only [hze, hm, Option.map_some, Sem.run_bind, Result.andThen_ok, Sem.run_pure, run_newRow, rV_ssome, rA_mk, hb, rCap_lt hc.1.2, toArr]
        · simp at he
      · split at he
        · rename_i hc
          simp only [Bool.and_eq_true, decide_eq_true_eq, List.isEmpty_iff] at hc
          obtain ⟨h0, rfl, h70⟩ := hc
          refine newRow_sound h (fun v hv => by cases hv) he (Wf.slice (Nat.lt_succ_self n)) _ fun η' hb ha => ?_
          simp only [Instr.buildSlice, Sem.run_bind, run_underlying hu, Result.andThen_ok, run_sizeOf hs]
          rw [if_neg (by omega), if_pos h0]
          simp only [Sem.run_bind, Result.andThen_ok, Sem.run_pure, h0, List.map_nil, Instr.fill, run_newRow, rV_ssome, rA_mk, hb, rCap_lt h70, toArr]
          rw [show (Array.range 0) = #[] from Array.eq_empty_of_size_eq_zero Array.size_range, Array.map_empty]
        · simp at he
    · simp at he
  · simp at he

def evMakeSlice (P : Program) (n0 : Nat) (H : Tr) (n : Nat) (t : TypeId) (l c : Value) : Option Res :=
  match P.underlying t, l, c with
  | some (.slice elem), .int _ l, .int _ c =>
    match P.info? elem with
    | some i =>
      if decide (0 ≤ l) && decide (l ≤ c) && decide (c < 2 ^ 40) && decide (i.bytes * c ≤ 2 ^ 47) then
        if c.toNat * i.size = 0 then newCells H n elem [] fun b => .slice (some ⟨b, 0, none⟩) l.toNat c.toNat
        else match zeroIn P n0 elem with
          | some z => if z.cells.size = i.size then newCells H n elem (zerosOf z.cells.toList c.toNat) fun b => .slice (some ⟨b, 0, none⟩) l.toNat c.toNat else none
          | none => none
      else none
    | none => none
  | _, _, _ => none
theorem wrap_small {c : Int} (h0 : 0 ≤ c) (h : c < 2 ^ 40) : IntKind.i64.wrap c = c := IntWalk.i64_in _ (by omega)
theorem makeSlice_sound (h : Inv P n0 w0 H n η W) {t : TypeId} {l c : Value} {r : Res} (he : evMakeSlice P n0 H n t l c = some r) :
    Runs P n0 w0 η n W (do pure (.value (← Instr.makeSlice t (rV η l) (rV η c)))) r := by
  unfold evMakeSlice at he
  split at he
  · rename_i elem kl l kc c hu
    split at he
    · rename_i i hi
      split at he
      · rename_i hc
        simp only [Bool.and_eq_true, decide_eq_true_eq] at hc
        obtain ⟨⟨⟨h1, h2⟩, h3⟩, h4⟩ := hc
        have hl : IntKind.i64.wrap l = l := wrap_small h1 (by omega)
        have hcw : IntKind.i64.wrap c = c := wrap_small (by omega) h3
        have hsz : ∀ w, (Go.sizeOf elem).run P w = .ok i.size w := run_sizeOf (by simp [hi])
        have hti : ∀ w, (typeInfo elem).run P w = .ok i w := fun w => by simp [typeInfo, hi]
        have hroom : ¬ (c.toNat * i.bytes > roomBytes) := by
          unfold roomBytes
          have : ((c.toNat * i.bytes : Nat) : Int) = i.bytes * c := by
            rw [Int.natCast_mul, Int.toNat_of_nonneg (by omega), Int.mul_comm]
          omega
        have hbad : (decide (c < 0) || decide ((i.bytes : Int) * c > 2 ^ 48) || decide (l < 0) || decide (l > c)) = false := by
          simp; omega
        have hask : (askRoom (c.toNat * i.bytes)).run P W = .ok () W := by unfold askRoom; rw [if_neg hroom]; rfl
        split at he
        · rename_i hz0
          refine newRow_sound h (fun v hv => by simp at hv) he (Wf.slice (Nat.lt_succ_self n)) _ fun η' hb ha => ?_
          simp only [Instr.makeSlice, Sem.run_bind, run_underlying hu, Result.andThen_ok, rV_int, asInt, asIntOf, Sem.run_pure, hti, hl, hcw, hbad, Bool.false_eq_true, if_false, hask, hsz, hz0, if_true]
          simp [run_newRow, rA_mk, hb, rCap_lt (show c.toNat < 2 ^ 70 by omega), show Array.range 0 = #[] from by decide]
        · rename_i hz0
          split at he
          · rename_i z hz
            obtain ⟨z1, z2, z3⟩ := zeroIn_spec h.toInq hz
            split at he
            · rename_i hzs
              refine newRow_sound h (zerosOf_wf (z3 n (Nat.le_refl n)).cells _) he (Wf.slice (Nat.lt_succ_self n)) _ fun η' hb ha => ?_
              have hpos : 0 < z.cells.size := by rw [hzs]; exact Nat.pos_of_ne_zero (fun e => hz0 (by rw [e]; simp))
              have hze := zeros_eq z.cells c.toNat hpos
              simp only [Instr.makeSlice, Sem.run_bind, run_underlying hu, Result.andThen_ok, rV_int, asInt, asIntOf, Sem.run_pure, hti, hl, hcw, hbad, Bool.false_eq_true, if_false, hask, hsz, hz0, z1]
              rw [← hzs]
              simp only [hze, run_newRow, Result.andThen_ok, Sem.run_pure, rV_ssome, rA_mk, hb, rCap_lt (show c.toNat < 2 ^ 70 by omega), zerosOf_fixed z2]
            · simp at he
          · simp at he
      · simp at he
    · simp at he
  · simp at he
end
end Go.Proofs.YtjcnpjidkimldaaGreatDoor.Ev

namespace Go.Proofs.YtjcnpjidkimldaaGreatDoor.Ev
set_option linter.unusedSimpArgs false
set_option linter.unusedVariables false
set_option maxRecDepth 100000
open Go Go.RowKit

section
variable {P : Program} {n0 : Nat} {w0 : World} {H : Tr} {n : Nat} {η : Env} {W : World}

/-- A block goes on under a new number; its old number is of no account any more. -/
theorem Inv.move (h : Inv P n0 w0 H n η W) (hm : n < most) {b : Nat} (h0 : n0 ≤ b) (hl : live (H.get b)) (c : Nat) (x : AObj) {W' : World}
    (hw : W'.os = W.os ∧ W'.tape = W.tape ∧ W'.output = W.output ∧ W'.heap.size = W.heap.size) (hk : ∀ k, k ≠ η.blk b → W'.heap[k]? = W.heap[k]?)
    (ho : OkObj P (η.put n (η.blk b) c) W' (n + 1) n x) : Inv P n0 w0 (Tr.set depth (Tr.set depth H b .dead) n x) (n + 1) (η.put n (η.blk b) c) W' := by
  have hb := h.lt_of_live hl
  have ha := η.put_agree n (η.blk b) c
  have hg : ∀ m, (Tr.set depth (Tr.set depth H b .dead) n x).get m = if m = n then x else if m = b then .dead else H.get m := fun m => by
    rw [get_set hm, get_set (by omega)]
  obtain ⟨e1, e2, e3, e4⟩ := hw
  have hbb := h.new b h0 hb
  refine InvT.to ⟨h.bel.trans ⟨e1, e2, e3, by omega, fun k hk' => hk k (by omega)⟩, Nat.le_succ_of_le h.n0n, h.old, fun i hi => ?_, ?_, ?_, ?_, ?_, ?_⟩
  · rw [(ha i (Nat.lt_of_lt_of_le hi h.n0n)).1]; exact h.fix i hi
  · intro i h1 h2
    by_cases e : i = n
    · subst e; rw [Env.put_blk]; exact hbb
    · rw [(ha i (by omega)).1]; exact h.new i h1 (by omega)
  · intro i hi
    rw [e4]
    by_cases e : i = n
    · subst e; rw [Env.put_blk]; exact h.lt b hb
    · rw [(ha i (by omega)).1]; exact h.lt i (by omega)
  · intro i j hi hj li lj e
    rw [hg] at li lj
    by_cases ei : i = n <;> by_cases ej : j = n
    · omega
    · subst ei
      rw [if_neg ej] at lj
      split at lj
      · exact lj.elim
      · rename_i ejb
        rw [Env.put_blk, (ha j (by omega)).1] at e
        exact absurd (h.inj b j hb (by omega) hl lj e).symm ejb
    · subst ej
      rw [if_neg ei] at li
      split at li
      · exact li.elim
      · rename_i eib
        rw [Env.put_blk, (ha i (by omega)).1] at e
        exact absurd (h.inj i b (by omega) hb li hl e) eib
    · rw [if_neg ei] at li; rw [if_neg ej] at lj
      split at li
      · exact li.elim
      · split at lj
        · exact lj.elim
        · rw [(ha i (by omega)).1, (ha j (by omega)).1] at e
          exact h.inj i j (by omega) (by omega) li lj e
  · intro i hi
    rw [hg]
    split
    · rename_i e; subst e; exact ho
    · rename_i e
      split
      · trivial
      · rename_i eb
        cases hx : H.get i with
        | dead => trivial
        | cells cs el op =>
          rw [← hx]
          exact ((h.at' i (by omega)).world (hk _ fun hh => eb (h.inj i b (by omega) hb (by rw [hx]; trivial) hl hh))).agree ha (by omega) (Nat.le_succ n)
        | ro cs =>
          rw [← hx]
          exact ((h.at' i (by omega)).world (hk _ fun hh => eb (h.inj i b (by omega) hb (by rw [hx]; trivial) hl hh))).agree ha (by omega) (Nat.le_succ n)
        | obj o =>
          rw [← hx]
          exact ((h.at' i (by omega)).world (hk _ fun hh => eb (h.inj i b (by omega) hb (by rw [hx]; trivial) hl hh))).agree ha (by omega) (Nat.le_succ n)
  · intro i hi
    rw [hg, if_neg (by omega), if_neg (by omega)]
    exact h.beyond i (by omega)

def evLen : Value → Option Nat
  | .slice _ k _ => some k
  | .string s => some s.size
  | _ => none
theorem len_sound {x : Value} {k : Nat} (he : evLen x = some k) (W : World) : (Builtin.lenOf (rV η x)).run P W = .ok k W := by
  unfold evLen at he
  split at he
  · rename_i a k' c
    simp only [Option.some.injEq] at he; subst he
    cases a <;> simp [Builtin.lenOf]
  · simp only [Option.some.injEq] at he; subst he; simp [Builtin.lenOf]
  · simp at he
def evFirst (H : Tr) (size k : Nat) (x : Value) : Option (List Value) :=
  match x with
  | .slice (some ⟨b, o, none⟩) _ _ => match H.get b with
    | .cells cs _ _ => readCells cs o (k * size)
    | _ => none
  | .slice none _ _ => some []
  | .string s => some ((s.extract 0 k).data.toList.map fun b => .int .u8 b.toNat)
  | _ => none
theorem first_sound (h : Inv P n0 w0 H n η W) {x : Value} {size k : Nat} {l : List Value} (he : evFirst H size k x = some l) :
    WfL n l ∧ (Builtin.firstCells size k (rV η x)).run P W = .ok (l.map (rV η)).toArray W := by
  unfold evFirst at he
  split at he
  · rename_i b o len c
    split at he
    · rename_i cs e op hb
      obtain ⟨h1, h2⟩ := readCells_spec he
      obtain ⟨h3, h4⟩ := h.range hb h2
      refine ⟨h4, ?_⟩
      have := run_loadCells_list (P := P) W ⟨η.blk b, o, none⟩ (l.map (rV η)) (fun j v hv => by rw [Addr.add_mid]; exact h3 j v hv)
      rw [List.length_map, h1] at this
      simp [Builtin.firstCells, rA_mk, this]
    · simp at he
  · simp only [Option.some.injEq] at he; subst he
    exact ⟨fun v hv => by simp at hv, by simp [Builtin.firstCells]⟩
  · rename_i s
    simp only [Option.some.injEq] at he; subst he
    refine ⟨fun v hv => ?_, ?_⟩
    · simp only [List.mem_map] at hv
      obtain ⟨b, -, rfl⟩ := hv
      exact Wf.int _ _ _
    · simp only [rV_string, Builtin.firstCells, Sem.run_pure, List.map_map]
      congr 1
      apply Array.ext'
      simp [Function.comp_def]
  · simp at he

def evAppend (P : Program) (n0 : Nat) (H : Tr) (n : Nat) (ts : List TypeId) (args : List Value) : Option Res :=
  match ts, args with
  | [st, xt], [s, x] =>
    match P.underlying st, P.underlying xt, s, evLen x with
    | some (.slice elem), some (.int _), _, _ => none
    | some (.slice elem), some _, .slice base sLen sCap, some k =>
      match P.info? elem, zeroIn P n0 elem with
      | some i, some z =>
        match evFirst H i.size k x, evFirst H i.size sLen s with
        | some new, some old =>
          if decide (new.length = k * i.size) && decide (old.length = sLen * i.size) && decide (z.cells.size = i.size) && decide (0 < i.size) && decide (sLen + k < 2 ^ 30) && new.all isOne && decide (n < most) then
            if sCap < 2 ^ 70 then
              if sLen + k ≤ sCap then
                match base with
                | some ⟨b, o, none⟩ => match H.get b with
                  | .cells cs e op => if decide (o + sLen * i.size + new.length ≤ cs.length) && decide (n0 ≤ b) then
                      some ⟨.val (.slice base (sLen + k) sCap), Tr.set depth H b (.cells (putCells cs (o + sLen * i.size) new) e op), n⟩ else none
                  | _ => none
                | some _ => none
                | none => if decide (new.length = 0) then some ⟨.val (.slice none (sLen + k) sCap), H, n⟩ else none
              else if Builtin.nextslicecap (sLen + k) sCap * i.bytes ≤ 2 ^ 48 then
                some ⟨.val (.slice (some ⟨n, 0, none⟩) (sLen + k) roomy), Tr.set depth H n (.cells (old ++ new) elem true), n + 1⟩
              else none
            else match base with
              | some ⟨b, 0, none⟩ => match H.get b with
                | .cells cs e true => if decide (n0 ≤ b) && decide (e = elem) && decide (sCap = roomy) && decide (sLen * i.size ≤ cs.length) && decide (i.bytes ≤ 2 ^ 16) then
                    some ⟨.val (.slice (some ⟨n, 0, none⟩) (sLen + k) roomy), Tr.set depth (Tr.set depth H b .dead) n (.cells (old ++ new) elem true), n + 1⟩
                  else none
                | _ => none
              | _ => none
          else none
        | _, _ => none
      | _, _ => none
    | _, _, _, _ => none
  | _, _ => none

theorem growBy_le (N : Nat) : ∀ (r c : Nat), c ≤ 2 * N + 768 → Builtin.growBy N r c ≤ 2 * N + 768
  | 0, c, h => h
  | r + 1, c, h => by
    unfold Builtin.growBy
    split
    · exact h
    · exact growBy_le N r _ (by omega)
theorem next_le {N c : Nat} (h : c < N) : Builtin.nextslicecap N c ≤ 2 * N + 768 := by
  unfold Builtin.nextslicecap
  split
  · omega
  · split
    · omega
    · exact growBy_le N 4 c (by omega)
theorem notInt {α : Type} {d : TypeDesc} (hd : ∀ k, d ≠ .int k) : (d matches .int _) = false := by
  cases d <;> first | rfl | exact absurd rfl (hd _)
theorem run_choose_cap (need old : Nat) (e : TypeId) (w : World) : (choose (.appendCap need old e)).run P w = .ok ((Question.appendCap need old e).cut (w.tape w.drawn (.appendCap need old e))) w.drew := rfl
theorem run_askRoom (b : Nat) (w : World) : (askRoom b).run P w = .ok () w := by
  unfold askRoom; split <;> rfl
theorem append_grow {st xt ty elem : TypeId} {dx : TypeDesc} {i : TypeInfo} {z : Value} {base : Option Addr} {sLen cap k : Nat} {x : Value} {old new : Array Value}
    (hu : P.underlying st = some (.slice elem)) (hx : P.underlying xt = some dx) (hd : ∀ k, dx ≠ .int k) (hi : P.info? elem = some i)
    (hz : ∀ w, (zeroValue elem).run P w = .ok z w) (hl : ∀ w, (Builtin.lenOf x).run P w = .ok k w) (hneed : cap < sLen + k) (hsm : sLen + k < 2 ^ 30)
    (hnext : Builtin.nextslicecap (sLen + k) cap * i.bytes ≤ 2 ^ 48) (hb : 0 < i.bytes ∨ True)
    (hold : (Builtin.firstCells i.size sLen (.slice base sLen cap)).run P W.drew = .ok old W.drew) (hnew : (Builtin.firstCells i.size k x).run P W.drew = .ok new W.drew) :
    ∃ c, sLen + k ≤ c ∧ (Builtin.append_ #[st, xt] ty #[.slice base sLen cap, x]).run P W =
      .ok (.slice (some ⟨W.heap.size, 0, none⟩) (sLen + k) c) (W.drew.alloc (.cells (old ++ new ++ Builtin.zeroCells z.cells (c - (sLen + k))) elem)) := by
  refine ⟨(Question.appendCap (sLen + k) cap elem).cut (W.tape W.drawn (.appendCap (sLen + k) cap elem)), by simp only [Question.cut]; omega, ?_⟩
  have hti : ∀ w, (typeInfo elem).run P w = .ok i w := fun w => by simp [typeInfo, hi]
  have hsz : ∀ w, (Go.sizeOf elem).run P w = .ok i.size w := run_sizeOf (by simp [hi])
  have hmx : ¬ (((sLen + k : Nat) : Int) > IntKind.i64.max) := by
    have : IntKind.i64.max = 9223372036854775807 := rfl
    rw [this]; omega
  simp only [Builtin.append_, List.getElem?_toArray, List.getElem?_cons_zero, List.getElem?_cons_succ]
  simp only [Sem.run_bind, run_underlying hu, Result.andThen_ok, hsz, run_underlying hx, Sem.run_pure, notInt hd, Bool.false_eq_true, if_false, hl]
  rw [if_neg (by omega)]
  simp only [Sem.run_bind, hti, Result.andThen_ok, hmx, false_and, if_false]
  rw [if_neg (by omega)]
  simp only [Sem.run_bind, Sem.run_pure, run_choose_cap, hti, run_askRoom, Result.andThen_ok, hold, Bool.not_false, if_true, hnew, hz, run_newRow]
  rfl

theorem append_fits {st xt ty elem : TypeId} {dx : TypeDesc} {i : TypeInfo} {b o sLen cap k : Nat} {x : Value} {new : List Value}
    (hu : P.underlying st = some (.slice elem)) (hx : P.underlying xt = some dx) (hd : ∀ k, dx ≠ .int k) (hi : P.info? elem = some i)
    (hl : ∀ w, (Builtin.lenOf x).run P w = .ok k w) (hneed : sLen + k ≤ cap)
    (hnew : (Builtin.firstCells i.size k x).run P W = .ok new.toArray W) (ht : W.there b (o + sLen * i.size) new.length) (h1 : ∀ v ∈ new, v.oneCell' = true) :
    (Builtin.append_ #[st, xt] ty #[.slice (some ⟨b, o, none⟩) sLen cap, x]).run P W =
      .ok (.slice (some ⟨b, o, none⟩) (sLen + k) cap) (W.setCells b (o + sLen * i.size) new) := by
  have hsz : ∀ w, (Go.sizeOf elem).run P w = .ok i.size w := run_sizeOf (by simp [hi])
  have hst := run_storeCells_cells (P := P) b (o + sLen * i.size) new 0 W (fun j hj => by simpa using (ht j hj).1) (fun j hj => by simpa using (ht j hj).2) h1
  simp only [Nat.add_zero] at hst
  simp only [Builtin.append_, List.getElem?_toArray, List.getElem?_cons_zero, List.getElem?_cons_succ]
  simp only [Sem.run_bind, run_underlying hu, Result.andThen_ok, hsz, run_underlying hx, Sem.run_pure, notInt hd, Bool.false_eq_true, if_false, hl]
  rw [if_pos hneed]
  simp only [Sem.run_bind, Bool.not_false, if_true, hnew, Result.andThen_ok, Addr.add_mid, hst, Sem.run_pure]
theorem append_fits_nil {st xt ty elem : TypeId} {dx : TypeDesc} {i : TypeInfo} {sLen cap k : Nat} {x : Value} {new : Array Value}
    (hu : P.underlying st = some (.slice elem)) (hx : P.underlying xt = some dx) (hd : ∀ k, dx ≠ .int k) (hi : P.info? elem = some i)
    (hl : ∀ w, (Builtin.lenOf x).run P w = .ok k w) (hneed : sLen + k ≤ cap)
    (hnew : (Builtin.firstCells i.size k x).run P W = .ok new W) :
    (Builtin.append_ #[st, xt] ty #[.slice none sLen cap, x]).run P W = .ok (.slice none (sLen + k) cap) W := by
  have hsz : ∀ w, (Go.sizeOf elem).run P w = .ok i.size w := run_sizeOf (by simp [hi])
  simp only [Builtin.append_, List.getElem?_toArray, List.getElem?_cons_zero, List.getElem?_cons_succ]
  simp only [Sem.run_bind, run_underlying hu, Result.andThen_ok, hsz, run_underlying hx, Sem.run_pure, notInt hd, Bool.false_eq_true, if_false, hl]
  rw [if_pos hneed]
  simp only [Sem.run_bind, Bool.not_false, if_true, hnew, Result.andThen_ok, Sem.run_pure]
theorem zeroCells_length (z : Array Value) (k : Nat) : (Builtin.zeroCells z k).toList.length = k * z.size := by simp [Builtin.zeroCells]
theorem cellsOf_info {elem : TypeId} {i : TypeInfo} (hi : P.info? elem = some i) : P.cellsOf elem = i.size := by simp [Program.cellsOf, hi]

/-- The block that an append makes. -/
theorem Inv.grown (h : Inv P n0 w0 H n η W) (hm : n < most) {elem : TypeId} {i : TypeInfo} (hi : P.info? elem = some i) {l : List Value} (hw : WfL n l) {z : Array Value} {c need : Nat}
    (hz : z.size = i.size) (hl : l.length = need * i.size) (hc : need ≤ c) :
    Inv P n0 w0 (Tr.set depth H n (.cells l elem true)) (n + 1) (η.put n W.heap.size c) (W.drew.alloc (.cells ((l.map (rV η)).toArray ++ Builtin.zeroCells z (c - need)) elem)) := by
  refine (h.drew).grow hm c _ _ fun η' ha hb hc' => ⟨hw.mono (Nat.le_succ n), (Builtin.zeroCells z (c - need)).toList, (0, 0), ?_, .inl rfl, fun hh => by simp at hh, fun _ => ?_⟩
  · rw [hb, hw.map ha]
    show (W.drew.heap.push _)[W.drew.heap.size]? = _
    rw [Array.getElem?_push_size]
    congr 2
    apply Array.ext'; simp
  · rw [zeroCells_length, hz, hl, hc', cellsOf_info hi, ← Nat.add_mul]
    congr 1; omega

theorem Wf.slice_len {a : Option Addr} {l l' c : Nat} (h : Wf n (.slice a l c)) : Wf n (.slice a l' c) := by
  intro η η' ha
  have := h η η' ha
  cases a with
  | none => simp
  | some a => simp at this; simp [this]
theorem append_sound (h : Inv P n0 w0 H n η W) {ts : List TypeId} {ty : TypeId} {args : List Value} {r : Res} (hw : WfL n args) (he : evAppend P n0 H n ts args = some r) :
    Runs P n0 w0 η n W (do pure (.value (← Builtin.append_ ts.toArray ty (args.map (rV η)).toArray))) r := by
  unfold evAppend at he
  split at he
  case h_2 => simp at he
  rename_i st xt s x
  split at he
  case h_1 => simp at he
  case h_3 => simp at he
  rename_i elem dx base sLen sCap k hd hu hx hlen
  have hd' : ∀ k, dx ≠ .int k := fun k e => hd k e
  split at he
  case h_2 => simp at he
  rename_i i z hi hz
  obtain ⟨z1, z2, z3⟩ := zeroIn_spec h.toInq hz
  split at he
  case h_2 => simp at he
  rename_i new old hnew hold
  split at he
  case isFalse => simp at he
  rename_i hc
  simp only [Bool.and_eq_true, decide_eq_true_eq, List.all_eq_true] at hc
  obtain ⟨⟨⟨⟨⟨⟨c1, c2⟩, c3⟩, c4⟩, c5⟩, c6⟩, c7⟩ := hc
  have hl := fun w => len_sound (P := P) (η := η) hlen w
  have hwx : Wf n x := hw x (by simp)
  obtain ⟨wn, fn⟩ := first_sound h hnew
  obtain ⟨wo, fo⟩ := first_sound h hold
  obtain ⟨-, fn'⟩ := first_sound h.drew hnew
  obtain ⟨-, fo'⟩ := first_sound h.drew hold
  have hone : ∀ v ∈ new.map (rV η), v.oneCell' = true := fun v hv => by
    simp only [List.mem_map] at hv
    obtain ⟨u, hu', rfl⟩ := hv
    exact isOne_spec (c6 u hu') η
  have wno : WfL n (old ++ new) := fun v hv => (List.mem_append.1 hv).elim (wo v) (wn v)
  have hcell : (do pure (Next.value (← Builtin.append_ [st, xt].toArray ty ([Value.slice base sLen sCap, x].map (rV η)).toArray)) : Sem Next).run P W =
      ((Builtin.append_ #[st, xt] ty #[rV η (.slice base sLen sCap), rV η x]).run P W).andThen fun a w' => .ok (.value a) w' := by
    simp only [Sem.run_bind, List.map_cons, List.map_nil, Sem.run_pure]
  have hlen' : (old ++ new).length = (sLen + k) * i.size := by rw [List.length_append, c1, c2, Nat.add_mul]
  have hws : Wf n (.slice base sLen sCap) := hw _ List.mem_cons_self
  have grow : ∀ (cap : Nat) (base' : Option Addr), rV η (.slice base sLen sCap) = .slice base' sLen cap → cap < sLen + k → Builtin.nextslicecap (sLen + k) cap * i.bytes ≤ 2 ^ 48 →
      ∃ c, sLen + k ≤ c ∧
        (Builtin.append_ #[st, xt] ty #[rV η (.slice base sLen sCap), rV η x]).run P W = .ok (.slice (some ⟨W.heap.size, 0, none⟩) (sLen + k) c) (W.drew.alloc (.cells (((old ++ new).map (rV η)).toArray ++ Builtin.zeroCells z.cells (c - (sLen + k))) elem)) := by
    intro cap base' hs hcap hnext
    rw [hs] at fo' ⊢
    obtain ⟨c, hcc, hrun⟩ := append_grow (P := P) (W := W) (ty := ty) (base := base') hu hx hd' hi z1 hl hcap c5 hnext (.inr trivial) fo' fn'
    refine ⟨c, hcc, ?_⟩
    rw [hrun]
    simp
  split at he
  · rename_i hknown
    have hs : rV η (.slice base sLen sCap) = .slice (base.map (rA η)) sLen sCap := by
      cases base with
      | none => simp
      | some a => simp [rCap_lt hknown]
    split at he
    · rename_i hfit
      split at he
      · rename_i b o
        split at he
        · rename_i cs e op hb
          split at he
          · rename_i hh
            simp only [Bool.and_eq_true, decide_eq_true_eq] at hh
            simp only [Option.some.injEq] at he; subst he
            have hp := h.put c7 hb hh.2 hh.1 wn
            refine ⟨η, _, .refl _ _, Nat.le_refl _, hp, ?_, ?_⟩
            · exact hws.slice_len
            · rw [hcell, hs]
              have := append_fits (P := P) (W := W) (ty := ty) (b := η.blk b) (o := o) (sLen := sLen) (new := new.map (rV η)) hu hx hd' hi hl hfit fn (by
                rw [List.length_map]; exact h.there hb hh.1) hone
              simp only [Option.map_some, rA_mk, this, Result.andThen_ok, rV_ssome, rCap_lt hknown]
          · simp at he
        · simp at he
      · simp at he
      · split at he
        · simp only [Option.some.injEq] at he; subst he
          refine Runs.same h (fun _ _ _ => by simp) ?_
          rw [hcell, hs]
          have := append_fits_nil (P := P) (W := W) (ty := ty) (sLen := sLen) hu hx hd' hi hl hfit fn
          simp only [Option.map_none, this, Result.andThen_ok, rV_snone]
        · simp at he
    · rename_i hfit
      split at he
      · rename_i hnext
        simp only [Option.some.injEq] at he; subst he
        obtain ⟨c, hcc, hrun⟩ := grow sCap _ hs (by omega) hnext
        refine ⟨_, _, Env.put_agree _ _ _ _, Nat.le_succ n, h.grown c7 hi wno c3 hlen' hcc, Wf.slice (Nat.lt_succ_self n), ?_⟩
        rw [hcell, hrun]
        simp [rA_mk, rCap, roomy]
      · simp at he
  · rename_i hunk
    split at he
    case h_2 => simp at he
    rename_i b
    split at he
    case h_2 => simp at he
    rename_i cs e hb
    split at he
    case isFalse => simp at he
    rename_i hh
    simp only [Bool.and_eq_true, decide_eq_true_eq] at hh
    obtain ⟨⟨⟨⟨d1, d2⟩, d3⟩, d4⟩, d5⟩ := hh
    subst d2
    simp only [Option.some.injEq] at he; subst he
    have hlt := h.lt_of_live (b := b) (by rw [hb]; trivial)
    have hat := h.at' b hlt
    rw [hb] at hat
    obtain ⟨hwc, ex, fz, g1, g2, -, g4⟩ := hat
    have g4' := g4 rfl
    rw [cellsOf_info hi] at g4'
    have hs : rV η (.slice (some ⟨b, 0, none⟩) sLen sCap) = .slice (some ⟨η.blk b, 0, none⟩) sLen (η.cap b) := by
      simp [rA_mk, rCap, d3, roomy]
    by_cases hfit : sLen + k ≤ η.cap b
    · -- in place
      have hroom : sLen * i.size + new.length ≤ cs.length + ex.length := by
        rw [g4', c1, ← Nat.add_mul]; exact Nat.mul_le_mul_right _ hfit
      have hthere : W.there (η.blk b) (0 + sLen * i.size) (new.map (rV η)).length := fun j hj => by
        simp only [List.length_map, Nat.zero_add] at hj ⊢
        have hlt' : sLen * i.size + j < (cs.map (rV η) ++ ex).length := by simp; omega
        constructor
        · simp only [World.cell?, g1, Option.isSome_none, Bool.false_eq_true, if_false, List.getElem?_toArray, List.getElem?_eq_getElem hlt']
          rfl
        · simp only [World.frozen?, g1]
          simp
          omega
      have hrun := append_fits (P := P) (W := W) (ty := ty) (b := η.blk b) (o := 0) (sLen := sLen) (new := new.map (rV η)) hu hx hd' hi hl hfit fn hthere hone
      have hold' : old = cs.take (sLen * i.size) := by
        simp only [evFirst, hb, readCells, List.drop_zero] at hold
        split at hold
        · simp only [Option.some.injEq] at hold; exact hold.symm
        · simp at hold
      refine ⟨_, _, Env.put_agree η n (η.blk b) (η.cap b), Nat.le_succ n, h.move c7 d1 (by rw [hb]; trivial) (η.cap b) _ (setCells_frame (η.blk b) (new.map (rV η)) (0 + sLen * i.size) W) (fun k hk => setCells_other _ _ _ _ k hk) ?_,
        Wf.slice (Nat.lt_succ_self n), ?_⟩
      · refine ⟨wno.mono (Nat.le_succ n), (cs.map (rV η) ++ ex).drop (sLen * i.size + new.length), fz, ?_, ?_, fun hh => by simp at hh, fun _ => ?_⟩
        · rw [Env.put_blk, wno.map (Env.put_agree η n (η.blk b) (η.cap b)), setCells_block _ e fz (new.map (rV η)) (0 + sLen * i.size) W _ g1 (by simp; omega)]
          congr 3
          unfold putCells
          rw [hold', List.map_append, List.map_take, Nat.zero_add, List.length_map, List.take_append_of_le_length (by simpa using d4)]
        · refine g2.imp (fun h => h) fun h => ?_
          simp only [List.length_append, List.length_drop, List.length_map, c2]
          omega
        · simp only [List.length_append, List.length_drop, List.length_map, c2, Env.put_cap, cellsOf_info hi]
          omega
      · rw [hcell, hs, hrun]
        simp [rA_mk, rCap, roomy]
    · -- a new block
      have hnext : Builtin.nextslicecap (sLen + k) (η.cap b) * i.bytes ≤ 2 ^ 48 := by
        have := next_le (N := sLen + k) (c := η.cap b) (by omega)
        calc _ ≤ 2 ^ 32 * 2 ^ 16 := Nat.mul_le_mul (by omega) d5
          _ = 2 ^ 48 := by decide
      obtain ⟨c, hcc, hrun⟩ := grow (η.cap b) _ hs (by omega) hnext
      refine ⟨_, _, Env.put_agree η n W.heap.size c, Nat.le_succ n, (h.kill hlt c7).grown c7 hi wno c3 hlen' hcc, Wf.slice (Nat.lt_succ_self n), ?_⟩
      rw [hcell, hrun]
      simp [rA_mk, rCap, roomy]
end
end Go.Proofs.YtjcnpjidkimldaaGreatDoor.Ev
