/-
  A closed call evaluated: values with numbers of one's own for blocks, and how they read in a world.
-/
import Derived.Below
import Derived.Orders
import Derived.LoopN
import Derived.Deep.MidRow
namespace Go.Proofs.Ytoanbjnhoggpjaa.Ev
set_option linter.unusedSimpArgs false
set_option linter.unusedVariables false
set_option maxRecDepth 100000
open Go Go.RowKit

/-- Which block of the world each number stands for, and how much room an open block has. -/
structure Env where
  blk : Nat → Nat
  cap : Nat → Nat

def roomy : Nat := 2 ^ 80
def rCap (η : Env) (b c : Nat) : Nat := if c < 2 ^ 70 then c else η.cap b + c - roomy
def rA (η : Env) (a : Addr) : Addr := { block := η.blk a.block, off := a.off, spot := a.spot }
def rFn (η : Env) : Fn → Fn
  | .yield l => .yield (η.blk l)
  | f => f
def rV (η : Env) : Value → Value
  | .pointer (some a) => .pointer (some (rA η a))
  | .slice (some a) n c => .slice (some (rA η a)) n (rCap η a.block c)
  | .map (some r) => .map (some (η.blk r))
  | .func fn xs ys => .func (rFn η fn) (xs.attach.map fun x => rV η x.1) (ys.attach.map fun x => rV η x.1)
  | .iface t v => .iface t (rV η v)
  | .agg cs => .agg (cs.attach.map fun x => rV η x.1)
  | .tuple vs => .tuple (vs.attach.map fun x => rV η x.1)
  | v => v
termination_by v => SizeOf.sizeOf v
decreasing_by
  all_goals simp_wf
  all_goals first | (have := Array.sizeOf_lt_of_mem x.2; omega) | omega

section
variable (η : Env)
@[simp] theorem rV_bool (b : Bool) : rV η (.bool b) = .bool b := by rw [rV] <;> simp
@[simp] theorem rV_int (k : IntKind) (n : Int) : rV η (.int k n) = .int k n := by rw [rV] <;> simp
@[simp] theorem rV_float (k : FloatKind) (n : Nat) : rV η (.float k n) = .float k n := by rw [rV] <;> simp
@[simp] theorem rV_complex (k : FloatKind) (a b : Nat) : rV η (.complex k a b) = .complex k a b := by rw [rV] <;> simp
@[simp] theorem rV_string (s : ByteArray) : rV η (.string s) = .string s := by rw [rV] <;> simp
@[simp] theorem rV_pnone : rV η (.pointer none) = .pointer none := by rw [rV] <;> simp
@[simp] theorem rV_psome (a : Addr) : rV η (.pointer (some a)) = .pointer (some (rA η a)) := by rw [rV]
@[simp] theorem rV_snone (n c : Nat) : rV η (.slice none n c) = .slice none n c := by rw [rV] <;> simp
@[simp] theorem rV_ssome (a : Addr) (n c : Nat) : rV η (.slice (some a) n c) = .slice (some (rA η a)) n (rCap η a.block c) := by rw [rV]
@[simp] theorem rV_mnone : rV η (.map none) = .map none := by rw [rV] <;> simp
@[simp] theorem rV_msome (r : Nat) : rV η (.map (some r)) = .map (some (η.blk r)) := by rw [rV]
@[simp] theorem rV_chan (r : Option Nat) : rV η (.chan r) = .chan r := by rw [rV] <;> simp
@[simp] theorem rV_nilFunc : rV η .nilFunc = .nilFunc := by rw [rV] <;> simp
@[simp] theorem rV_nilIface : rV η .nilIface = .nilIface := by rw [rV] <;> simp
@[simp] theorem rV_iface (t : TypeId) (v : Value) : rV η (.iface t v) = .iface t (rV η v) := by rw [rV]
@[simp] theorem rV_func (fn : Fn) (xs ys : Array Value) : rV η (.func fn xs ys) = .func (rFn η fn) (xs.map (rV η)) (ys.map (rV η)) := by rw [rV]; simp
@[simp] theorem rV_agg (cs : Array Value) : rV η (.agg cs) = .agg (cs.map (rV η)) := by rw [rV]; simp
@[simp] theorem rV_tuple (cs : Array Value) : rV η (.tuple cs) = .tuple (cs.map (rV η)) := by rw [rV]; simp
@[simp] theorem rV_undef : rV η undef = undef := by unfold undef; simp
end

/-- No number of one's own stands in the value. -/
def fixed (n0 : Nat) : Nat → Value → Bool
  | _, .pointer (some a) => decide (a.block < n0)
  | _, .slice (some a) _ c => decide (a.block < n0) && decide (c < 2 ^ 70)
  | _, .map (some r) => decide (r < n0)
  | 0, .func _ _ _ | 0, .iface _ _ | 0, .agg _ | 0, .tuple _ => false
  | k + 1, .func fn xs ys => (match fn with | .yield _ => false | _ => true) && xs.toList.all (fixed n0 k) && ys.toList.all (fixed n0 k)
  | k + 1, .iface _ v => fixed n0 k v
  | k + 1, .agg cs => cs.toList.all (fixed n0 k)
  | k + 1, .tuple cs => cs.toList.all (fixed n0 k)
  | _, _ => true

def Fix (n0 : Nat) (η : Env) : Prop := ∀ i, i < n0 → η.blk i = i

theorem map_fixed {f : Value → Value} {cs : Array Value} (h : ∀ v ∈ cs.toList, f v = v) : cs.map f = cs := by
  conv => rhs; rw [← Array.map_id cs]
  exact Array.map_congr_left fun v hv => h v (by simpa using hv)

theorem fixed_spec {n0 : Nat} {η : Env} (hη : Fix n0 η) : ∀ (k : Nat) (v : Value), fixed n0 k v = true → rV η v = v := by
  intro k
  induction k with
  | zero =>
    intro v h
    cases v with
    | pointer a => cases a with
      | none => simp
      | some a => simp [fixed] at h; simp [rA, hη _ h]
    | slice a n c => cases a with
      | none => simp
      | some a => simp [fixed] at h; simp [rA, rCap, hη _ h.1, h.2]
    | map r => cases r with
      | none => simp
      | some r => simp [fixed] at h; simp [hη _ h]
    | func => simp [fixed] at h
    | iface => simp [fixed] at h
    | agg => simp [fixed] at h
    | tuple => simp [fixed] at h
    | _ => simp
  | succ k ih =>
    intro v h
    cases v with
    | pointer a => cases a with
      | none => simp
      | some a => simp [fixed] at h; simp [rA, hη _ h]
    | slice a n c => cases a with
      | none => simp
      | some a => simp [fixed] at h; simp [rA, rCap, hη _ h.1, h.2]
    | map r => cases r with
      | none => simp
      | some r => simp [fixed] at h; simp [hη _ h]
    | func fn xs ys =>
      simp only [fixed, Bool.and_eq_true, List.all_eq_true] at h
      obtain ⟨⟨h1, h2⟩, h3⟩ := h
      rw [rV_func, map_fixed fun v hv => ih v (h2 v hv), map_fixed fun v hv => ih v (h3 v hv)]
      cases fn <;> first | rfl | simp at h1
    | iface t v => simp only [fixed] at h; simp [ih v h]
    | agg cs =>
      simp only [fixed, List.all_eq_true] at h
      rw [rV_agg, map_fixed fun v hv => ih v (h v hv)]
    | tuple cs =>
      simp only [fixed, List.all_eq_true] at h
      rw [rV_tuple, map_fixed fun v hv => ih v (h v hv)]
    | _ => simp

def Agree (n : Nat) (η η' : Env) : Prop := ∀ i, i < n → η'.blk i = η.blk i ∧ η'.cap i = η.cap i
theorem Agree.refl (n : Nat) (η : Env) : Agree n η η := fun _ _ => ⟨rfl, rfl⟩
theorem Agree.trans {n m : Nat} {a b c : Env} (h : Agree n a b) (k : Agree m b c) (hm : n ≤ m) : Agree n a c :=
  fun i hi => ⟨(k i (by omega)).1.trans (h i hi).1, (k i (by omega)).2.trans (h i hi).2⟩
theorem Agree.mono {n m : Nat} {a b : Env} (h : Agree n a b) (hm : m ≤ n) : Agree m a b := fun i hi => h i (by omega)
/-- The value's own numbers are below n. -/
def Wf (n : Nat) (v : Value) : Prop := ∀ η η', Agree n η η' → rV η' v = rV η v
theorem Wf.mono {n m : Nat} {v : Value} (h : Wf n v) (hm : n ≤ m) : Wf m v := fun η η' ha => h η η' (ha.mono hm)
def WfL (n : Nat) (l : List Value) : Prop := ∀ v ∈ l, Wf n v
theorem WfL.mono {n m : Nat} {l : List Value} (h : WfL n l) (hm : n ≤ m) : WfL m l := fun v hv => (h v hv).mono hm
theorem WfL.map {n : Nat} {l : List Value} (h : WfL n l) {η η' : Env} (ha : Agree n η η') : l.map (rV η') = l.map (rV η) :=
  List.map_congr_left fun v hv => h v hv η η' ha
theorem Wf.of_fixed {n0 n k : Nat} {v : Value} (h : fixed n0 k v = true) (hn : n0 ≤ n) : Wf n v := by
  intro η η' ha
  have key : ∀ (k : Nat) (v : Value), fixed n0 k v = true → rV η' v = rV η v := by
    intro k
    induction k with
    | zero =>
      intro v h
      cases v with
      | pointer a => cases a with
        | none => simp
        | some a => simp [fixed] at h; simp [rA, (ha a.block (by omega)).1]
      | slice a n c => cases a with
        | none => simp
        | some a => simp [fixed] at h; simp [rA, rCap, h.2, (ha a.block (by omega)).1]
      | map r => cases r with
        | none => simp
        | some r => simp [fixed] at h; simp [(ha r (by omega)).1]
      | func => simp [fixed] at h
      | iface => simp [fixed] at h
      | agg => simp [fixed] at h
      | tuple => simp [fixed] at h
      | _ => simp
    | succ k ih =>
      intro v h
      cases v with
      | pointer a => cases a with
        | none => simp
        | some a => simp [fixed] at h; simp [rA, (ha a.block (by omega)).1]
      | slice a n c => cases a with
        | none => simp
        | some a => simp [fixed] at h; simp [rA, rCap, h.2, (ha a.block (by omega)).1]
      | map r => cases r with
        | none => simp
        | some r => simp [fixed] at h; simp [(ha r (by omega)).1]
      | func fn xs ys =>
        simp only [fixed, Bool.and_eq_true, List.all_eq_true] at h
        obtain ⟨⟨h1, h2⟩, h3⟩ := h
        rw [rV_func, rV_func, Array.map_congr_left (xs := xs) fun v hv => ih v (h2 v (by simpa using hv)), Array.map_congr_left (xs := ys) fun v hv => ih v (h3 v (by simpa using hv))]
        cases fn <;> first | rfl | simp at h1
      | iface t v => simp only [fixed] at h; simp [ih v h]
      | agg cs =>
        simp only [fixed, List.all_eq_true] at h
        rw [rV_agg, rV_agg, Array.map_congr_left (xs := cs) fun v hv => ih v (h v (by simpa using hv))]
      | tuple cs =>
        simp only [fixed, List.all_eq_true] at h
        rw [rV_tuple, rV_tuple, Array.map_congr_left (xs := cs) fun v hv => ih v (h v (by simpa using hv))]
      | _ => simp
  exact key k v h

theorem WfL.agg {n : Nat} {cs : Array Value} : Wf n (.agg cs) ↔ WfL n cs.toList := by
  constructor
  · intro h v hv η η' ha
    have := h η η' ha
    simp only [rV_agg, Value.agg.injEq] at this
    have h2 := congrArg Array.toList this
    simp only [Array.toList_map] at h2
    exact List.map_inj_left.1 h2 v hv
  · intro h η η' ha
    rw [rV_agg, rV_agg, Array.map_congr_left (xs := cs) fun v hv => h v (by simpa using hv) η η' ha]
theorem WfL.tuple {n : Nat} {cs : Array Value} : Wf n (.tuple cs) ↔ WfL n cs.toList := by
  constructor
  · intro h v hv η η' ha
    have := h η η' ha
    simp only [rV_tuple, Value.tuple.injEq] at this
    have h2 := congrArg Array.toList this
    simp only [Array.toList_map] at h2
    exact List.map_inj_left.1 h2 v hv
  · intro h η η' ha
    rw [rV_tuple, rV_tuple, Array.map_congr_left (xs := cs) fun v hv => h v (by simpa using hv) η η' ha]
theorem Wf.iface {n : Nat} {t : TypeId} {v : Value} : Wf n (.iface t v) ↔ Wf n v := by
  constructor
  · intro h η η' ha
    have := h η η' ha
    simpa using this
  · intro h η η' ha
    simp [h η η' ha]
theorem Wf.func {n : Nat} {fn : Fn} {xs ys : Array Value} (h : Wf n (.func fn xs ys)) : WfL n xs.toList ∧ WfL n ys.toList := by
  constructor <;>
  · intro v hv η η' ha
    have := h η η' ha
    simp only [rV_func, Value.func.injEq] at this
    first
      | exact List.map_inj_left.1 (by simpa using congrArg Array.toList this.2.1) v hv
      | exact List.map_inj_left.1 (by simpa using congrArg Array.toList this.2.2) v hv
theorem Wf.func_mk {n : Nat} {f : FuncId} {xs ys : Array Value} (hx : WfL n xs.toList) (hy : WfL n ys.toList) : Wf n (.func (.func f) xs ys) := by
  intro η η' ha
  rw [rV_func, rV_func, Array.map_congr_left (xs := xs) fun v hv => hx v (by simpa using hv) η η' ha, Array.map_congr_left (xs := ys) fun v hv => hy v (by simpa using hv) η η' ha]
  rfl
theorem Wf.ptr {n : Nat} {b o : Nat} {s : Option Nat} (hb : b < n) : Wf n (.pointer (some ⟨b, o, s⟩)) := by
  intro η η' ha
  simp [rA, (ha b hb).1]
theorem Wf.ptr_of {n : Nat} {b o o' : Nat} {s s' : Option Nat} (h : Wf n (.pointer (some ⟨b, o, s⟩))) : Wf n (.pointer (some ⟨b, o', s'⟩)) := by
  intro η η' ha
  have := h η η' ha
  simp [rA] at this
  simp [rA, this]
theorem Wf.slice {n : Nat} {b o len c : Nat} {s : Option Nat} (hb : b < n) : Wf n (.slice (some ⟨b, o, s⟩) len c) := by
  intro η η' ha
  simp [rA, rCap, (ha b hb).1, (ha b hb).2]
theorem Wf.map {n r : Nat} (hr : r < n) : Wf n (.map (some r)) := by
  intro η η' ha
  simp [(ha r hr).1]
theorem Wf.bool (n : Nat) (b : Bool) : Wf n (.bool b) := fun _ _ _ => by simp
theorem Wf.int (n : Nat) (k : IntKind) (b : Int) : Wf n (.int k b) := fun _ _ _ => by simp
theorem Wf.undef (n : Nat) : Wf n undef := fun _ _ _ => by simp
theorem cells_rV (η : Env) (v : Value) : (rV η v).cells = v.cells.map (rV η) := by
  cases v with
  | pointer a => cases a <;> simp [Value.cells]
  | slice a => cases a <;> simp [Value.cells]
  | map r => cases r <;> simp [Value.cells]
  | _ => simp [Value.cells]
theorem Wf.cells {n : Nat} {v : Value} (h : Wf n v) : WfL n v.cells.toList := by
  cases v with
  | agg cs => exact WfL.agg.1 h
  | _ => intro u hu; simp [Value.cells] at hu; subst hu; exact h
theorem oneCell_rV (η : Env) (v : Value) : (rV η v).oneCell' = v.oneCell' := by
  cases v with
  | pointer a => cases a <;> simp [Value.oneCell']
  | slice a => cases a <;> simp [Value.oneCell']
  | map r => cases r <;> simp [Value.oneCell']
  | _ => simp [Value.oneCell']
end Go.Proofs.Ytoanbjnhoggpjaa.Ev
