/-
  A closed call evaluated: any operation.
-/
import Derived.Test.YtoanbjnhoggpjaaEvN
import Derived.Laws.BytesString
namespace Go.Proofs.Ytoanbjnhoggpjaa.Ev
set_option linter.unusedSimpArgs false
set_option linter.unusedVariables false
set_option maxRecDepth 100000
open Go Go.RowKit

section
variable {P : Program} {n0 : Nat} {w0 : World} {H : Tr} {n : Nat} {η : Env} {W : World}

/-! ### Texts and bytes -/
def bytesOf : List Value → Option (List Int)
  | [] => some []
  | .int .u8 k :: l => match bytesOf l with
    | some r => some (k :: r)
    | none => none
  | _ => none
theorem bytesOf_spec : ∀ {l : List Value} {r : List Int}, bytesOf l = some r → l = r.map (Value.int .u8)
  | [], r, h => by simp [bytesOf] at h; subst h; rfl
  | v :: l, r, h => by
    cases v with
    | int k i =>
      cases k <;> simp only [bytesOf, reduceCtorEq] at h
      cases hb : bytesOf l with
      | none => rw [hb] at h; simp at h
      | some r' => rw [hb] at h; simp at h; subst h; rw [bytesOf_spec hb]; rfl
    | _ => simp [bytesOf] at h
def evText (P : Program) (H : Tr) (src dst : TypeId) (x : Value) : Option Value :=
  match P.underlying src, P.underlying dst, x with
  | some (.slice e), some .string, .slice (some ⟨b, o, none⟩) len _ => match P.underlying e, H.get b with
    | some (.int .u8), .cells cs _ _ => match readCells cs o len with
      | some l => match bytesOf l with
        | some ns => some (.string (ns.foldl (fun r n => r.push (UInt8.ofNat n.toNat)) ByteArray.empty))
        | none => none
      | none => none
    | _, _ => none
  | _, _, _ => none
theorem text_sound (h : Inq P n0 H n η W) {src dst : TypeId} {x v : Value} (he : evText P H src dst x = some v) :
    Wf n v ∧ (convert src dst (rV η x)).run P W = .ok (rV η v) W := by
  unfold evText at he
  split at he
  case h_2 => simp at he
  rename_i e b o len c hs hd
  split at he
  case h_2 => simp at he
  rename_i cs el op he' hb
  split at he
  case h_2 => simp at he
  rename_i l hl
  split at he
  case h_2 => simp at he
  rename_i ns hn
  simp only [Option.some.injEq] at he; subst he
  obtain ⟨h1, h2⟩ := readCells_spec hl
  obtain ⟨h3, h4⟩ := h.range hb h2
  have hload : (loadCells ⟨η.blk b, o, none⟩ len).run P W = .ok (ns.map (Value.int .u8)).toArray W := by
    have := run_loadCells_list (P := P) W ⟨η.blk b, o, none⟩ (l.map (rV η)) (fun j v hv => by rw [Addr.add_mid]; exact h3 j v hv)
    rw [List.length_map, h1] at this
    rw [this, bytesOf_spec hn, List.map_map]
    simp [Function.comp_def]
  refine ⟨fun _ _ _ => by simp, ?_⟩
  rw [rV_ssome, rA_mk, rV_string, run_convert_bytes_string W src dst e _ _ _ hs he' hd, run_bytesToString W _ _ _ ns hload]
def evBytes (P : Program) (H : Tr) (n : Nat) (src dst : TypeId) (x : Value) : Option Res :=
  match P.underlying src, P.underlying dst, x with
  | some .string, some (.slice e), .string s => match P.underlying e, P.info? e with
    | some (.int .u8), some i => if decide (n < most) && decide (s.size < 2 ^ 30) && decide (i.size = 1) then
        some ⟨.val (.slice (some ⟨n, 0, none⟩) s.size roomy), Tr.set depth H n (.cells (s.data.toList.map fun b => .int .u8 b.toNat) e true), n + 1⟩ else none
    | _, _ => none
  | _, _, _ => none
theorem bytes_sound (h : Inv P n0 w0 H n η W) {src dst : TypeId} {x : Value} {r : Res} (he : evBytes P H n src dst x = some r) :
    Runs P n0 w0 η n W (do pure (.value (← convert src dst (rV η x)))) r := by
  unfold evBytes at he
  split at he
  case h_2 => simp at he
  rename_i e s hs hd
  split at he
  case h_2 => simp at he
  rename_i i he' hi
  split at he
  case isFalse => simp at he
  rename_i hc
  simp only [Bool.and_eq_true, decide_eq_true_eq] at hc
  obtain ⟨⟨c1, c2⟩, c3⟩ := hc
  simp only [Option.some.injEq] at he; subst he
  obtain ⟨c, hcc, hch⟩ : ∃ c, s.size ≤ c ∧ (choose (.appendCap s.size 0 e)).run P W = .ok c W.drew :=
    ⟨_, by simp only [Question.cut]; omega, run_choose_cap _ _ _ _⟩
  let cells : Array Value := s.data.map (fun b => .int .u8 b.toNat) ++ Array.replicate (c - s.size) (.int .u8 0)
  have hsz : cells.size = c := by simp [cells]; have : s.data.size = s.size := rfl; omega
  have hrow : (newRow e cells).run P W.drew = .ok ⟨W.heap.size, 0, none⟩ (W.drew.alloc (.cells cells e)) := run_newRow e cells W.drew
  have hmark : (markStringish ⟨W.heap.size, 0, none⟩).run P (W.drew.alloc (.cells cells e)) = .ok () (W.drew.alloc (.cells cells e (c, c + 1))) := by
    have hshape : (W.drew.alloc (.cells cells e)).shape? W.heap.size = some (e, c) := by
      show (match (W.heap.push (.cells cells e))[W.heap.size]? with | some (.cells c elem _) => some (elem, c.size) | _ => none) = _
      simp [hsz]
    simp only [markStringish, shape, Sem.run_bind, Sem.run, hshape, Result.andThen_ok, freeze]
    simp only [World.freeze, Nat.one_ne_zero, if_false]
    have hheap : (W.heap.push (Obj.cells cells e)).modify W.heap.size (fun
        | .cells c1 elem (lo, hi) => .cells c1 elem (if lo == hi then (c, c + 1) else (min lo c, max hi (c + 1)))
        | o => o) = W.heap.push (.cells cells e (c, c + 1)) := by
      apply Array.ext_getElem?
      intro j
      rw [Array.getElem?_modify, Array.getElem?_push, Array.getElem?_push]
      by_cases hj : W.heap.size = j
      · subst hj; simp
      · rw [if_neg hj, if_neg (Ne.symm hj), if_neg (Ne.symm hj)]
    exact congrArg (fun hp => Result.ok () ({ W.drew with heap := hp } : World)) hheap
  refine ⟨_, _, Env.put_agree η n W.heap.size c, Nat.le_succ n, (h.drew).grow c1 c _ (.cells cells e (c, c + 1)) (fun η' ha hb hc' => ⟨?_, (Array.replicate (c - s.size) (Value.int .u8 0)).toList, (c, c + 1), ?_, ?_, fun hh => by simp at hh, fun _ => ?_⟩), Wf.slice (Nat.lt_succ_self n), ?_⟩
  · intro v hv
    simp only [List.mem_map] at hv
    obtain ⟨b, -, rfl⟩ := hv
    exact Wf.int _ _ _
  · rw [hb]
    show (W.drew.heap.push _)[W.drew.heap.size]? = _
    rw [Array.getElem?_push_size]
    congr 2
    apply Array.ext'
    simp [cells, Function.comp_def]
  · right
    have : (s.data.toList.map fun b => Value.int .u8 b.toNat).length = s.size := by simp
    rw [this]
    simp
    omega
  · have : (s.data.toList.map fun b => Value.int .u8 b.toNat).length = s.size := by simp
    rw [this, hc', cellsOf_info hi, c3]
    simp; omega
  · have hconv : (convert src dst (.string s)).run P W = .ok (.slice (some ⟨W.heap.size, 0, none⟩) s.size c) (W.drew.alloc (.cells cells e (c, c + 1))) := by
      simp only [convert, Sem.run_bind, run_underlying hs, run_underlying hd, run_underlying he', Result.andThen_ok, Conv.stringToBytes, hch]
      rw [show (newRow e (s.data.map (fun b => .int .u8 b.toNat) ++ Array.replicate (c - s.size) (.int .u8 0))) = newRow e cells from rfl, hrow]
      simp only [Result.andThen_ok, hmark, Sem.run_pure]
    rw [rV_string]
    simp only [Sem.run_bind, hconv, Result.andThen_ok, Sem.run_pure]
    simp [rA_mk, rCap, roomy]

/-- A row of bytes marked as a text's. -/
def evMark (P : Program) (n0 : Nat) (H : Tr) (n : Nat) (src dst : TypeId) (x : Value) : Option Res :=
  match P.underlying src, P.underlying dst, x with
  | some (.slice _), some (.slice e), .slice (some ⟨b, o, none⟩) _ _ => match P.underlying e, H.get b with
    | some (.int .u8), .cells cs el op => if decide (src = dst) && decide (n0 ≤ b) && decide (n < most) then some ⟨.val x, Tr.set depth H b (.cells cs el op), n⟩ else none
    | _, _ => none
  | _, _, _ => none
theorem mark_sound (h : Inv P n0 w0 H n η W) {src dst : TypeId} {x : Value} {r : Res} (hx : Wf n x) (he : evMark P n0 H n src dst x = some r) :
    Runs P n0 w0 η n W (do pure (.value (← convert src dst (rV η x)))) r := by
  unfold evMark at he
  split at he
  case h_2 => simp at he
  rename_i e0 e b o len c hs hd
  split at he
  case h_2 => simp at he
  rename_i cs el op he' hb
  split at he
  case isFalse => simp at he
  rename_i hc
  simp only [Bool.and_eq_true, decide_eq_true_eq] at hc
  obtain ⟨⟨c1, c2⟩, c3⟩ := hc
  simp only [Option.some.injEq] at he; subst he; subst c1
  have hlt := h.lt_of_live (b := b) (by rw [hb]; trivial)
  have hat := h.at' b hlt
  rw [hb] at hat
  obtain ⟨hw, ex, fz, g1, g2, g3, g4⟩ := hat
  have hsz : (cs.map (rV η) ++ ex).toArray.size = cs.length + ex.length := by simp
  have hblk : (W.freeze ⟨η.blk b, cs.length + ex.length, none⟩ 1).heap[η.blk b]? = some (.cells (cs.map (rV η) ++ ex).toArray el (if fz.1 == fz.2 then (cs.length + ex.length, cs.length + ex.length + 1) else (min fz.1 (cs.length + ex.length), max fz.2 (cs.length + ex.length + 1)))) := by
    obtain ⟨lo, hi⟩ := fz
    simp only [World.freeze, Nat.one_ne_zero, if_false, Array.getElem?_modify, if_true, g1, Option.map_some]
  have hT := h.turn (W' := W.freeze ⟨η.blk b, cs.length + ex.length, none⟩ 1) c3 hlt c2 (by rw [hb]; trivial) (.cells cs el op) (by simp [World.freeze]) (fun k hk => by
      simp only [World.freeze, Nat.one_ne_zero, if_false, Array.getElem?_modify]
      rw [if_neg (Ne.symm hk)])
    ⟨hw, ex, _, hblk, by
      by_cases hz : fz.1 = fz.2
      · rw [if_pos (by simpa using hz)]; right; exact Nat.le_refl _
      · rw [if_neg (by simpa using hz)]; right; simp; omega, g3, g4⟩
  refine ⟨η, _, .refl _ _, Nat.le_refl _, hT, hx, ?_⟩
  have hshape : W.shape? (η.blk b) = some (el, cs.length + ex.length) := by
    simp only [World.shape?, g1, hsz]
  have hmark : (markStringish ⟨η.blk b, o, none⟩).run P W = .ok () (W.freeze ⟨η.blk b, cs.length + ex.length, none⟩ 1) := by
    simp only [markStringish, shape, Sem.run_bind, Sem.run, hshape, Result.andThen_ok, freeze]
  simp only [rV_ssome, rA_mk, convert, Sem.run_bind, run_underlying hs, Result.andThen_ok]
  have he0 : e0 = e := by have := hs.symm.trans hd; simpa using this
  subst he0
  simp only [run_underlying he', Result.andThen_ok, beq_self_eq_true, Sem.run_bind, hmark, Sem.run_pure]

/-! ### Numbers -/
def maxN : IntKind → Nat
  | .i8 => 127
  | .u8 => 255
  | .i16 => 32767
  | .u16 => 65535
  | .i32 => 2147483647
  | .u32 => 4294967295
  | .i64 => 9223372036854775807
  | .u64 => 18446744073709551615
def wrapF (k : IntKind) (n : Int) : Int :=
  match n with
  | .ofNat m => match Nat.ble m (maxN k) with
    | true => .ofNat m
    | false => k.wrap n
  | .negSucc _ => k.wrap n
theorem wrapF_eq (k : IntKind) (n : Int) : wrapF k n = k.wrap n := by
  unfold wrapF
  split
  · rename_i m
    split
    · rename_i h
      have h' : m ≤ maxN k := Nat.le_of_ble_eq_true h
      have e : (Int.ofNat m) = (m : Int) := rfl
      cases k <;> simp only [maxN] at h' <;> simp [IntKind.wrap, IntKind.bits, IntKind.signed] <;> omega
    · rfl
  · rfl
def kEq : IntKind → IntKind → Bool
  | .i64, .i64 => true
  | .u8, .u8 => true
  | .u64, .u64 => true
  | .i32, .i32 => true
  | .u32, .u32 => true
  | .i16, .i16 => true
  | .u16, .u16 => true
  | .i8, .i8 => true
  | _, _ => false
theorem kEq_spec {a b : IntKind} (h : kEq a b = true) : a = b := by
  cases a <;> cases b <;> first | rfl | simp [kEq] at h
def iEq : Int → Int → Bool
  | .ofNat a, .ofNat b => Nat.beq a b
  | .negSucc a, .negSucc b => Nat.beq a b
  | _, _ => false
theorem iEq_eq (a b : Int) : iEq a b = (a == b) := by
  cases a with
  | ofNat a => cases b with
    | ofNat b =>
      simp only [iEq]
      by_cases h : a = b
      · subst h; simp
      · rw [beqF h]; symm; simp; omega
    | negSucc b => simp [iEq]
  | negSucc a => cases b with
    | ofNat b => simp [iEq]
    | negSucc b =>
      simp only [iEq]
      by_cases h : a = b
      · subst h; simp
      · rw [beqF h]; symm; simp; omega
def iLt : Int → Int → Bool
  | .ofNat a, .ofNat b => Nat.ble (a + 1) b
  | .negSucc a, .negSucc b => Nat.ble (b + 1) a
  | .negSucc _, .ofNat _ => true
  | .ofNat _, .negSucc _ => false
theorem ble_eq (a b : Nat) : Nat.ble a b = decide (a ≤ b) := by
  by_cases h : a ≤ b
  · rw [Nat.ble_eq_true_of_le h]; simp [h]
  · have : Nat.ble a b = false := by
      cases hb : Nat.ble a b with
      | false => rfl
      | true => exact absurd (Nat.le_of_ble_eq_true hb) h
    rw [this]; simp [h]
theorem iLt_eq (a b : Int) : iLt a b = decide (a < b) := by
  cases a <;> cases b <;> simp only [iLt, ble_eq] <;> first | (congr 1; apply propext; omega) | (symm; simp; omega) | skip
def intOp (op : BinOp) (k : IntKind) (a b : Int) : Option Value :=
  match op with
  | .add => some (.int k (wrapF k (a + b)))
  | .sub => some (.int k (wrapF k (a - b)))
  | .mul => some (.int k (wrapF k (a * b)))
  | .eql => some (.bool (iEq a b))
  | .neq => some (.bool (!iEq a b))
  | .lss => some (.bool (iLt a b))
  | .leq => some (.bool (!iLt b a))
  | .gtr => some (.bool (iLt b a))
  | .geq => some (.bool (!iLt a b))
  | _ => none
theorem intOp_sound {op : BinOp} {t : TypeId} {xo yo : Operand} {k : IntKind} {a b : Int} {v : Value} (h : intOp op k a b = some v) (W : World) :
    Wf n v ∧ rV η v = v ∧ (do eqGuard op t xo yo (.int k a) (.int k b); binOp op t (.int k a) (.int k b) : Sem Value).run P W = .ok v W := by
  have hg : (eqGuard op t xo yo (.int k a) (.int k b)).run P W = .ok () W := by cases op <;> simp [eqGuard]
  cases op <;> simp only [intOp, Option.some.injEq, reduceCtorEq] at h <;> subst h <;>
    refine ⟨fun _ _ _ => by simp, by simp, ?_⟩ <;> simp only [Sem.run_bind, hg, Result.andThen_ok] <;>
    (simp [binOp, Op.intArith, Op.intCmp, wrapF_eq, iEq_eq, iLt_eq]; try first | rfl | (simp [← Int.not_lt]; done))
def evBin (P : Program) (op : BinOp) (t : TypeId) (x y : Value) : Option Value :=
  match x with
  | .int k a => match y with
    | .int j b => match kEq k j with
      | true => intOp op k a b
      | false => none
    | _ => none
  | _ => evNil P op t x y
theorem bin_sound {op : BinOp} {t : TypeId} {x y v : Value} {xo yo : Operand} (he : evBin P op t x y = some v) (W : World) :
    Wf n v ∧ (do eqGuard op t xo yo (rV η x) (rV η y); binOp op t (rV η x) (rV η y) : Sem Value).run P W = .ok (rV η v) W := by
  unfold evBin at he
  split at he
  · rename_i k a
    split at he
    · rename_i j b
      split at he
      · rename_i hk
        have := kEq_spec hk
        subst this
        obtain ⟨h1, h2, h3⟩ := intOp_sound (P := P) (n := n) (η := η) (t := t) (xo := xo) (yo := yo) he W
        exact ⟨h1, by rw [rV_int, rV_int, h2]; exact h3⟩
      · simp at he
    · simp at he
  · exact nil_sound he W
def evUn (u : UnOp) (x : Value) : Option Value :=
  match u, x with
  | .not, .bool b => some (.bool (!b))
  | _, _ => none
theorem un_sound {u : UnOp} {x v : Value} (he : evUn u x = some v) (W : World) : Wf n v ∧ (Op.unary u (rV η x)).run P W = .ok (rV η v) W := by
  unfold evUn at he
  split at he
  · simp only [Option.some.injEq] at he; subst he
    exact ⟨fun _ _ _ => by simp, by simp [Op.unary]⟩
  · simp at he
def evConv (P : Program) (H : Tr) (src dst : TypeId) (x : Value) : Option Value :=
  match x with
  | .int _ i => match P.underlying src, P.underlying dst with
    | some _, some (.int k) => some (.int k (wrapF k i))
    | _, _ => none
  | _ => evText P H src dst x
theorem conv_sound (h : Inq P n0 H n η W) {src dst : TypeId} {x v : Value} (he : evConv P H src dst x = some v) : Wf n v ∧ (convert src dst (rV η x)).run P W = .ok (rV η v) W := by
  unfold evConv at he
  split at he
  · rename_i j i
    split at he
    · rename_i d k hs hd
      simp only [Option.some.injEq] at he; subst he
      refine ⟨fun _ _ _ => by simp, ?_⟩
      simp [convert, run_underlying hs, run_underlying hd, Conv.intToInt, wrapF_eq]
    · simp at he
  · exact text_sound h he

def okOp (n0 : Nat) : Operand → Bool
  | .tmp _ => true
  | .const v => fixed n0 4 v
  | .global g => decide (g < n0)
  | .func _ => true

def one (H : Tr) (n : Nat) (v : Option Value) : Option (List Res) := v.map fun v => [⟨.val v, H, n⟩]
def single (r : Option Res) : Option (List Res) := r.map fun r => [r]

/-- A call of a builtin that leaves memory alone. -/
def evCallVal (P : Program) (H : Tr) (ρ : Operand → Value) (c : Call) : Option Value :=
  match c.callee with
  | .builtin .len => evLenB P H c.argTypes.toList (c.args.toList.map ρ)
  | .builtin .cap => evCapB P c.argTypes.toList (c.args.toList.map ρ)
  | _ => none
def evCallOp (P : Program) (n0 : Nat) (H : Tr) (n : Nat) (ρ : Operand → Value) (c : Call) : Option (List Res) :=
  match c.callee with
  | .value f => (evCall P (ρ f) (c.args.toList.map ρ)).map fun out => [⟨out, H, n⟩]
  | .invoke r name => (evInvoke P H (ρ r) name (c.args.toList.map ρ)).map fun out => [⟨out, H, n⟩]
  | .builtin .append => single (evAppend P n0 H n c.argTypes.toList (c.args.toList.map ρ))
  | .builtin .copy => single (evCopy P n0 H n c.argTypes.toList (c.args.toList.map ρ))
  | .builtin .delete => single (evDelete P n0 H n c.argTypes.toList (c.args.toList.map ρ))
  | _ => none

/-- Operations that leave memory alone. -/
def evVal (P : Program) (n0 : Nat) (H : Tr) (ρ : Operand → Value) (op : Op) : Option Value :=
  match op with
  | .move x => some (ρ x)
  | .assign x => some (ρ x)
  | .pick c a b => match ρ c with
    | .bool t => some (if t then ρ a else ρ b)
    | _ => none
  | .build t parts => evBuild P n0 t (parts.toList.map fun p => (p.1, ρ p.2))
  | .load t x => evLoad P H t (ρ x)
  | .nilCheck x => match ρ x with
    | .pointer (some a) => some (.pointer (some a))
    | .func (.func f) xs ys => some (.func (.func f) xs ys)
    | _ => none
  | .binOp op t x y _ => evBin P op t (ρ x) (ρ y)
  | .unOp u _ x => evUn u (ρ x)
  | .makeFunc (.func f) first captured => some (.func (.func f) (first.toList.map ρ).toArray (captured.toList.map ρ).toArray)
  | .slice t x lo hi mx => evSlice P H t (ρ x) (lo.map ρ) (hi.map ρ) (mx.map ρ)
  | .fieldAddr t x f => evFieldAddr P t (ρ x) f
  | .field t x f => evField P t (ρ x) f
  | .indexAddr t x i => evIndexAddr P t (ρ x) (ρ i)
  | .index t x i => evIndex P t (ρ x) (ρ i)
  | .lookup t x i ok => evLookup P n0 H t (ρ x) (ρ i) ok
  | .extract t i => match ρ t with
    | .tuple vs => vs.toList[i]?
    | _ => none
  | .convert src dst x => evConv P H src dst (ρ x)
  | .entry it => evEntry H (ρ it)
  | .makeInterface t x => evMakeI P t (ρ x)
  | .typeAssert x _ t ok => evAssert P (ρ x) t ok
  | .call c => evCallVal P H ρ c
  | _ => none

/-- Operations that make or turn memory. -/
def evOp (P : Program) (n0 : Nat) (H : Tr) (n : Nat) (ρ : Operand → Value) (op : Op) : Option (List Res) :=
  match op with
  | .alloc e => single (evAlloc P n0 H n e)
  | .box e x => single (evBox H n e (ρ x))
  | .buildSlice t len parts => single (evBuildSlice P n0 H n t len (parts.toList.map fun p => (p.1, ρ p.2)))
  | .store t x y => (evStore P n0 H n t (ρ x) (ρ y)).map fun H' => [⟨.skip, H', n⟩]
  | .makeMap t r => single (evMakeMap P H n t (r.map ρ))
  | .makeSlice t l c => single (evMakeSlice P n0 H n t (ρ l) (ρ c))
  | .mapUpdate t m k x => single (evMapUpdate P n0 H n t (ρ m) (ρ k) (ρ x))
  | .insert t m k x => single (evMapUpdate P n0 H n t (ρ m) (ρ k) (ρ x))
  | .range t x => single (evRange P H n t (ρ x))
  | .next it isS => evNext H n n0 (ρ it) isS
  | .convert src dst x => match evBytes P H n src dst (ρ x) with
    | some r => some [r]
    | none => single (evMark P n0 H n src dst (ρ x))
  | .call c => evCallOp P n0 H n ρ c
  | _ => none

def notSel : Op → Bool
  | .select _ _ => false
  | _ => true
/-- An operation none of whose operands holds numbers of one's own. -/
def evPure (P : Program) (n0 : Nat) (ρ : Operand → Value) (o : Oper) : Option Value :=
  if notSel o.op && o.op.operands.toList.all fun x => fixed n0 6 (ρ x) then
    match pureRun P (execOp ρ o) with
    | some (.value v) => if fixed n0 6 v then some v else none
    | _ => none
  else none
/-- An operation that leaves memory alone. -/
def evQ (P : Program) (n0 : Nat) (H : Tr) (ρ : Operand → Value) (o : Oper) : Option Value :=
  match evVal P n0 H ρ o.op with
  | some v => some v
  | none => evPure P n0 ρ o
def evO (P : Program) (n0 : Nat) (H : Tr) (n : Nat) (ρ : Operand → Value) (o : Oper) : Option (List Res) :=
  match evVal P n0 H ρ o.op with
  | some v => some [⟨.val v, H, n⟩]
  | none => match evOp P n0 H n ρ o.op with
    | some rs => some rs
    | none => match evPure P n0 ρ o with
      | some v => some [⟨.val v, H, n⟩]
      | none => none

theorem one_spec {v : Option Value} {rs : List Res} (h : one H n v = some rs) : ∃ u, v = some u ∧ rs = [⟨.val u, H, n⟩] := by
  cases v with
  | none => simp [one] at h
  | some u => simp [one] at h; exact ⟨u, rfl, h.symm⟩
theorem single_spec {v : Option Res} {rs : List Res} (h : single v = some rs) : ∃ u, v = some u ∧ rs = [u] := by
  cases v with
  | none => simp [single] at h
  | some u => simp [single] at h; exact ⟨u, rfl, h.symm⟩
/-- From the run of the value to the run of the operation. -/
theorem Runs.of_val {s : Sem Value} {v : Value} (h : Inv P n0 w0 H n η W) (hs : Wf n v ∧ s.run P W = .ok (rV η v) W) : ∃ r ∈ [(⟨.val v, H, n⟩ : Res)], Runs P n0 w0 η n W (do pure (.value (← s))) r :=
  ⟨_, List.mem_singleton_self _, Runs.same h hs.1 (by simp only [Sem.run_bind, hs.2, Result.andThen_ok, Sem.run_pure])⟩
theorem Runs.one {s : Sem Next} {r : Res} (h : Runs P n0 w0 η n W s r) : ∃ r' ∈ [r], Runs P n0 w0 η n W s r' := ⟨r, List.mem_singleton_self _, h⟩

def Good (n0 : Nat) (η : Env) (n : Nat) (ρ ρ' : Operand → Value) : Prop := ∀ x, okOp n0 x = true → ρ' x = rV η (ρ x) ∧ Wf n (ρ x)

theorem Good.list {ρ ρ' : Operand → Value} (hg : Good n0 η n ρ ρ') {xs : Array Operand} (h : ∀ x ∈ xs, okOp n0 x = true) : xs.map ρ' = ((xs.toList.map ρ).map (rV η)).toArray ∧ WfL n (xs.toList.map ρ) := by
  constructor
  · apply Array.ext'
    simp only [Array.toList_map, List.map_map]
    exact List.map_congr_left fun x hx => (hg x (h x (by simpa using hx))).1
  · intro v hv
    simp only [List.mem_map] at hv
    obtain ⟨x, hx, rfl⟩ := hv
    exact (hg x (h x (by simpa using hx))).2
theorem Good.parts {ρ ρ' : Operand → Value} (hg : Good n0 η n ρ ρ') {ps : Array (Nat × Operand)} (h : ∀ p ∈ ps, okOp n0 p.2 = true) :
    (ps.map fun p => (p.1, ρ' p.2)) = ((ps.toList.map fun p => (p.1, ρ p.2)).map fun p => (p.1, rV η p.2)).toArray ∧ ∀ p ∈ ps.toList.map fun p => (p.1, ρ p.2), Wf n p.2 := by
  constructor
  · apply Array.ext'
    simp only [Array.toList_map, List.map_map]
    exact List.map_congr_left fun x hx => by simp [(hg x.2 (h x (by simpa using hx))).1]
  · intro p hp
    simp only [List.mem_map] at hp
    obtain ⟨x, hx, rfl⟩ := hp
    exact (hg x.2 (h x (by simpa using hx))).2
theorem Good.opt {ρ ρ' : Operand → Value} (hg : Good n0 η n ρ ρ') {x : Option Operand} (h : ∀ y, x = some y → okOp n0 y = true) : x.map ρ' = (x.map ρ).map (rV η) := by
  cases x with
  | none => rfl
  | some y => simp [(hg y (h y rfl)).1]

theorem evCallOp_sound (h : Inv P n0 w0 H n η W) {ρ ρ' : Operand → Value} (hg : Good n0 η n ρ ρ') {c : Call} {ty : TypeId} (hok : ∀ x ∈ c.operands, okOp n0 x = true) {rs : List Res} (he : evCallOp P n0 H n ρ c = some rs) :
    ∃ r ∈ rs, Runs P n0 w0 η n W (do let d ← resolve ρ' c ty; invoke d.target d.args) r := by
  obtain ⟨ha, hwa⟩ := hg.list (xs := c.args) fun x hx => hok x (by simp [Call.operands, hx])
  unfold evCallOp at he
  split at he
  · rename_i f hc
    cases ho : evCall P (ρ f) (c.args.toList.map ρ) with
    | none => rw [ho] at he; simp at he
    | some out =>
      rw [ho] at he; simp at he; subst he
      obtain ⟨hf, hwf⟩ := hg f (hok f (by simp [Call.operands, hc]))
      exact (call_sound h hc hf ha hwf hwa ho).one
  · rename_i ro name hc
    cases ho : evInvoke P H (ρ ro) name (c.args.toList.map ρ) with
    | none => rw [ho] at he; simp at he
    | some out =>
      rw [ho] at he; simp at he; subst he
      obtain ⟨hf, hwf⟩ := hg ro (hok ro (by simp [Call.operands, hc]))
      exact (invoke_sound h hc hf ha hwf hwa ho).one
  · rename_i hc
    obtain ⟨u, hu, rfl⟩ := single_spec he
    have := append_sound (ty := ty) h hwa hu
    simp only [resolve, hc, Sem.run_pure, pure_bind, invoke, builtin, ha]
    exact this.one
  · rename_i hc
    obtain ⟨u, hu, rfl⟩ := single_spec he
    have := copy_sound (ty := ty) h hu
    simp only [resolve, hc, pure_bind, invoke, builtin, ha]
    exact this.one
  · rename_i hc
    obtain ⟨u, hu, rfl⟩ := single_spec he
    have := delete_sound (ty := ty) h hu
    simp only [resolve, hc, pure_bind, invoke, builtin, ha]
    exact this.one
  · simp at he
theorem evCallVal_sound (h : Inq P n0 H n η W) {ρ ρ' : Operand → Value} (hg : Good n0 η n ρ ρ') {c : Call} {ty : TypeId} (hok : ∀ x ∈ c.operands, okOp n0 x = true) {u : Value} (he : evCallVal P H ρ c = some u) :
    Wf n u ∧ (do let d ← resolve ρ' c ty; invoke d.target d.args : Sem Next).run P W = .ok (.value (rV η u)) W := by
  obtain ⟨ha, hwa⟩ := hg.list (xs := c.args) fun x hx => hok x (by simp [Call.operands, hx])
  unfold evCallVal at he
  split at he
  · rename_i hc
    obtain ⟨h1, h2⟩ := lenB_sound (ty := ty) h he
    refine ⟨h1, ?_⟩
    simp only [resolve, hc, pure_bind, invoke, builtin, ha]
    simp only [Sem.run_bind, h2, Result.andThen_ok, Sem.run_pure]
  · rename_i hc
    obtain ⟨h1, h2⟩ := capB_sound (ty := ty) (η := η) (n := n) he W
    refine ⟨h1, ?_⟩
    simp only [resolve, hc, pure_bind, invoke, builtin, ha]
    simp only [Sem.run_bind, h2, Result.andThen_ok, Sem.run_pure]
  · simp at he
theorem lift {s : Sem Value} {v : Value} (hs : Wf n v ∧ s.run P W = .ok (rV η v) W) : Wf n v ∧ (do pure (.value (← s)) : Sem Next).run P W = .ok (.value (rV η v)) W :=
  ⟨hs.1, by simp only [Sem.run_bind, hs.2, Result.andThen_ok, Sem.run_pure]⟩
theorem evVal_sound (h : Inq P n0 H n η W) {ρ ρ' : Operand → Value} (hg : Good n0 η n ρ ρ') {o : Oper} (hok : ∀ x ∈ o.op.operands, okOp n0 x = true) {u : Value} (he : evVal P n0 H ρ o.op = some u) :
    Wf n u ∧ (execOp ρ' o).run P W = .ok (.value (rV η u)) W := by
  obtain ⟨dst, op, type, pos, after, guard⟩ := o
  dsimp only at hok he
  have O : ∀ x, x ∈ op.operands → ρ' x = rV η (ρ x) ∧ Wf n (ρ x) := fun x hx => hg x (hok x hx)
  cases op <;> simp only [evVal, reduceCtorEq] at he <;> simp only [Op.operands] at O hok <;> simp only [execOp]
  case move x =>
    simp only [Option.some.injEq] at he; subst he
    exact ⟨(O x (by simp)).2, by rw [(O x (by simp)).1]; rfl⟩
  case assign x =>
    simp only [Option.some.injEq] at he; subst he
    exact ⟨(O x (by simp)).2, by rw [(O x (by simp)).1]; rfl⟩
  case pick c a b =>
    split at he
    · rename_i t ht
      simp only [Option.some.injEq] at he; subst he
      obtain ⟨c1, -⟩ := O c (by simp)
      obtain ⟨a1, a2⟩ := O a (by simp)
      obtain ⟨b1, b2⟩ := O b (by simp)
      rw [ht, rV_bool] at c1
      refine ⟨?_, ?_⟩
      · cases t <;> assumption
      · simp only [c1, asBool, Sem.run_bind, Sem.run_pure, Result.andThen_ok]
        cases t <;> simp [a1, b1]
    · simp at he
  case build t parts =>
    obtain ⟨p1, p2⟩ := hg.parts (ps := parts) fun p hp => hok p.2 (by simpa using ⟨p.1, hp⟩)
    rw [p1]; exact lift (build_sound h p2 he)
  case load t x =>
    rw [(O x (by simp)).1]; exact lift (load_sound h he)
  case nilCheck x =>
    obtain ⟨x1, x2⟩ := O x (by simp)
    split at he
    · rename_i a hx
      simp only [Option.some.injEq] at he; subst he
      rw [hx] at x1 x2
      refine ⟨x2, ?_⟩
      rw [x1, rV_psome]
      simp
    · rename_i f xs ys hx
      simp only [Option.some.injEq] at he; subst he
      rw [hx] at x1 x2
      refine ⟨x2, ?_⟩
      rw [x1, rV_func]
      simp [rFn]
    · simp at he
  case binOp bop t x y yt =>
    obtain ⟨x1, -⟩ := O x (by simp)
    obtain ⟨y1, -⟩ := O y (by simp)
    rw [x1, y1]
    exact lift (bin_sound he W)
  case unOp u t x =>
    rw [(O x (by simp)).1]; exact lift (un_sound he W)
  case makeFunc fn first captured =>
    cases fn with
    | func f =>
      simp only [Option.some.injEq] at he; subst he
      obtain ⟨a1, a2⟩ := hg.list (xs := first) fun x hx => hok x (by simp [hx])
      obtain ⟨b1, b2⟩ := hg.list (xs := captured) fun x hx => hok x (by simp [hx])
      rw [a1, b1]
      refine lift ⟨Wf.func_mk a2 b2, ?_⟩
      simp [Instr.makeFunc, rFn]
    | _ => simp at he
  case slice t x lo hi mx =>
    obtain ⟨x1, x2⟩ := O x (by simp)
    rw [x1, hg.opt (x := lo) fun y hy => hok y (by simp [hy]), hg.opt (x := hi) fun y hy => hok y (by simp [hy]), hg.opt (x := mx) fun y hy => hok y (by simp [hy])]
    exact lift (slice_sound h x2 he)
  case fieldAddr t x f =>
    obtain ⟨x1, x2⟩ := O x (by simp)
    rw [x1]; exact lift (fieldAddr_sound x2 he W)
  case field t x f =>
    obtain ⟨x1, x2⟩ := O x (by simp)
    rw [x1]; exact lift (field_sound x2 he W)
  case indexAddr t x i =>
    obtain ⟨x1, x2⟩ := O x (by simp)
    rw [x1, (O i (by simp)).1]; exact lift (indexAddr_sound x2 he W)
  case index t x i =>
    obtain ⟨x1, x2⟩ := O x (by simp)
    rw [x1, (O i (by simp)).1]; exact lift (index_sound x2 he W)
  case lookup t x i ok =>
    rw [(O x (by simp)).1, (O i (by simp)).1]; exact lift (lookup_sound h he)
  case extract t i =>
    obtain ⟨t1, t2⟩ := O t (by simp)
    split at he
    · rename_i vs ht
      rw [ht] at t1 t2
      rw [t1]
      refine lift ⟨WfL.tuple.1 t2 u (List.mem_of_getElem? he), ?_⟩
      have : (vs.map (rV η))[i]? = some (rV η u) := by rw [Array.getElem?_map, ← Array.getElem?_toList, he]; rfl
      simp [Instr.extract, this]
    · simp at he
  case convert src dst x =>
    rw [(O x (by simp)).1]; exact lift (conv_sound h he)
  case makeInterface t x =>
    obtain ⟨x1, x2⟩ := O x (by simp)
    rw [x1]; exact lift (makeI_sound x2 he W)
  case typeAssert x xt t ok =>
    obtain ⟨x1, x2⟩ := O x (by simp)
    rw [x1]; exact lift (assert_sound x2 he W)
  case entry it =>
    rw [(O it (by simp)).1]; exact lift (entry_sound h he)
  case call c =>
    exact evCallVal_sound h hg hok he
theorem evPure_sound (hf : Fix n0 η) (hn : n0 ≤ n) {ρ ρ' : Operand → Value} (hg : Good n0 η n ρ ρ') {o : Oper} (hok : ∀ x ∈ o.op.operands, okOp n0 x = true) {u : Value} (he : evPure P n0 ρ o = some u) (W : World) :
    Wf n u ∧ (execOp ρ' o).run P W = .ok (.value (rV η u)) W := by
  unfold evPure at he
  split at he
  case isFalse => simp at he
  rename_i hall
  have hall0 := hall
  simp only [Bool.and_eq_true, List.all_eq_true] at hall
  split at he
  case h_2 => simp at he
  rename_i v hv
  split at he
  case isFalse => simp at he
  rename_i hfv
  simp only [Option.some.injEq] at he; subst he
  have hns : ∀ cs b, o.op ≠ .select cs b := by
    intro cs b e
    rw [e] at hall0
    simp [notSel] at hall0
  have : execOp ρ' o = execOp ρ o := execOp_congr o hns fun x hx => by
    rw [(hg x (hok x hx)).1]
    exact fixed_spec hf 6 _ (hall.2 x (by simpa using hx))
  refine ⟨Wf.of_fixed hfv hn, ?_⟩
  rw [this, pureRun_spec _ _ hv W, fixed_spec hf 6 _ hfv]
theorem evQ_sound (h : Inq P n0 H n η W) {ρ ρ' : Operand → Value} (hg : Good n0 η n ρ ρ') {o : Oper} (hok : ∀ x ∈ o.op.operands, okOp n0 x = true) {u : Value} (he : evQ P n0 H ρ o = some u) :
    Wf n u ∧ (execOp ρ' o).run P W = .ok (.value (rV η u)) W := by
  unfold evQ at he
  split at he
  · rename_i v hv
    simp only [Option.some.injEq] at he; subst he
    exact evVal_sound h hg hok hv
  · exact evPure_sound h.fix h.n0n hg hok he W
theorem evOp_sound (h : Inv P n0 w0 H n η W) {ρ ρ' : Operand → Value} (hg : Good n0 η n ρ ρ') {o : Oper} (hok : ∀ x ∈ o.op.operands, okOp n0 x = true) {rs : List Res} (he : evOp P n0 H n ρ o.op = some rs) :
    ∃ r ∈ rs, Runs P n0 w0 η n W (execOp ρ' o) r := by
  obtain ⟨dst, op, type, pos, after, guard⟩ := o
  dsimp only at hok he
  have O : ∀ x, x ∈ op.operands → ρ' x = rV η (ρ x) ∧ Wf n (ρ x) := fun x hx => hg x (hok x hx)
  cases op <;> simp only [evOp, reduceCtorEq] at he <;> simp only [Op.operands] at O hok <;> simp only [execOp]
  case alloc e =>
    obtain ⟨u, hu, rfl⟩ := single_spec he
    exact (alloc_sound h hu).one
  case box e x =>
    obtain ⟨u, hu, rfl⟩ := single_spec he
    obtain ⟨x1, x2⟩ := O x (by simp)
    rw [x1]; exact (box_sound h x2 hu).one
  case buildSlice t len parts =>
    obtain ⟨u, hu, rfl⟩ := single_spec he
    obtain ⟨p1, p2⟩ := hg.parts (ps := parts) fun p hp => hok p.2 (by simpa using ⟨p.1, hp⟩)
    rw [p1]; exact (buildSlice_sound h p2 hu).one
  case store t x y =>
    cases hs : evStore P n0 H n t (ρ x) (ρ y) with
    | none => rw [hs] at he; simp at he
    | some H' =>
      rw [hs] at he; simp at he; subst he
      obtain ⟨x1, -⟩ := O x (by simp)
      obtain ⟨y1, y2⟩ := O y (by simp)
      obtain ⟨W', hI, hr⟩ := store_sound h y2 hs
      refine Runs.one ⟨η, W', .refl _ _, Nat.le_refl _, hI, ?_⟩
      simp only [x1, y1, Sem.run_bind, hr, Result.andThen_ok, Sem.run_pure]
  case makeMap t r =>
    obtain ⟨u, hu, rfl⟩ := single_spec he
    rw [hg.opt (x := r) fun y hy => hok y (by simp [hy])]
    exact (makeMap_sound h hu).one
  case makeSlice t l c =>
    obtain ⟨u, hu, rfl⟩ := single_spec he
    rw [(O l (by simp)).1, (O c (by simp)).1]
    exact (makeSlice_sound h hu).one
  case mapUpdate t m k x =>
    obtain ⟨u, hu, rfl⟩ := single_spec he
    rw [(O m (by simp)).1, (O k (by simp)).1, (O x (by simp)).1]
    exact (mapUpdate_sound h (O x (by simp)).2 (O k (by simp)).2 hu).one
  case insert t m k x =>
    obtain ⟨u, hu, rfl⟩ := single_spec he
    rw [(O m (by simp)).1, (O k (by simp)).1, (O x (by simp)).1]
    exact (mapUpdate_sound h (O x (by simp)).2 (O k (by simp)).2 hu).one
  case range t x =>
    obtain ⟨u, hu, rfl⟩ := single_spec he
    rw [(O x (by simp)).1]
    exact (range_sound h hu).one
  case next it isS =>
    rw [(O it (by simp)).1]
    exact next_sound h he
  case convert src dst x =>
    rw [(O x (by simp)).1]
    split at he
    · rename_i r hr
      simp only [Option.some.injEq] at he; subst he
      exact (bytes_sound h hr).one
    · obtain ⟨u, hu, rfl⟩ := single_spec he
      exact (mark_sound h (O x (by simp)).2 hu).one
  case call c =>
    exact evCallOp_sound h hg hok he
theorem evO_sound (h : Inv P n0 w0 H n η W) {ρ ρ' : Operand → Value} (hg : Good n0 η n ρ ρ') {o : Oper} (hok : ∀ x ∈ o.op.operands, okOp n0 x = true) {rs : List Res} (he : evO P n0 H n ρ o = some rs) :
    ∃ r ∈ rs, Runs P n0 w0 η n W (execOp ρ' o) r := by
  unfold evO at he
  split at he
  · rename_i v hv
    simp only [Option.some.injEq] at he; subst he
    obtain ⟨h1, h2⟩ := evVal_sound h.toInq hg hok hv
    exact (Runs.same h h1 h2).one
  · split at he
    · rename_i rs' hr
      simp only [Option.some.injEq] at he; subst he
      exact evOp_sound h hg hok hr
    · split at he
      · rename_i v hv
        simp only [Option.some.injEq] at he; subst he
        obtain ⟨h1, h2⟩ := evPure_sound h.fix h.n0n hg hok hv W
        exact (Runs.same h h1 h2).one
      · simp at he
end
end Go.Proofs.Ytoanbjnhoggpjaa.Ev
