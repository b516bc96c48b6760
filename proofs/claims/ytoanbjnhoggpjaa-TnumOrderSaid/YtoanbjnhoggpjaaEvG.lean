/-
  A closed call evaluated: two states that are the same but for their numbers count as one.
-/
import Derived.Test.YtoanbjnhoggpjaaEvC
namespace Go.Proofs.Ytoanbjnhoggpjaa.Ev
set_option linter.unusedSimpArgs false
set_option linter.unusedVariables false
set_option maxRecDepth 100000
open Go Go.RowKit

def Env.comp (η : Env) (σ : Nat → Nat) : Env := { blk := fun i => η.blk (σ i), cap := fun i => η.cap (σ i) }
/-- The addresses' numbers turned by σ, all else the same. -/
def reqA (σ : Nat → Nat) (a b : Addr) : Bool := Nat.beq (σ a.block) b.block && Nat.beq a.off b.off && decide (a.spot = b.spot)
mutual
def req (σ : Nat → Nat) : Nat → Value → Value → Bool
  | _, .bool a, .bool b => decide (a = b)
  | _, .int k a, .int j b => kEq k j && iEq a b
  | _, .string a, .string b => decide (a.data.toList = b.data.toList)
  | _, .pointer none, .pointer none => true
  | _, .pointer (some a), .pointer (some b) => reqA σ a b
  | _, .slice none n c, .slice none m d => Nat.beq n m && Nat.beq c d
  | _, .slice (some a) n c, .slice (some b) m d => reqA σ a b && Nat.beq n m && Nat.beq c d
  | _, .map none, .map none => true
  | _, .map (some a), .map (some b) => Nat.beq (σ a) b
  | _, .nilFunc, .nilFunc => true
  | _, .nilIface, .nilIface => true
  | k + 1, .iface t v, .iface u w => Nat.beq t u && req σ k v w
  | k + 1, .agg a, .agg b => reqL σ k a.toList b.toList
  | k + 1, .tuple a, .tuple b => reqL σ k a.toList b.toList
  | k + 1, .func (.func f) a b, .func (.func g) c d => Nat.beq f g && reqL σ k a.toList c.toList && reqL σ k b.toList d.toList
  | _, _, _ => false
def reqL (σ : Nat → Nat) : Nat → List Value → List Value → Bool
  | _, [], [] => true
  | k + 1, v :: l, w :: r => req σ k v w && reqL σ k l r
  | _, _, _ => false
end
theorem ba_eq' {a b : ByteArray} (h : a.data.toList = b.data.toList) : a = b := by
  cases a with | mk x => cases b with | mk y =>
  have : x = y := Array.ext' h
  rw [this]
theorem reqA_spec {σ : Nat → Nat} {a b : Addr} (h : reqA σ a b = true) (η : Env) : rA η b = rA (η.comp σ) a ∧ b.block = σ a.block := by
  simp only [reqA, Bool.and_eq_true, decide_eq_true_eq] at h
  obtain ⟨⟨h1, h2⟩, h3⟩ := h
  have e1 := Nat.eq_of_beq_eq_true h1
  have e2 := Nat.eq_of_beq_eq_true h2
  refine ⟨?_, e1.symm⟩
  simp only [rA, Env.comp, e1, e2, h3]
theorem iEq_spec {a b : Int} (h : iEq a b = true) : a = b := by rw [iEq_eq] at h; simpa using h
theorem arr_of_list {f g : Value → Value} {a b : Array Value} (h : b.toList.map f = a.toList.map g) : b.map f = a.map g := by
  apply Array.ext'; simpa using h
theorem req_spec (σ : Nat → Nat) : ∀ k, (∀ a b, req σ k a b = true → ∀ η, rV η b = rV (η.comp σ) a) ∧ (∀ l r, reqL σ k l r = true → ∀ η, r.map (rV η) = l.map (rV (η.comp σ))) := by
  intro k
  induction k with
  | zero =>
    refine ⟨fun a b h η => ?_, fun l r h η => ?_⟩
    · unfold req at h
      split at h <;> (try simp only [Bool.and_eq_true, decide_eq_true_eq, Bool.false_eq_true, reduceCtorEq] at h)
      all_goals first
        | (exact absurd h id)
        | rfl
        | (rw [h]; simp; done)
        | (rw [kEq_spec h.1, iEq_spec h.2]; simp; done)
        | (rw [ba_eq' h]; simp; done)
        | (simp [(reqA_spec h η).1]; done)
        | (simp [Nat.eq_of_beq_eq_true h.1, Nat.eq_of_beq_eq_true h.2]; done)
        | (simp [(reqA_spec h.1.1 η).1, Nat.eq_of_beq_eq_true h.1.2, Nat.eq_of_beq_eq_true h.2, rCap, (reqA_spec h.1.1 η).2, Env.comp]; done)
        | (simp [← Nat.eq_of_beq_eq_true h, Env.comp]; done)
        | (rename_i hk; cases hk; done)
        | (simp; done)
    · cases l <;> cases r <;> simp [reqL] at h ⊢
  | succ k ih =>
    obtain ⟨ih1, ih2⟩ := ih
    refine ⟨fun a b h η => ?_, fun l r h η => ?_⟩
    · unfold req at h
      split at h <;> (try simp only [Bool.and_eq_true, decide_eq_true_eq, Bool.false_eq_true, reduceCtorEq] at h)
      all_goals first
        | (exact absurd h id)
        | rfl
        | (rw [h]; simp; done)
        | (rw [kEq_spec h.1, iEq_spec h.2]; simp; done)
        | (rw [ba_eq' h]; simp; done)
        | (simp [(reqA_spec h η).1]; done)
        | (simp [Nat.eq_of_beq_eq_true h.1, Nat.eq_of_beq_eq_true h.2]; done)
        | (simp [(reqA_spec h.1.1 η).1, Nat.eq_of_beq_eq_true h.1.2, Nat.eq_of_beq_eq_true h.2, rCap, (reqA_spec h.1.1 η).2, Env.comp]; done)
        | (simp [← Nat.eq_of_beq_eq_true h, Env.comp]; done)
        | (rename_i hk; cases hk; rw [rV_iface, rV_iface, Nat.eq_of_beq_eq_true h.1, ih1 _ _ h.2 η]; done)
        | (rename_i hk; cases hk; rw [rV_agg, rV_agg, arr_of_list (ih2 _ _ h η)]; done)
        | (rename_i hk; cases hk; rw [rV_tuple, rV_tuple, arr_of_list (ih2 _ _ h η)]; done)
        | (rename_i hk; cases hk; rw [rV_func, rV_func, arr_of_list (ih2 _ _ h.1.2 η), arr_of_list (ih2 _ _ h.2 η), Nat.eq_of_beq_eq_true h.1.1]; rfl)
        | (simp; done)
    · cases l with
      | nil => cases r <;> simp [reqL] at h ⊢
      | cons v l => cases r with
        | nil => simp [reqL] at h
        | cons w r =>
          simp only [reqL, Bool.and_eq_true] at h
          simp only [List.map_cons, ih1 _ _ h.1 η, ih2 _ _ h.2 η]
def ereqL (σ : Nat → Nat) : List MapEntry → List MapEntry → Bool
  | [], [] => true
  | e :: l, f :: r => req σ 1000 e.key f.key && req σ 1000 e.val f.val && Nat.beq e.born f.born && ereqL σ l r
  | _, _ => false
theorem ereqL_spec (σ : Nat → Nat) : ∀ {l r : List MapEntry}, ereqL σ l r = true → ∀ η, r.map (rE η) = l.map (rE (η.comp σ))
  | [], [], _, η => rfl
  | [], _ :: _, h, η => by simp [ereqL] at h
  | _ :: _, [], h, η => by simp [ereqL] at h
  | e :: l, f :: r, h, η => by
    simp only [ereqL, Bool.and_eq_true] at h
    obtain ⟨⟨⟨h1, h2⟩, h3⟩, h4⟩ := h
    simp only [List.map_cons, ereqL_spec σ h4 η, rE, (req_spec σ _).1 _ _ h1 η, (req_spec σ _).1 _ _ h2 η]
    congr 2
    exact (Nat.eq_of_beq_eq_true h3).symm
def oreq (σ : Nat → Nat) : AObj → AObj → Bool
  | .dead, .dead => true
  | .cells a e o, .cells b f p => Nat.beq e f && decide (o = p) && reqL σ 10000 a b
  | .ro a, .ro b => reqL σ 10000 a b
  | .obj (.map es c), .obj (.map fs d) => Nat.beq c d && ereqL σ es.toList fs.toList
  | .obj (.mapIter (some m) a b c), .obj (.mapIter (some m') a' b' c') => Nat.beq (σ m) m' && Nat.beq a a' && decide (b = b') && Nat.beq c c'
  | .obj (.mapIter none a b c), .obj (.mapIter none a' b' c') => Nat.beq a a' && decide (b = b') && Nat.beq c c'
  | .obj (.stringIter s p), .obj (.stringIter t q) => decide (s.data.toList = t.data.toList) && Nat.beq p q
  | _, _ => false

def find (ps : List (Nat × Nat)) (i : Nat) : Nat :=
  match ps with
  | [] => i
  | p :: l => match Nat.beq p.1 i with
    | true => p.2
    | false => find l i
def seenIn (ps : List (Nat × Nat)) (i : Nat) : Bool :=
  match ps with
  | [] => false
  | p :: l => match Nat.beq p.1 i with
    | true => true
    | false => seenIn l i
def addP (lo x y : Nat) (ps : List (Nat × Nat)) : List (Nat × Nat) :=
  match Nat.ble lo x && Nat.ble lo y && !seenIn ps x with
  | true => (x, y) :: ps
  | false => ps
mutual
/-- A guess: which number of the one answers to which of the other. -/
def pairsV (lo : Nat) : Nat → Value → Value → List (Nat × Nat) → List (Nat × Nat)
  | _, .pointer (some a), .pointer (some b), ps => addP lo a.block b.block ps
  | _, .slice (some a) _ _, .slice (some b) _ _, ps => addP lo a.block b.block ps
  | _, .map (some a), .map (some b), ps => addP lo a b ps
  | k + 1, .iface _ v, .iface _ w, ps => pairsV lo k v w ps
  | k + 1, .agg a, .agg b, ps => pairsL lo k a.toList b.toList ps
  | k + 1, .tuple a, .tuple b, ps => pairsL lo k a.toList b.toList ps
  | k + 1, .func _ a b, .func _ c d, ps => pairsL lo k b.toList d.toList (pairsL lo k a.toList c.toList ps)
  | _, _, _, ps => ps
def pairsL (lo : Nat) : Nat → List Value → List Value → List (Nat × Nat) → List (Nat × Nat)
  | k + 1, v :: l, w :: r, ps => pairsL lo k l r (pairsV lo k v w ps)
  | _, _, _, ps => ps
end
def pairsT (lo : Nat) (s t : St) : Nat → List (Nat × Nat) → List (Nat × Nat)
  | 0, ps => ps
  | k + 1, ps => pairsT lo s t k (pairsV lo 12 (s.T.get k) (t.T.get k) ps)
def swapP (ps : List (Nat × Nat)) : List (Nat × Nat) := ps.map fun p => (p.2, p.1)
/-- What is left goes in order. -/
def fillP (lo n : Nat) (ps : List (Nat × Nat)) : List (Nat × Nat) :=
  let qs := swapP ps
  let all := (List.range (n - lo)).map (· + lo)
  ps ++ (all.filter fun i => !seenIn ps i).zip (all.filter fun i => !seenIn qs i)
def permOk (ps qs : List (Nat × Nat)) (lo n : Nat) : Bool :=
  (ps ++ qs).all (fun p => Nat.ble lo p.1 && Nat.ble (p.1 + 1) n) && (List.range (n - lo)).all fun d =>
    Nat.beq (find qs (find ps (d + lo))) (d + lo) && Nat.beq (find ps (find qs (d + lo))) (d + lo) && Nat.ble lo (find ps (d + lo)) && Nat.ble (find ps (d + lo) + 1) n && Nat.ble lo (find qs (d + lo)) && Nat.ble (find qs (d + lo) + 1) n
def sameT (σ : Nat → Nat) (s t : St) : Nat → Bool
  | 0 => true
  | k + 1 => req σ 3000 (s.T.get k) (t.T.get k) && sameT σ s t k
def sameH (σ : Nat → Nat) (s t : St) : Nat → Bool
  | 0 => true
  | k + 1 => oreq σ (s.H.get k) (t.H.get (σ k)) && sameH σ s t k
def isDead : AObj → Bool
  | .dead => true
  | _ => false
def isUndef : Value → Bool
  | .tuple vs => vs.toList.isEmpty
  | _ => false
/-- Nothing stands at n or behind. -/
def Tr.bel : Tr → Nat → Bool
  | .nil, _ => true
  | .node o l r, n => (isDead o || Nat.ble 1 n) && l.bel (n / 2) && r.bel ((n - 1) / 2)
def TV.bel : TV → Nat → Bool
  | .nil, _ => true
  | .node o l r, n => (isUndef o || Nat.ble 1 n) && l.bel (n / 2) && r.bel ((n - 1) / 2)
theorem isUndef_spec {v : Value} (h : isUndef v = true) : v = undef := by
  unfold isUndef at h
  split at h
  · rename_i vs
    have : vs = #[] := by apply Array.ext'; simpa using h
    rw [this]; rfl
  · simp at h
theorem Tr.bel_spec : ∀ (t : Tr) (n : Nat), t.bel n = true → ∀ i, n ≤ i → t.get i = .dead
  | .nil, n, _, i, _ => rfl
  | .node o l r, n, h, i, hi => by
    simp only [Tr.bel, Bool.and_eq_true, Bool.or_eq_true] at h
    obtain ⟨⟨h1, h2⟩, h3⟩ := h
    rw [Tr.get_eq]
    simp only [Tr.top, Tr.left, Tr.right]
    split
    · rcases h1 with h1 | h1
      · cases o <;> first | rfl | simp [isDead] at h1
      · have := Nat.le_of_ble_eq_true h1; omega
    · split
      · exact Tr.bel_spec l _ h2 _ (by omega)
      · exact Tr.bel_spec r _ h3 _ (by omega)
theorem TV.bel_spec : ∀ (t : TV) (n : Nat), t.bel n = true → ∀ i, n ≤ i → t.get i = undef
  | .nil, n, _, i, _ => rfl
  | .node o l r, n, h, i, hi => by
    simp only [TV.bel, Bool.and_eq_true, Bool.or_eq_true] at h
    obtain ⟨⟨h1, h2⟩, h3⟩ := h
    rw [TV.get_eq]
    simp only [TV.top, TV.left, TV.right]
    split
    · rcases h1 with h1 | h1
      · exact isUndef_spec h1
      · have := Nat.le_of_ble_eq_true h1; omega
    · split
      · exact TV.bel_spec l _ h2 _ (by omega)
      · exact TV.bel_spec r _ h3 _ (by omega)
/-- The state s is the state t, but for numbers from lo on. -/
def sameSt (lo : Nat) (s t : St) : Bool :=
  let ps := fillP lo s.n (pairsT lo s t s.m [])
  let qs := swapP ps
  Nat.beq s.n t.n && Nat.beq s.m t.m && permOk ps qs lo s.n && sameT (find ps) s t s.m && sameH (find ps) s t s.n && t.H.bel t.n && t.T.bel t.m
def mergeL (lo : Nat) : List St → List St
  | [] => []
  | t :: l => t :: (mergeL lo l).filter fun s => !sameSt lo s t

theorem find_none {ps : List (Nat × Nat)} {i : Nat} (h : ∀ p ∈ ps, p.1 ≠ i) : find ps i = i := by
  induction ps with
  | nil => rfl
  | cons p l ih =>
    simp only [find, beqF (h p List.mem_cons_self)]
    exact ih fun q hq => h q (List.mem_cons_of_mem _ hq)
theorem permOk_spec {ps qs : List (Nat × Nat)} {lo n : Nat} (h : permOk ps qs lo n = true) :
    (∀ i, i < lo ∨ n ≤ i → find ps i = i ∧ find qs i = i) ∧ (∀ i, find qs (find ps i) = i) ∧ (∀ i, find ps (find qs i) = i) ∧ (∀ i, i < n → find ps i < n ∧ find qs i < n) := by
  simp only [permOk, Bool.and_eq_true, List.all_eq_true, List.mem_append, List.mem_range] at h
  obtain ⟨h1, h2⟩ := h
  have out : ∀ i, i < lo ∨ n ≤ i → find ps i = i ∧ find qs i = i := by
    intro i hi
    constructor <;>
    · refine find_none fun p hp e => ?_
      have := h1 p (by first | exact .inl hp | exact .inr hp)
      have a := Nat.le_of_ble_eq_true this.1
      have b := Nat.le_of_ble_eq_true this.2
      omega
  have inn : ∀ i, lo ≤ i → i < n → find qs (find ps i) = i ∧ find ps (find qs i) = i ∧ find ps i < n ∧ find qs i < n := by
    intro i a b
    have := h2 (i - lo) (by omega)
    rw [Nat.sub_add_cancel a] at this
    obtain ⟨⟨⟨⟨⟨g1, g2⟩, g3⟩, g4⟩, g5⟩, g6⟩ := this
    have e4 := Nat.le_of_ble_eq_true g4
    have e6 := Nat.le_of_ble_eq_true g6
    exact ⟨Nat.eq_of_beq_eq_true g1, Nat.eq_of_beq_eq_true g2, e4, e6⟩
  refine ⟨out, fun i => ?_, fun i => ?_, fun i hi => ?_⟩
  · by_cases hi : i < lo ∨ n ≤ i
    · rw [(out i hi).1, (out i hi).2]
    · exact (inn i (by omega) (by omega)).1
  · by_cases hi : i < lo ∨ n ≤ i
    · rw [(out i hi).2, (out i hi).1]
    · exact (inn i (by omega) (by omega)).2.1
  · by_cases hlo : i < lo
    · rw [(out i (.inl hlo)).1, (out i (.inl hlo)).2]; exact ⟨hi, hi⟩
    · exact ⟨(inn i (by omega) hi).2.2.1, (inn i (by omega) hi).2.2.2⟩
theorem sameT_spec {σ : Nat → Nat} {s t : St} : ∀ {k : Nat}, sameT σ s t k = true → ∀ i, i < k → req σ 3000 (s.T.get i) (t.T.get i) = true
  | 0, _, i, hi => by omega
  | k + 1, h, i, hi => by
    simp only [sameT, Bool.and_eq_true] at h
    by_cases e : i = k
    · subst e; exact h.1
    · exact sameT_spec h.2 i (by omega)
theorem sameH_spec {σ : Nat → Nat} {s t : St} : ∀ {k : Nat}, sameH σ s t k = true → ∀ i, i < k → oreq σ (s.H.get i) (t.H.get (σ i)) = true
  | 0, _, i, hi => by omega
  | k + 1, h, i, hi => by
    simp only [sameH, Bool.and_eq_true] at h
    by_cases e : i = k
    · subst e; exact h.1
    · exact sameH_spec h.2 i (by omega)
theorem comp_agree {σ : Nat → Nat} {n : Nat} (hσ : ∀ i, i < n → σ i < n) {η η' : Env} (h : Agree n η η') : Agree n (η.comp σ) (η'.comp σ) := fun i hi => h (σ i) (hσ i hi)
theorem Wf.req {σ : Nat → Nat} {n k : Nat} (hσ : ∀ i, i < n → σ i < n) {v w : Value} (h : Wf n v) (hr : req σ k v w = true) : Wf n w := fun η η' ha => by
  rw [(req_spec σ k).1 _ _ hr η, (req_spec σ k).1 _ _ hr η']
  exact h _ _ (comp_agree hσ ha)
theorem WfL.req {σ : Nat → Nat} {n k : Nat} (hσ : ∀ i, i < n → σ i < n) {l r : List Value} (h : WfL n l) (hr : reqL σ k l r = true) : WfL n r := by
  intro w hw η η' ha
  have e1 := (req_spec σ k).2 _ _ hr η
  have e2 := (req_spec σ k).2 _ _ hr η'
  have e3 := h.map (comp_agree hσ ha)
  rw [← e1, ← e2] at e3
  exact List.map_inj_left.1 e3 w hw
section
variable {P : Program} {n0 : Nat} {w0 : World} {η : Env} {W : World} {a : Act}
/-- The environment as the other state reads it. -/
theorem oreq_ok {σ τ : Nat → Nat} {n i : Nat} (hσ : ∀ i, i < n → σ i < n) (hτ : ∀ i, τ (σ i) = i) {x y : AObj} (h : OkObj P η W n i x) (hr : oreq σ x y = true) : OkObj P (η.comp τ) W n (σ i) y := by
  have hcomp : (η.comp τ).comp σ = η := by
    cases η; simp only [Env.comp, hτ]
  have hb : (η.comp τ).blk (σ i) = η.blk i := by simp [Env.comp, hτ]
  have hcp : (η.comp τ).cap (σ i) = η.cap i := by simp [Env.comp, hτ]
  unfold oreq at hr
  split at hr
  · trivial
  · rename_i cs e o cs' f p
    simp only [Bool.and_eq_true, decide_eq_true_eq] at hr
    obtain ⟨⟨r1, r2⟩, r3⟩ := hr
    have r1 := Nat.eq_of_beq_eq_true r1
    subst r1; subst r2
    obtain ⟨hw, ex, fz, g1, g2, g3, g4⟩ := h
    have e1 := (req_spec σ _).2 _ _ r3 (η.comp τ)
    rw [hcomp] at e1
    have hl : cs'.length = cs.length := by have := congrArg List.length e1; simpa using this
    refine ⟨hw.req hσ r3, ex, fz, ?_, ?_, g3, ?_⟩
    · rw [hb, e1]; exact g1
    · rw [hl]; exact g2
    · rw [hl, hcp]; exact g4
  · rename_i cs cs'
    obtain ⟨hw, g1⟩ := h
    have e1 := (req_spec σ _).2 _ _ hr (η.comp τ)
    rw [hcomp] at e1
    refine ⟨hw.req hσ hr, fun j v hv => ?_⟩
    rw [hb]
    have hlen : cs'.length = cs.length := by have := congrArg List.length e1; simpa using this
    have hj : j < cs'.length := (List.getElem?_eq_some_iff.1 hv).1
    have hu : cs[j]? = some (cs[j]'(by omega)) := List.getElem?_eq_getElem (by omega)
    rw [g1 j _ hu]
    have := congrArg (fun l => l[j]?) e1
    simp only [List.getElem?_map, hv, hu, Option.map_some, Option.some.injEq] at this
    rw [this]
  · rename_i es c fs d
    simp only [Bool.and_eq_true] at hr
    have r1 := Nat.eq_of_beq_eq_true hr.1
    subst r1
    obtain ⟨hw, -, g⟩ := h
    have e0 : ∀ ζ, rO ζ (.map fs c) = rO (ζ.comp σ) (.map es c) := fun ζ => by
      simp only [rO_map, Obj.map.injEq, and_true]
      apply Array.ext'
      have := ereqL_spec σ hr.2 ζ
      simpa using this
    refine ⟨fun ζ ζ' ha => by rw [e0, e0]; exact hw _ _ (comp_agree hσ ha), trivial, ?_⟩
    rw [e0, hcomp, hb]; exact g
  · rename_i m a1 b1 c1 m' a2 b2 c2
    simp only [Bool.and_eq_true, decide_eq_true_eq] at hr
    obtain ⟨⟨⟨r1, r2⟩, r3⟩, r4⟩ := hr
    have r1 := Nat.eq_of_beq_eq_true r1
    have r2 := Nat.eq_of_beq_eq_true r2
    have r4 := Nat.eq_of_beq_eq_true r4
    subst r1; subst r2; subst r3; subst r4
    obtain ⟨hw, -, g⟩ := h
    have e0 : ∀ ζ, rO ζ (.mapIter (some (σ m)) a1 b1 c1) = rO (ζ.comp σ) (.mapIter (some m) a1 b1 c1) := fun ζ => rfl
    refine ⟨fun ζ ζ' ha => by rw [e0, e0]; exact hw _ _ (comp_agree hσ ha), trivial, ?_⟩
    rw [e0, hcomp, hb]; exact g
  · rename_i a1 b1 c1 a2 b2 c2
    simp only [Bool.and_eq_true, decide_eq_true_eq] at hr
    obtain ⟨⟨r2, r3⟩, r4⟩ := hr
    have r2 := Nat.eq_of_beq_eq_true r2
    have r4 := Nat.eq_of_beq_eq_true r4
    subst r2; subst r3; subst r4
    obtain ⟨hw, -, g⟩ := h
    exact ⟨fun ζ ζ' ha => rfl, trivial, by rw [hb]; exact g⟩
  · rename_i s1 p1 s2 p2
    simp only [Bool.and_eq_true, decide_eq_true_eq] at hr
    have r2 := Nat.eq_of_beq_eq_true hr.2
    have r1 := ba_eq' hr.1
    subst r1; subst r2
    obtain ⟨hw, -, g⟩ := h
    exact ⟨fun ζ ζ' ha => rfl, trivial, by rw [hb]; exact g⟩
  · simp at hr
theorem oreq_live {σ : Nat → Nat} {x y : AObj} (hr : oreq σ x y = true) (h : live y) : live x := by
  unfold oreq at hr
  split at hr <;> first | exact h | trivial | simp at hr
theorem sameSt_ok {lo : Nat} {s t : St} (h : sameSt lo s t = true) (h0 : n0 ≤ lo) (hI : Inv P n0 w0 s.H s.n η W) (hF : Fr η s a) :
    ∃ η', Agree lo η η' ∧ s.n = t.n ∧ Inv P n0 w0 t.H t.n η' W ∧ Fr η' t a := by
  unfold sameSt at h
  dsimp only at h
  generalize fillP lo s.n (pairsT lo s t s.m []) = ps at h
  simp only [Bool.and_eq_true] at h
  obtain ⟨⟨⟨⟨⟨⟨h1, h2⟩, h3⟩, h4⟩, h5⟩, h6⟩, h7⟩ := h
  have hn := Nat.eq_of_beq_eq_true h1
  have hm := Nat.eq_of_beq_eq_true h2
  obtain ⟨p1, p2, p3, p4⟩ := permOk_spec h3
  have hσ : ∀ i, i < s.n → find ps i < s.n := fun i hi => (p4 i hi).1
  have hobj : ∀ j, j < s.n → oreq (find ps) (s.H.get (find (swapP ps) j)) (t.H.get j) = true := fun j hj => by
    have := sameH_spec h5 (find (swapP ps) j) (p4 j hj).2
    rwa [p3] at this
  have hcomp : (η.comp (find (swapP ps))).comp (find ps) = η := by
    cases η; simp only [Env.comp, p2]
  refine ⟨η.comp (find (swapP ps)), fun i hi => ?_, hn, ?_, ?_⟩
  · simp only [Env.comp, (p1 i (.inl hi)).2, and_self]
  · rw [← hn]
    refine InvT.to ⟨hI.bel, hI.n0n, hI.old, fun i hi => ?_, fun i g1 g2 => ?_, fun i hi => ?_, fun i j hi hj li lj e => ?_, fun i hi => ?_, fun i hi => ?_⟩
    · simp only [Env.comp, (p1 i (.inl (by omega))).2]; exact hI.fix i hi
    · simp only [Env.comp]
      refine hI.new _ ?_ (p4 i g2).2
      rcases Nat.lt_or_ge (find (swapP ps) i) n0 with h' | h'
      · have := p3 i
        rw [(p1 _ (.inl (by omega))).1] at this
        omega
      · exact h'
    · exact hI.lt _ (p4 i hi).2
    · have l1 := oreq_live (hobj i hi) li
      have l2 := oreq_live (hobj j hj) lj
      have := hI.inj _ _ (p4 i hi).2 (p4 j hj).2 l1 l2 e
      have := congrArg (find ps) this
      rwa [p3, p3] at this
    · have := oreq_ok (τ := find (swapP ps)) hσ p2 (hI.at' _ (p4 i hi).2) (hobj i hi)
      rwa [p3] at this
    · exact Tr.bel_spec _ _ h6 i (by omega)
  · refine ⟨by rw [← hm]; exact hF.small, hF.defers, by rw [← hm]; exact hF.size, fun i hi => ?_, fun i => ?_, fun i hi => ?_⟩
    · rw [hF.val i (by omega), (req_spec _ _).1 _ _ (sameT_spec h4 i (by omega)) (η.comp (find (swapP ps))), hcomp]
    · rcases Nat.lt_or_ge i t.m with h' | h'
      · rw [← hn]; exact (hF.wf i).req hσ (sameT_spec h4 i (by omega))
      · rw [TV.bel_spec _ _ h7 i h']; exact Wf.undef _
    · exact TV.bel_spec _ _ h7 i hi
theorem mergeL_all {lo : Nat} {K : St → Prop} (hc : ∀ s t, sameSt lo s t = true → K t → K s) : ∀ (l : List St), (∀ t ∈ mergeL lo l, K t) → ∀ s ∈ l, K s
  | [], _, s, hs => by simp at hs
  | t :: l, h, s, hs => by
    have ht : K t := h t List.mem_cons_self
    rcases List.mem_cons.1 hs with rfl | hs
    · exact ht
    · refine mergeL_all hc l (fun u hu => ?_) s hs
      cases hst : sameSt lo u t with
      | true => exact hc u t hst ht
      | false => exact h u (List.mem_cons_of_mem _ (List.mem_filter.2 ⟨hu, by simp [hst]⟩))
end
end Go.Proofs.Ytoanbjnhoggpjaa.Ev
