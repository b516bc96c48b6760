/-
  What the checks of images, and the places where instructions begin, are known to be, as the evaluator of closed calls takes them.
-/
import Derived.Test.YtjcnpjidkimldaaGreatDoorAQShK
import Derived.Test.YtjcnpjidkimldaaGreatDoorAQShS
import Derived.Test.YtjcnpjidkimldaaGreatDoorAEvS
namespace Go.Proofs.YtjcnpjidkimldaaGreatDoor.Is
set_option linter.unusedSimpArgs false
set_option linter.unusedVariables false
set_option maxRecDepth 100000
set_option maxRecDepth 100000
open Go.ChangeShapes Go.WideShapes Go.ChangeAt Go.RowKit

def sameI (a b : Int) : Bool := match a, b with
  | .ofNat x, .ofNat y => Nat.beq x y
  | .negSucc x, .negSucc y => Nat.beq x y
  | _, _ => false
theorem sameI_eq {a b : Int} (h : sameI a b = true) : a = b := by
  unfold sameI at h
  split at h
  · exact congrArg Int.ofNat (Nat.eq_of_beq_eq_true h)
  · exact congrArg Int.negSucc (Nat.eq_of_beq_eq_true h)
  · cases h
def byteB (a : Int) : Bool := match a with
  | .ofNat n => Nat.ble n 255
  | _ => false
def halfB (m : Nat) (a : Int) : Bool := match a with
  | .ofNat n => Nat.blt n m
  | .negSucc n => Nat.blt n m
theorem byteB_spec {a : Int} (h : byteB a = true) : 0 ≤ a ∧ a < 256 := by
  unfold byteB at h
  split at h
  · rename_i n
    have := Nat.le_of_ble_eq_true h
    constructor
    · exact Int.natCast_nonneg n
    · show (n : Int) < 256; omega
  · cases h
theorem halfB_spec {a : Int} {m : Nat} (h : halfB m a = true) : -(m : Int) ≤ a ∧ a < m := by
  unfold halfB at h
  split at h
  · rename_i n
    have := Nat.le_of_ble_eq_true h
    show -(m : Int) ≤ (n : Int) ∧ (n : Int) < m
    omega
  · rename_i n
    have := Nat.le_of_ble_eq_true h
    rw [Int.negSucc_eq]
    omega
def okB (x : I5) : Bool := match byteB x.op, byteB x.dst, byteB x.src, halfB 32768 x.off, halfB 2147483648 x.imm with
  | true, true, true, true, true => true
  | _, _, _, _, _ => false
theorem okB_spec {x : I5} (h : okB x = true) : x.ok := by
  unfold okB at h
  split at h
  · rename_i h1 h2 h3 h4 h5
    have a := byteB_spec h1
    have b := byteB_spec h2
    have c := byteB_spec h3
    have d := halfB_spec h4
    have e := halfB_spec h5
    unfold I5.ok
    omega
  · cases h
def rdI : Nat → List Value → Option (List I5)
  | 0, _ => some []
  | n + 1, cs => match cs with
    | .int .u8 a :: .int .u8 b :: .int .u8 c :: .int .i16 d :: .int .i32 e :: r => match okB ⟨a, b, c, d, e⟩ with
      | true => match rdI n r with
        | some l => some (⟨a, b, c, d, e⟩ :: l)
        | none => none
      | false => none
    | _ => none
theorem rdI_spec : ∀ {n : Nat} {cs : List Value} {l : List I5}, rdI n cs = some l → l.length = n ∧ CdOk l ∧
    ∀ j, j < n → cs[j * 5]? = some (.int .u8 (at5 l j).op) ∧ cs[j * 5 + 1]? = some (.int .u8 (at5 l j).dst) ∧ cs[j * 5 + 2]? = some (.int .u8 (at5 l j).src) ∧ cs[j * 5 + 3]? = some (.int .i16 (at5 l j).off) ∧ cs[j * 5 + 4]? = some (.int .i32 (at5 l j).imm)
  | 0, cs, l, h => by
    simp only [rdI, Option.some.injEq] at h; subst h
    exact ⟨rfl, fun x hx => (by cases hx), fun j hj => by omega⟩
  | n + 1, cs, l, h => by
    unfold rdI at h
    split at h
    · rename_i a b c d e r
      split at h
      · rename_i ho
        split at h
        · rename_i m hm
          simp only [Option.some.injEq] at h; subst h
          obtain ⟨h1, h2, h3⟩ := rdI_spec hm
          refine ⟨by simp [h1], fun x hx => ?_, fun j hj => ?_⟩
          · rcases List.mem_cons.1 hx with rfl | hx
            · exact okB_spec ho
            · exact h2 x hx
          · cases j with
            | zero => simp [at5]
            | succ j =>
              have e1 : at5 (⟨a, b, c, d, e⟩ :: m) (j + 1) = at5 m j := by simp [at5]
              have e2 : (j + 1) * 5 = j * 5 + 1 + 1 + 1 + 1 + 1 := by omega
              rw [e1, e2]
              have := h3 j (by omega)
              simpa [List.getElem?_cons_succ, Nat.add_assoc] using this
        · cases h
      · cases h
    · cases h
def rdM : Nat → List Value → Option (List M4)
  | 0, _ => some []
  | n + 1, cs => match cs with
    | .int .i64 a :: .int .i64 b :: .int .i64 c :: .int .i64 d :: r => match rdM n r with
      | some l => some (⟨a, b, c, d⟩ :: l)
      | none => none
    | _ => none
theorem rdM_spec : ∀ {n : Nat} {cs : List Value} {l : List M4}, rdM n cs = some l → l.length = n ∧
    ∀ j, j < n → cs[j * 4]? = some (.int .i64 (mpA l j).kind) ∧ cs[j * 4 + 1]? = some (.int .i64 (mpA l j).key) ∧ cs[j * 4 + 2]? = some (.int .i64 (mpA l j).value) ∧ cs[j * 4 + 3]? = some (.int .i64 (mpA l j).cap)
  | 0, cs, l, h => by
    simp only [rdM, Option.some.injEq] at h; subst h
    exact ⟨rfl, fun j hj => by omega⟩
  | n + 1, cs, l, h => by
    unfold rdM at h
    split at h
    · rename_i a b c d r
      split at h
      · rename_i m hm
        simp only [Option.some.injEq] at h; subst h
        obtain ⟨h1, h3⟩ := rdM_spec hm
        refine ⟨by simp [h1], fun j hj => ?_⟩
        cases j with
        | zero => simp [mpA]
        | succ j =>
          have e1 : mpA (⟨a, b, c, d⟩ :: m) (j + 1) = mpA m j := by simp [mpA]
          have e2 : (j + 1) * 4 = j * 4 + 1 + 1 + 1 + 1 := by omega
          rw [e1, e2]
          have := h3 j (by omega)
          simpa [List.getElem?_cons_succ, Nat.add_assoc] using this
      · cases h
    · cases h
/-- The code that a slice holds. -/
def rdCode (H : Ev.Tr) (p : Option Addr) (n : Nat) : Option (List I5) := match p with
  | none => match n with
    | 0 => some []
    | _ => none
  | some ⟨b, o, none⟩ => match Nat.ble n 100000 with
    | true => match Ev.cellsAt (H.get b) with
      | some cs => rdI n (cs.drop o)
      | none => none
    | false => none
  | _ => none
def rdMaps (H : Ev.Tr) (p : Option Addr) (n : Nat) : Option (List M4) := match p with
  | none => match n with
    | 0 => some []
    | _ => none
  | some ⟨b, o, none⟩ => match Nat.ble n 100000 with
    | true => match Ev.cellsAt (H.get b) with
      | some cs => rdM n (cs.drop o)
      | none => none
    | false => none
  | _ => none
def pR (η : Ev.Env) (p : Option Addr) : Option Addr := p.map (Ev.rA η)
def cR (η : Ev.Env) (p : Option Addr) (c : Nat) : Nat := match p with
  | none => c
  | some a => Ev.rCap η a.block c
theorem rV_slice (η : Ev.Env) (p : Option Addr) (n c : Nat) : Ev.rV η (.slice p n c) = .slice (pR η p) n (cR η p c) := by
  cases p <;> simp [pR, cR]
section
variable {P : Program} {n0 : Nat} {w0 : World} {H : Ev.Tr} {n : Nat} {η : Ev.Env} {W : World}
theorem rdCode_spec (hI : Ev.Inv P n0 w0 H n η W) {p : Option Addr} {k : Nat} {c : List I5} (h : rdCode H p k = some c) : CdSl W.heap.size W (pR η p) k c := by
  unfold rdCode at h
  split at h
  · split at h
    · simp only [Option.some.injEq] at h; subst h
      exact ⟨rfl, fun x hx => (by cases hx), by decide, .inl rfl⟩
    · cases h
  · rename_i b o
    split at h
    · rename_i hk
      split at h
      · rename_i cs hcs
        obtain ⟨h1, h2, h3⟩ := rdI_spec h
        have hlt := hI.lt_of_live (b := b) (by cases hx : H.get b with
          | dead => rw [hx] at hcs; simp [Ev.cellsAt] at hcs
          | _ => trivial)
        refine ⟨h1, h2, by have := Nat.le_of_ble_eq_true hk; omega, .inr ⟨η.blk b, o, rfl, hI.lt b hlt, fun j hj => ?_⟩⟩
        obtain ⟨a0, a1, a2, a3, a4⟩ := h3 j hj
        rw [List.getElem?_drop] at a0 a1 a2 a3 a4
        have g0 := (hI.toInq.cellAt hcs a0).1
        have g1 := (hI.toInq.cellAt hcs a1).1
        have g2 := (hI.toInq.cellAt hcs a2).1
        have g3 := (hI.toInq.cellAt hcs a3).1
        have g4 := (hI.toInq.cellAt hcs a4).1
        rw [Ev.rV_int] at g0 g1 g2 g3 g4
        exact ⟨g0, g1, g2, g3, g4⟩
      · cases h
    · cases h
  · cases h
theorem rdMaps_spec (hI : Ev.Inv P n0 w0 H n η W) {p : Option Addr} {k : Nat} {c : List M4} (h : rdMaps H p k = some c) : MpSl W.heap.size W (pR η p) k c := by
  unfold rdMaps at h
  split at h
  · split at h
    · simp only [Option.some.injEq] at h; subst h
      exact ⟨rfl, by decide, .inl rfl⟩
    · cases h
  · rename_i b o
    split at h
    · rename_i hk
      split at h
      · rename_i cs hcs
        obtain ⟨h1, h3⟩ := rdM_spec h
        have hlt := hI.lt_of_live (b := b) (by cases hx : H.get b with
          | dead => rw [hx] at hcs; simp [Ev.cellsAt] at hcs
          | _ => trivial)
        refine ⟨h1, by have := Nat.le_of_ble_eq_true hk; omega, .inr ⟨η.blk b, o, rfl, hI.lt b hlt, fun j hj => ?_⟩⟩
        obtain ⟨a0, a1, a2, a3⟩ := h3 j hj
        rw [List.getElem?_drop] at a0 a1 a2 a3
        have g0 := (hI.toInq.cellAt hcs a0).1
        have g1 := (hI.toInq.cellAt hcs a1).1
        have g2 := (hI.toInq.cellAt hcs a2).1
        have g3 := (hI.toInq.cellAt hcs a3).1
        rw [Ev.rV_int] at g0 g1 g2 g3
        exact ⟨g0, g1, g2, g3⟩
      · cases h
    · cases h
  · cases h
/-- The sizes lie where they lie. -/
def szB (H : Ev.Tr) : Bool := match H.get 0 with
  | .ro [.int .i64 a, .int .i64 b, .int .i64 c, .int .i64 d] => match sameI a 4, sameI b 2, sameI c 1, sameI d 8 with
    | true, true, true, true => true
    | _, _, _, _ => false
  | _ => false
theorem szB_spec (hn : 0 < n0) (hI : Ev.Inv P n0 w0 H n η W) (h : szB H = true) : SzOk W := by
  have h0 : η.blk 0 = 0 := hI.fix 0 hn
  unfold szB at h
  split at h
  · rename_i a b c d hH
    split at h
    · rename_i h1 h2 h3 h4
      obtain rfl := sameI_eq h1
      obtain rfl := sameI_eq h2
      obtain rfl := sameI_eq h3
      obtain rfl := sameI_eq h4
      have hc : Ev.cellsAt (H.get 0) = some [.int .i64 4, .int .i64 2, .int .i64 1, .int .i64 8] := by rw [hH]; rfl
      have g0 := (hI.toInq.cellAt hc (k := 0) rfl).1
      have g1 := (hI.toInq.cellAt hc (k := 1) rfl).1
      have g2 := (hI.toInq.cellAt hc (k := 2) rfl).1
      have g3 := (hI.toInq.cellAt hc (k := 3) rfl).1
      rw [Ev.rV_int, h0] at g0 g1 g2 g3
      exact ⟨by have := hI.old; have := hI.bel.size; omega, g0, g1, g2, g3⟩
    · cases h
  · cases h
end
def stCells (c : List I5) : List Value := (List.range c.length).map fun j => .bool (stB c j)
/-- How much room a slice of code surely has. -/
def roomC (P : Program) (H : Ev.Tr) (p : Option Addr) (cap : Nat) : Nat := match p with
  | none => cap
  | some a => Ev.roomOf P H a.block 5 cap
def orSh (P : Program) (cf sf : FuncId) : FuncId → List Value → Ev.Tr → Nat → Option Ev.Rv := fun f args H n =>
  match Nat.beq f cf with
  | true => match args with
    | [.agg ⟨[.slice pm nm cm, .slice pc nc cc]⟩] => match szB H, Nat.ble nc (roomC P H pc cc) with
      | true, true => match rdMaps H pm nm, rdCode H pc nc with
        | some l, some c => match chkI l c with
          | (a, e) => some ⟨.tuple ⟨[.int .i64 a, .int .i64 e]⟩, H, n⟩
        | _, _ => none
      | _, _ => none
    | _ => none
  | false => match Nat.beq f sf with
    | true => match args with
      | [.slice pc nc cc] => match szB H, Nat.blt n Ev.most with
        | true, true => match rdCode H pc nc with
          | some c => some ⟨.slice (some ⟨n, 0, none⟩) nc nc, Ev.Tr.set Ev.depth H n (.ro (stCells c)), n + 1⟩
          | none => none
        | _, _ => none
      | _ => none
    | false => none
theorem orSh_ok {n0 : Nat} {w0 : World} (hn : 0 < n0) : Ev.OrcOk Tryz.prog n0 w0 (orSh Tryz.prog 34 76) := by
  intro f args H n q h η W hI hw
  unfold orSh at h
  split at h
  · rename_i hf
    obtain rfl : f = 34 := Nat.eq_of_beq_eq_true hf
    split at h
    · rename_i pm nm cm pc nc cc
      split at h
      · rename_i hz hr
        split at h
        · rename_i l c hl hc
          simp only [Option.some.injEq] at h; subst h
          have hz' := szB_spec hn hI hz
          have hl' := rdMaps_spec hI hl
          have hc' := rdCode_spec hI hc
          obtain rfl := hl'.1
          obtain rfl := hc'.1
          have hcap : c.length ≤ cR η pc cc := by
            have := Nat.le_of_ble_eq_true hr
            unfold roomC at this
            split at this
            · exact this
            · rename_i a
              exact Nat.le_trans this (Ev.roomOf_le hI.toInq)
          have key := check_any (pR η pm) (pR η pc) (cR η pm cm) (cR η pc cc) l c W hz' hl' hc' hcap
          simp only [List.map_cons, List.map_nil, Ev.rV_agg, List.map_toArray, rV_slice]
          refine key.mono fun e W' h => ?_
          obtain ⟨rfl, hb⟩ := h
          refine ⟨η, .refl _ _, Nat.le_refl _, hI.below hb, ?_, ?_⟩
          · intro _ _ _; simp
          · simp
        · cases h
      · cases h
    · cases h
  · split at h
    · rename_i hf
      obtain rfl : f = 76 := Nat.eq_of_beq_eq_true hf
      split at h
      · rename_i pc nc cc
        split at h
        · rename_i hz hm
          split at h
          · rename_i c hc
            simp only [Option.some.injEq] at h; subst h
            have hz' := szB_spec hn hI hz
            have hc' := rdCode_spec hI hc
            obtain rfl := hc'.1
            have hm' : n < Ev.most := Nat.le_of_ble_eq_true hm
            have key := starts_any (pR η pc) (cR η pc cc) c W hz' hc'
            simp only [List.map_cons, List.map_nil, List.map_toArray, rV_slice]
            refine key.mono fun e W' h => ?_
            obtain ⟨g, rfl, hg1, hg2, hcell, hb⟩ := h
            have hb' := hI.below hb
            refine ⟨η.put n g 0, η.put_agree n g 0, Nat.le_succ n, hI.lay hm' g 0 _ hb hg1 hg2 ?_, Ev.Wf.slice (Nat.lt_succ_self n), ?_⟩
            · refine ⟨fun v hv => ?_, fun j v hv => ?_⟩
              · obtain ⟨j, -, rfl⟩ := List.mem_map.1 hv
                exact Ev.Wf.bool _ _
              · have hj : j < c.length := by
                  have := (List.getElem?_eq_some_iff.1 hv).1
                  simpa [stCells] using this
                have : v = .bool (stB c j) := by
                  unfold stCells at hv
                  rw [List.getElem?_map, List.getElem?_range hj] at hv
                  exact (Option.some.inj hv).symm
                subst this
                rw [Ev.Env.put_blk, Ev.rV_bool]
                exact (hcell j hj).1
            · have : c.length < 2 ^ 70 := by have := hc'.2.2.1; omega
              simp [pR, cR, Ev.rA, Ev.rCap, this]
          · cases h
        · cases h
      · cases h
    · cases h
end Go.Proofs.YtjcnpjidkimldaaGreatDoor.Is
