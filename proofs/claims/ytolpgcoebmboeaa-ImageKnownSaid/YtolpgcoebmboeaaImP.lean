/-
  Images as bytes, plainly: the form, what it tells; there and back, one form alone.
-/
import Derived.Test.YtolpgcoebmboeaaImB
namespace Go.Proofs.Ytolpgcoebmboeaa
set_option linter.unusedSimpArgs false
set_option linter.unusedVariables false
open Go.ChangeShapes Go.WideShapes Go.ChangeAt Go.RowKit

def mB (m : M4) : List Int := [m.kind, m.key, m.value, m.cap]
def b8 (x : Int) : Bool := decide (0 ≤ x) && decide (x ≤ 255)
def mOk (m : M4) : Bool := (mB m).all b8
def iB (x : I5) : List Int := encB x.op x.dst x.src x.off x.imm
def iOk (x : I5) : Bool := decide (x.dst ≤ 15) && decide (x.src ≤ 15)
def headB (n : Nat) : List Int := [(n : Int) % 256, (n : Int) / 256 % 256]
def mapsB (l : List M4) : List Int := (l.length : Int) :: l.flatMap mB
def codeB (c : List I5) : List Int := headB c.length ++ c.flatMap iB
def formB (l : List M4) (c : List I5) : List Int := mapsB l ++ codeB c
def encE (l : List M4) (c : List I5) : Int := if 4 < l.length then 3 else if 512 < c.length then 3 else if l.all mOk = false then 26 else if c.all iOk = false then 21 else 0

def mAt (zs : List Int) (k : Nat) : M4 := ⟨zs.getD k 0, zs.getD (k + 1) 0, zs.getD (k + 2) 0, zs.getD (k + 3) 0⟩
def iAt (zs : List Int) (k : Nat) : I5 := ⟨zs.getD k 0, zs.getD (k + 1) 0 % 16, zs.getD (k + 1) 0 / 16, offB (zs.getD (k + 2) 0) (zs.getD (k + 3) 0), immB (zs.getD (k + 4) 0) (zs.getD (k + 5) 0) (zs.getD (k + 6) 0) (zs.getD (k + 7) 0)⟩
def takeM : Nat → List Int → List M4
  | 0, _ => []
  | n + 1, zs => mAt zs 0 :: takeM n (zs.drop 4)
def takeI : Nat → List Int → List I5
  | 0, _ => []
  | n + 1, zs => iAt zs 0 :: takeI n (zs.drop 8)
def nM (zs : List Int) : Nat := (zs.getD 0 0).toNat
def nP (zs : List Int) : Nat := (zs.getD (1 + 4 * nM zs) 0 + 256 * zs.getD (2 + 4 * nM zs) 0).toNat
def decE (zs : List Int) : Int :=
  if 65536 < zs.length then 3 else if zs.length < 1 then 4 else if 4 < nM zs then 5 else if zs.length < 3 + 4 * nM zs then 4 else if 512 < nP zs then 5
  else if zs.length < 3 + 4 * nM zs + 8 * nP zs then 4 else if 3 + 4 * nM zs + 8 * nP zs < zs.length then 5 else 0
def decL (zs : List Int) : List M4 := takeM (nM zs) (zs.drop 1)
def decC (zs : List Int) : List I5 := takeI (nP zs) (zs.drop (3 + 4 * nM zs))
/-- Each number a byte. -/
def By (zs : List Int) : Prop := ∀ z ∈ zs, 0 ≤ z ∧ z < 256

theorem getD_drop (zs : List Int) (k j : Nat) : (zs.drop k).getD j 0 = zs.getD (k + j) 0 := by
  simp [List.getD_eq_getElem?_getD, List.getElem?_drop]
theorem getD_app_l (a b : List Int) (j : Nat) (h : j < a.length) : (a ++ b).getD j 0 = a.getD j 0 := by
  simp [List.getD_eq_getElem?_getD, List.getElem?_append_left h]
theorem getD_app_r (a b : List Int) (j : Nat) : (a ++ b).getD (a.length + j) 0 = b.getD j 0 := by
  simp [List.getD_eq_getElem?_getD, List.getElem?_append_right]
theorem getD_take (zs : List Int) (k j : Nat) (h : j < k) : (zs.take k).getD j 0 = zs.getD j 0 := by
  simp [List.getD_eq_getElem?_getD, List.getElem?_take, h]
theorem mAt_drop (zs : List Int) (k j : Nat) : mAt (zs.drop k) j = mAt zs (k + j) := by simp [mAt, getD_drop, Nat.add_assoc]
theorem iAt_drop (zs : List Int) (k j : Nat) : iAt (zs.drop k) j = iAt zs (k + j) := by simp [iAt, getD_drop, Nat.add_assoc]
theorem takeM_succ (n : Nat) (zs : List Int) : takeM (n + 1) zs = takeM n zs ++ [mAt zs (4 * n)] := by
  induction n generalizing zs with
  | zero => rfl
  | succ n ih =>
    rw [takeM, ih, takeM, mAt_drop, show 4 + 4 * n = 4 * (n + 1) by omega]
    rfl
theorem takeI_succ (n : Nat) (zs : List Int) : takeI (n + 1) zs = takeI n zs ++ [iAt zs (8 * n)] := by
  induction n generalizing zs with
  | zero => rfl
  | succ n ih =>
    rw [takeI, ih, takeI, iAt_drop, show 8 + 8 * n = 8 * (n + 1) by omega]
    rfl
theorem takeM_len (n : Nat) (zs : List Int) : (takeM n zs).length = n := by
  induction n generalizing zs with
  | zero => rfl
  | succ n ih => rw [takeM, List.length_cons, ih]
theorem takeI_len (n : Nat) (zs : List Int) : (takeI n zs).length = n := by
  induction n generalizing zs with
  | zero => rfl
  | succ n ih => rw [takeI, List.length_cons, ih]
theorem mB_len (m : M4) : (mB m).length = 4 := rfl
theorem iB_len (x : I5) : (iB x).length = 8 := rfl
theorem flatM_len (l : List M4) : (l.flatMap mB).length = 4 * l.length := by
  induction l with
  | nil => rfl
  | cons x l ih => rw [List.flatMap_cons, List.length_append, ih, mB_len, List.length_cons]; omega
theorem flatI_len (c : List I5) : (c.flatMap iB).length = 8 * c.length := by
  induction c with
  | nil => rfl
  | cons x l ih => rw [List.flatMap_cons, List.length_append, ih, iB_len, List.length_cons]; omega
theorem form_len (l : List M4) (c : List I5) : (formB l c).length = 3 + 4 * l.length + 8 * c.length := by
  simp only [formB, mapsB, codeB, headB, List.length_append, List.length_cons, List.length_nil, flatM_len, flatI_len]
  omega
theorem takeM_back (l : List M4) (r : List Int) : takeM l.length (l.flatMap mB ++ r) = l := by
  induction l with
  | nil => rfl
  | cons x l ih =>
    rw [List.length_cons, takeM, List.flatMap_cons, List.append_assoc, List.drop_append_of_le_length (by rw [mB_len]; omega), show List.drop 4 (mB x) = [] from rfl, List.nil_append, ih]
    rfl
theorem offB_back (off : Int) (o0 : -32768 ≤ off) (o1 : off < 32768) : offB (off % 65536 % 256) (off % 65536 / 256) = off := by
  unfold offB s16
  split <;> omega
theorem immB_back (imm : Int) (m0 : -2147483648 ≤ imm) (m1 : imm < 2147483648) : immB (imm % 4294967296 % 256) (imm % 4294967296 / 256 % 256) (imm % 4294967296 / 65536 % 256) (imm % 4294967296 / 16777216) = imm := by
  unfold immB s32
  split <;> omega
theorem iAt_back (x : I5) (h : x.ok) (hk : iOk x = true) (r : List Int) : iAt (iB x ++ r) 0 = x := by
  obtain ⟨h0, h1, d0, d1, s0, s1, o0, o1, m0, m1⟩ := h
  obtain ⟨hd, hs⟩ := (by simpa [iOk] using hk : x.dst ≤ 15 ∧ x.src ≤ 15)
  unfold iAt iB encB
  simp only [List.cons_append, Nat.zero_add, List.getD_cons_zero, List.getD_cons_succ]
  rw [offB_back x.off o0 o1, immB_back x.imm m0 m1, show (x.src * 16 + x.dst) % 16 = x.dst by omega, show (x.src * 16 + x.dst) / 16 = x.src by omega]
theorem takeI_back (c : List I5) (r : List Int) (h : CdOk c) (hk : c.all iOk = true) : takeI c.length (c.flatMap iB ++ r) = c := by
  induction c with
  | nil => rfl
  | cons x c ih =>
    rw [List.all_cons, Bool.and_eq_true] at hk
    rw [List.length_cons, takeI, List.flatMap_cons, List.append_assoc, iAt_back x (h x (List.mem_cons_self ..)) hk.1, List.drop_append_of_le_length (by rw [iB_len]; omega), show List.drop 8 (iB x) = [] from rfl, List.nil_append,
      ih (fun y hy => h y (List.mem_cons_of_mem _ hy)) hk.2]
theorem nM_form (l : List M4) (c : List I5) : nM (formB l c) = l.length := by
  simp [nM, formB, mapsB]
theorem form_drop1 (l : List M4) (c : List I5) : (formB l c).drop 1 = l.flatMap mB ++ codeB c := by simp [formB, mapsB]
theorem form_drop2 (l : List M4) (c : List I5) : (formB l c).drop (1 + 4 * l.length) = codeB c := by
  rw [← List.drop_drop, form_drop1, ← flatM_len, List.drop_left]
theorem form_drop3 (l : List M4) (c : List I5) : (formB l c).drop (3 + 4 * l.length) = c.flatMap iB := by
  rw [show 3 + 4 * l.length = 1 + 4 * l.length + 2 by omega, ← List.drop_drop, form_drop2]
  rfl
theorem nP_form (l : List M4) (c : List I5) (h : c.length ≤ 512) : nP (formB l c) = c.length := by
  unfold nP
  rw [nM_form, show 1 + 4 * l.length = 1 + 4 * l.length + 0 from rfl, ← getD_drop, show 2 + 4 * l.length = 1 + 4 * l.length + 1 by omega, ← getD_drop, form_drop2]
  show ((c.length : Int) % 256 + 256 * ((c.length : Int) / 256 % 256)).toNat = c.length
  omega
theorem encE_ok {l : List M4} {c : List I5} (h : encE l c = 0) : l.length ≤ 4 ∧ c.length ≤ 512 ∧ l.all mOk = true ∧ c.all iOk = true := by
  unfold encE at h
  split at h
  · exact absurd h (by decide)
  split at h
  · exact absurd h (by decide)
  split at h
  · exact absurd h (by decide)
  split at h
  · exact absurd h (by decide)
  · exact ⟨by omega, by omega, by simp_all, by simp_all⟩
theorem encE_mk {l : List M4} {c : List I5} (h1 : l.length ≤ 4) (h2 : c.length ≤ 512) (h3 : l.all mOk = true) (h4 : c.all iOk = true) : encE l c = 0 := by
  unfold encE
  rw [if_neg (by omega), if_neg (by omega), h3, h4]
  rfl
theorem decE_ok {zs : List Int} (h : decE zs = 0) : 1 ≤ zs.length ∧ nM zs ≤ 4 ∧ nP zs ≤ 512 ∧ zs.length = 3 + 4 * nM zs + 8 * nP zs := by
  unfold decE at h
  split at h
  · exact absurd h (by decide)
  split at h
  · exact absurd h (by decide)
  split at h
  · exact absurd h (by decide)
  split at h
  · exact absurd h (by decide)
  split at h
  · exact absurd h (by decide)
  split at h
  · exact absurd h (by decide)
  split at h
  · exact absurd h (by decide)
  · omega
theorem decE_mk {zs : List Int} (h1 : nM zs ≤ 4) (h2 : nP zs ≤ 512) (h3 : zs.length = 3 + 4 * nM zs + 8 * nP zs) : decE zs = 0 := by
  unfold decE
  rw [if_neg (by omega), if_neg (by omega), if_neg (by omega), if_neg (by omega), if_neg (by omega), if_neg (by omega), if_neg (by omega)]
theorem dec_form {l : List M4} {c : List I5} (h : encE l c = 0) (hc : CdOk c) : decE (formB l c) = 0 ∧ decL (formB l c) = l ∧ decC (formB l c) = c := by
  obtain ⟨h1, h2, h3, h4⟩ := encE_ok h
  refine ⟨decE_mk (by rw [nM_form]; exact h1) (by rw [nP_form l c h2]; exact h2) (by rw [nM_form, nP_form l c h2, form_len]), ?_, ?_⟩
  · unfold decL
    rw [nM_form, form_drop1, takeM_back]
  · unfold decC
    rw [nM_form, nP_form l c h2, form_drop3]
    have := takeI_back c [] hc h4
    rwa [List.append_nil] at this
theorem By.drop {zs : List Int} (h : By zs) (k : Nat) : By (zs.drop k) := fun z hz => h z (List.mem_of_mem_drop hz)
theorem By.take {zs : List Int} (h : By zs) (k : Nat) : By (zs.take k) := fun z hz => h z (List.mem_of_mem_take hz)
theorem By.at {zs : List Int} (h : By zs) (j : Nat) : 0 ≤ zs.getD j 0 ∧ zs.getD j 0 < 256 := byte_of h j
theorem By.app {a b : List Int} (h : By a) (k : By b) : By (a ++ b) := fun z hz => (List.mem_append.1 hz).elim (h z) (k z)
theorem By.iB {x : I5} (h : x.ok) (hk : iOk x = true) : By (iB x) := by
  obtain ⟨h0, h1, d0, d1, s0, s1, o0, o1, m0, m1⟩ := h
  obtain ⟨hd, hs⟩ := (by simpa [iOk] using hk : x.dst ≤ 15 ∧ x.src ≤ 15)
  intro z hz
  simp only [Proofs.Ytolpgcoebmboeaa.iB, encB, List.mem_cons, List.not_mem_nil, or_false] at hz
  rcases hz with rfl | rfl | rfl | rfl | rfl | rfl | rfl | rfl <;> omega
theorem By.flatI {c : List I5} (h : CdOk c) (hk : c.all iOk = true) : By (c.flatMap Proofs.Ytolpgcoebmboeaa.iB) := by
  intro z hz
  obtain ⟨x, hx, hz⟩ := List.mem_flatMap.1 hz
  exact By.iB (h x hx) (List.all_eq_true.1 hk x hx) z hz
theorem By.flatM {l : List M4} (hk : l.all mOk = true) : By (l.flatMap Proofs.Ytolpgcoebmboeaa.mB) := by
  intro z hz
  obtain ⟨x, hx, hz⟩ := List.mem_flatMap.1 hz
  have := List.all_eq_true.1 (List.all_eq_true.1 hk x hx) z hz
  simp [b8] at this
  omega
theorem By.head (n : Nat) : By (headB n) := by
  intro z hz
  simp only [headB, List.mem_cons, List.not_mem_nil, or_false] at hz
  rcases hz with rfl | rfl <;> omega
theorem By.form {l : List M4} {c : List I5} (h : encE l c = 0) (hc : CdOk c) : By (formB l c) := by
  obtain ⟨h1, h2, h3, h4⟩ := encE_ok h
  refine By.app ?_ (By.app (By.head _) (By.flatI hc h4))
  intro z hz
  rcases List.mem_cons.1 hz with rfl | hz
  · omega
  · exact By.flatM h3 z hz
theorem split4 {zs : List Int} (h : 4 ≤ zs.length) : zs = mB (mAt zs 0) ++ zs.drop 4 := by
  match zs, h with
  | a :: b :: c :: d :: r, _ => rfl
theorem iB_iAt {zs : List Int} (h : By zs) : iB (iAt zs 0) = [zs.getD 0 0, zs.getD 1 0, zs.getD 2 0, zs.getD 3 0, zs.getD 4 0, zs.getD 5 0, zs.getD 6 0, zs.getD 7 0] := by
  obtain ⟨l0, u0⟩ := h.at 0
  obtain ⟨l1, u1⟩ := h.at 1
  obtain ⟨l2, u2⟩ := h.at 2
  obtain ⟨l3, u3⟩ := h.at 3
  obtain ⟨l4, u4⟩ := h.at 4
  obtain ⟨l5, u5⟩ := h.at 5
  obtain ⟨l6, u6⟩ := h.at 6
  obtain ⟨l7, u7⟩ := h.at 7
  unfold iB iAt
  simp only [Nat.zero_add]
  generalize zs.getD 0 0 = b0 at *
  generalize zs.getD 1 0 = b1 at *
  generalize zs.getD 2 0 = b2 at *
  generalize zs.getD 3 0 = b3 at *
  generalize zs.getD 4 0 = b4 at *
  generalize zs.getD 5 0 = b5 at *
  generalize zs.getD 6 0 = b6 at *
  generalize zs.getD 7 0 = b7 at *
  have e1 : b1 / 16 * 16 + b1 % 16 = b1 := by omega
  have e2 : offB b2 b3 % 65536 = b2 + b3 * 256 := by unfold offB s16; split <;> omega
  have e4 : immB b4 b5 b6 b7 % 4294967296 = b4 + b5 * 256 + b6 * 65536 + b7 * 16777216 := by unfold immB s32; split <;> omega
  unfold encB
  rw [e1, e2, e4, show (b2 + b3 * 256) % 256 = b2 by omega, show (b2 + b3 * 256) / 256 = b3 by omega, show (b4 + b5 * 256 + b6 * 65536 + b7 * 16777216) % 256 = b4 by omega,
    show (b4 + b5 * 256 + b6 * 65536 + b7 * 16777216) / 256 % 256 = b5 by omega, show (b4 + b5 * 256 + b6 * 65536 + b7 * 16777216) / 65536 % 256 = b6 by omega,
    show (b4 + b5 * 256 + b6 * 65536 + b7 * 16777216) / 16777216 = b7 by omega]
theorem split8 {zs : List Int} (h : 8 ≤ zs.length) (hb : By zs) : zs = iB (iAt zs 0) ++ zs.drop 8 := by
  rw [iB_iAt hb]
  match zs, h with
  | a :: b :: c :: d :: e :: f :: g :: i :: r, _ => rfl
theorem iAt_ok {zs : List Int} (h : By zs) (k : Nat) : (iAt zs k).ok ∧ iOk (iAt zs k) = true := by
  obtain ⟨l0, u0⟩ := h.at k
  obtain ⟨l1, u1⟩ := h.at (k + 1)
  obtain ⟨l2, u2⟩ := h.at (k + 2)
  obtain ⟨l3, u3⟩ := h.at (k + 3)
  obtain ⟨l4, u4⟩ := h.at (k + 4)
  obtain ⟨l5, u5⟩ := h.at (k + 5)
  obtain ⟨l6, u6⟩ := h.at (k + 6)
  obtain ⟨l7, u7⟩ := h.at (k + 7)
  unfold iAt I5.ok iOk
  dsimp only
  generalize zs.getD k 0 = b0 at *
  generalize zs.getD (k + 1) 0 = b1 at *
  generalize zs.getD (k + 2) 0 = b2 at *
  generalize zs.getD (k + 3) 0 = b3 at *
  generalize zs.getD (k + 4) 0 = b4 at *
  generalize zs.getD (k + 5) 0 = b5 at *
  generalize zs.getD (k + 6) 0 = b6 at *
  generalize zs.getD (k + 7) 0 = b7 at *
  have e2 : -32768 ≤ offB b2 b3 ∧ offB b2 b3 < 32768 := by unfold offB s16; split <;> omega
  have e4 : -2147483648 ≤ immB b4 b5 b6 b7 ∧ immB b4 b5 b6 b7 < 2147483648 := by unfold immB s32; split <;> omega
  refine ⟨⟨l0, u0, by omega, by omega, by omega, by omega, e2.1, e2.2, e4.1, e4.2⟩, ?_⟩
  rw [decide_eq_true (by omega), decide_eq_true (by omega)]
  rfl
theorem takeI_ok (n : Nat) {zs : List Int} (h : By zs) : CdOk (takeI n zs) ∧ (takeI n zs).all iOk = true := by
  induction n generalizing zs with
  | zero => exact ⟨(fun x hx => by cases hx), rfl⟩
  | succ n ih =>
    obtain ⟨h1, h2⟩ := ih (h.drop 8)
    rw [takeI]
    refine ⟨fun x hx => ?_, by rw [List.all_cons, (iAt_ok h 0).2, h2]; rfl⟩
    rcases List.mem_cons.1 hx with rfl | hx
    · exact (iAt_ok h 0).1
    · exact h1 x hx
theorem takeM_ok (n : Nat) {zs : List Int} (h : By zs) : (takeM n zs).all mOk = true := by
  induction n generalizing zs with
  | zero => rfl
  | succ n ih =>
    rw [takeM, List.all_cons, ih (h.drop 4), Bool.and_true]
    have a0 := h.at 0
    have a1 := h.at 1
    have a2 := h.at 2
    have a3 := h.at 3
    simp only [mOk, mB, mAt, b8, List.all_cons, List.all_nil, Bool.and_true, Bool.and_eq_true, decide_eq_true_eq, Nat.zero_add]
    omega
theorem takeM_flat (n : Nat) {zs : List Int} (h : 4 * n ≤ zs.length) : zs = (takeM n zs).flatMap mB ++ zs.drop (4 * n) := by
  induction n generalizing zs with
  | zero => simp [takeM]
  | succ n ih =>
    rw [takeM, List.flatMap_cons, List.append_assoc, show 4 * (n + 1) = 4 + 4 * n by omega, ← List.drop_drop, ← ih (by rw [List.length_drop]; omega)]
    exact split4 (by omega)
theorem takeI_flat (n : Nat) {zs : List Int} (h : 8 * n ≤ zs.length) (hb : By zs) : zs = (takeI n zs).flatMap iB ++ zs.drop (8 * n) := by
  induction n generalizing zs with
  | zero => simp [takeI]
  | succ n ih =>
    rw [takeI, List.flatMap_cons, List.append_assoc, show 8 * (n + 1) = 8 + 8 * n by omega, ← List.drop_drop, ← ih (by rw [List.length_drop]; omega) (hb.drop 8)]
    exact split8 (by omega) hb
theorem two_of {r : List Int} (h : 2 ≤ r.length) : r = [r.getD 0 0, r.getD 1 0] ++ r.drop 2 := by
  match r, h with
  | a :: b :: r, _ => rfl
theorem form_dec {zs : List Int} (hb : By zs) (h : decE zs = 0) : encE (decL zs) (decC zs) = 0 ∧ formB (decL zs) (decC zs) = zs ∧ CdOk (decC zs) := by
  obtain ⟨h0, h1, h2, h3⟩ := decE_ok h
  have l1 : (decL zs).length = nM zs := takeM_len _ _
  have l2 : (decC zs).length = nP zs := takeI_len _ _
  refine ⟨encE_mk (by omega) (by omega) (takeM_ok _ (hb.drop 1)) (takeI_ok _ (hb.drop _)).2, ?_, (takeI_ok _ (hb.drop _)).1⟩
  have e1 : zs = zs.getD 0 0 :: zs.drop 1 := by
    match zs, h0 with
    | a :: r, _ => rfl
  have e2 : zs.drop 1 = (decL zs).flatMap mB ++ zs.drop (1 + 4 * nM zs) := by
    have := takeM_flat (nM zs) (zs := zs.drop 1) (by rw [List.length_drop]; omega)
    rw [List.drop_drop] at this
    exact this
  have b1 := hb.at (1 + 4 * nM zs)
  have b2 := hb.at (2 + 4 * nM zs)
  have e3 : zs.drop (1 + 4 * nM zs) = headB (nP zs) ++ zs.drop (3 + 4 * nM zs) := by
    have g0 := getD_drop zs (1 + 4 * nM zs) 0
    have g1 := getD_drop zs (1 + 4 * nM zs) 1
    have gl : (zs.drop (1 + 4 * nM zs)).length = 2 + 8 * nP zs := by rw [List.length_drop]; omega
    have gd : (zs.drop (1 + 4 * nM zs)).drop 2 = zs.drop (3 + 4 * nM zs) := by rw [List.drop_drop]; congr 1; omega
    have hp : (nP zs : Int) = zs.getD (1 + 4 * nM zs) 0 + 256 * zs.getD (2 + 4 * nM zs) 0 := by unfold nP; omega
    rw [show 1 + 4 * nM zs + 1 = 2 + 4 * nM zs by omega] at g1
    rw [Nat.add_zero] at g0
    unfold headB
    rw [show (nP zs : Int) % 256 = zs.getD (1 + 4 * nM zs) 0 by omega, show (nP zs : Int) / 256 % 256 = zs.getD (2 + 4 * nM zs) 0 by omega, ← g0, ← g1, ← gd]
    exact two_of (by omega)
  have e4 : zs.drop (3 + 4 * nM zs) = (decC zs).flatMap iB := by
    have := takeI_flat (nP zs) (zs := zs.drop (3 + 4 * nM zs)) (by rw [List.length_drop]; omega) (hb.drop _)
    rw [List.drop_drop, List.drop_eq_nil_of_le (by omega : zs.length ≤ 3 + 4 * nM zs + 8 * nP zs), List.append_nil] at this
    exact this
  unfold formB mapsB codeB
  rw [l1, l2, ← e4, ← e3, List.cons_append, ← e2, show (nM zs : Int) = zs.getD 0 0 by have := hb.at 0; unfold nM; omega]
  exact e1.symm
theorem nM_take {zs : List Int} {k : Nat} (h : 0 < k) : nM (zs.take k) = nM zs := by unfold nM; rw [getD_take _ _ _ h]
theorem nP_take {zs : List Int} {k : Nat} (h : 3 + 4 * nM zs ≤ k) : nP (zs.take k) = nP zs := by
  unfold nP
  rw [nM_take (by omega), getD_take _ _ _ (by omega), getD_take _ _ _ (by omega)]
theorem dec_cut {zs : List Int} (h : decE zs = 0) {k : Nat} (hk : k < zs.length) : decE (zs.take k) = 4 := by
  obtain ⟨h0, h1, h2, h3⟩ := decE_ok h
  have hl : (zs.take k).length = k := by rw [List.length_take]; omega
  unfold decE
  rw [hl, if_neg (by omega)]
  by_cases k0 : k < 1
  · rw [if_pos k0]
  rw [if_neg k0, nM_take (by omega), if_neg (by omega)]
  by_cases k1 : k < 3 + 4 * nM zs
  · rw [if_pos k1]
  rw [if_neg k1, nP_take (by omega), if_neg (by omega), if_pos (by omega)]
theorem dec_more {zs : List Int} (h : decE zs = 0) (z : Int) : decE (zs ++ [z]) = 5 := by
  obtain ⟨h0, h1, h2, h3⟩ := decE_ok h
  have m : nM (zs ++ [z]) = nM zs := by unfold nM; rw [getD_app_l _ _ _ (by omega)]
  have p : nP (zs ++ [z]) = nP zs := by unfold nP; rw [m, getD_app_l _ _ _ (by omega), getD_app_l _ _ _ (by omega)]
  unfold decE
  rw [m, p, List.length_append, List.length_singleton, if_neg (by omega), if_neg (by omega), if_neg (by omega), if_neg (by omega), if_neg (by omega), if_neg (by omega), if_pos (by omega)]
/-- No form is the beginning of another one. -/
theorem dec_apart {xs ys : List Int} (hx : decE xs = 0) (hy : decE ys = 0) (h : xs.length ≤ ys.length) (he : xs = ys.take xs.length) : xs = ys := by
  by_cases hl : xs.length < ys.length
  · have := dec_cut hy hl
    rw [← he, hx] at this
    exact absurd this (by decide)
  · rw [he, List.take_of_length_le (by omega)]
theorem form_inj {l l' : List M4} {c c' : List I5} (h : encE l c = 0) (h' : encE l' c' = 0) (hc : CdOk c) (hc' : CdOk c') (e : formB l c = formB l' c') : l = l' ∧ c = c' := by
  have a := dec_form h hc
  have b := dec_form h' hc'
  rw [e] at a
  exact ⟨a.2.1.symm.trans b.2.1, a.2.2.symm.trans b.2.2⟩
end Go.Proofs.Ytolpgcoebmboeaa
