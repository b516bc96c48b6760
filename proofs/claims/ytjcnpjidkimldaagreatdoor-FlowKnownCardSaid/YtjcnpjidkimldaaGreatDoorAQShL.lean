/-
  Contract of standing, with one answer. What is wrong with an image, plainly. Contract of leading: where the instructions of a program lead.
-/
import Derived.Test.YtjcnpjidkimldaaGreatDoorAQShC
import Derived.Test.YtjcnpjidkimldaaGreatDoorAQShS
namespace Go.Proofs.YtjcnpjidkimldaaGreatDoor.Is
set_option linter.unusedSimpArgs false
set_option linter.unusedVariables false
set_option maxRecDepth 100000
open Go.ChangeShapes Go.WideShapes Go.ChangeAt Go.RowKit

theorem p_of_e (x : I5) (h : x.e = 0) : x.p = 1 ∨ x.p = 2 := by
  have h' : uE x.op x.dst x.src x.off x.imm = 0 := h
  unfold I5.p uP
  rw [if_neg (by simpa using h')]
  split
  · exact .inr rfl
  split
  · exact .inr rfl
  · exact .inl rfl
theorem standing_I (x : I5) (hx : x.ok) (r : Option I5) (maps : Int) (b off n cap : Nat) (w : World) (hz : SzOk w) (hn : 0 < n) (hcap : n ≤ cap) (hi : InsAt w b off x) (hr : NextAt w b off n r) :
    Calls Tryz.prog 74 #[.slice (some ⟨b, off, none⟩) n cap, .int .i64 maps] w fun e w' => e = .returned (.int .i64 (aloneE maps x r)) ∧ Below w.heap.size w w' := by
  unfold aloneE
  by_cases hE : x.e = 0
  · have hE' : (x.e != 0) = false := by simpa using hE
    rw [if_neg (by simpa using hE)]
    rcases p_of_e x hE with hP | hP
    · rw [if_neg (by rw [hP]; omega)]
      cases k1 : (x.t.cls == 11)
      · have k1' : ¬ x.t.cls = 11 := by simpa using k1
        rw [if_neg (fun h => k1' h.1)]
        cases k4 : (x.t.cls == 8)
        · have k4' : ¬ x.t.cls = 8 := by simpa using k4
          rw [if_neg (fun h => k4' h.1)]
          exact standing_pg x hx r maps b off n cap w hz hn hcap hi hr hE' hP k1 k4
        · have k4' : x.t.cls = 8 := by simpa using k4
          cases k5 : helpB x.imm
          · rw [if_pos ⟨k4', rfl⟩]
            exact standing_pd x hx r maps b off n cap w hz hn hcap hi hr hE' hP k1 k4 k5
          · rw [if_neg (fun h => by cases h.2)]
            exact standing_pf x hx r maps b off n cap w hz hn hcap hi hr hE' hP k1 k4 k5
      · have k1' : x.t.cls = 11 := by simpa using k1
        by_cases k2 : x.imm < 0
        · rw [if_pos ⟨k1', .inl k2⟩]
          exact standing_pa x hx r maps b off n cap w hz hn hcap hi hr hE' hP k1 (by simpa using k2)
        by_cases k3 : maps ≤ x.imm
        · rw [if_pos ⟨k1', .inr k3⟩]
          exact standing_pb x hx r maps b off n cap w hz hn hcap hi hr hE' hP k1 (by simpa using k2) (by simpa using k3)
        rw [if_neg (fun h => h.2.elim k2 k3), if_neg (fun h => by have := h.1; omega)]
        exact standing_pc x hx r maps b off n cap w hz hn hcap hi hr hE' hP k1 (by simpa using k2) (by simpa using k3) (by rw [k1']; rfl)
    · cases hB : wholeB x.t.cls r
      · rw [if_pos ⟨hP, rfl⟩]
        exact standing_h x hx r maps b off n cap w hz hn hcap hi hr hE' hP hB
      rw [if_neg (fun h => by cases h.2)]
      cases k1 : (x.t.cls == 11)
      · have k1' : ¬ x.t.cls = 11 := by simpa using k1
        rw [if_neg (fun h => k1' h.1)]
        cases k4 : (x.t.cls == 8)
        · have k4' : ¬ x.t.cls = 8 := by simpa using k4
          rw [if_neg (fun h => k4' h.1)]
          exact standing_qg x hx r maps b off n cap w hz hn hcap hi hr hE' hP hB k1 k4
        · have k4' : x.t.cls = 8 := by simpa using k4
          cases k5 : helpB x.imm
          · rw [if_pos ⟨k4', rfl⟩]
            exact standing_qd x hx r maps b off n cap w hz hn hcap hi hr hE' hP hB k1 k4 k5
          · rw [if_neg (fun h => by cases h.2)]
            exact standing_qf x hx r maps b off n cap w hz hn hcap hi hr hE' hP hB k1 k4 k5
      · have k1' : x.t.cls = 11 := by simpa using k1
        by_cases k2 : x.imm < 0
        · rw [if_pos ⟨k1', .inl k2⟩]
          exact standing_qa x hx r maps b off n cap w hz hn hcap hi hr hE' hP hB k1 (by simpa using k2)
        by_cases k3 : maps ≤ x.imm
        · rw [if_pos ⟨k1', .inr k3⟩]
          exact standing_qb x hx r maps b off n cap w hz hn hcap hi hr hE' hP hB k1 (by simpa using k2) (by simpa using k3)
        rw [if_neg (fun h => h.2.elim k2 k3), if_neg (fun h => by have := h.1; omega)]
        exact standing_qc x hx r maps b off n cap w hz hn hcap hi hr hE' hP hB k1 (by simpa using k2) (by simpa using k3) (by rw [k1']; rfl)
  · rw [if_pos hE]
    exact standing_e x hx r maps b off n cap w hz hn hcap hi hr (by simpa using hE)
end Go.Proofs.YtjcnpjidkimldaaGreatDoor.Is

namespace Go.Proofs.YtjcnpjidkimldaaGreatDoor.Is
set_option linter.unusedSimpArgs false
set_option linter.unusedVariables false
set_option maxRecDepth 100000
open Go.ChangeShapes Go.WideShapes Go.ChangeAt Go.RowKit

def nextI (c : List I5) (k : Nat) : Option I5 := c[k + 1]?
def alE (maps : Int) (c : List I5) (k : Nat) : Int := aloneE maps (at5 c k) (nextI c k)
/-- Is there, among the first k places, an instruction that begins and is p? The first such. -/
def firstB (c : List I5) (p : Nat → Bool) (k : Nat) : Option Nat := (begsTo c k).find? p
def tgI (c : List I5) (k : Nat) : Int := (k : Int) + 1 + (at5 c k).off
def goesB (c : List I5) (k : Nat) : Bool := decide (0 ≤ tgI c k) && (decide (tgI c k < c.length) && stB c (tgI c k).toNat)
def jmpB (c : List I5) (k : Nat) : Bool := ((at5 c k).t.cls == 6 || (at5 c k).t.cls == 7) && !goesB c k
def lastB (c : List I5) : Nat := (begsTo c c.length).getLastD 0
def endB (cls : Int) : Bool := cls == 7 || cls == 9
def leadI (c : List I5) : Int × Int := match firstB c (jmpB c) c.length with
  | some k => (k, 24)
  | none => if endB (at5 c (lastB c)).t.cls then (0, 0) else (lastB c, 25)
def badM (l : List M4) : Option Nat := (List.range l.length).find? fun k => !mayB (l.getD k ⟨0, 0, 0, 0⟩)
def chkI (l : List M4) (c : List I5) : Int × Int :=
  if c.length = 0 then (0, 4) else if 512 < c.length ∨ 4 < l.length then (0, 3) else
  match badM l with
  | some k => (k, 26)
  | none => match firstB c (fun k => alE l.length c k != 0) c.length with
    | some k => (k, alE l.length c k)
    | none => leadI c

theorem find_snoc_some {p : Nat → Bool} {l : List Nat} {x : Nat} (h : l.find? p = none) (hx : p x = true) : (l ++ [x]).find? p = some x := by
  rw [List.find?_append, h]
  simp [hx]
theorem begsTo_pre (c : List I5) {k n : Nat} (h : k ≤ n) : ∃ r, begsTo c n = begsTo c k ++ r := by
  induction n with
  | zero => exact ⟨[], by rw [show k = 0 by omega]; simp⟩
  | succ n ih =>
    by_cases e : k = n + 1
    · exact ⟨[], by rw [e]; simp⟩
    · obtain ⟨r, hr⟩ := ih (by omega)
      exact ⟨r ++ if stB c n then [n] else [], by rw [begsTo_succ, hr, List.append_assoc]⟩
theorem firstB_mono {c : List I5} {p : Nat → Bool} {k j n : Nat} (h : firstB c p k = some j) (hn : k ≤ n) : firstB c p n = some j := by
  obtain ⟨r, hr⟩ := begsTo_pre c hn
  unfold firstB at h ⊢
  rw [hr, List.find?_append, h]
  rfl
/-- The first one is found at the place at which it is met. -/
theorem firstB_at {c : List I5} {p : Nat → Bool} {k n : Nat} (h : ∀ j, j < k → stB c j = true → p j = false) (hs : stB c k = true) (hp : p k = true) (hn : k < n) : firstB c p n = some k := by
  have h1 : firstB c p k = none := by
    unfold firstB
    rw [List.find?_eq_none]
    intro j hj
    obtain ⟨a, b⟩ := mem_begsTo.1 hj
    simp [h j a b]
  have h2 : firstB c p (k + 1) = some k := by
    unfold firstB at h1 ⊢
    rw [begsTo_succ, if_pos hs]
    exact find_snoc_some h1 hp
  exact firstB_mono h2 (by omega)
theorem firstB_none {c : List I5} {p : Nat → Bool} {n : Nat} : firstB c p n = none ↔ ∀ j, j < n → stB c j = true → p j = false := by
  unfold firstB
  rw [List.find?_eq_none]
  constructor
  · intro h j hj hs
    simpa using h j (mem_begsTo.2 ⟨hj, hs⟩)
  · intro h j hj
    obtain ⟨a, b⟩ := mem_begsTo.1 hj
    simp [h j a b]
end Go.Proofs.YtjcnpjidkimldaaGreatDoor.Is

namespace Go.Proofs.YtjcnpjidkimldaaGreatDoor.Is
set_option linter.unusedSimpArgs false
set_option linter.unusedVariables false
set_option maxRecDepth 100000
open Go.ChangeShapes Go.WideShapes Go.ChangeAt Go.RowKit Go.Shelf
attribute [local go_sem] Oper.semAt_some

theorem target_5 (at_ : Int) (x : I5) (hx : x.ok) (w : World) (h0 : 0 ≤ at_) (h1 : at_ < 4611686018427387904) : Calls Tryz.prog 105 #[.int .i64 at_, x.V] w fun e w' => e = .returned (.int .i64 (at_ + 1 + x.off)) ∧ Below w.heap.size w w' := by
  obtain ⟨_, _, _, _, _, _, o0, o1, _⟩ := hx
  exact target_I at_ x.op x.dst x.src x.off x.imm w h0 h1 o0 o1

theorem getLastD_in (l : List Nat) : ∀ x, l.getLastD x ∈ x :: l := by
  induction l with
  | nil => intro x; simp
  | cons y l ih => intro x; rw [List.getLastD_cons]; exact List.mem_cons_of_mem _ (ih y)
theorem begsTo_ne {c : List I5} {n : Nat} (h : 0 < n) : 0 ∈ begsTo c n := mem_begsTo.2 ⟨h, rfl⟩
theorem lastB_mem {c : List I5} (h : 0 < c.length) : lastB c ∈ begsTo c c.length := by
  unfold lastB
  have h1 := begsTo_ne (c := c) h
  cases hb : begsTo c c.length with
  | nil => rw [hb] at h1; cases h1
  | cons x l => rw [List.getLastD_cons]; exact getLastD_in l x
theorem lastB_lt {c : List I5} (h : 0 < c.length) : lastB c < c.length := (mem_begsTo.1 (lastB_mem h)).1
/-- What lies in leading's own memory between two rounds. -/
def LdI (w : World) (p : Option Addr) (cap : Nat) (c : List I5) (g s : Nat) (v : Int) (W : World) : Prop :=
  Boxed W w.heap.size 25 (.slice p c.length cap) ∧ Boxed W (w.heap.size + 1) 3 (.int .i64 0) ∧ Boxed W (w.heap.size + 1 + 1) 27 (.int .i64 0) ∧
    Boxed W s 165 (.slice (some ⟨g, 0, none⟩) c.length c.length) ∧ Boxed W (s + 1) 3 (.int .i64 v) ∧ ∀ j, j < c.length → W.cell? ⟨g, j, none⟩ = some (.bool (stB c j))
theorem ldI_step {w : World} {p : Option Addr} {cap : Nat} {c : List I5} {g s : Nat} {v : Int} {X Y : World} {row : Option Nat} (h : LdI w p cap c g s v X) (hg : X.grownBy Y row) (hr : ∀ r, row = some r → ∃ o : Obj, X.heap[r]? = some o ∧ o.isCells = false) : LdI w p cap c g s v Y := by
  obtain ⟨h1, h2, h3, h4, h5, h6⟩ := h
  exact ⟨boxed_own (β := Unit) _ _ (fun _ => _) () X Y row h1 hg hr, boxed_own (β := Unit) _ _ (fun _ => _) () X Y row h2 hg hr, boxed_own (β := Unit) _ _ (fun _ => _) () X Y row h3 hg hr, boxed_own (β := Unit) _ _ (fun _ => _) () X Y row h4 hg hr, boxed_own (β := Unit) _ _ (fun _ => _) () X Y row h5 hg hr, fun j hj => cell_kept (h6 j hj) hg hr⟩
theorem LdI.kept {w : World} {p : Option Addr} {cap : Nat} {c : List I5} {g s : Nat} {v : Int} {X Y : World} (h : LdI w p cap c g s v X) (hb : Below X.heap.size X Y) : LdI w p cap c g s v Y :=
  ldI_step h (grown_of_below hb) (fun r e => by cases e)
theorem LdI.store {w : World} {p : Option Addr} {cap : Nat} {c : List I5} {g s : Nat} {v : Int} {X : World} (h : LdI w p cap c g s v X) (u : Int) (hs : w.heap.size + 1 + 1 < s) (hg : g < s) : LdI w p cap c g s u (X.setCell ⟨s + 1, 0, none⟩ (.int .i64 u)) := by
  obtain ⟨h1, h2, h3, h4, h5, h6⟩ := h
  exact ⟨h1.other (by omega) _, h2.other (by omega) _, h3.other (by omega) _, h4.other (by omega) _, h5.set _, fun j hj => by rw [set_oth (by intro e; injection e with e1; omega)]; exact h6 j hj⟩
theorem KpS.ko {n₀ Bs : Nat} {A B : World} (h : Below A.heap.size A B) : KeepsOthers A B := KeepsOthers.of_grownBy (grown_of_below h) (fun j o e => by cases e)
theorem InsAt.step {X Y : World} {row : Option Nat} {b o : Nat} {x : I5} (h : InsAt X b o x) (hg : X.grownBy Y row) (hr : ∀ r, row = some r → ∃ o : Obj, X.heap[r]? = some o ∧ o.isCells = false) : InsAt Y b o x := by
  obtain ⟨a0, a1, a2, a3, a4⟩ := h
  exact ⟨cell_kept a0 hg hr, cell_kept a1 hg hr, cell_kept a2 hg hr, cell_kept a3 hg hr, cell_kept a4 hg hr⟩
theorem InsAt.oth {X : World} {b o : Nat} {x : I5} (h : InsAt X b o x) {q : Addr} (hq : q.block ≠ b) (u : Value) : InsAt (X.setCell q u) b o x := by
  obtain ⟨a0, a1, a2, a3, a4⟩ := h
  refine ⟨?_, ?_, ?_, ?_, ?_⟩
  all_goals rw [set_oth (by intro e; exact hq (by rw [e]))]; assumption
theorem InsAt.new (X : World) (x : I5) (t : TypeId) : InsAt (X.alloc (.cells #[.int .u8 x.op, .int .u8 x.dst, .int .u8 x.src, .int .i16 x.off, .int .i32 x.imm] t)) X.heap.size 0 x := by
  refine ⟨?_, ?_, ?_, ?_, ?_⟩ <;> simp
def lstD (c : List I5) (pre : List (Bg c)) : Nat := (pre.map (·.1)).getLastD 0
theorem lstD_snoc (c : List I5) (pre : List (Bg c)) (x : Bg c) : lstD c (pre ++ [x]) = x.1 := by
  unfold lstD
  rw [List.map_append]
  simp

set_option maxRecDepth 100000 in
set_option maxHeartbeats 2000000 in
theorem leading_any (p : Option Addr) (cap : Nat) (c : List I5) (w : World) (hz : SzOk w) (hsl : CdSl w.heap.size w p c.length c) (h0 : 0 < c.length) (hcap : c.length ≤ cap) : Calls Tryz.prog 75 #[.slice p c.length cap] w fun e w' => e = .returned (.tuple #[.int .i64 (leadI c).1, .int .i64 (leadI c).2]) ∧ Below w.heap.size w w' := by
  refine (callsIn_wide (n := 8)).1 ?_
  refine callsIn_of_wp_marks Tryz.func75 rfl trivial ?_ rfl
  simp only [Tryz.ntmps75, List.size_toArray, List.length_cons, List.length_nil, Nat.reduceAdd, Nat.reduceSub, Array.replicate_succ, Array.replicate_zero, List.push_toArray, List.append_toArray, List.nil_append, List.cons_append]
  have HSL := hid hsl
  have HZ := hid hz
  have hlen := hsl.2.2.1
  clear hsl hz
  gi_wp2
  refine ⟨trivial, ?_⟩
  have b1 := Boxed.new w 25 (.slice p c.length cap)
  have b2 := Boxed.new (w.alloc (.cells #[.slice p c.length cap] 25)) 3 (.int .i64 0)
  have b3 := Boxed.new ((w.alloc (.cells #[.slice p c.length cap] 25)).alloc (.cells #[.int .i64 0] 3)) 27 (.int .i64 0)
  have hBa : Below w.heap.size w (((w.alloc (.cells #[.slice p c.length cap] 25)).alloc (.cells #[.int .i64 0] 3)).alloc (.cells #[.int .i64 0] 27)) := (((Below.refl _ w).alloc (Nat.le_refl _) _).alloc (by simp) _).alloc (by simp; omega) _
  replace b1 := (b1.alloc (.cells #[.int .i64 0] 3)).alloc (.cells #[.int .i64 0] 27)
  replace b2 := b2.alloc (.cells #[.int .i64 0] 27)
  simp only [World.size_alloc] at b2 b3
  generalize hWa : ((w.alloc (.cells #[.slice p c.length cap] 25)).alloc (.cells #[.int .i64 0] 3)).alloc (.cells #[.int .i64 0] 27) = Wa at *
  have hsza : Wa.heap.size = w.heap.size + 1 + 1 + 1 := by rw [← hWa]; simp
  refine (callsIn_wide.2 (starts_any p cap c Wa (HZ.out.below hBa) ((HSL.out.kept hBa (Nat.le_refl _)).wide hBa.size))).mono ?_
  rintro e w1 ⟨g, rfl, hg0, hg1, hcs, hB1⟩
  have HCS := hid hcs
  clear hcs hWa
  replace b1 := b1.kept (grown_of_below hB1) (by simp)
  replace b2 := b2.kept (grown_of_below hB1) (by simp)
  replace b3 := b3.kept (grown_of_below hB1) (by simp)
  have hsz1 := hB1.size
  have k1 := b1.cell
  have q1 : w.heap.size < w1.heap.size := by omega
  have q2 : w.heap.size + 1 < w1.heap.size := by omega
  have q3 : w.heap.size + 1 + 1 < w1.heap.size := by omega
  gi_wp2
  refine ⟨trivial, ?_⟩
  refine (callsIn_wide.2 (begins_at _ _ _ _)).mono ?_
  rintro e w' ⟨rfl, rfl⟩
  gi_wp2
  have s1 := ((Boxed.new w1 165 (.slice (some ⟨g, 0, none⟩) c.length c.length)).alloc (.cells #[.int .i64 0] 3)).alloc (.cells #[.slice p c.length cap] 25)
  have s2 := (Boxed.new (w1.alloc (.cells #[.slice (some ⟨g, 0, none⟩) c.length c.length] 165)) 3 (.int .i64 0)).alloc (.cells #[.slice p c.length cap] 25)
  have s3 := Boxed.new ((w1.alloc (.cells #[.slice (some ⟨g, 0, none⟩) c.length c.length] 165)).alloc (.cells #[.int .i64 0] 3)) 25 (.slice p c.length cap)
  simp only [World.size_alloc] at s2 s3
  have hB2 : Below w1.heap.size w1 (((w1.alloc (.cells #[.slice (some ⟨g, 0, none⟩) c.length c.length] 165)).alloc (.cells #[.int .i64 0] 3)).alloc (.cells #[.slice p c.length cap] 25)) := (((Below.refl _ w1).alloc (Nat.le_refl _) _).alloc (by simp) _).alloc (by simp; omega) _
  have hszW : (((w1.alloc (.cells #[.slice (some ⟨g, 0, none⟩) c.length c.length] 165)).alloc (.cells #[.int .i64 0] 3)).alloc (.cells #[.slice p c.length cap] 25)).heap.size = w1.heap.size + 1 + 1 + 1 := by simp
  have hBw : Below w.heap.size w w1 := hBa.trans (hB1.mono (by omega))
  have hBW : Below w.heap.size w (((w1.alloc (.cells #[.slice (some ⟨g, 0, none⟩) c.length c.length] 165)).alloc (.cells #[.int .i64 0] 3)).alloc (.cells #[.slice p c.length cap] 25)) := hBw.trans (hB2.mono (by omega))
  have hL0 : LdI w p cap c g w1.heap.size 0 (((w1.alloc (.cells #[.slice (some ⟨g, 0, none⟩) c.length c.length] 165)).alloc (.cells #[.int .i64 0] 3)).alloc (.cells #[.slice p c.length cap] 25)) :=
    ⟨b1.kept (grown_of_below hB2) (by simp), b2.kept (grown_of_below hB2) (by simp), b3.kept (grown_of_below hB2) (by simp), s1, s2, fun j hj => (hB2.cell (p := ⟨g, j, none⟩) hg1).trans (HCS.out j hj).1⟩
  clear b1 b2 b3 s1 s2 k1 HCS hB2 hBw hB1
  generalize (((w1.alloc (.cells #[.slice (some ⟨g, 0, none⟩) c.length c.length] 165)).alloc (.cells #[.int .i64 0] 3)).alloc (.cells #[.slice p c.length cap] 25)) = W0 at *
  generalize w1.heap.size = s at *
  refine wpIn_rangeFunc_ownH rfl (by omega) (gf := 114) (lb := #[.pointer (some ⟨s + 1 + 1, 0, none⟩)]) rfl trivial (enters_of Tryz.func114 (by kernel_rfl) rfl)
    (begins_stops _ (by omega) (s + 1 + 1) w.heap.size cap p c W0 hBW.size HZ.out.1 (by omega) (HZ.out.below hBW) (HSL.out.kept hBW (Nat.le_refl _)) s3.cell) KpS.trans (KpS.put hBW.size (by omega)) (Below.refl _ _) (fun _ => rfl)
    (fun pre W => (LdI w p cap c g s (lstD c pre : Int) W ∧ ∀ y ∈ pre, jmpB c y.1 = false) ∧ Below w.heap.size w W)
    (fun cd pre W => (cd = .ret ∧ ∃ ini x, pre = ini ++ [x] ∧ (∀ y ∈ ini, jmpB c y.1 = false) ∧ jmpB c x.1 = true ∧ Boxed W (w.heap.size + 1) 3 (.int .i64 (x.1 : Int)) ∧ Boxed W (w.heap.size + 1 + 1) 27 (.int .i64 24)) ∧ Below w.heap.size w W)
    (OwnFrom.and (Own.from (fun s X Y row hs hg hr => ⟨ldI_step hs.1 hg hr, hs.2⟩) _) (ownFrom_below (Nat.le_refl _) hBW.size))
    (fun cd => OwnFrom.and (Own.from (fun s X Y row hs hg hr => by obtain ⟨hc, ini, x, e1, e2, e3, e4, e5⟩ := hs; exact ⟨hc, ini, x, e1, e2, e3, boxed_own (β := Unit) _ _ (fun _ => _) () X Y row e4 hg hr, boxed_own (β := Unit) _ _ (fun _ => _) () X Y row e5 hg hr⟩) _) (ownFrom_below (Nat.le_refl _) hBW.size))
    ⟨⟨hL0, by simp⟩, hBW⟩
    (fun x a' W => ∃ Bx, s + 1 < Bx ∧ InsAt W Bx 0 (at5 c x.1) ∧ a' = { tmps := #[.slice p c.length cap, .pointer (some ⟨w.heap.size, 0, none⟩), .pointer (some ⟨w.heap.size + 1, 0, none⟩), .pointer (some ⟨w.heap.size + 1 + 1, 0, none⟩), .pointer (some ⟨s, 0, none⟩), .pointer (some ⟨s + 1, 0, none⟩), .int .i64 (x.1 : Int), .pointer (some ⟨Bx, 0, none⟩), undef, .slice p c.length cap, .slice (some ⟨g, 0, none⟩) c.length c.length, .slice p c.length cap, .func (Fn.func 114) #[] #[.pointer (some ⟨s + 1 + 1, 0, none⟩)], .int .i64 (x.1 : Int), (at5 c x.1).V, undef, undef, undef, undef, undef, undef, undef, undef, undef, undef, undef, undef, undef, undef, undef, undef, undef, undef, undef, undef, undef, undef, undef, undef, undef, undef, undef, undef, undef, undef, undef, undef, undef, undef], defers := [] })
    (fun x a' _ X Y row hs hg hr => by obtain ⟨Bx, h1, h2, h3⟩ := hs; exact ⟨Bx, h1, h2.step hg (fun r e => (hr r e).2), h3⟩)
    ?assign ?body ?done ?stop
  case assign =>
    rintro l pre x W K ⟨⟨hL, hn⟩, hB⟩ hK
    dsimp only [bgV, I5.V]
    gi_wp2
    have hs := hL.2.2.2.2.1.lt
    exact hK _ _ ((KeepsOthers.alloc _ _).from _) (KpS.new ((Below.refl _ W).alloc (Nat.le_refl _) _)) ⟨⟨hL.kept ((Below.refl _ W).alloc (Nat.le_refl _) _), hn⟩, hB.alloc hB.size _⟩ ⟨W.heap.size, hs, InsAt.new _ _ _, rfl⟩
  case body =>
    rintro l pre x a' W hl ⟨r, hr⟩ ⟨⟨hL, hn⟩, hB⟩ ⟨Bx, hBx, hI, rfl⟩ hlt
    obtain ⟨k, hk, hst⟩ := x
    dsimp only at hI ⊢
    have hok := at5_ok HSL.out.2.1 k
    have f5 := hL.2.2.2.2.1.frozen
    have k5 := hL.2.2.2.2.1.cell
    have hL2 := hL.store (k : Int) (by omega) (by omega)
    have hI2 := hI.oth (q := ⟨s + 1, 0, none⟩) (by simp; omega) (.int .i64 (k : Int))
    have hB2 := hB.setCell (p := ⟨s + 1, 0, none⟩) (by simp; omega) (.int .i64 (k : Int))
    have hK2 := (KpS.refl (n₀ := w.heap.size) (Bs := s + 1 + 1) W).setCell (p := ⟨s + 1, 0, none⟩) (by simp; omega) (by simp) (.int .i64 (k : Int))
    have hO2 := (KeepsOthers.refl W).trans (KeepsOthers.setCell W ⟨s + 1, 0, none⟩ (.int .i64 (k : Int)))
    obtain ⟨i0, i1, i2, i3, i4⟩ := hI
    simp only [Nat.zero_add] at i1 i2 i3 i4
    clear hL hB
    have HL2 := hid hL2
    have HI2 := hid hI2
    have HB2 := hid hB2
    have HK2 := hid hK2
    have HO2 := hid hO2
    have HN := hid hn
    have HOK := hid hok
    clear hL2 hI2 hB2 hK2 hO2 hn hok
    gi_wp2
    generalize W.setCell ⟨s + 1, 0, none⟩ (.int .i64 (k : Int)) = W2 at *
    clear i0 i1 i2 i3 i4 f5 k5
    -- CLASS
    refine ⟨trivial, ?_⟩
    refine (CallsIn.inRound l (callsIn_wide.2 (class_I (at5 c k) HOK.out W2 (HZ.out.below HB2.out)))).mono ?_
    rintro e W3 ⟨rfl, b3⟩
    have HL3 := hid (HL2.out.kept b3)
    have hI3 := HI2.out.step (grown_of_below b3) (fun r e => by cases e)
    have HB3 := hid (HB2.out.trans (b3.mono HB2.out.size))
    have HK3 := hid (HK2.out.trans (KpS.new b3))
    have HO3 := hid (HO2.out.trans (KpS.ko (n₀ := 0) (Bs := 0) b3))
    have HI3 := hid hI3
    obtain ⟨i0, i1, i2, i3, i4⟩ := hI3
    simp only [Nat.zero_add] at i1 i2 i3 i4
    clear b3 HL2 HI2 HB2 HK2 HO2
    cases k6 : ((at5 c k).t.cls == 6)
    · cases k7 : ((at5 c k).t.cls == 7)
      · have hj : jmpB c k = false := by unfold jmpB; rw [k6, k7]; rfl
        gi_wp2
        exact ⟨HO3.out.from _, HK3.out, ⟨⟨by rw [lstD_snoc]; exact HL3.out, fun y hy => (List.mem_append.1 hy).elim (HN.out y) (fun e => by rw [List.mem_singleton.1 e]; exact hj)⟩, HB3.out⟩⟩
      · gi_wp2
        refine ⟨trivial, ?_⟩
        refine (CallsIn.inRound l (callsIn_wide.2 (target_5 (k : Int) (at5 c k) HOK.out W3 (by omega) (by omega)))).mono ?_
        rintro e W4 ⟨rfl, b4⟩
        clear i0 i1 i2 i3 i4
        have hL4 := HL3.out.kept b4
        have HB4 := hid (HB3.out.trans (b4.mono HB3.out.size))
        have HK4 := hid (HK3.out.trans (KpS.new b4))
        have HO4 := hid (HO3.out.trans (KpS.ko (n₀ := 0) (Bs := 0) b4))
        have hc1 := hL4.1.cell
        have hc2 := hL4.2.1.cell
        have hf2 := hL4.2.1.frozen
        have hc3 := hL4.2.2.1.cell
        have hf3 := hL4.2.2.1.frozen
        have hc4 := hL4.2.2.2.1.cell
        have HL4 := hid hL4
        have htg : tgI c k = (k : Int) + 1 + (at5 c k).off := rfl
        clear b4 HL3 HB3 HK3 HO3 HI3 hL4
        generalize hT : (k : Int) + 1 + (at5 c k).off = T at *
        have HTG := hid htg
        clear htg hT
        have hfin : jmpB c k = true → ∀ W5, W5 = (W4.setCell ⟨w.heap.size + 1, 0, none⟩ (.int .i64 (k : Int))).setCell ⟨w.heap.size + 1 + 1, 0, none⟩ (.int .i64 24) → KeepsFrom W0.heap.size W W5 ∧ ((Code.ret = Code.ret ∧ ∃ ini x, pre ++ [⟨k, hk, hst⟩] = ini ++ [x] ∧ (∀ y ∈ ini, jmpB c y.1 = false) ∧ jmpB c x.1 = true ∧ Boxed W5 (w.heap.size + 1) 3 (.int .i64 (x.1 : Int)) ∧ Boxed W5 (w.heap.size + 1 + 1) 27 (.int .i64 24)) ∧ Below w.heap.size w W5) := by
          rintro hj W5 rfl
          refine ⟨((HO4.out.trans (KeepsOthers.setCell _ _ _)).trans (KeepsOthers.setCell _ _ _)).from _, ⟨rfl, pre, ⟨k, hk, hst⟩, rfl, HN.out, hj, ?_, ?_⟩, ?_⟩
          · exact (HL4.out.2.1.set _).other (by omega) _
          · exact (HL4.out.2.2.1.other (by omega) _).set _
          · exact (HB4.out.setCell (p := ⟨w.heap.size + 1, 0, none⟩) (by simp) _).setCell (p := ⟨w.heap.size + 1 + 1, 0, none⟩) (by simp; omega) _
        have HF := hid hfin
        clear hfin
        have hjb : jmpB c k = !goesB c k := by unfold jmpB; simp [k7]
        by_cases n1 : T < 0
        · have m1 : decide (T < 0) = true := by simpa using n1
          have hj : jmpB c k = true := by
            rw [hjb]
            have : goesB c k = false := by unfold goesB; rw [HTG.out, decide_eq_false (by omega)]; rfl
            rw [this]; rfl
          clear n1 hjb
          gi_wp2
          obtain ⟨u1, ⟨_, u2⟩, u3⟩ := HF.out hj _ rfl
          exact ⟨u1, ⟨rfl, u2⟩, u3⟩
        by_cases n2 : (c.length : Int) ≤ T
        · have m1 : decide (T < 0) = false := by simpa using n1
          have m2 : decide ((c.length : Int) ≤ T) = true := by simpa using n2
          have hj : jmpB c k = true := by
            rw [hjb]
            have : goesB c k = false := by unfold goesB; rw [HTG.out, decide_eq_false (show ¬ T < (c.length : Int) by omega)]; simp
            rw [this]; rfl
          clear n1 n2 hjb
          gi_wp2
          obtain ⟨u1, ⟨_, u2⟩, u3⟩ := HF.out hj _ rfl
          exact ⟨u1, ⟨rfl, u2⟩, u3⟩
        obtain ⟨q, rfl⟩ : ∃ q : Nat, T = q := ⟨T.toNat, by omega⟩
        have hq : q < c.length := by omega
        have hcq := HL4.out.2.2.2.2.2 q hq
        have m1 : decide ((q : Int) < 0) = false := decide_eq_false (by omega)
        have m2 : decide ((c.length : Int) ≤ (q : Int)) = false := decide_eq_false (by omega)
        have hg : goesB c k = stB c q := by
          unfold goesB
          rw [HTG.out, decide_eq_true (show (0 : Int) ≤ q by omega), decide_eq_true (show (q : Int) < (c.length : Int) by omega), Int.toNat_natCast]
          rfl
        rw [hg] at hjb
        clear n1 n2 hg
        cases hs : stB c q
        · rw [hs] at hcq hjb
          gi_wp2
          obtain ⟨u1, ⟨_, u2⟩, u3⟩ := HF.out hjb _ rfl
          exact ⟨u1, ⟨rfl, u2⟩, u3⟩
        · rw [hs] at hcq hjb
          gi_wp2
          exact ⟨HO4.out.from _, HK4.out, ⟨⟨by rw [lstD_snoc]; exact HL4.out, fun y hy => (List.mem_append.1 hy).elim (HN.out y) (fun e => by rw [List.mem_singleton.1 e]; exact hjb)⟩, HB4.out⟩⟩
    · gi_wp2
      refine ⟨trivial, ?_⟩
      refine (CallsIn.inRound l (callsIn_wide.2 (target_5 (k : Int) (at5 c k) HOK.out W3 (by omega) (by omega)))).mono ?_
      rintro e W4 ⟨rfl, b4⟩
      clear i0 i1 i2 i3 i4
      have hL4 := HL3.out.kept b4
      have HB4 := hid (HB3.out.trans (b4.mono HB3.out.size))
      have HK4 := hid (HK3.out.trans (KpS.new b4))
      have HO4 := hid (HO3.out.trans (KpS.ko (n₀ := 0) (Bs := 0) b4))
      have hc1 := hL4.1.cell
      have hc2 := hL4.2.1.cell
      have hf2 := hL4.2.1.frozen
      have hc3 := hL4.2.2.1.cell
      have hf3 := hL4.2.2.1.frozen
      have hc4 := hL4.2.2.2.1.cell
      have HL4 := hid hL4
      have htg : tgI c k = (k : Int) + 1 + (at5 c k).off := rfl
      clear b4 HL3 HB3 HK3 HO3 HI3 hL4
      generalize hT : (k : Int) + 1 + (at5 c k).off = T at *
      have HTG := hid htg
      clear htg hT
      have hfin : jmpB c k = true → ∀ W5, W5 = (W4.setCell ⟨w.heap.size + 1, 0, none⟩ (.int .i64 (k : Int))).setCell ⟨w.heap.size + 1 + 1, 0, none⟩ (.int .i64 24) → KeepsFrom W0.heap.size W W5 ∧ ((Code.ret = Code.ret ∧ ∃ ini x, pre ++ [⟨k, hk, hst⟩] = ini ++ [x] ∧ (∀ y ∈ ini, jmpB c y.1 = false) ∧ jmpB c x.1 = true ∧ Boxed W5 (w.heap.size + 1) 3 (.int .i64 (x.1 : Int)) ∧ Boxed W5 (w.heap.size + 1 + 1) 27 (.int .i64 24)) ∧ Below w.heap.size w W5) := by
        rintro hj W5 rfl
        refine ⟨((HO4.out.trans (KeepsOthers.setCell _ _ _)).trans (KeepsOthers.setCell _ _ _)).from _, ⟨rfl, pre, ⟨k, hk, hst⟩, rfl, HN.out, hj, ?_, ?_⟩, ?_⟩
        · exact (HL4.out.2.1.set _).other (by omega) _
        · exact (HL4.out.2.2.1.other (by omega) _).set _
        · exact (HB4.out.setCell (p := ⟨w.heap.size + 1, 0, none⟩) (by simp) _).setCell (p := ⟨w.heap.size + 1 + 1, 0, none⟩) (by simp; omega) _
      have HF := hid hfin
      clear hfin
      have hjb : jmpB c k = !goesB c k := by unfold jmpB; simp [k6]
      by_cases n1 : T < 0
      · have m1 : decide (T < 0) = true := by simpa using n1
        have hj : jmpB c k = true := by
          rw [hjb]
          have : goesB c k = false := by unfold goesB; rw [HTG.out, decide_eq_false (by omega)]; rfl
          rw [this]; rfl
        clear n1 hjb
        gi_wp2
        obtain ⟨u1, ⟨_, u2⟩, u3⟩ := HF.out hj _ rfl
        exact ⟨u1, ⟨rfl, u2⟩, u3⟩
      by_cases n2 : (c.length : Int) ≤ T
      · have m1 : decide (T < 0) = false := by simpa using n1
        have m2 : decide ((c.length : Int) ≤ T) = true := by simpa using n2
        have hj : jmpB c k = true := by
          rw [hjb]
          have : goesB c k = false := by unfold goesB; rw [HTG.out, decide_eq_false (show ¬ T < (c.length : Int) by omega)]; simp
          rw [this]; rfl
        clear n1 n2 hjb
        gi_wp2
        obtain ⟨u1, ⟨_, u2⟩, u3⟩ := HF.out hj _ rfl
        exact ⟨u1, ⟨rfl, u2⟩, u3⟩
      obtain ⟨q, rfl⟩ : ∃ q : Nat, T = q := ⟨T.toNat, by omega⟩
      have hq : q < c.length := by omega
      have hcq := HL4.out.2.2.2.2.2 q hq
      have m1 : decide ((q : Int) < 0) = false := decide_eq_false (by omega)
      have m2 : decide ((c.length : Int) ≤ (q : Int)) = false := decide_eq_false (by omega)
      have hg : goesB c k = stB c q := by
        unfold goesB
        rw [HTG.out, decide_eq_true (show (0 : Int) ≤ q by omega), decide_eq_true (show (q : Int) < (c.length : Int) by omega), Int.toNat_natCast]
        rfl
      rw [hg] at hjb
      clear n1 n2 hg
      cases hs : stB c q
      · rw [hs] at hcq hjb
        gi_wp2
        obtain ⟨u1, ⟨_, u2⟩, u3⟩ := HF.out hjb _ rfl
        exact ⟨u1, ⟨rfl, u2⟩, u3⟩
      · rw [hs] at hcq hjb
        gi_wp2
        exact ⟨HO4.out.from _, HK4.out, ⟨⟨by rw [lstD_snoc]; exact HL4.out, fun y hy => (List.mem_append.1 hy).elim (HN.out y) (fun e => by rw [List.mem_singleton.1 e]; exact hjb)⟩, HB4.out⟩⟩
  case done =>
    rintro D ys W hD hall ⟨⟨hL, hn⟩, hB⟩ hK
    have hf : firstB c (jmpB c) c.length = none := by
      rw [firstB_none]
      intro j hj hs
      have hm : j ∈ ys.map (·.1) := by rw [show ys.map (·.1) = begsTo c c.length from hall]; exact mem_begsTo.2 ⟨hj, hs⟩
      obtain ⟨y, hy, rfl⟩ := List.mem_map.1 hm
      exact hn y hy
    have hlast : lstD c ys = lastB c := by unfold lstD lastB; rw [show ys.map (·.1) = begsTo c c.length from hall]
    have hlt : lastB c < c.length := lastB_lt h0
    rw [hlast] at hL
    obtain ⟨b, off, hp, hb, hins⟩ := (HSL.out.kept hB (Nat.le_refl _)).2.2.2.resolve_left (by omega)
    subst hp
    obtain ⟨i0, i1, i2, i3, i4⟩ := hins _ hlt
    have hok := at5_ok HSL.out.2.1 (lastB c)
    have c1 := hL.1.cell
    have c5 := hL.2.2.2.2.1.cell
    have hlead : leadI c = if endB (at5 c (lastB c)).t.cls then (0, 0) else ((lastB c : Int), 25) := by unfold leadI; rw [hf]
    have HLD := hid hlead
    have HL := hid hL
    have HB := hid hB
    have HOK := hid hok
    have HK := hid hK
    clear hf hlast hins hlead hL hB hok hK hn hall
    gi_wp2
    refine ⟨trivial, ?_⟩
    refine (callsIn_wide.2 (class_I (at5 c (lastB c)) HOK.out W (HZ.out.below HB.out))).mono ?_
    rintro e W2 ⟨rfl, b2⟩
    have hL2 := HL.out.kept b2
    have HB2 := hid (HB.out.trans (b2.mono HB.out.size))
    have HK2 := hid ((b2.block D (Array.getElem?_eq_some_iff.1 HK.out).1).trans HK.out)
    have hc2 := hL2.2.1.cell
    have hf2 := hL2.2.1.frozen
    have hc3 := hL2.2.2.1.cell
    have hf3 := hL2.2.2.1.frozen
    have hc5 := hL2.2.2.2.2.1.cell
    have HL2 := hid hL2
    clear b2 i0 i1 i2 i3 i4 c1 c5 HL HB HK hL2
    cases k7 : ((at5 c (lastB c)).t.cls == 7)
    · cases k9 : ((at5 c (lastB c)).t.cls == 9)
      · gi_wp2
        have hK5 := ((KeepsOthers.setCell W2 ⟨w.heap.size + 1, 0, none⟩ (.int .i64 (lastB c : Int))).trans (KeepsOthers.setCell _ ⟨w.heap.size + 1 + 1, 0, none⟩ (.int .i64 25))).same D _ HK2.out rfl
        refine ⟨by simp, .inl ⟨_, _, rfl, run_takeDeferred hK5, ?_⟩⟩
        have hP := grownBy_putObj' ((W2.setCell ⟨w.heap.size + 1, 0, none⟩ (.int .i64 (lastB c : Int))).setCell ⟨w.heap.size + 1 + 1, 0, none⟩ (.int .i64 25)) D (.deferred none)
        have hr : ∀ r, some D = some r → ∃ o : Obj, ((W2.setCell ⟨w.heap.size + 1, 0, none⟩ (.int .i64 (lastB c : Int))).setCell ⟨w.heap.size + 1 + 1, 0, none⟩ (.int .i64 25)).heap[r]? = some o ∧ o.isCells = false := fun r e => by cases e; exact ⟨_, hK5, rfl⟩
        have e2 := cell_kept ((HL2.out.2.1.set (.int .i64 (lastB c : Int))).other (show w.heap.size + 1 ≠ w.heap.size + 1 + 1 by omega) (.int .i64 25)).cell hP hr
        have e3 := cell_kept ((HL2.out.2.2.1.other (show w.heap.size + 1 + 1 ≠ w.heap.size + 1 by omega) (.int .i64 (lastB c : Int))).set (.int .i64 25)).cell hP hr
        rw [HLD.out, if_neg (by unfold endB; rw [k7, k9]; decide)]
        refine ⟨.tuple #[.int .i64 (lastB c : Int), .int .i64 25], ?_, rfl, ((HB2.out.setCell (p := ⟨w.heap.size + 1, 0, none⟩) (by simp) _).setCell (p := ⟨w.heap.size + 1 + 1, 0, none⟩) (by simp; omega) _).trans (belowK_b (w := w) (Nat.le_refl _) _ D _ _ (by omega) hK5 rfl rfl)⟩
        simp [results, Tryz.results75, go_sem, e2, e3]
      · gi_wp2
        have hK5 := ((KeepsOthers.setCell W2 ⟨w.heap.size + 1, 0, none⟩ (.int .i64 0)).trans (KeepsOthers.setCell _ ⟨w.heap.size + 1 + 1, 0, none⟩ (.int .i64 0))).same D _ HK2.out rfl
        refine ⟨by simp, .inl ⟨_, _, rfl, run_takeDeferred hK5, ?_⟩⟩
        have hP := grownBy_putObj' ((W2.setCell ⟨w.heap.size + 1, 0, none⟩ (.int .i64 0)).setCell ⟨w.heap.size + 1 + 1, 0, none⟩ (.int .i64 0)) D (.deferred none)
        have hr : ∀ r, some D = some r → ∃ o : Obj, ((W2.setCell ⟨w.heap.size + 1, 0, none⟩ (.int .i64 0)).setCell ⟨w.heap.size + 1 + 1, 0, none⟩ (.int .i64 0)).heap[r]? = some o ∧ o.isCells = false := fun r e => by cases e; exact ⟨_, hK5, rfl⟩
        have e2 := cell_kept ((HL2.out.2.1.set (.int .i64 0)).other (show w.heap.size + 1 ≠ w.heap.size + 1 + 1 by omega) (.int .i64 0)).cell hP hr
        have e3 := cell_kept ((HL2.out.2.2.1.other (show w.heap.size + 1 + 1 ≠ w.heap.size + 1 by omega) (.int .i64 0)).set (.int .i64 0)).cell hP hr
        rw [HLD.out, if_pos (by unfold endB; rw [k9]; simp)]
        refine ⟨.tuple #[.int .i64 0, .int .i64 0], ?_, rfl, ((HB2.out.setCell (p := ⟨w.heap.size + 1, 0, none⟩) (by simp) _).setCell (p := ⟨w.heap.size + 1 + 1, 0, none⟩) (by simp; omega) _).trans (belowK_b (w := w) (Nat.le_refl _) _ D _ _ (by omega) hK5 rfl rfl)⟩
        simp [results, Tryz.results75, go_sem, e2, e3]
    · gi_wp2
      have hK5 := ((KeepsOthers.setCell W2 ⟨w.heap.size + 1, 0, none⟩ (.int .i64 0)).trans (KeepsOthers.setCell _ ⟨w.heap.size + 1 + 1, 0, none⟩ (.int .i64 0))).same D _ HK2.out rfl
      refine ⟨by simp, .inl ⟨_, _, rfl, run_takeDeferred hK5, ?_⟩⟩
      have hP := grownBy_putObj' ((W2.setCell ⟨w.heap.size + 1, 0, none⟩ (.int .i64 0)).setCell ⟨w.heap.size + 1 + 1, 0, none⟩ (.int .i64 0)) D (.deferred none)
      have hr : ∀ r, some D = some r → ∃ o : Obj, ((W2.setCell ⟨w.heap.size + 1, 0, none⟩ (.int .i64 0)).setCell ⟨w.heap.size + 1 + 1, 0, none⟩ (.int .i64 0)).heap[r]? = some o ∧ o.isCells = false := fun r e => by cases e; exact ⟨_, hK5, rfl⟩
      have e2 := cell_kept ((HL2.out.2.1.set (.int .i64 0)).other (show w.heap.size + 1 ≠ w.heap.size + 1 + 1 by omega) (.int .i64 0)).cell hP hr
      have e3 := cell_kept ((HL2.out.2.2.1.other (show w.heap.size + 1 + 1 ≠ w.heap.size + 1 by omega) (.int .i64 0)).set (.int .i64 0)).cell hP hr
      rw [HLD.out, if_pos (by unfold endB; rw [k7]; rfl)]
      refine ⟨.tuple #[.int .i64 0, .int .i64 0], ?_, rfl, ((HB2.out.setCell (p := ⟨w.heap.size + 1, 0, none⟩) (by simp) _).setCell (p := ⟨w.heap.size + 1 + 1, 0, none⟩) (by simp; omega) _).trans (belowK_b (w := w) (Nat.le_refl _) _ D _ _ (by omega) hK5 rfl rfl)⟩
      simp [results, Tryz.results75, go_sem, e2, e3]
  case stop =>
    rintro D cd pre W hD hpre ⟨⟨rfl, ini, x, rfl, hn, hj, hb2, hb3⟩, hB⟩ hK
    gi_wp2
    refine ⟨by simp, .inl ⟨_, _, rfl, run_takeDeferred hK, ?_⟩⟩
    have hP := grownBy_putObj' W D (.deferred none)
    have hr : ∀ r, some D = some r → ∃ o : Obj, W.heap[r]? = some o ∧ o.isCells = false := fun r e => by cases e; exact ⟨_, hK, rfl⟩
    have hc2 := cell_kept hb2.cell hP hr
    have hc3 := cell_kept hb3.cell hP hr
    have hlead : leadI c = ((x.1 : Int), 24) := by
      obtain ⟨k, hk, hs, e⟩ := hpre
      rw [List.map_append] at e
      obtain ⟨e1, e2⟩ := List.append_inj' e (by simp)
      have e3 : x.1 = k := by simpa using e2
      have hf : firstB c (jmpB c) c.length = some k := by
        refine firstB_at (fun j hjk hsj => ?_) hs (e3 ▸ hj) hk
        have hm : j ∈ ini.map (·.1) := by rw [e1]; exact mem_begsTo.2 ⟨hjk, hsj⟩
        obtain ⟨y, hy, rfl⟩ := List.mem_map.1 hm
        exact hn y hy
      unfold leadI
      rw [hf, e3]
    rw [hlead]
    refine ⟨.tuple #[.int .i64 (x.1 : Int), .int .i64 24], ?_, rfl, hB.trans (belowK_b (w := w) (Nat.le_refl _) W D _ _ (by omega) hK rfl rfl)⟩
    simp [results, Tryz.results75, go_sem, hc2, hc3]
end Go.Proofs.YtjcnpjidkimldaaGreatDoor.Is
