/-
  A program's shape, plainly: instructions, where they begin; instructions that lie in memory. The iterator over a program's instructions: what it hands to its caller's round, whatever that round does to memory of its own. Contract of Starts, as the landed code has it: a new list that says of each place whether an instruction begins there. Small functions of package shape and of the document's own answer: maps, helpers, targets.
-/
import Derived.Test.YtjcnpjidkimldaaGreatDoorAQPlc
import Derived.Test.YtjcnpjidkimldaaGreatDoorAQInsnB
import Derived.RangeFuncNested
import Derived.RangeFuncBound
import Derived.RangeFuncCalls
import Derived.RangeFuncLeaves
import Derived.Shelf.Abstract
import Derived.Shelf.RegionOpen
import Derived.OwnWalkIn
import Derived.TacticsInMore
import Derived.LoopNIn
import Derived.LoopIn
namespace Go.Proofs.YtjcnpjidkimldaaGreatDoor.Is
set_option linter.unusedSimpArgs false
set_option linter.unusedVariables false
set_option maxRecDepth 100000
open Go.ChangeShapes Go.WideShapes Go.ChangeAt Go.RowKit

structure I5 where
  op : Int
  dst : Int
  src : Int
  off : Int
  imm : Int
deriving DecidableEq
def I5.V (x : I5) : Value := .agg #[.int .u8 x.op, .int .u8 x.dst, .int .u8 x.src, .int .i16 x.off, .int .i32 x.imm]
def I5.ok (x : I5) : Prop := 0 ≤ x.op ∧ x.op < 256 ∧ 0 ≤ x.dst ∧ x.dst < 256 ∧ 0 ≤ x.src ∧ x.src < 256 ∧ -32768 ≤ x.off ∧ x.off < 32768 ∧ -2147483648 ≤ x.imm ∧ x.imm < 2147483648
def zI : I5 := ⟨0, 0, 0, 0, 0⟩
theorem zI_ok : zI.ok := by unfold I5.ok zI; decide
def at5 (c : List I5) (k : Nat) : I5 := c.getD k zI
def I5.e (x : I5) : Int := uE x.op x.dst x.src x.off x.imm
def I5.t (x : I5) : Rw := uT x.op x.dst x.src x.off x.imm
def I5.p (x : I5) : Int := uP x.op x.dst x.src x.off x.imm
def CdOk (c : List I5) : Prop := ∀ x ∈ c, x.ok
theorem at5_ok {c : List I5} (h : CdOk c) (k : Nat) : (at5 c k).ok := by
  unfold at5
  rw [List.getD_eq_getElem?_getD]
  cases hk : c[k]? with
  | none => exact zI_ok
  | some x => exact h x (List.mem_of_getElem? hk)
theorem p_cases (x : I5) : x.p = 0 ∨ x.p = 1 ∨ x.p = 2 := by
  unfold I5.p uP
  split
  · exact .inl rfl
  split
  · exact .inr (.inr rfl)
  split
  · exact .inr (.inr rfl)
  · exact .inr (.inl rfl)

theorem of_I (x : I5) (hx : x.ok) (w : World) (hz : SzOk w) : Calls Tryz.prog 38 #[x.V] w fun e w' => e = .returned (.tuple #[whV x.t, .int .i64 x.e]) ∧ Below w.heap.size w w' := by
  obtain ⟨a, b, c, d, e, f, g, h, i, j⟩ := hx
  exact of_any x.op x.dst x.src x.off x.imm w a b c d e f g h i j hz
theorem places_I (x : I5) (hx : x.ok) (w : World) (hz : SzOk w) : Calls Tryz.prog 101 #[x.V] w fun e w' => e = .returned (.int .i64 x.p) ∧ Below w.heap.size w w' := by
  obtain ⟨a, b, c, d, e, f, g, h, i, j⟩ := hx
  exact uplaces x.op x.dst x.src x.off x.imm w a b c d e f g h i j hz

/-- Is the place k a second half? -/
def hf (c : List I5) : Nat → Bool
  | 0 => false
  | k + 1 => !hf c k && ((at5 c k).p == 2)
def stB (c : List I5) (k : Nat) : Bool := !hf c k
def stepN (x : I5) : Nat := if x.p = 2 then 2 else 1
def begsTo (c : List I5) (k : Nat) : List Nat := (List.range k).filter (stB c)
theorem stepN_pos (x : I5) : 1 ≤ stepN x ∧ stepN x ≤ 2 := by unfold stepN; split <;> omega
theorem stB_next {c : List I5} {k : Nat} (h : stB c k = true) : stB c (k + stepN (at5 c k)) = true ∧ (stepN (at5 c k) = 2 → stB c (k + 1) = false) := by
  unfold stB at h ⊢
  have h' : hf c k = false := by simpa using h
  unfold stepN
  by_cases hp : (at5 c k).p = 2
  · rw [if_pos hp]
    have h1 : hf c (k + 1) = true := by rw [hf, h', hp]; rfl
    refine ⟨?_, fun _ => by rw [h1]; rfl⟩
    rw [hf, h1]; rfl
  · rw [if_neg hp]
    refine ⟨?_, fun h => by omega⟩
    rw [hf, h']
    simp [hp]
theorem begsTo_succ (c : List I5) (k : Nat) : begsTo c (k + 1) = begsTo c k ++ if stB c k then [k] else [] := by
  unfold begsTo
  rw [List.range_succ, List.filter_append]
  cases h : stB c k <;> simp [h]
theorem begsTo_step {c : List I5} {k : Nat} (h : stB c k = true) : begsTo c (k + stepN (at5 c k)) = begsTo c k ++ [k] := by
  have hn := stB_next h
  rcases (show stepN (at5 c k) = 1 ∨ stepN (at5 c k) = 2 by have := stepN_pos (at5 c k); omega) with h1 | h1
  · rw [h1, begsTo_succ, if_pos h]
  · rw [h1, show k + 2 = k + 1 + 1 from rfl, begsTo_succ, begsTo_succ, if_pos h, if_neg (by rw [hn.2 h1]; decide), List.append_nil]
theorem begsTo_len (c : List I5) (k : Nat) : (begsTo c k).length ≤ k := by
  unfold begsTo
  exact Nat.le_trans (List.length_filter_le _ _) (by simp)
theorem mem_begsTo {c : List I5} {k j : Nat} : j ∈ begsTo c k ↔ j < k ∧ stB c j = true := by
  unfold begsTo
  simp

/-- The cells of an instruction, from the place o of block b on. -/
def InsAt (w : World) (b o : Nat) (x : I5) : Prop :=
  w.cell? ⟨b, o, none⟩ = some (.int .u8 x.op) ∧ w.cell? ⟨b, o + 1, none⟩ = some (.int .u8 x.dst) ∧ w.cell? ⟨b, o + 2, none⟩ = some (.int .u8 x.src) ∧ w.cell? ⟨b, o + 3, none⟩ = some (.int .i16 x.off) ∧ w.cell? ⟨b, o + 4, none⟩ = some (.int .i32 x.imm)
theorem InsAt.kept {w w' : World} {n b o : Nat} {x : I5} (h : InsAt w b o x) (hb : Below n w w') (hl : b < n) : InsAt w' b o x := by
  obtain ⟨a0, a1, a2, a3, a4⟩ := h
  exact ⟨(hb.cell (p := ⟨b, o, none⟩) hl).trans a0, (hb.cell (p := ⟨b, o + 1, none⟩) hl).trans a1, (hb.cell (p := ⟨b, o + 2, none⟩) hl).trans a2, (hb.cell (p := ⟨b, o + 3, none⟩) hl).trans a3, (hb.cell (p := ⟨b, o + 4, none⟩) hl).trans a4⟩
/-- A slice that reads as this code, in memory below n₀. -/
def CdSl (n₀ : Nat) (w : World) (p : Option Addr) (n : Nat) (c : List I5) : Prop :=
  c.length = n ∧ CdOk c ∧ n < 11728124029440 ∧ (n = 0 ∨ ∃ b off, p = some ⟨b, off, none⟩ ∧ b < n₀ ∧ ∀ j, j < n → InsAt w b (off + j * 5) (at5 c j))
theorem CdSl.kept {n₀ m : Nat} {w w' : World} {p : Option Addr} {n : Nat} {c : List I5} (h : CdSl n₀ w p n c) (hb : Below m w w') (hm : n₀ ≤ m) : CdSl n₀ w' p n c := by
  obtain ⟨h1, h2, h3, h4⟩ := h
  refine ⟨h1, h2, h3, h4.imp id ?_⟩
  rintro ⟨b, off, e, hl, hc⟩
  exact ⟨b, off, e, hl, fun j hj => (hc j hj).kept hb (by omega)⟩
theorem CdSl.wide {n₀ m : Nat} {w : World} {p : Option Addr} {n : Nat} {c : List I5} (h : CdSl n₀ w p n c) (hm : n₀ ≤ m) : CdSl m w p n c := by
  obtain ⟨h1, h2, h3, h4⟩ := h
  refine ⟨h1, h2, h3, h4.imp id ?_⟩
  rintro ⟨b, off, e, hl, hc⟩
  exact ⟨b, off, e, by omega, hc⟩
end Go.Proofs.YtjcnpjidkimldaaGreatDoor.Is

namespace Go.Proofs.YtjcnpjidkimldaaGreatDoor.Is
set_option linter.unusedSimpArgs false
set_option linter.unusedVariables false
set_option maxRecDepth 100000
open Go.ChangeShapes Go.WideShapes Go.ChangeAt Go.RowKit Go.Shelf
attribute [local go_sem] Oper.semAt_some

/-- What a round keeps for the iterator: all that lay below n₀, and the box Bs. -/
def KpS (n₀ Bs : Nat) (A B : World) : Prop := A.heap.size ≤ B.heap.size ∧ ∀ k, (k < n₀ ∨ k = Bs) → k < A.heap.size → B.heap[k]? = A.heap[k]?
theorem KpS.refl {n₀ Bs : Nat} (A : World) : KpS n₀ Bs A A := ⟨Nat.le_refl _, fun _ _ _ => rfl⟩
theorem KpS.trans {n₀ Bs : Nat} {A B C : World} (h : KpS n₀ Bs A B) (k : KpS n₀ Bs B C) : KpS n₀ Bs A C :=
  ⟨Nat.le_trans h.1 k.1, fun i hi hl => (k.2 i hi (Nat.lt_of_lt_of_le hl h.1)).trans (h.2 i hi hl)⟩
theorem KpS.put {n₀ Bs : Nat} {w : World} (hn : n₀ ≤ w.heap.size) (hB : Bs < w.heap.size) (W : World) (l : Nat) (o o' : Obj) (hl : w.heap.size ≤ l) (_ : W.heap[l]? = some o) (_ : o.isCells = false) (_ : o.isWalk = false) : KpS n₀ Bs W (W.putObj l o') := by
  refine ⟨(grownBy_putObj' W l o').size, fun k hk hlt => (grownBy_putObj' W l o').block k hlt ?_⟩
  intro e
  cases e
  omega
theorem KpS.new {n₀ Bs : Nat} {A B : World} (h : Below A.heap.size A B) : KpS n₀ Bs A B := ⟨h.size, fun k hk hl => h.block k hl⟩
theorem KpS.setCell {n₀ Bs : Nat} {A B : World} (h : KpS n₀ Bs A B) {p : Addr} (hp : n₀ ≤ p.block) (hB : p.block ≠ Bs) (u : Value) : KpS n₀ Bs A (B.setCell p u) :=
  h.trans ⟨by simp [World.setCell], fun k hk _ => Below.heap_setCell _ _ _ _ (by omega)⟩
theorem KpS.cell {n₀ Bs : Nat} {A B : World} (h : KpS n₀ Bs A B) {p : Addr} (hp : p.block < n₀ ∨ p.block = Bs) (hl : p.block < A.heap.size) : B.cell? p = A.cell? p := by
  unfold World.cell?
  rw [h.2 _ hp hl]
theorem grown_of_below {A B : World} (h : Below A.heap.size A B) : A.grownBy B none :=
  ⟨h.os, h.tape, h.output, h.size, fun k hk _ => h.block k hk⟩
theorem KpS.ins {n₀ Bs : Nat} {A B : World} (h : KpS n₀ Bs A B) {b o : Nat} {x : I5} (hi : InsAt A b o x) (hb : b < n₀) (hl : b < A.heap.size) : InsAt B b o x := by
  obtain ⟨a0, a1, a2, a3, a4⟩ := hi
  exact ⟨(h.cell (.inl hb) hl).trans a0, (h.cell (.inl hb) hl).trans a1, (h.cell (.inl hb) hl).trans a2, (h.cell (.inl hb) hl).trans a3, (h.cell (.inl hb) hl).trans a4⟩
theorem KpS.sz {n₀ Bs : Nat} {A B : World} (h : KpS n₀ Bs A B) (hz : SzOk A) (hn : 0 < n₀) : SzOk B :=
  ⟨Nat.lt_of_lt_of_le hz.1 h.1, (h.cell (p := ⟨0, 0, none⟩) (.inl hn) hz.1).trans hz.2.1, (h.cell (p := ⟨0, 1, none⟩) (.inl hn) hz.1).trans hz.2.2.1, (h.cell (p := ⟨0, 2, none⟩) (.inl hn) hz.1).trans hz.2.2.2.1, (h.cell (p := ⟨0, 3, none⟩) (.inl hn) hz.1).trans hz.2.2.2.2⟩
theorem CdSl.keptS {n₀ Bs : Nat} {A B : World} {p : Option Addr} {n : Nat} {c : List I5} (h : CdSl n₀ A p n c) (hk : KpS n₀ Bs A B) (hn : n₀ ≤ A.heap.size) : CdSl n₀ B p n c := by
  obtain ⟨h1, h2, h3, h4⟩ := h
  refine ⟨h1, h2, h3, h4.imp id ?_⟩
  rintro ⟨b, off, e, hl, hc⟩
  exact ⟨b, off, e, hl, fun j hj => hk.ins (hc j hj) hl (by omega)⟩

/-- The places that come. -/
abbrev Bg (c : List I5) : Type := { k : Nat // k < c.length ∧ stB c k = true }
def bgV (c : List I5) (x : Bg c) : Array Value := #[.int .i64 (x.1 : Int), (at5 c x.1).V]
def bgAll (c : List I5) (ys : List (Bg c)) : Prop := ys.map (·.1) = begsTo c c.length
def bgPart (c : List I5) (ys : List (Bg c)) : Prop := ∃ k, k < c.length ∧ stB c k = true ∧ ys.map (·.1) = begsTo c k ++ [k]

theorem begsTo_min {c : List I5} {k : Nat} (h : stB c k = true) (hk : k < c.length) : begsTo c k ++ [k] = begsTo c (min (k + stepN (at5 c k)) c.length) := by
  by_cases hs : k + stepN (at5 c k) ≤ c.length
  · rw [Nat.min_eq_left hs, begsTo_step h]
  · have := stepN_pos (at5 c k)
    rw [Nat.min_eq_right (by omega), show c.length = k + 1 by omega, begsTo_succ, if_pos h]

theorem begins_at (p : Option Addr) (n cap : Nat) (w : World) : Calls Tryz.prog 73 #[.slice p n cap] w fun e w' => e = .returned (.func (.func 114) #[] #[.pointer (some ⟨w.heap.size, 0, none⟩)]) ∧ w' = w.alloc (.cells #[.slice p n cap] 25) := by
  go_enter Tryz.func73, Tryz.ntmps73
  go_wp2
  go_ret
  exact ⟨rfl, rfl⟩

set_option maxRecDepth 100000 in
set_option maxHeartbeats 2000000 in
theorem begins1_in (n : Nat) (hn : 2 ≤ n) (l Bs n₀ cap : Nat) (p : Option Addr) (c : List I5) (J Jx : List (Bg c) → World → Prop) (W : World) (hn₀ : n₀ ≤ W.heap.size) (h0n : 0 < n₀) (hBl : Bs < W.heap.size) (hz : SzOk W) (hsl : CdSl n₀ W p c.length c)
    (hBs : W.cell? ⟨Bs, 0, none⟩ = some (.slice p c.length cap)) (hJ : AbidesFrom W.heap.size J)
    (hY : ∀ pre x W, J pre W → pre.length < c.length → YieldAt Fence.wide (n - 1) Tryz.prog l (bgV c x) W fun e W' =>
      (e = .returned (.bool true) ∧ J (pre ++ [x]) W' ∧ KpS n₀ Bs W W') ∨ (e = .returned (.bool false) ∧ Jx (pre ++ [x]) W'))
    (h0 : J [] W) :
    CallsIn Fence.wide n Tryz.prog 114 #[.func (.yield l) #[] #[], .pointer (some ⟨Bs, 0, none⟩)] W fun e W' => (∃ v, e = .returned v) ∧ ((∃ ys, bgAll c ys ∧ J ys W') ∨ (∃ pre, bgPart c pre ∧ Jx pre W')) := by
  refine callsIn_of_wp Tryz.func114 rfl trivial ?_ rfl
  simp only [Tryz.ntmps114, List.size_toArray, List.length_cons, List.length_nil, Nat.reduceAdd, Nat.reduceSub, Array.replicate_succ, Array.replicate_zero, List.push_toArray, List.append_toArray, List.nil_append, List.cons_append]
  gi_wp2
  gi_loopw [3] (fun i wr => ∃ (k : Nat) (pre : List (Bg c)), i = .int .i64 k ∧ k ≤ c.length + 1 ∧ stB c k = true ∧ pre.map (·.1) = begsTo c (min k c.length) ∧ J pre wr ∧ KpS n₀ Bs W wr)
    (fun i _ => c.length + 1 - (intOf i).toNat)
  case atStart => exact ⟨0, [], rfl, by omega, rfl, by simp [begsTo], h0, KpS.refl _⟩
  case round =>
    obtain ⟨k, pre, rfl, hk, hst, hpre, hJs, hkp⟩ := hrel
    have hbx := (hkp.cell (p := ⟨Bs, 0, none⟩) (.inr rfl) hBl).trans hBs
    by_cases hlt : k < c.length
    · have hpl : pre.length < c.length := by
        have := congrArg List.length hpre
        rw [List.length_map] at this
        have h2 := begsTo_len c (min k c.length)
        omega
      obtain ⟨fn, tmps, assign, body, hy, hR⟩ := hY pre ⟨k, hlt, hst⟩ wr hJs hpl
      dsimp only [bgV, I5.V] at hy
      have hsl' := hid (hsl.keptS hkp hn₀)
      obtain ⟨_, hok, hlen, hblk⟩ := hsl
      rcases hblk with h | ⟨b, off, rfl, hb, hins⟩
      · omega
      obtain ⟨c0, c1, c2, c3, c4⟩ := hkp.ins (hins k hlt) hb (by omega)
      clear hins hY
      gi_wp2
      refine ⟨fun _ => by omega, ?_⟩
      refine hR.mono ?_
      rintro e W3 (⟨rfl, hJ3, hk3⟩ | ⟨rfl, hJx3⟩)
      · have hkp3 := hkp.trans hk3
        have hbx3 := (hkp3.cell (p := ⟨Bs, 0, none⟩) (.inr rfl) hBl).trans hBs
        obtain ⟨g0, g1, g2, g3, g4⟩ := hk3.ins ⟨c0, c1, c2, c3, c4⟩ hb (by have := hkp.1; omega)
        have hz3 := hid (hkp3.sz hz h0n)
        have HP := fun W hW => places_I (at5 c k) (at5_ok hok k) W hW
        dsimp only [I5.V] at HP
        have hstep := begsTo_step hst
        have hnext := (stB_next hst).1
        have hsp : stepN (at5 c k) = if (at5 c k).p = 2 then 2 else 1 := rfl
        have hpc := p_cases (at5 c k)
        generalize hpe : (at5 c k).p = pp at HP hsp hpc
        have HP' := hid HP
        have HST := hid hstep
        have HNX := hid hnext
        have HSP := hid hsp
        have HPC := hid hpc
        have HPRE := hid hpre
        clear HP hstep hnext hsp hpc hpe hpre
        have hH3 := hid hkp3
        clear c0 c1 c2 c3 c4 hk3 hkp hbx hz hkp3
        gi_wp2
        refine ⟨trivial, fun _ => by omega, ?_⟩
        refine (callsIn_wide.2 (HP'.out W3 hz3.out)).mono ?_
        rintro e W4 ⟨rfl, b4⟩
        have HB4 := hid b4
        clear b4 g0 g1 g2 g3 g4 hbx3
        have hJ4 := hJ _ W3 W4 none hJ3 (grown_of_below HB4.out) (fun r h => by cases h)
        have hK4 := hid (hH3.out.trans (KpS.new HB4.out))
        rcases HPC.out with rfl | rfl | rfl
        all_goals
          gi_wp2
          go_roundw
          case rel =>
            refine ⟨k + stepN (at5 c k), pre ++ [⟨k, hlt, hst⟩], ?_, ?_, HNX.out, ?_, hJ4, hK4.out⟩
            · rw [HSP.out]; simp
            · have := stepN_pos (at5 c k); omega
            · rw [List.map_append, HPRE.out, Nat.min_eq_left (by omega)]
              exact begsTo_min hst hlt
          case measure => simp [intOf]; omega
      · gi_wp2
        go_end0
        refine ⟨⟨_, rfl⟩, .inr ⟨_, ⟨k, hlt, hst, ?_⟩, hJx3⟩⟩
        rw [List.map_append, hpre, Nat.min_eq_left (by omega)]
        rfl
    · gi_wp2
      refine ⟨fun _ h => (by cases h), ?_⟩
      gi_wp2
      go_end0
      refine ⟨⟨_, rfl⟩, .inl ⟨pre, ?_, hJs⟩⟩
      show pre.map (·.1) = _
      rw [hpre, Nat.min_eq_right (by omega)]

/-- The iterator's contract, as the caller's law wants it. -/
theorem begins_stops (n : Nat) (hn : 2 ≤ n) (Bs n₀ cap : Nat) (p : Option Addr) (c : List I5) (w : World) (hn₀ : n₀ ≤ w.heap.size) (h0n : 0 < n₀) (hBl : Bs < w.heap.size) (hz : SzOk w) (hsl : CdSl n₀ w p c.length c)
    (hBs : w.cell? ⟨Bs, 0, none⟩ = some (.slice p c.length cap)) :
    SeqStopsK Fence.wide n Tryz.prog 114 #[.pointer (some ⟨Bs, 0, none⟩)] (bgV c) (KpS n₀ Bs) (bgAll c) (bgPart c) c.length w := fun l J Jx W hW hJ hJx hY h0 =>
  begins1_in n hn l Bs n₀ cap p c J Jx W (Nat.le_trans hn₀ hW.size) h0n (Nat.lt_of_lt_of_le hBl hW.size) (hz.below hW) (hsl.kept hW hn₀) ((hW.cell (p := ⟨Bs, 0, none⟩) hBl).trans hBs) hJ hY h0
end Go.Proofs.YtjcnpjidkimldaaGreatDoor.Is

namespace Go.Proofs.YtjcnpjidkimldaaGreatDoor.Is
set_option linter.unusedSimpArgs false
set_option linter.unusedVariables false
set_option maxRecDepth 100000
open Go.ChangeShapes Go.WideShapes Go.ChangeAt Go.RowKit Go.Shelf
attribute [local go_sem] Oper.semAt_some

def StPost (w : World) (c : List I5) (e : Ending) (w' : World) : Prop :=
  ∃ g, e = .returned (.slice (some ⟨g, 0, none⟩) c.length c.length) ∧ w.heap.size ≤ g ∧ g < w'.heap.size ∧ (∀ j, j < c.length → w'.cell? ⟨g, j, none⟩ = some (.bool (stB c j)) ∧ w'.frozen? ⟨g, j, none⟩ = false) ∧ Below w.heap.size w w'

theorem _root_.Go.RowKit.Below.frz {B : Nat} {a b : World} (h : Below B a b) {p : Addr} (hp : p.block < B) : b.frozen? p = a.frozen? p := World.frozen?_of_block (h.block _ hp)
theorem set_oth {W : World} {p q : Addr} {v : Value} (h : p ≠ q) : (W.setCell p v).cell? q = W.cell? q := by
  first | exact World.cell?_setCell_other h | exact World.cell?_setCell_other _ h | exact World.cell?_setCell_other _ _ h | exact World.cell?_setCell_other _ _ _ h | exact World.cell?_setCell_other _ _ _ _ h
theorem boolInfo : (Tryz.prog.info? 4).map (fun i => (i.zero, i.size, i.bytes)) = some (some (.bool false), 1, 1) := by kernel_rfl
theorem made_cell (w : World) (n : Nat) (t : TypeId) (j : Nat) (hj : j < n) : (w.alloc (.cells (madeCells (Value.bool false).cells (n * 1)) t)).cell? ⟨w.heap.size, j, none⟩ = some (.bool false) := by
  have hs : ((madeCells (Value.bool false).cells (n * 1))[j]?) = some (.bool false) := by
    simp [madeCells, hj, Value.cells, Nat.mod_one]
  unfold World.cell?
  dsimp only
  rw [heap_alloc_new]
  exact hs
theorem make_bools (n : Nat) (hn : n < 11728124029440) (w : World) : ∃ arr : Array Value, (Instr.makeSlice 165 (.int .i64 n) (.int .i64 n)).run Tryz.prog w = .ok (.slice (some ⟨w.heap.size, 0, none⟩) n n) (w.alloc (.cells arr 4)) ∧
    ∀ j, j < n → (w.alloc (.cells arr 4)).cell? ⟨w.heap.size, j, none⟩ = some (.bool false) ∧ (w.alloc (.cells arr 4)).frozen? ⟨w.heap.size, j, none⟩ = false := by
  obtain ⟨i, hi, hp⟩ := Option.map_eq_some_iff.1 boolInfo
  injection hp with hp1 hp
  injection hp with hp2 hp3
  have h := run_make (P := Tryz.prog) w 165 4 i (.bool false) Tryz.underlying165 hi hp1 .i64 .i64 n n (by omega) (Int.le_refl _) (by rw [hp3]; omega) (by omega)
  rw [hp2] at h
  simp only [Int.toNat_natCast] at h
  refine ⟨_, h, fun j hj => ⟨made_cell w n _ j hj, ?_⟩⟩
  unfold World.frozen?
  dsimp only
  rw [heap_alloc_new]
  simp

set_option maxRecDepth 100000 in
set_option maxHeartbeats 2000000 in
theorem starts_any (p : Option Addr) (cap : Nat) (c : List I5) (w : World) (hz : SzOk w) (hsl : CdSl w.heap.size w p c.length c) : Calls Tryz.prog 76 #[.slice p c.length cap] w (StPost w c) := by
  refine (callsIn_wide (n := 6)).1 ?_
  refine callsIn_of_wp_marks Tryz.func76 rfl trivial ?_ rfl
  simp only [Tryz.ntmps76, List.size_toArray, List.length_cons, List.length_nil, Nat.reduceAdd, Nat.reduceSub, Array.replicate_succ, Array.replicate_zero, List.push_toArray, List.append_toArray, List.nil_append, List.cons_append]
  obtain ⟨arr, hmk, hcs⟩ := make_bools c.length hsl.2.2.1 w
  have HCS := hid hcs
  clear hcs
  gi_wp2
  refine ⟨trivial, ?_⟩
  refine (callsIn_wide.2 (begins_at _ _ _ _)).mono ?_
  rintro e w' ⟨rfl, rfl⟩
  gi_wp2
  have bS := Boxed.new (w.alloc (.cells arr 4)) 165 (.slice (some ⟨w.heap.size, 0, none⟩) c.length c.length)
  have bN := Boxed.new ((w.alloc (.cells arr 4)).alloc (.cells #[.slice (some ⟨w.heap.size, 0, none⟩) c.length c.length] 165)) 25 (.slice p c.length cap)
  rw [World.size_alloc] at bS bN
  rw [World.size_alloc] at bN
  have hB0 : Below w.heap.size w (((w.alloc (.cells arr 4)).alloc (.cells #[.slice (some ⟨w.heap.size, 0, none⟩) c.length c.length] 165)).alloc (.cells #[.slice p c.length cap] 25)) := (((Below.refl _ w).alloc (Nat.le_refl _) _).alloc (by simp) _).alloc (by simp; omega) _
  have hB1 : Below (w.heap.size + 1) (w.alloc (.cells arr 4)) (((w.alloc (.cells arr 4)).alloc (.cells #[.slice (some ⟨w.heap.size, 0, none⟩) c.length c.length] 165)).alloc (.cells #[.slice p c.length cap] 25)) := ((Below.refl _ _).alloc (by simp) _).alloc (by simp) _
  refine wpIn_rangeFunc_ownG rfl (by omega) (gf := 114) (lb := #[.pointer (some ⟨w.heap.size + 1 + 1, 0, none⟩)]) rfl trivial (enters_of Tryz.func114 (by kernel_rfl) rfl)
    (begins_stops _ (by omega) (w.heap.size + 1 + 1) w.heap.size cap p c _ (by simp; omega) hz.1 (by simp) (hz.below hB0) (hsl.kept hB0 (Nat.le_refl _)) bN.cell) KpS.trans (KpS.put (by simp; omega) (by simp)) (Below.refl _ _) (fun _ => rfl)
    (fun pre W => ((∀ j, j < c.length → W.cell? ⟨w.heap.size, j, none⟩ = some (.bool (decide (j ∈ pre.map (·.1)))) ∧ W.frozen? ⟨w.heap.size, j, none⟩ = false) ∧ W.cell? ⟨w.heap.size + 1, 0, none⟩ = some (.slice (some ⟨w.heap.size, 0, none⟩) c.length c.length)) ∧ Below w.heap.size w W)
    (fun _ _ _ => False)
    (OwnFrom.and (Own.from (fun s A B row hs hg hr => ⟨fun j hj => ⟨cell_kept (hs.1 j hj).1 hg hr, (frozen_kept (hs.1 j hj).1 hg hr).trans (hs.1 j hj).2⟩, cell_kept hs.2 hg hr⟩) _) (ownFrom_below (Nat.le_refl _) (by simp; omega)))
    (fun _ _ _ _ _ hs _ _ => hs)
    ⟨⟨fun j hj => ⟨?c0, ?f0⟩, (bS.alloc _).cell⟩, hB0⟩
    (fun x => { tmps := #[.slice p c.length cap, undef, .slice none 0 0, .pointer (some ⟨w.heap.size + 1, 0, none⟩), .int .i64 (x.1 : Int), .slice p c.length cap, .int .i64 c.length, .slice (some ⟨w.heap.size, 0, none⟩) c.length c.length, .slice p c.length cap, .func (.func 114) #[] #[.pointer (some ⟨w.heap.size + 1 + 1, 0, none⟩)], .int .i64 (x.1 : Int), (at5 c x.1).V, undef, undef, undef, undef], defers := [] }) ?assign ?body ?done ?stop
  case c0 =>
    rw [hB1.cell (p := ⟨w.heap.size, j, none⟩) (by simp), (HCS.out j hj).1]
    simp
  case f0 =>
    rw [hB1.frz (p := ⟨w.heap.size, j, none⟩) (by simp)]
    exact (HCS.out j hj).2
  case assign =>
    intro l x W K hK
    dsimp only [bgV]
    gi_wp2
    exact hK
  case body =>
    rintro l pre x W ⟨⟨hcs, hbx⟩, hB⟩ _
    have HC := hid hcs
    obtain ⟨k, hk, hst⟩ := x
    obtain ⟨hck, hfk⟩ := hcs k hk
    clear hcs
    dsimp only
    gi_wp2
    refine ⟨(KeepsOthers.setCell _ _ _).from _, (KpS.refl W).setCell (p := ⟨w.heap.size, k, none⟩) (Nat.le_refl _) (by simp; omega) _, ⟨⟨fun j hj => ⟨?_, ?_⟩, ?_⟩, hB.setCell (p := ⟨w.heap.size, k, none⟩) (Nat.le_refl _) _⟩⟩
    · by_cases e : j = k
      · subst e
        rw [World.cell?_setCell_same' _ _ _ (by rw [hck]; rfl)]
        simp
      · rw [set_oth (by intro h; apply e; injection h with _ h2; exact h2.symm), (HC.out j hj).1]
        simp [e]
    · rw [World.frozen?_setCell]
      exact (HC.out j hj).2
    · rw [set_oth (by intro h; injection h with h1; omega)]
      exact hbx
  case done =>
    rintro D ys W hD hall ⟨⟨hcs, hbx⟩, hB⟩ hK
    have HC := hid hcs
    clear hcs
    gi_wp2
    refine ⟨by simp, .inl ⟨_, _, rfl, run_takeDeferred hK, ?_⟩⟩
    have hP := grownBy_putObj' W D (.deferred none)
    have hr : ∀ r, some D = some r → ∃ o : Obj, W.heap[r]? = some o ∧ o.isCells = false := fun r e => by cases e; exact ⟨_, hK, rfl⟩
    refine ⟨_, results_tmp rfl _ _ _, w.heap.size, rfl, Nat.le_refl _, ?_, fun j hj => ?_, hB.trans (belowK_b (w := w) (Nat.le_refl _) W D _ _ (by simp at hD; omega) hK rfl rfl)⟩
    · have h1 := hP.size
      have h2 := hB.size
      have h3 := (Array.getElem?_eq_some_iff.1 hK).1
      simp at hD
      omega
    · obtain ⟨h1, h2⟩ := HC.out j hj
      refine ⟨?_, (frozen_kept h1 hP hr).trans h2⟩
      rw [cell_kept h1 hP hr]
      have hm : (j ∈ ys.map (·.1)) ↔ stB c j = true := by
        rw [show ys.map (·.1) = begsTo c c.length from hall, mem_begsTo]
        exact ⟨fun h => h.2, fun h => ⟨hj, h⟩⟩
      cases hs : stB c j
      · rw [decide_eq_false (fun h => by have := hm.1 h; rw [hs] at this; cases this)]
      · rw [decide_eq_true (hm.2 hs)]
  case stop =>
    rintro D c pre W _ _ h _
    exact h.elim
end Go.Proofs.YtjcnpjidkimldaaGreatDoor.Is

namespace Go.Proofs.YtjcnpjidkimldaaGreatDoor.Is
set_option linter.unusedSimpArgs false
set_option linter.unusedVariables false
set_option maxRecDepth 100000
open Go.ChangeShapes Go.WideShapes Go.ChangeAt Go.RowKit

structure M4 where
  kind : Int
  key : Int
  value : Int
  cap : Int
deriving DecidableEq
def M4.V (m : M4) : Value := .agg #[.int .i64 m.kind, .int .i64 m.key, .int .i64 m.value, .int .i64 m.cap]
def upB (n most : Int) : Bool := decide (1 ≤ n) && decide (n ≤ most)
def mayB (m : M4) : Bool := ((m.kind == 1 && m.key == 4) || m.kind == 2 || m.kind == 3) && upB m.key 16 && upB m.value 64 && upB m.cap 64

theorem upTo_is (n most : Int) (b : Bool) (hb : upB n most = b) (w : World) : Calls Tryz.prog 113 #[.int .i64 n, .int .i64 most] w fun e w' => e = .returned (.bool b) ∧ w = w' := by
  subst hb
  unfold upB
  cases h : decide (1 ≤ n)
  · go_enter Tryz.func113, Tryz.ntmps113
    go_wp2
    go_ret
    exact ⟨rfl, rfl⟩
  · go_enter Tryz.func113, Tryz.ntmps113
    go_wp2
    go_ret
    exact ⟨rfl, rfl⟩

theorem target_I (at_ op dst src off imm : Int) (w : World) (h0 : 0 ≤ at_) (h1 : at_ < 4611686018427387904) (o0 : -32768 ≤ off) (o1 : off < 32768) : Calls Tryz.prog 105 #[.int .i64 at_, .agg #[.int .u8 op, .int .u8 dst, .int .u8 src, .int .i16 off, .int .i32 imm]] w fun e w' => e = .returned (.int .i64 (at_ + 1 + off)) ∧ Below w.heap.size w w' := by
  go_enter Tryz.func105, Tryz.ntmps105
  go_wp2
  go_ret
  exact ⟨rfl, (Below.refl _ _).alloc (Nat.le_refl _) _⟩
def helpB (n : Int) : Bool := n == 1 || n == 2 || n == 3 || n == 5 || n == 7
theorem helper_is (n : Int) (w : World) : Calls Tryz.prog 116 #[.int .i32 n] w fun e w' => e = .returned (.bool (helpB n)) ∧ w = w' := by
  unfold helpB
  cases e1 : (n == 1)
  · cases e2 : (n == 2)
    · cases e3 : (n == 3)
      · cases e5 : (n == 5)
        · cases e7 : (n == 7)
          all_goals
            go_enter Tryz.func116, Tryz.ntmps116
            go_wp2
            go_ret
            exact ⟨rfl, rfl⟩
        · go_enter Tryz.func116, Tryz.ntmps116
          go_wp2
          go_ret
          exact ⟨rfl, rfl⟩
      · go_enter Tryz.func116, Tryz.ntmps116
        go_wp2
        go_ret
        exact ⟨rfl, rfl⟩
    · go_enter Tryz.func116, Tryz.ntmps116
      go_wp2
      go_ret
      exact ⟨rfl, rfl⟩
  · go_enter Tryz.func116, Tryz.ntmps116
    go_wp2
    go_ret
    exact ⟨rfl, rfl⟩
theorem mayBe_I (m : M4) (w : World) : Calls Tryz.prog 72 #[m.V] w fun e w' => e = .returned (.bool (mayB m)) ∧ Below w.heap.size w w' := by
  obtain ⟨kind, key, value, cap⟩ := m
  unfold mayB M4.V
  dsimp only
  cases k1 : (kind == 1)
  · cases k2 : (kind == 2)
    · cases k3 : (kind == 3)
      · go_enter Tryz.func72, Tryz.ntmps72
        go_wp2
        go_ret
        exact ⟨rfl, (Below.refl _ _).alloc (Nat.le_refl _) _⟩
      · cases u1 : upB key 16
        · have U1 := hid u1
          clear u1
          go_enter Tryz.func72, Tryz.ntmps72
          go_wp2_with fail
          refine (upTo_is _ _ false U1.out _).mono ?_
          rintro e w' ⟨rfl, rfl⟩
          go_wp2
          go_ret
          exact ⟨rfl, (Below.refl _ _).alloc (Nat.le_refl _) _⟩
        · cases u2 : upB value 64
          · have U1 := hid u1
            have U2 := hid u2
            clear u1 u2
            go_enter Tryz.func72, Tryz.ntmps72
            go_wp2_with fail
            refine (upTo_is _ _ true U1.out _).mono ?_
            rintro e w' ⟨rfl, rfl⟩
            go_wp2_with fail
            refine (upTo_is _ _ false U2.out _).mono ?_
            rintro e w' ⟨rfl, rfl⟩
            go_wp2
            go_ret
            exact ⟨rfl, (Below.refl _ _).alloc (Nat.le_refl _) _⟩
          · cases u3 : upB cap 64
            · have U1 := hid u1
              have U2 := hid u2
              have U3 := hid u3
              clear u1 u2 u3
              go_enter Tryz.func72, Tryz.ntmps72
              go_wp2_with fail
              refine (upTo_is _ _ true U1.out _).mono ?_
              rintro e w' ⟨rfl, rfl⟩
              go_wp2_with fail
              refine (upTo_is _ _ true U2.out _).mono ?_
              rintro e w' ⟨rfl, rfl⟩
              go_wp2_with fail
              refine (upTo_is _ _ false U3.out _).mono ?_
              rintro e w' ⟨rfl, rfl⟩
              go_wp2
              go_ret
              exact ⟨rfl, (Below.refl _ _).alloc (Nat.le_refl _) _⟩
            · have U1 := hid u1
              have U2 := hid u2
              have U3 := hid u3
              clear u1 u2 u3
              go_enter Tryz.func72, Tryz.ntmps72
              go_wp2_with fail
              refine (upTo_is _ _ true U1.out _).mono ?_
              rintro e w' ⟨rfl, rfl⟩
              go_wp2_with fail
              refine (upTo_is _ _ true U2.out _).mono ?_
              rintro e w' ⟨rfl, rfl⟩
              go_wp2_with fail
              refine (upTo_is _ _ true U3.out _).mono ?_
              rintro e w' ⟨rfl, rfl⟩
              go_wp2
              go_ret
              exact ⟨rfl, (Below.refl _ _).alloc (Nat.le_refl _) _⟩
    · cases u1 : upB key 16
      · have U1 := hid u1
        clear u1
        go_enter Tryz.func72, Tryz.ntmps72
        go_wp2_with fail
        refine (upTo_is _ _ false U1.out _).mono ?_
        rintro e w' ⟨rfl, rfl⟩
        go_wp2
        go_ret
        exact ⟨rfl, (Below.refl _ _).alloc (Nat.le_refl _) _⟩
      · cases u2 : upB value 64
        · have U1 := hid u1
          have U2 := hid u2
          clear u1 u2
          go_enter Tryz.func72, Tryz.ntmps72
          go_wp2_with fail
          refine (upTo_is _ _ true U1.out _).mono ?_
          rintro e w' ⟨rfl, rfl⟩
          go_wp2_with fail
          refine (upTo_is _ _ false U2.out _).mono ?_
          rintro e w' ⟨rfl, rfl⟩
          go_wp2
          go_ret
          exact ⟨rfl, (Below.refl _ _).alloc (Nat.le_refl _) _⟩
        · cases u3 : upB cap 64
          · have U1 := hid u1
            have U2 := hid u2
            have U3 := hid u3
            clear u1 u2 u3
            go_enter Tryz.func72, Tryz.ntmps72
            go_wp2_with fail
            refine (upTo_is _ _ true U1.out _).mono ?_
            rintro e w' ⟨rfl, rfl⟩
            go_wp2_with fail
            refine (upTo_is _ _ true U2.out _).mono ?_
            rintro e w' ⟨rfl, rfl⟩
            go_wp2_with fail
            refine (upTo_is _ _ false U3.out _).mono ?_
            rintro e w' ⟨rfl, rfl⟩
            go_wp2
            go_ret
            exact ⟨rfl, (Below.refl _ _).alloc (Nat.le_refl _) _⟩
          · have U1 := hid u1
            have U2 := hid u2
            have U3 := hid u3
            clear u1 u2 u3
            go_enter Tryz.func72, Tryz.ntmps72
            go_wp2_with fail
            refine (upTo_is _ _ true U1.out _).mono ?_
            rintro e w' ⟨rfl, rfl⟩
            go_wp2_with fail
            refine (upTo_is _ _ true U2.out _).mono ?_
            rintro e w' ⟨rfl, rfl⟩
            go_wp2_with fail
            refine (upTo_is _ _ true U3.out _).mono ?_
            rintro e w' ⟨rfl, rfl⟩
            go_wp2
            go_ret
            exact ⟨rfl, (Below.refl _ _).alloc (Nat.le_refl _) _⟩
  · cases k4 : (key == 4)
    · cases k2 : (kind == 2)
      · cases k3 : (kind == 3)
        · go_enter Tryz.func72, Tryz.ntmps72
          go_wp2
          go_ret
          exact ⟨rfl, (Below.refl _ _).alloc (Nat.le_refl _) _⟩
        · exact absurd ((beq_iff_eq.1 k1).symm.trans (beq_iff_eq.1 k3)) (by decide)
      · exact absurd ((beq_iff_eq.1 k1).symm.trans (beq_iff_eq.1 k2)) (by decide)
    · cases u1 : upB key 16
      · have U1 := hid u1
        clear u1
        go_enter Tryz.func72, Tryz.ntmps72
        go_wp2_with fail
        refine (upTo_is _ _ false U1.out _).mono ?_
        rintro e w' ⟨rfl, rfl⟩
        go_wp2
        go_ret
        exact ⟨rfl, (Below.refl _ _).alloc (Nat.le_refl _) _⟩
      · cases u2 : upB value 64
        · have U1 := hid u1
          have U2 := hid u2
          clear u1 u2
          go_enter Tryz.func72, Tryz.ntmps72
          go_wp2_with fail
          refine (upTo_is _ _ true U1.out _).mono ?_
          rintro e w' ⟨rfl, rfl⟩
          go_wp2_with fail
          refine (upTo_is _ _ false U2.out _).mono ?_
          rintro e w' ⟨rfl, rfl⟩
          go_wp2
          go_ret
          exact ⟨rfl, (Below.refl _ _).alloc (Nat.le_refl _) _⟩
        · cases u3 : upB cap 64
          · have U1 := hid u1
            have U2 := hid u2
            have U3 := hid u3
            clear u1 u2 u3
            go_enter Tryz.func72, Tryz.ntmps72
            go_wp2_with fail
            refine (upTo_is _ _ true U1.out _).mono ?_
            rintro e w' ⟨rfl, rfl⟩
            go_wp2_with fail
            refine (upTo_is _ _ true U2.out _).mono ?_
            rintro e w' ⟨rfl, rfl⟩
            go_wp2_with fail
            refine (upTo_is _ _ false U3.out _).mono ?_
            rintro e w' ⟨rfl, rfl⟩
            go_wp2
            go_ret
            exact ⟨rfl, (Below.refl _ _).alloc (Nat.le_refl _) _⟩
          · have U1 := hid u1
            have U2 := hid u2
            have U3 := hid u3
            clear u1 u2 u3
            go_enter Tryz.func72, Tryz.ntmps72
            go_wp2_with fail
            refine (upTo_is _ _ true U1.out _).mono ?_
            rintro e w' ⟨rfl, rfl⟩
            go_wp2_with fail
            refine (upTo_is _ _ true U2.out _).mono ?_
            rintro e w' ⟨rfl, rfl⟩
            go_wp2_with fail
            refine (upTo_is _ _ true U3.out _).mono ?_
            rintro e w' ⟨rfl, rfl⟩
            go_wp2
            go_ret
            exact ⟨rfl, (Below.refl _ _).alloc (Nat.le_refl _) _⟩

end Go.Proofs.YtjcnpjidkimldaaGreatDoor.Is
