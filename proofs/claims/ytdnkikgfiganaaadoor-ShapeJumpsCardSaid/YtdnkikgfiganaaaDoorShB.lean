/-
  The iterator over a program's instructions: what it hands to its caller's round, whatever that round does to memory of its own.
-/
import Derived.Test.YtdnkikgfiganaaaDoorShM
import Derived.RangeFuncNested
import Derived.RangeFuncBound
import Derived.RangeFuncCalls
import Derived.RangeFuncLeaves
import Derived.Shelf.Abstract
import Derived.Shelf.RegionOpen
import Derived.OwnWalkIn
import Derived.TacticsInMore
import Derived.LoopNIn
import Derived.LoopIn
namespace Go.Proofs.YtdnkikgfiganaaaDoor
set_option linter.unusedSimpArgs false
set_option linter.unusedVariables false
open Go.ChangeShapes Go.WideShapes Go.ChangeAt Go.RowKit Go.Shelf
attribute [local go_sem] Oper.semAt_some

/-- What a round keeps for the iterator: all that lay below n₀, and the box Bs. -/
def KpS (n₀ Bs : Nat) (A B : World) : Prop := A.heap.size ≤ B.heap.size ∧ ∀ k, (k < n₀ ∨ k = Bs) → k < A.heap.size → B.heap[k]? = A.heap[k]?
theorem KpS.refl {n₀ Bs : Nat} (A : World) : KpS n₀ Bs A A := ⟨Nat.le_refl _, fun _ _ _ => rfl⟩
theorem KpS.trans {n₀ Bs : Nat} {A B C : World} (h : KpS n₀ Bs A B) (k : KpS n₀ Bs B C) : KpS n₀ Bs A C :=
  ⟨Nat.le_trans h.1 k.1, fun i hi hl => (k.2 i hi (Nat.lt_of_lt_of_le hl h.1)).trans (h.2 i hi hl)⟩
theorem KpS.put {n₀ Bs : Nat} {w : World} (hn : n₀ ≤ w.heap.size) (hB : Bs < w.heap.size) (W : World) (l : Nat) (o o' : Obj) (hl : w.heap.size ≤ l) (_ : W.heap[l]? = some o) (_ : o.isCells = false) (_ : o.isWalk = false) : KpS n₀ Bs W (W.putObj l o') := by
  refine ⟨(grownBy_putObj' W l o').size, fun k hk hlt => (grownBy_putObj' W l o').block k hlt ?_⟩
  intro e
  cases e
  omega
theorem KpS.of_below {n₀ Bs m : Nat} {A B : World} (h : Below m A B) (hn : n₀ ≤ m) (hB : Bs < m) : KpS n₀ Bs A B := ⟨h.size, fun k hk _ => h.block k (by omega)⟩
theorem KpS.new {n₀ Bs : Nat} {A B : World} (h : Below A.heap.size A B) : KpS n₀ Bs A B := ⟨h.size, fun k hk hl => h.block k hl⟩
theorem KpS.setCell {n₀ Bs : Nat} {A B : World} (h : KpS n₀ Bs A B) {p : Addr} (hp : n₀ ≤ p.block) (hB : p.block ≠ Bs) (u : Value) : KpS n₀ Bs A (B.setCell p u) :=
  h.trans ⟨by simp [World.setCell], fun k hk _ => Below.heap_setCell _ _ _ _ (by omega)⟩
theorem KpS.cell {n₀ Bs : Nat} {A B : World} (h : KpS n₀ Bs A B) {p : Addr} (hp : p.block < n₀ ∨ p.block = Bs) (hl : p.block < A.heap.size) : B.cell? p = A.cell? p := by
  unfold World.cell?
  rw [h.2 _ hp hl]
theorem grown_of_below {A B : World} (h : Below A.heap.size A B) : A.grownBy B none :=
  ⟨h.os, h.tape, h.output, h.size, fun k hk _ => h.block k hk⟩
theorem KpS.ins {n₀ Bs : Nat} {A B : World} (h : KpS n₀ Bs A B) {b o : Nat} {x : I5} (hi : InsAt A b o x) (hb : b < n₀) (hl : b < A.heap.size) : InsAt B b o x := by
  obtain ⟨a0, a1, a2, a3, a4⟩ := hi
  exact ⟨(h.cell (.inl hb) hl).trans a0, (h.cell (.inl hb) hl).trans a1, (h.cell (.inl hb) hl).trans a2, (h.cell (.inl hb) hl).trans a3, (h.cell (.inl hb) hl).trans a4⟩
theorem KpS.sz {n₀ Bs : Nat} {A B : World} (h : KpS n₀ Bs A B) (hz : SzOk A) (hn : 0 < n₀) : SzOk B :=
  ⟨Nat.lt_of_lt_of_le hz.1 h.1, (h.cell (p := ⟨0, 0, none⟩) (.inl hn) hz.1).trans hz.2.1, (h.cell (p := ⟨0, 1, none⟩) (.inl hn) hz.1).trans hz.2.2.1, (h.cell (p := ⟨0, 2, none⟩) (.inl hn) hz.1).trans hz.2.2.2.1, (h.cell (p := ⟨0, 3, none⟩) (.inl hn) hz.1).trans hz.2.2.2.2⟩
theorem CdSl.keptS {n₀ Bs : Nat} {A B : World} {p : Option Addr} {n : Nat} {c : List I5} (h : CdSl n₀ A p n c) (hk : KpS n₀ Bs A B) (hn : n₀ ≤ A.heap.size) : CdSl n₀ B p n c := by
  obtain ⟨h1, h2, h3, h4⟩ := h
  refine ⟨h1, h2, h3, h4.imp id ?_⟩
  rintro ⟨b, off, e, hl, hc⟩
  exact ⟨b, off, e, hl, fun j hj => hk.ins (hc j hj) hl (by omega)⟩

/-- The places that come. -/
abbrev Bg (c : List I5) : Type := { k : Nat // k < c.length ∧ stB c k = true }
def bgV (c : List I5) (x : Bg c) : Array Value := #[.int .i64 (x.1 : Int), (at5 c x.1).V]
def bgAll (c : List I5) (ys : List (Bg c)) : Prop := ys.map (·.1) = begsTo c c.length
def bgPart (c : List I5) (ys : List (Bg c)) : Prop := ∃ k, k < c.length ∧ stB c k = true ∧ ys.map (·.1) = begsTo c k ++ [k]

theorem begsTo_min {c : List I5} {k : Nat} (h : stB c k = true) (hk : k < c.length) : begsTo c k ++ [k] = begsTo c (min (k + stepN (at5 c k)) c.length) := by
  by_cases hs : k + stepN (at5 c k) ≤ c.length
  · rw [Nat.min_eq_left hs, begsTo_step h]
  · have := stepN_pos (at5 c k)
    rw [Nat.min_eq_right (by omega), show c.length = k + 1 by omega, begsTo_succ, if_pos h]

theorem begins_at (p : Option Addr) (n cap : Nat) (w : World) : Calls Tryd.prog 42 #[.slice p n cap] w fun e w' => e = .returned (.func (.func 61) #[] #[.pointer (some ⟨w.heap.size, 0, none⟩)]) ∧ w' = w.alloc (.cells #[.slice p n cap] 23) := by
  go_enter Tryd.func42, Tryd.ntmps42
  go_wp2
  go_ret
  exact ⟨rfl, rfl⟩

set_option maxRecDepth 100000 in
set_option maxHeartbeats 2000000 in
theorem begins1_in (n : Nat) (hn : 2 ≤ n) (l Bs n₀ cap : Nat) (p : Option Addr) (c : List I5) (J Jx : List (Bg c) → World → Prop) (W : World) (hn₀ : n₀ ≤ W.heap.size) (h0n : 0 < n₀) (hBl : Bs < W.heap.size) (hz : SzOk W) (hsl : CdSl n₀ W p c.length c)
    (hBs : W.cell? ⟨Bs, 0, none⟩ = some (.slice p c.length cap)) (hJ : AbidesFrom W.heap.size J)
    (hY : ∀ pre x W, J pre W → pre.length < c.length → YieldAt Fence.wide (n - 1) Tryd.prog l (bgV c x) W fun e W' =>
      (e = .returned (.bool true) ∧ J (pre ++ [x]) W' ∧ KpS n₀ Bs W W') ∨ (e = .returned (.bool false) ∧ Jx (pre ++ [x]) W'))
    (h0 : J [] W) :
    CallsIn Fence.wide n Tryd.prog 61 #[.func (.yield l) #[] #[], .pointer (some ⟨Bs, 0, none⟩)] W fun e W' => (∃ v, e = .returned v) ∧ ((∃ ys, bgAll c ys ∧ J ys W') ∨ (∃ pre, bgPart c pre ∧ Jx pre W')) := by
  refine callsIn_of_wp Tryd.func61 rfl trivial ?_ rfl
  simp only [Tryd.ntmps61, List.size_toArray, List.length_cons, List.length_nil, Nat.reduceAdd, Nat.reduceSub, Array.replicate_succ, Array.replicate_zero, List.push_toArray, List.append_toArray, List.nil_append, List.cons_append]
  gi_wp2
  gi_loopw [3] (fun i wr => ∃ (k : Nat) (pre : List (Bg c)), i = .int .i64 k ∧ k ≤ c.length + 1 ∧ stB c k = true ∧ pre.map (·.1) = begsTo c (min k c.length) ∧ J pre wr ∧ KpS n₀ Bs W wr)
    (fun i _ => c.length + 1 - (intOf i).toNat)
  case atStart => exact ⟨0, [], rfl, by omega, rfl, by simp [begsTo], h0, KpS.refl _⟩
  case round =>
    obtain ⟨k, pre, rfl, hk, hst, hpre, hJs, hkp⟩ := hrel
    have hbx := (hkp.cell (p := ⟨Bs, 0, none⟩) (.inr rfl) hBl).trans hBs
    by_cases hlt : k < c.length
    · have hpl : pre.length < c.length := by
        have := congrArg List.length hpre
        rw [List.length_map] at this
        have h2 := begsTo_len c (min k c.length)
        omega
      obtain ⟨fn, tmps, assign, body, hy, hR⟩ := hY pre ⟨k, hlt, hst⟩ wr hJs hpl
      dsimp only [bgV, I5.V] at hy
      have hsl' := hid (hsl.keptS hkp hn₀)
      obtain ⟨_, hok, hlen, hblk⟩ := hsl
      rcases hblk with h | ⟨b, off, rfl, hb, hins⟩
      · omega
      obtain ⟨c0, c1, c2, c3, c4⟩ := hkp.ins (hins k hlt) hb (by omega)
      clear hins hY
      gi_wp2
      refine ⟨fun _ => by omega, ?_⟩
      refine hR.mono ?_
      rintro e W3 (⟨rfl, hJ3, hk3⟩ | ⟨rfl, hJx3⟩)
      · have hkp3 := hkp.trans hk3
        have hbx3 := (hkp3.cell (p := ⟨Bs, 0, none⟩) (.inr rfl) hBl).trans hBs
        obtain ⟨g0, g1, g2, g3, g4⟩ := hk3.ins ⟨c0, c1, c2, c3, c4⟩ hb (by have := hkp.1; omega)
        have hz3 := hid (hkp3.sz hz h0n)
        have HP := fun W hW => places_I (at5 c k) (at5_ok hok k) W hW
        dsimp only [I5.V] at HP
        have hstep := begsTo_step hst
        have hnext := (stB_next hst).1
        have hsp : stepN (at5 c k) = if (at5 c k).p = 2 then 2 else 1 := rfl
        have hpc := p_cases (at5 c k)
        generalize hpe : (at5 c k).p = pp at HP hsp hpc
        have HP' := hid HP
        have HST := hid hstep
        have HNX := hid hnext
        have HSP := hid hsp
        have HPC := hid hpc
        have HPRE := hid hpre
        clear HP hstep hnext hsp hpc hpe hpre
        have hH3 := hid hkp3
        clear c0 c1 c2 c3 c4 hk3 hkp hbx hz hkp3
        gi_wp2
        refine ⟨trivial, fun _ => by omega, ?_⟩
        refine (callsIn_wide.2 (HP'.out W3 hz3.out)).mono ?_
        rintro e W4 ⟨rfl, b4⟩
        have HB4 := hid b4
        clear b4 g0 g1 g2 g3 g4 hbx3
        have hJ4 := hJ _ W3 W4 none hJ3 (grown_of_below HB4.out) (fun r h => by cases h)
        have hK4 := hid (hH3.out.trans (KpS.new HB4.out))
        rcases HPC.out with rfl | rfl | rfl
        all_goals
          gi_wp2
          go_roundw
          case rel =>
            refine ⟨k + stepN (at5 c k), pre ++ [⟨k, hlt, hst⟩], ?_, ?_, HNX.out, ?_, hJ4, hK4.out⟩
            · rw [HSP.out]; simp
            · have := stepN_pos (at5 c k); omega
            · rw [List.map_append, HPRE.out, Nat.min_eq_left (by omega)]
              exact begsTo_min hst hlt
          case measure => simp [intOf]; omega
      · gi_wp2
        go_end0
        refine ⟨⟨_, rfl⟩, .inr ⟨_, ⟨k, hlt, hst, ?_⟩, hJx3⟩⟩
        rw [List.map_append, hpre, Nat.min_eq_left (by omega)]
        rfl
    · gi_wp2
      refine ⟨fun _ h => (by cases h), ?_⟩
      gi_wp2
      go_end0
      refine ⟨⟨_, rfl⟩, .inl ⟨pre, ?_, hJs⟩⟩
      show pre.map (·.1) = _
      rw [hpre, Nat.min_eq_right (by omega)]

/-- The iterator's contract, as the caller's law wants it. -/
theorem begins_stops (n : Nat) (hn : 2 ≤ n) (Bs n₀ cap : Nat) (p : Option Addr) (c : List I5) (w : World) (hn₀ : n₀ ≤ w.heap.size) (h0n : 0 < n₀) (hBl : Bs < w.heap.size) (hz : SzOk w) (hsl : CdSl n₀ w p c.length c)
    (hBs : w.cell? ⟨Bs, 0, none⟩ = some (.slice p c.length cap)) :
    SeqStopsK Fence.wide n Tryd.prog 61 #[.pointer (some ⟨Bs, 0, none⟩)] (bgV c) (KpS n₀ Bs) (bgAll c) (bgPart c) c.length w := fun l J Jx W hW hJ hJx hY h0 =>
  begins1_in n hn l Bs n₀ cap p c J Jx W (Nat.le_trans hn₀ hW.size) h0n (Nat.lt_of_lt_of_le hBl hW.size) (hz.below hW) (hsl.kept hW hn₀) ((hW.cell (p := ⟨Bs, 0, none⟩) hBl).trans hBs) hJ hY h0
end Go.Proofs.YtdnkikgfiganaaaDoor
