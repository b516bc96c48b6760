/-
  Contract of the closure add in graph's leads, the question asked by Next's closure or by walk's.
-/
import Derived.Test.YtodmikjpmcabiabDoorDGrQ
import Derived.Test.YtodmikjpmcabiabDoorDMoH
namespace Go.Proofs.YtodmikjpmcabiabDoor
set_option linter.unusedSimpArgs false
set_option linter.unusedVariables false
set_option maxRecDepth 100000
open Go.ChangeShapes Go.WideShapes Go.ChangeAt Go.RowKit

/-- What lies in leads' own memory: the code, the question, the list; and other cells. -/
structure LdM (w : World) (p : Option Addr) (n cap : Nat) (fv : Value) (b3 b5 b7 : Nat) (X : List (Addr × Value)) (L : List Int) (v : Value) (W : World) : Prop where
  bel : Below w.heap.size w W
  c3 : W.cell? ⟨b3, 0, none⟩ = some (.slice p n cap)
  c5 : W.cell? ⟨b5, 0, none⟩ = some fv
  c7 : W.cell? ⟨b7, 0, none⟩ = some v
  f7 : W.frozen? ⟨b7, 0, none⟩ = false
  own : W.ownsRow w.heap.size 3 1 v L.length (L.map (Value.int .i64))
  o3 : v.ownBlock ≠ some b3
  o5 : v.ownBlock ≠ some b5
  o7 : v.ownBlock ≠ some b7
  l7 : w.heap.size ≤ b7
  n3 : b3 ≠ b7
  n5 : b5 ≠ b7
  ex : ∀ a u, (a, u) ∈ X → W.cell? a = some u ∧ v.ownBlock ≠ some a.block ∧ a.block ≠ b7
theorem own_nx {w w' : World} {b : Nat} {e : TypeId} {k n : Nat} {v : Value} {xs : List Value} (h : w.ownsRow b e k v n xs) (hb : Below w.heap.size w w') : w'.ownsRow b e k v n xs :=
  h.kept (grown_of_below hb) (by by_cases h : v.ownBlock = none <;> simp [h])
theorem LdM.next {w : World} {p : Option Addr} {n cap : Nat} {fv : Value} {b3 b5 b7 : Nat} {X : List (Addr × Value)} {L : List Int} {v : Value} {W W' : World} (h : LdM w p n cap fv b3 b5 b7 X L v W) (hb : Below W.heap.size W W') : LdM w p n cap fv b3 b5 b7 X L v W' :=
  ⟨below_next h.bel hb, cn hb h.c3, cn hb h.c5, cn hb h.c7, (hb.frz (World.block_lt_of_cell? W _ h.c7)).trans h.f7, own_nx h.own hb, h.o3, h.o5, h.o7, h.l7, h.n3, h.n5, fun a u hx => ⟨cn hb (h.ex a u hx).1, (h.ex a u hx).2⟩⟩
/-- The list grown by one, and kept anew. -/
theorem LdM.push {w : World} {p : Option Addr} {n cap : Nat} {fv : Value} {b3 b5 b7 : Nat} {X : List (Addr × Value)} {L : List Int} {v v' : Value} {W W' : World} {t : Int} (h : LdM w p n cap fv b3 b5 b7 X L v W) (ho : W'.ownsRow w.heap.size 3 1 v' (L.length + 1) (L.map (Value.int .i64) ++ [.int .i64 t])) (hg : W.grownBy W' v.ownBlock) (hv : v'.ownBlock = v.ownBlock ∨ v'.ownBlock = some W.heap.size) (hb : w.heap.size ≤ W.heap.size) :
    LdM w p n cap fv b3 b5 b7 X (L ++ [t]) v' (W'.setCell ⟨b7, 0, none⟩ v') := by
  have l3 := World.block_lt_of_cell? W _ h.c3
  have l5 := World.block_lt_of_cell? W _ h.c5
  have l7 := World.block_lt_of_cell? W _ h.c7
  have hne : ∀ b, b < W.heap.size → v.ownBlock ≠ some b → v'.ownBlock ≠ some b := fun b hl hn => by
    rcases hv with e | e
    · rw [e]; exact hn
    · rw [e]; intro e'; injection e' with e'; omega
  have hk : ∀ a u, W.cell? a = some u → v.ownBlock ≠ some a.block → a.block ≠ b7 → (W'.setCell ⟨b7, 0, none⟩ v').cell? a = some u := fun a u hc hn hb7 => by
    rw [set_oth (by intro e; exact hb7 (by rw [← e]))]
    exact hg.cell hc (fun e => hn e.symm)
  have h7' : W'.cell? ⟨b7, 0, none⟩ = some v := hg.cell h.c7 (fun e => h.o7 e.symm)
  have hbw : Below w.heap.size w W' := h.bel.grown hg hb (fun k e => (h.own.lt k e).1)
  refine ⟨hbw.setCell (p := ⟨b7, 0, none⟩) h.l7 _, hk _ _ h.c3 h.o3 h.n3, hk _ _ h.c5 h.o5 h.n5, World.cell?_setCell_same' _ _ _ (by rw [h7']; rfl), ?_, ?_, hne _ l3 h.o3, hne _ l5 h.o5, hne _ l7 h.o7, h.l7, h.n3, h.n5, fun a u hx => ?_⟩
  · rw [World.frozen?_setCell, World.frozen?_of_block (hg.block _ l7 (fun e => h.o7 e.symm))]
    exact h.f7
  · have : (L ++ [t]).length = L.length + 1 := by simp
    rw [this, List.map_append]
    exact ho.kept (grown_set W' ⟨b7, 0, none⟩ v') (.inr (fun e => hne _ l7 h.o7 e))
  · obtain ⟨hc, h1, h2⟩ := h.ex a u hx
    exact ⟨hk _ _ hc h1 h2, hne _ (World.block_lt_of_cell? W _ hc) h1, h2⟩
def addL (c : List I5) (L : List Int) (t : Int) : List Int := if decide (0 ≤ t) && (decide (t < c.length) && stB c t.toNat) then L ++ [t] else L
theorem src_new1 (w : World) (a : Value) (t : TypeId) : SrcP (w.heap.size + 1) (w.alloc (.cells #[a] t)) (some ⟨w.heap.size, 0, none⟩) [a] := by
  refine .inr ⟨w.heap.size, 0, rfl, by omega, fun j u hu => ?_⟩
  obtain rfl : j = 0 := by
    cases j with
    | zero => rfl
    | succ j => simp at hu
  simp at hu
  subst hu
  simp
def AddPost (w : World) (p : Option Addr) (n cap : Nat) (fv : Value) (b3 b5 b7 : Nat) (X : List (Addr × Value)) (L : List Int) (e : Ending) (W : World) : Prop := e = .returned (.tuple #[]) ∧ ∃ v, LdM w p n cap fv b3 b5 b7 X L v W

set_option maxRecDepth 100000 in
set_option maxHeartbeats 2000000 in
theorem add_next (w : World) (p : Option Addr) (cap : Nat) (c : List I5) (bx b3 b5 b7 : Nat) (X : List (Addr × Value)) (L : List Int) (v : Value) (t : Int) (W : World) (hlen : c.length < 11728124029440) (h0 : -9223372036854775808 ≤ t) (h1 : t < 9223372036854775808) (hL : L.length ≤ 2)
    (hm : LdM w p c.length cap (.func (.func 26) #[] #[.pointer (some ⟨bx, 0, none⟩)]) b3 b5 b7 X L v W)
    (his : ∀ W k, Below w.heap.size w W → k < c.length → Calls Tryd.prog 26 #[.int .i64 (k : Int), .pointer (some ⟨bx, 0, none⟩)] W fun e w' => e = .returned (.bool (stB c k)) ∧ Below W.heap.size W w') :
    Calls Tryd.prog 35 #[.int .i64 t, .pointer (some ⟨b3, 0, none⟩), .pointer (some ⟨b5, 0, none⟩), .pointer (some ⟨b7, 0, none⟩)] W (AddPost w p c.length cap (.func (.func 26) #[] #[.pointer (some ⟨bx, 0, none⟩)]) b3 b5 b7 X (addL c L t)) := by
  have HM := hid hm
  have HIS := hid his
  have c3 := hm.c3
  have c5 := hm.c5
  clear hm his
  by_cases t0 : t < 0
  · have d0 : decide (0 ≤ t) = false := decide_eq_false (by omega)
    have HL := hid (show addL c L t = L by unfold addL; rw [d0]; rfl)
    go_enter Tryd.func35, Tryd.ntmps35
    go_wp2
    rw [HL.out]
    exact bodyPost_end (results_none rfl _ _ _) rfl ⟨rfl, _, HM.out⟩
  have d0 : decide (0 ≤ t) = true := decide_eq_true (by omega)
  by_cases t1 : (c.length : Int) ≤ t
  · have d1 : decide (t < (c.length : Int)) = false := decide_eq_false (by omega)
    have HL := hid (show addL c L t = L by unfold addL; rw [d0, d1]; rfl)
    go_enter Tryd.func35, Tryd.ntmps35
    go_wp2
    rw [HL.out]
    exact bodyPost_end (results_none rfl _ _ _) rfl ⟨rfl, _, HM.out⟩
  have d1 : decide (t < (c.length : Int)) = true := decide_eq_true (by omega)
  obtain ⟨k, rfl⟩ := Int.eq_ofNat_of_zero_le (show 0 ≤ t by omega)
  have hk : k < c.length := by omega
  go_enter Tryd.func35, Tryd.ntmps35
  go_wp2_with fail
  refine (HIS.out _ k HM.out.bel hk).mono ?_
  rintro e w2 ⟨rfl, b2⟩
  have HM2 := hid (HM.out.next b2)
  clear b2 HM c3 c5
  cases hs : stB c k
  · have HL := hid (show addL c L (k : Int) = L by unfold addL; rw [d0, d1, Int.toNat_natCast, hs]; rfl)
    clear hs
    go_wp2
    rw [HL.out]
    exact bodyPost_end (results_none rfl _ _ _) rfl ⟨rfl, _, HM2.out⟩
  · have HL := hid (show addL c L (k : Int) = L ++ [(k : Int)] by unfold addL; rw [d0, d1, Int.toNat_natCast, hs]; rfl)
    have c7 := HM2.out.c7
    have q7 := World.block_lt_of_cell? w2 _ c7
    have f7 := HM2.out.f7
    dsimp only at q7
    obtain ⟨ii, hii, hp⟩ := Option.map_eq_some_iff.1 intInfoQ
    injection hp with hi1 hp
    injection hp with hi2 hi3
    have HII := hid (And.intro hii (And.intro hi1 (And.intro hi2 hi3)))
    have bA := (Below.refl w2.heap.size w2).alloc (Nat.le_refl _) (.cells #[.int .i64 (k : Int)] 3)
    have HM3 := hid (HM2.out.next bA)
    have HWL := hid (HM3.out.bel.size)
    clear hii hi1 hi2 hi3 hs bA
    go_wp2_with (at_builtin; refine stop_app ?_)
    unfold Stop
    refine list_app _ rfl (.tmp 18) (.tmp 20) _ (by rfl) w.heap.size 3 ii _ 1 8 Tryd.underlying25 HII.out.1 HII.out.2.1 HII.out.2.2.1 HII.out.2.2.2 rfl (by decide) v L.length (L.map (Value.int .i64)) (by exact rfl) HM3.out.own (w2.heap.size + 1) (some ⟨w2.heap.size, 0, none⟩) 1 1 [.int .i64 (k : Int)] (by exact rfl) rfl (src_new1 w2 _ _) (by simp [Value.oneCell']) (by simp only [maxLen]; omega) (by omega) HWL.out ?_
    intro v5 w5 own5 grow5 at5
    obtain ⟨g9, k9, rfl, hk9, hgb9, hgl9⟩ := own_some own5 (by omega)
    have HM5 := hid (HM3.out.push own5 grow5 at5 HWL.out)
    have c7' : w5.cell? ⟨b7, 0, none⟩ = some v := grow5.cell HM3.out.c7 (fun e => HM3.out.o7 e.symm)
    have f7' : w5.frozen? ⟨b7, 0, none⟩ = false := by
      rw [World.frozen?_of_block (grow5.block _ (World.block_lt_of_cell? _ _ HM3.out.c7) (fun e => HM3.out.o7 e.symm))]
      exact HM3.out.f7
    clear own5 grow5 at5 hk9 hgb9 hgl9 c7 f7 h0 h1 hlen d0 d1 t0 t1 hk
    go_wp2
    rw [HL.out]
    exact bodyPost_end (results_none rfl _ _ _) rfl ⟨rfl, _, HM5.out⟩

end Go.Proofs.YtodmikjpmcabiabDoor
