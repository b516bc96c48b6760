/-
  Contract of the document's shifted: shifts of a span by each count.
-/
import Derived.Test.YtjcnpjidkimldaaASqC
import Derived.Test.YtjcnpjidkimldaaASqQ
import Derived.Test.YtjcnpjidkimldaaASpAa
import Derived.Test.YtjcnpjidkimldaaATnG
import Derived.Test.YtjcnpjidkimldaaATnX
import Derived.Test.YtjcnpjidkimldaaAHrU
import Derived.Laws.AppendOwn
import Derived.OwnWalk
import Derived.BigRegion
import Derived.Deep.AppendLies
namespace Go.Proofs.Ytjcnpjidkimldaa
set_option linter.unusedSimpArgs false
set_option linter.unusedVariables false
set_option maxRecDepth 100000
set_option maxRecDepth 100000
open Go.ChangeShapes Go.WideShapes Go.ChangeAt Go.RowKit Sq

namespace Sq
theorem u64Info : (Try.prog.info? 22).map (fun i => (i.zero, i.size, i.bytes)) = some (some (.int .u64 0), 1, 8) := by kernel_rfl
def uL (l : List B64) : List Value := l.map fun x => .int .u64 (ub x)
/-- A list of numbers of the call's own. -/
def OwnU (w0 w : World) (v : Value) (l : List B64) : Prop := w.ownsRow w0.heap.size 22 1 v l.length (uL l) ∧ Below w0.heap.size w0 w
theorem OwnU.nil (w0 w : World) (h : Below w0.heap.size w0 w) : OwnU w0 w (.slice none 0 0) [] := ⟨⟨by simp [uL], .inl ⟨rfl, rfl⟩⟩, h⟩
theorem append_u {ops : Array Oper} {rest : List Oper} {o : Oper} {a : Act} {Q : Exit → Act → World → Prop} (hgd : o.guard = none) (s x : Operand)
    (ho : o.op = .call { callee := .builtin .append, args := #[s, x], argTypes := #[40, 40] })
    (w0 w : World) (v : Value) (l : List B64) (p q : B64) (hs : a.eval s = v) (hown : OwnU w0 w v l) (wm : World) (hx : a.eval x = .slice (some ⟨w.heap.size, 0, none⟩) 2 2)
    (hw : wm = w.alloc (.cells #[.int .u64 (ub p), .int .u64 (ub q)] 22)) (hlen : l.length < 1000)
    (h : ∀ v' w', OwnU w0 w' v' (l ++ [p, q]) → wpList Try.prog ops Q rest (a.put o.dst v') w') : wpList Try.prog ops Q (o :: rest) a wm := by
  subst hw
  obtain ⟨i, hi, hp⟩ := Option.map_eq_some_iff.1 u64Info
  injection hp with hp1 hp
  injection hp with hp2 hp3
  obtain ⟨ho1, hb⟩ := hown
  refine wpList_append_own _ hgd s x 40 ho w0.heap.size 22 i (.int .u64 0) 1 8 Try.underlying40 hi hp1 hp2 hp3 rfl (by decide) v l.length (uL l) hs (ho1.alloc _)
    ⟨w.heap.size, 0, none⟩ 2 2 [.int .u64 (ub p), .int .u64 (ub q)] hx rfl ?_ (by intro u hu; simp at hu; rcases hu with rfl | rfl <;> rfl) (by simp only [maxLen]; omega) (by omega) ?_ ?_
  · intro j u hu
    have hj : (((w.alloc (.cells #[.int .u64 (ub p), .int .u64 (ub q)] 22)).cell? ⟨w.heap.size, j, none⟩) = (#[Value.int .u64 (ub p), .int .u64 (ub q)])[j]?) := by
      rw [World.cell?_alloc_at _ _ _ _ rfl]
    have : ((⟨w.heap.size, 0, none⟩ : Addr).add j) = ⟨w.heap.size, j, none⟩ := by simp [Addr.add]; omega
    rw [this, hj]
    simpa using hu
  · have := hb.size
    simp
    omega
  · intro v' w' h1 h2 _
    refine h v' w' ⟨?_, ?_⟩
    · unfold uL at h1 ⊢
      simpa using h1
    · refine (hb.alloc hb.size _).grown h2 (by have := hb.size; simp; omega) ?_
      intro k hk
      exact (ho1.lt k hk).1
theorem step_u {ops : Array Oper} {o : Oper} {a : Act} {K : Act → World → Prop} {Q : Exit → Act → World → Prop} {E : Prop} (hgd : o.guard = none) (s x : Operand)
    (ho : o.op = .call { callee := .builtin .append, args := #[s, x], argTypes := #[40, 40] })
    (w0 w : World) (v : Value) (l : List B64) (p q : B64) (hs : a.eval s = v) (hown : OwnU w0 w v l) (wm : World) (hx : a.eval x = .slice (some ⟨w.heap.size, 0, none⟩) 2 2)
    (hw : wm = w.alloc (.cells #[.int .u64 (ub p), .int .u64 (ub q)] 22)) (hlen : l.length < 1000)
    (h : ∀ v' w', OwnU w0 w' v' (l ++ [p, q]) → K (a.put o.dst v') w') : if Region.wanted o (yielded ops a.tmps) = true then Oper.wp Try.prog o a wm K Q else E := by
  have hw' : Region.wanted o (yielded ops a.tmps) = true := by simp [Region.wanted, hgd]
  rw [if_pos hw']
  subst hw
  obtain ⟨i, hi, hp⟩ := Option.map_eq_some_iff.1 u64Info
  injection hp with hp1 hp
  injection hp with hp2 hp3
  obtain ⟨ho1, hb⟩ := hown
  refine wp_append_own _ s x 40 ho w0.heap.size 22 i (.int .u64 0) 1 8 Try.underlying40 hi hp1 hp2 hp3 rfl (by decide) v l.length (uL l) hs (ho1.alloc _)
    ⟨w.heap.size, 0, none⟩ 2 2 [.int .u64 (ub p), .int .u64 (ub q)] hx rfl ?_ (by intro u hu; simp at hu; rcases hu with rfl | rfl <;> rfl) (by simp only [maxLen]; omega) (by omega) ?_ ?_
  · intro j u hu
    have hj : (((w.alloc (.cells #[.int .u64 (ub p), .int .u64 (ub q)] 22)).cell? ⟨w.heap.size, j, none⟩) = (#[Value.int .u64 (ub p), .int .u64 (ub q)])[j]?) := by
      rw [World.cell?_alloc_at _ _ _ _ rfl]
    have : ((⟨w.heap.size, 0, none⟩ : Addr).add j) = ⟨w.heap.size, j, none⟩ := by simp [Addr.add]; omega
    rw [this, hj]
    simpa using hu
  · have := hb.size
    simp
    omega
  · intro v' w' h1 h2 _
    refine h v' w' ⟨?_, ?_⟩
    · unfold uL at h1 ⊢
      simpa using h1
    · refine (hb.alloc hb.size _).grown h2 (by have := hb.size; simp; omega) ?_
      intro k hk
      exact (ho1.lt k hk).1
/-- The numbers, read. -/
structure LU (w0 : World) (g : Nat) (l : List B64) (w : World) : Prop where
  lt : g < w.heap.size
  ge : w0.heap.size ≤ g
  at_ : ∀ j (h : j < l.length), w.cell? ⟨g, j, none⟩ = some (.int .u64 (ub l[j]))
theorem own_lu {w0 w : World} {v : Value} {l : List B64} (h : OwnU w0 w v l) (hl : 0 < l.length) : ∃ g cap, v = .slice (some ⟨g, 0, none⟩) l.length cap ∧ l.length ≤ cap ∧ LU w0 g l w := by
  obtain ⟨h1, hb⟩ := h
  have hh := h1
  rcases h1.2 with ⟨_, hn⟩ | ⟨g, cap, cur, rfl, hg, hh2, hcap⟩
  · omega
  · refine ⟨g, cap, rfl, ?_, (h1.lt g rfl).2, (h1.lt g rfl).1, fun j hj => ?_⟩
    · omega
    · have hc := h1.cells (g := g) rfl j (.int .u64 (ub l[j])) (by unfold uL; rw [List.getElem?_map, List.getElem?_eq_getElem hj]; rfl)
      have e : ((⟨g, 0, none⟩ : Addr).add j) = ⟨g, j, none⟩ := by simp only [Addr.add]; split <;> simp_all
      rwa [e] at hc
theorem LU.below {w0 w w' : World} {g : Nat} {l : List B64} (h : LU w0 g l w) (hb : Below w.heap.size w w') : LU w0 g l w' :=
  ⟨Nat.lt_of_lt_of_le h.lt hb.size, h.ge, fun j hj => (hb.cell (p := ⟨g, j, none⟩) h.lt).trans (h.at_ j hj)⟩
/-- What lies where in the course of shifted. -/
structure ZI (w : World) (a s : Tn) (wr : World) : Prop where
  ca : TC wr w.heap.size a
  res : TB wr (w.heap.size + 1) t0
  out : TB wr (w.heap.size + 1 + 1) s
  bel : Below w.heap.size w wr
theorem ZI.next {w : World} {a s : Tn} {wr w' : World} (h : ZI w a s wr) (hb : Below wr.heap.size wr w') : ZI w a s w' :=
  ⟨h.ca.below hb, h.res.below hb, h.out.below hb, h.bel.trans (hb.mono h.bel.size)⟩
theorem ZI.put1 {w : World} {a s : Tn} {wr : World} (h : ZI w a s wr) (x : B64) : ZI w a (x, s.2) (wr.setCell ⟨w.heap.size + 1 + 1, 0, none⟩ (.int .u64 (ub x))) :=
  ⟨h.ca.other (by omega) _ _, h.res.other1 (by omega) _ _, h.out.put1 x, h.bel.setCell (by simp; omega) _⟩
theorem ZI.put2 {w : World} {a s : Tn} {wr : World} (h : ZI w a s wr) (x : B64) : ZI w a (s.1, x) (wr.setCell ⟨w.heap.size + 1 + 1, 1, none⟩ (.int .u64 (ub x))) :=
  ⟨h.ca.other (by omega) _ _, h.res.other1 (by omega) _ _, h.out.put2 x, h.bel.setCell (by simp; omega) _⟩
theorem LU.other {w0 w : World} {g c : Nat} {l : List B64} (h : LU w0 g l w) (hc : c ≠ g) (k : Nat) (u : Value) : LU w0 g l (w.setCell ⟨c, k, none⟩ u) := by
  refine ⟨by simp; exact h.lt, h.ge, fun j hj => ?_⟩
  have e2 : (⟨g, j, none⟩ : Addr) ≠ ⟨c, k, none⟩ := by intro h; injection h with h1 h2; exact hc h1.symm
  have e3 : (w.setCell ⟨c, k, none⟩ u).cell? ⟨g, j, none⟩ = w.cell? ⟨g, j, none⟩ := by
    first | exact World.cell?_setCell_other _ _ _ _ (Ne.symm e2) | exact World.cell?_setCell_other e2 | exact World.cell?_setCell_other _ e2 | exact World.cell?_setCell_other _ _ e2 | exact World.cell?_setCell_other _ _ _ e2 | exact World.cell?_setCell_other _ _ _ _ e2
  rw [e3]
  exact h.at_ j hj
theorem take_up (l : List B64) (s : Tn) (i : Nat) (h : i < l.length) : (l.take (i + 1)).foldl mm s = mm ((l.take i).foldl mm s) l[i] := by
  rw [List.take_succ_eq_append_getElem h, List.foldl_append]; rfl
theorem sz_nat (c : Bool) : szI c = ((sizeW c : Nat) : Int) := by cases c <;> rfl
end Sq


set_option maxHeartbeats 16000000 in
theorem qShift7 (c : Bool) (a : Tn) (C D : Nat) (w : World) (hcd : C ≤ D) (hd : D < sizeW c) :
    Calls Try.prog 27 #[.int .i64 7, tv a, .int .i64 (C : Int), .int .i64 (D : Int), .int .i64 (szI c)] w fun e w' =>
      e = .returned (tv (shF (fun k => [a.1 / (1#64 <<< k), a.2 / (1#64 <<< k)]) (topW c) C (D - C + 1))) ∧ Below w.heap.size w w' := by
  have h64 := sizeW_le c
  have HT := fun W => qTop_any (sizeW c) W (by omega)
  rw [show (1#64 <<< sizeW c - 1#64 : B64) = topW c by cases c <;> decide, ← sz_nat] at HT
  have HP := hid fun (k : Nat) (hk : k ≤ 64) W => qPower_any k W hk
  have HH := fun W => qPower_any (sizeW c - 1) W (by omega)
  have hs1 : wrap64 (szI c - 1) = ((sizeW c - 1 : Nat) : Int) := by unfold wrap64 szI sizeW; cases c <;> simp
  have HX := hid fun (x y T : B64) W => qTimes_any x y T W
  obtain ⟨F, hF⟩ : ∃ F : Nat → List B64, F = fun k => [a.1 / (1#64 <<< k), a.2 / (1#64 <<< k)] := ⟨_, rfl⟩
  rw [← hF]
  have hF' := hid hF
  clear hF
  obtain ⟨R, hR⟩ : ∃ R, R = shF F (topW c) C (D - C + 1) := ⟨_, rfl⟩
  rw [← hR]
  have hR' := hid hR
  clear hR
  have hd64 : D < 64 := by omega
  have hZ : Hid (shF F (topW c) C 0 = (topW c, 0#64)) := hid rfl
  generalize topW c = T at *
  generalize szI c = SZ at *
  generalize 1#64 <<< (sizeW c - 1) = HF at *
  generalize ((sizeW c - 1 : Nat) : Int) = S1 at *
  replace HT := hid HT
  replace HH := hid HH
  obtain ⟨w2, hw2⟩ : ∃ w2 : World, w2 = ((w.alloc (.cells #[.int .u64 (ub a.1), .int .u64 (ub a.2)] 24)).alloc (.cells #[.int .u64 0, .int .u64 0] 24)) := ⟨_, rfl⟩
  have A0 : TC w2 w.heap.size a ∧ TB w2 (w.heap.size + 1) t0 ∧ Below w.heap.size w w2 ∧ w2.heap.size = w.heap.size + 1 + 1 := by
    rw [hw2]
    have b1 : Below w.heap.size w (w.alloc (.cells #[.int .u64 (ub a.1), .int .u64 (ub a.2)] 24)) := (Below.refl _ _).alloc (Nat.le_refl _) _
    exact ⟨(TC.new rfl).alloc _, TB.new (a := t0) (by simp), b1.alloc (by simp) _, by simp⟩
  have Z0 : ∀ W', Below w2.heap.size w2 W' → W'.heap.size = w2.heap.size → ZI w a (shF F T C 0) (W'.alloc (.cells #[.int .u64 (ub T), .int .u64 0] 24)) := by
    intro W' hb hs
    rw [hZ.out]
    obtain ⟨a1, a2, a3, a4⟩ := A0
    exact ⟨(a1.below hb).alloc _, (a2.below hb).below ((Below.refl _ _).alloc (Nat.le_refl _) _), TB.new (a := (T, 0#64)) (by show w.heap.size + 1 + 1 = W'.heap.size; omega), (a3.trans (hb.mono (by omega))).alloc (by omega) _⟩
  have A1 := hid A0
  have hw2' := hid hw2
  clear A0 hw2
  have I1 := hid Z0
  clear Z0
  unfold tv
  clear h64 hd
  go_enter Try.func27, Try.ntmps27
  go_wp2_with fail
  refine (HT.out _).mono ?_
  rintro e w_ ⟨rfl, rfl⟩
  go_wp2_with fail
  go_quiet (fail)

  go_wp2_with fail
  refine (HH.out _).mono ?_
  rintro e w_ ⟨rfl, rfl⟩
  go_wp2_with fail
  go_loopw [14] (fun k wr => ∃ j : Nat, C + j ≤ D + 1 ∧ k = .int .i64 ((C + j : Nat) : Int) ∧ Hid (ZI w a (shF F T C j) wr)) (fun k _ => (D + 1 - (intOf k)).toNat)
  case atStart => exact ⟨0, by omega, rfl, hid (by have h := I1.out; rw [hw2'.out] at h; exact h _ (below_drewN _ _ _) rfl)⟩
  case round =>
    clear I1
    obtain ⟨j, hj, rfl, I0⟩ := hrel
    obtain ⟨wo, rfl⟩ : ∃ wo : World, wo = wr := ⟨_, rfl⟩
    by_cases hlt : C + j ≤ D
    · have hlt' : ((C + j : Nat) : Int) ≤ D := by omega
      have hk64 : C + j ≤ 64 := by omega
      have HPk := hid fun W => (HP.out (C + j) hk64 W).mono fun e w' h => (⟨h.1, by rw [h.2]; exact Below.refl _ _⟩ : e = .returned (.int .u64 (ub (1#64 <<< (C + j)))) ∧ Below W.heap.size W w')
      have HFk := hid (show F (C + j) = [a.1 / (1#64 <<< (C + j)), a.2 / (1#64 <<< (C + j))] by rw [hF'.out])
      have nz : ¬ ub (1#64 <<< (C + j)) = 0 := by
        have h1 := toNat_bit (C + j) (by omega)
        have h2 := Nat.two_pow_pos (C + j)
        unfold ub; omega
      have HNX : Hid (shF F T C (j + 1) = (F (C + j)).foldl mm (shF F T C j)) := hid rfl
      generalize 1#64 <<< (C + j) = PK at *
      have wk : wrap64 (((C + j : Nat) : Int) + 1) = ((C + (j + 1) : Nat) : Int) := by unfold wrap64; omega
      have WK := hid wk
      clear wk
      have KN : Hid (((C + j : Nat) : Int) + 1 = ((C + (j + 1) : Nat) : Int)) := hid (by omega)
      generalize ((C + j : Nat) : Int) = KI at *
      have HZO : Hid (w.heap.size + 1 + 1 < wo.heap.size) := hid I0.out.out.1.1
      have q1 := I0.out.ca.2.1
      have q2 := I0.out.ca.2.2
      go_wp2_with fail
      refine wp_region_held_drew (S := (fun w' : World => Below wo.heap.size wo w')) (by kernel_rfl) ?_ (fun hHeld => ?_)
      · (try dsimp only); first | (with_reducible exact below_dr _) | (with_reducible exact Below.refl _ _) | exact below_dr _
      have hBk := below_dr wo
      refine tq 0 rfl (fun _ hS => by go_simp; try with_reducible rfl) ?_
      try simp only [s1, s2, s3]
      refine tq 1 rfl (fun _ hS => by go_simp; try with_reducible rfl) ?_
      try simp only [s1, s2, s3]
      refine tq 2 rfl (fun _ hS => by have c0 := cn hS q1; go_simp; try with_reducible rfl) ?_
      try simp only [s1, s2, s3]
      refine tq 3 rfl (fun _ hS => by go_simp; try with_reducible rfl) ?_
      try simp only [s1, s2, s3]
      refine tq 6 rfl (fun _ hS => by go_simp; try with_reducible rfl) ?_
      try simp only [s1, s2, s3]
      refine tq 7 rfl (fun _ hS => by have c0 := cn hS q2; go_simp; try with_reducible rfl) ?_
      try simp only [s1, s2, s3]
      refine tq 8 rfl (fun _ hS => by go_simp; try with_reducible rfl) ?_
      try simp only [s1, s2, s3]
      refine wpAnyH_ready (rs := [4]) (by kernel_rfl) (by simp) ?_
      refine AllReadyH.cons rfl (fun K hK => ?_) AllReadyH.nil
      go_simp
      go_at_call 55
      refine (HPk.out _).mono ?_
      rintro e wr1 ⟨rfl, bkr1⟩
      have hBn := below_next hBk bkr1
      clear hBk bkr1
      have hBk := hBn
      clear hBn
      try go_simp
      refine hK.out _ _ ?_ (fun hHeld => ?_)
      · (try dsimp only); exact hBk
      clear hK K
      (try simp only [Act.put, List.setIfInBounds_toArray, List.set_cons_zero, List.set_cons_succ])
      refine tq 5 rfl (fun _ hS => by go_simp; try with_reducible rfl) ?_
      try simp only [s1, s2, s3]
      refine wpAnyH_ready (rs := [9]) (by kernel_rfl) (by simp) ?_
      refine AllReadyH.cons rfl (fun K hK => ?_) AllReadyH.nil
      go_simp
      go_at_call 55
      refine (HPk.out _).mono ?_
      rintro e wr2 ⟨rfl, bkr2⟩
      have hBn := below_next hBk bkr2
      clear hBk bkr2
      have hBk := hBn
      clear hBn
      try go_simp
      refine hK.out _ _ ?_ (fun hHeld => ?_)
      · (try dsimp only); exact hBk
      clear hK K
      (try simp only [Act.put, List.setIfInBounds_toArray, List.set_cons_zero, List.set_cons_succ])
      refine tq 10 rfl (fun _ hS => by go_simp; try with_reducible rfl) ?_
      try simp only [s1, s2, s3]
      refine wpAnyH_ready (rs := [11]) (by kernel_rfl) (by simp) ?_
      refine AllReadyH.cons rfl (fun K hK => ?_) AllReadyH.nil
      go_simp
      refine hK.out _ _ ?_ (fun hHeld => ?_)
      · (try dsimp only); exact hBk.alloc hBk.size _
      clear hK K
      (try simp only [Act.put, List.setIfInBounds_toArray, List.set_cons_zero, List.set_cons_succ])
      refine wpAnyH_ready (rs := [12]) (by kernel_rfl) (by simp) ?_
      refine AllReadyH.cons rfl (fun K hK => ?_) AllReadyH.nil
      refine step_u rfl (.tmp 96) (.tmp 107) rfl wo wr2 (.slice none 0 0) [] _ _ (by exact rfl) (OwnU.nil _ _ (by assumption)) _ (by exact rfl) rfl (by decide) ?_
      intro v1 wv hown
      refine hK.out _ _ ?_ (fun hHeld => ?_)
      · exact hown.2
      clear hK K
      (try simp only [Act.put, List.setIfInBounds_toArray, List.set_cons_zero, List.set_cons_succ])
      refine tq 13 rfl (fun _ hS => by go_simp; try with_reducible rfl) ?_
      try simp only [s1, s2, s3]
      refine wpAnyH_done (by kernel_rfl) ?_ _
      obtain ⟨g, cap, rfl, hcap, HLU⟩ := own_lu hown (by simp)
      obtain ⟨L, hL⟩ : ∃ L : List B64, L = [] ++ [a.1 / PK, a.2 / PK] := ⟨_, rfl⟩
      rw [← hL] at HLU hcap ⊢
      have hlen : L.length = 2 := by rw [hL]; rfl
      have I2 := hid (show ZI w a ((L.take 0).foldl mm (shF F T C j)) wv from (I0.out.next hown.2))
      have HL := hid HLU
      have hL' := hid hL
      clear hL hown HLU hHeld I0 q1 q2
      have hgo : ¬ w.heap.size + 1 + 1 = g := by
        have h1 := HL.out.ge
        have h2 := I2.out.out.1.1
        intro e
        have h3 := HZO.out
        omega
      generalize shF F T C j = S0 at *
      go_wp2_with fail
      go_loopw [16] (fun i wi => ∃ n : Nat, n ≤ 2 ∧ i = .int .i64 (n : Int) ∧ Hid (ZI w a ((L.take n).foldl mm S0) wi) ∧ Hid (LU wo g L wi)) (fun i _ => 2 - (intOf i).toNat)
      case atStart => exact ⟨0, by omega, rfl, I2, HL⟩
      case round =>
        clear I2 HL
        obtain ⟨n, hn, rfl, I2, HL⟩ := hrel
        by_cases hnl : n < 2
        · have hnl' : (n : Int) < 2 := by omega
          have hn0 : (0 : Int) ≤ n := by omega
          have lt : n < L.length := by omega
          have TU := take_up L S0 n lt
          have c0 := HL.out.at_ n lt
          obtain ⟨X, hX⟩ : ∃ X : B64, L[n] = X := ⟨_, rfl⟩
          have HX1 := hid hX
          rw [hX] at TU c0
          clear hX
          replace TU := hid TU
          generalize (L.take n).foldl mm S0 = S at *
          obtain ⟨⟨_, c1, c2⟩, f1, f2⟩ := I2.out.out
          go_wp2_with fail
          go_region
          go_wp2_with fail
          have I3 := hid ((I2.out.put1 (bmin S.1 X)).next (below_dr _))
          have HL3 := hid ((HL.out.other hgo 0 (.int .u64 (ub (bmin S.1 X)))).below (below_dr _))
          clear I2 HL c0 c1 c2 f1 f2
          generalize (wr.setCell ⟨w.heap.size + 1 + 1, 0, none⟩ (.int .u64 (ub (bmin S.1 X)))).drew = wx at *
          have c0 := HL3.out.at_ n lt
          have hx : L[n] = X := HX1.out
          rw [hx] at c0
          obtain ⟨⟨_, c1, c2⟩, f1, f2⟩ := I3.out.out
          dsimp only at c1 c2
          go_region
          go_wp2_with fail
          have I4 := hid ((I3.out.put2 (bmax S.2 X)).next (below_dr _))
          have HL4 := hid ((HL3.out.other hgo 1 (.int .u64 (ub (bmax S.2 X)))).below (below_dr _))
          clear I3 HL3 c0 c1 c2 f1 f2
          refine ⟨⟨n + 1, by omega, by go_num, hid (by rw [TU.out]; exact I4.out), HL4⟩, by simp [intOf]; omega⟩
        · have hnl' : ¬ (n : Int) < 2 := by omega
          obtain rfl : n = 2 := by omega
          go_wp2_with fail
          refine ⟨⟨j + 1, by omega, by rw [WK.out], hid ?_⟩, by rw [WK.out, ← KN.out]; simp only [intOf]; omega⟩
          rw [HNX.out, HFk.out]
          have e : L.take 2 = [] ++ [a.1 / PK, a.2 / PK] := by rw [hL'.out]; rfl
          have I5 := I2.out
          rw [e] at I5
          exact I5
    · have hlt' : ¬ ((C + j : Nat) : Int) ≤ D := by omega
      obtain rfl : j = D - C + 1 := by omega
      have HR2 := hR'.out
      rw [← HR2] at I0
      have r1 := I0.out.out.1.2.1
      have r2 := I0.out.out.1.2.2
      have r0 := I0.out.out.1.1
      have s0 := I0.out.res.1.1
      have f1 := I0.out.res.2.1
      have f2 := I0.out.res.2.2
      have s1 := I0.out.res.1.2.1
      have s2 := I0.out.res.1.2.2
      clear HR2
      go_wp2_with fail
      exact bodyPost_ret (v := .agg #[.int .u64 (ub R.1), .int .u64 (ub R.2)]) (by simp [results, Try.results27, go_sem, r1, r2, r0, s0, s1, s2, f1, f2]; try rfl) rfl ⟨rfl, (I0.out.bel.setCell (by simp) _).setCell (by simp) _⟩


set_option maxHeartbeats 16000000 in
theorem qShift6 (c : Bool) (a : Tn) (C D : Nat) (w : World) (hcd : C ≤ D) (hd : D < sizeW c) (ht : a.2.toNat * 2 ^ D ≤ (topW c).toNat) :
    Calls Try.prog 27 #[.int .i64 6, tv a, .int .i64 (C : Int), .int .i64 (D : Int), .int .i64 (szI c)] w fun e w' =>
      e = .returned (tv (shF (fun k => [a.1 * (1#64 <<< k), a.2 * (1#64 <<< k)]) (topW c) C (D - C + 1))) ∧ Below w.heap.size w w' := by
  have h64 := sizeW_le c
  have HT := fun W => qTop_any (sizeW c) W (by omega)
  rw [show (1#64 <<< sizeW c - 1#64 : B64) = topW c by cases c <;> decide, ← sz_nat] at HT
  have HP := hid fun (k : Nat) (hk : k ≤ 64) W => qPower_any k W hk
  have HH := fun W => qPower_any (sizeW c - 1) W (by omega)
  have hs1 : wrap64 (szI c - 1) = ((sizeW c - 1 : Nat) : Int) := by unfold wrap64 szI sizeW; cases c <;> simp
  have HX := hid fun (x y T : B64) W => qTimes_any x y T W
  obtain ⟨F, hF⟩ : ∃ F : Nat → List B64, F = fun k => [a.1 * (1#64 <<< k), a.2 * (1#64 <<< k)] := ⟨_, rfl⟩
  rw [← hF]
  have hF' := hid hF
  clear hF
  obtain ⟨R, hR⟩ : ∃ R, R = shF F (topW c) C (D - C + 1) := ⟨_, rfl⟩
  rw [← hR]
  have hR' := hid hR
  clear hR
  have hd64 : D < 64 := by omega
  have HD := hid fun W => HP.out D (by omega) W
  have HX6 := hid fun W => HX.out a.2 (1#64 <<< D) (topW c) W
  have f6 : decide ((topW c).toNat < a.2.toNat * (1#64 <<< D).toNat) = false := by rw [toNat_bit D hd64]; exact decide_eq_false (by omega)
  rw [f6] at HX6
  clear f6 ht
  generalize 1#64 <<< D = PD at *
  have hZ : Hid (shF F (topW c) C 0 = (topW c, 0#64)) := hid rfl
  generalize topW c = T at *
  generalize szI c = SZ at *
  generalize 1#64 <<< (sizeW c - 1) = HF at *
  generalize ((sizeW c - 1 : Nat) : Int) = S1 at *
  replace HT := hid HT
  replace HH := hid HH
  obtain ⟨w2, hw2⟩ : ∃ w2 : World, w2 = ((w.alloc (.cells #[.int .u64 (ub a.1), .int .u64 (ub a.2)] 24)).alloc (.cells #[.int .u64 0, .int .u64 0] 24)) := ⟨_, rfl⟩
  have A0 : TC w2 w.heap.size a ∧ TB w2 (w.heap.size + 1) t0 ∧ Below w.heap.size w w2 ∧ w2.heap.size = w.heap.size + 1 + 1 := by
    rw [hw2]
    have b1 : Below w.heap.size w (w.alloc (.cells #[.int .u64 (ub a.1), .int .u64 (ub a.2)] 24)) := (Below.refl _ _).alloc (Nat.le_refl _) _
    exact ⟨(TC.new rfl).alloc _, TB.new (a := t0) (by simp), b1.alloc (by simp) _, by simp⟩
  have Z0 : ∀ W', Below w2.heap.size w2 W' → W'.heap.size = w2.heap.size → ZI w a (shF F T C 0) (W'.alloc (.cells #[.int .u64 (ub T), .int .u64 0] 24)) := by
    intro W' hb hs
    rw [hZ.out]
    obtain ⟨a1, a2, a3, a4⟩ := A0
    exact ⟨(a1.below hb).alloc _, (a2.below hb).below ((Below.refl _ _).alloc (Nat.le_refl _) _), TB.new (a := (T, 0#64)) (by show w.heap.size + 1 + 1 = W'.heap.size; omega), (a3.trans (hb.mono (by omega))).alloc (by omega) _⟩
  have A1 := hid A0
  have hw2' := hid hw2
  clear A0 hw2
  have I1 := hid Z0
  clear Z0
  unfold tv
  clear h64 hd
  go_enter Try.func27, Try.ntmps27
  go_wp2_with fail
  refine (HT.out _).mono ?_
  rintro e w_ ⟨rfl, rfl⟩
  go_wp2_with fail
  rw [← hw2'.out]
  have p2 := A1.out.1.2.2
  refine wp_region_held_drew (S := (fun w' : World => Below w2.heap.size w2 w')) (by kernel_rfl) ?_ (fun hHeld => ?_)
  · (try dsimp only); first | (with_reducible exact below_dr _) | (with_reducible exact Below.refl _ _) | exact below_dr _
  have hBk := below_dr w2
  refine tq 0 rfl (fun _ hS => by go_simp; try with_reducible rfl) ?_
  try simp only [s1, s2, s3]
  refine tq 1 rfl (fun _ hS => by go_simp; try with_reducible rfl) ?_
  try simp only [s1, s2, s3]
  refine tq 2 rfl (fun _ hS => by go_simp; try with_reducible rfl) ?_
  try simp only [s1, s2, s3]
  refine tq 3 rfl (fun _ hS => by go_simp; try with_reducible rfl) ?_
  try simp only [s1, s2, s3]
  refine tq 4 rfl (fun _ hS => by have c0 := cn hS p2; go_simp; try with_reducible rfl) ?_
  try simp only [s1, s2, s3]
  refine tq 5 rfl (fun _ hS => by go_simp; try with_reducible rfl) ?_
  try simp only [s1, s2, s3]
  refine tq 7 rfl (fun _ hS => by go_simp; try with_reducible rfl) ?_
  try simp only [s1, s2, s3]
  refine wpAnyH_ready (rs := [6]) (by kernel_rfl) (by simp) ?_
  refine AllReadyH.cons rfl (fun K hK => ?_) AllReadyH.nil
  go_simp
  go_at_call 55
  refine (HD.out _).mono ?_
  rintro e ws1 ⟨rfl, rfl⟩
  try go_simp
  refine hK.out _ _ ?_ (fun hHeld => ?_)
  · (try dsimp only); exact hBk
  clear hK K
  (try simp only [Act.put, List.setIfInBounds_toArray, List.set_cons_zero, List.set_cons_succ])
  refine wpAnyH_ready (rs := [8]) (by kernel_rfl) (by simp) ?_
  refine AllReadyH.cons rfl (fun K hK => ?_) AllReadyH.nil
  go_simp
  go_at_call 23
  refine (HX6.out _).mono ?_
  rintro e ws2 ⟨rfl, rfl⟩
  try go_simp
  refine hK.out _ _ ?_ (fun hHeld => ?_)
  · (try dsimp only); exact hBk
  clear hK K
  (try simp only [Act.put, List.setIfInBounds_toArray, List.set_cons_zero, List.set_cons_succ])
  refine tq 9 rfl (fun _ hS => by go_simp; try with_reducible rfl) ?_
  try simp only [s1, s2, s3]
  refine wpAnyH_done (by kernel_rfl) ?_ _

  go_wp2_with fail
  refine (HH.out _).mono ?_
  rintro e w_ ⟨rfl, rfl⟩
  go_wp2_with fail
  rw [A1.out.2.2.2]
  go_loopw [14] (fun k wr => ∃ j : Nat, C + j ≤ D + 1 ∧ k = .int .i64 ((C + j : Nat) : Int) ∧ Hid (ZI w a (shF F T C j) wr)) (fun k _ => (D + 1 - (intOf k)).toNat)
  case atStart => exact ⟨0, by omega, rfl, hid (by have h := I1.out; exact h _ (below_dr _) rfl)⟩
  case round =>
    clear I1
    obtain ⟨j, hj, rfl, I0⟩ := hrel
    obtain ⟨wo, rfl⟩ : ∃ wo : World, wo = wr := ⟨_, rfl⟩
    by_cases hlt : C + j ≤ D
    · have hlt' : ((C + j : Nat) : Int) ≤ D := by omega
      have hk64 : C + j ≤ 64 := by omega
      have HPk := hid fun W => (HP.out (C + j) hk64 W).mono fun e w' h => (⟨h.1, by rw [h.2]; exact Below.refl _ _⟩ : e = .returned (.int .u64 (ub (1#64 <<< (C + j)))) ∧ Below W.heap.size W w')
      have HFk := hid (show F (C + j) = [a.1 * (1#64 <<< (C + j)), a.2 * (1#64 <<< (C + j))] by rw [hF'.out])
      have nz : ¬ ub (1#64 <<< (C + j)) = 0 := by
        have h1 := toNat_bit (C + j) (by omega)
        have h2 := Nat.two_pow_pos (C + j)
        unfold ub; omega
      have HNX : Hid (shF F T C (j + 1) = (F (C + j)).foldl mm (shF F T C j)) := hid rfl
      generalize 1#64 <<< (C + j) = PK at *
      have wk : wrap64 (((C + j : Nat) : Int) + 1) = ((C + (j + 1) : Nat) : Int) := by unfold wrap64; omega
      have WK := hid wk
      clear wk
      have KN : Hid (((C + j : Nat) : Int) + 1 = ((C + (j + 1) : Nat) : Int)) := hid (by omega)
      generalize ((C + j : Nat) : Int) = KI at *
      have HZO : Hid (w.heap.size + 1 + 1 < wo.heap.size) := hid I0.out.out.1.1
      have q1 := I0.out.ca.2.1
      have q2 := I0.out.ca.2.2
      go_wp2_with fail
      refine wp_region_held_drew (S := (fun w' : World => Below wo.heap.size wo w')) (by kernel_rfl) ?_ (fun hHeld => ?_)
      · (try dsimp only); first | (with_reducible exact below_dr _) | (with_reducible exact Below.refl _ _) | exact below_dr _
      have hBk := below_dr wo
      refine tq 0 rfl (fun _ hS => by go_simp; try with_reducible rfl) ?_
      try simp only [s1, s2, s3]
      refine tq 1 rfl (fun _ hS => by go_simp; try with_reducible rfl) ?_
      try simp only [s1, s2, s3]
      refine tq 2 rfl (fun _ hS => by have c0 := cn hS q1; go_simp; try with_reducible rfl) ?_
      try simp only [s1, s2, s3]
      refine tq 3 rfl (fun _ hS => by go_simp; try with_reducible rfl) ?_
      try simp only [s1, s2, s3]
      refine tq 6 rfl (fun _ hS => by go_simp; try with_reducible rfl) ?_
      try simp only [s1, s2, s3]
      refine tq 7 rfl (fun _ hS => by have c0 := cn hS q2; go_simp; try with_reducible rfl) ?_
      try simp only [s1, s2, s3]
      refine tq 8 rfl (fun _ hS => by go_simp; try with_reducible rfl) ?_
      try simp only [s1, s2, s3]
      refine wpAnyH_ready (rs := [4]) (by kernel_rfl) (by simp) ?_
      refine AllReadyH.cons rfl (fun K hK => ?_) AllReadyH.nil
      go_simp
      go_at_call 55
      refine (HPk.out _).mono ?_
      rintro e wr1 ⟨rfl, bkr1⟩
      have hBn := below_next hBk bkr1
      clear hBk bkr1
      have hBk := hBn
      clear hBn
      try go_simp
      refine hK.out _ _ ?_ (fun hHeld => ?_)
      · (try dsimp only); exact hBk
      clear hK K
      (try simp only [Act.put, List.setIfInBounds_toArray, List.set_cons_zero, List.set_cons_succ])
      refine tq 5 rfl (fun _ hS => by go_simp; try with_reducible rfl) ?_
      try simp only [s1, s2, s3]
      refine wpAnyH_ready (rs := [9]) (by kernel_rfl) (by simp) ?_
      refine AllReadyH.cons rfl (fun K hK => ?_) AllReadyH.nil
      go_simp
      go_at_call 55
      refine (HPk.out _).mono ?_
      rintro e wr2 ⟨rfl, bkr2⟩
      have hBn := below_next hBk bkr2
      clear hBk bkr2
      have hBk := hBn
      clear hBn
      try go_simp
      refine hK.out _ _ ?_ (fun hHeld => ?_)
      · (try dsimp only); exact hBk
      clear hK K
      (try simp only [Act.put, List.setIfInBounds_toArray, List.set_cons_zero, List.set_cons_succ])
      refine tq 10 rfl (fun _ hS => by go_simp; try with_reducible rfl) ?_
      try simp only [s1, s2, s3]
      refine wpAnyH_ready (rs := [11]) (by kernel_rfl) (by simp) ?_
      refine AllReadyH.cons rfl (fun K hK => ?_) AllReadyH.nil
      go_simp
      refine hK.out _ _ ?_ (fun hHeld => ?_)
      · (try dsimp only); exact hBk.alloc hBk.size _
      clear hK K
      (try simp only [Act.put, List.setIfInBounds_toArray, List.set_cons_zero, List.set_cons_succ])
      refine wpAnyH_ready (rs := [12]) (by kernel_rfl) (by simp) ?_
      refine AllReadyH.cons rfl (fun K hK => ?_) AllReadyH.nil
      refine step_u rfl (.tmp 80) (.tmp 91) rfl wo wr2 (.slice none 0 0) [] _ _ (by exact rfl) (OwnU.nil _ _ (by assumption)) _ (by exact rfl) rfl (by decide) ?_
      intro v1 wv hown
      refine hK.out _ _ ?_ (fun hHeld => ?_)
      · exact hown.2
      clear hK K
      (try simp only [Act.put, List.setIfInBounds_toArray, List.set_cons_zero, List.set_cons_succ])
      refine tq 13 rfl (fun _ hS => by go_simp; try with_reducible rfl) ?_
      try simp only [s1, s2, s3]
      refine wpAnyH_done (by kernel_rfl) ?_ _
      obtain ⟨g, cap, rfl, hcap, HLU⟩ := own_lu hown (by simp)
      obtain ⟨L, hL⟩ : ∃ L : List B64, L = [] ++ [a.1 * PK, a.2 * PK] := ⟨_, rfl⟩
      rw [← hL] at HLU hcap ⊢
      have hlen : L.length = 2 := by rw [hL]; rfl
      have I2 := hid (show ZI w a ((L.take 0).foldl mm (shF F T C j)) wv from (I0.out.next hown.2))
      have HL := hid HLU
      have hL' := hid hL
      clear hL hown HLU hHeld I0 q1 q2
      have hgo : ¬ w.heap.size + 1 + 1 = g := by
        have h1 := HL.out.ge
        have h2 := I2.out.out.1.1
        intro e
        have h3 := HZO.out
        omega
      generalize shF F T C j = S0 at *
      go_wp2_with fail
      go_loopw [16] (fun i wi => ∃ n : Nat, n ≤ 2 ∧ i = .int .i64 (n : Int) ∧ Hid (ZI w a ((L.take n).foldl mm S0) wi) ∧ Hid (LU wo g L wi)) (fun i _ => 2 - (intOf i).toNat)
      case atStart => exact ⟨0, by omega, rfl, I2, HL⟩
      case round =>
        clear I2 HL
        obtain ⟨n, hn, rfl, I2, HL⟩ := hrel
        by_cases hnl : n < 2
        · have hnl' : (n : Int) < 2 := by omega
          have hn0 : (0 : Int) ≤ n := by omega
          have lt : n < L.length := by omega
          have TU := take_up L S0 n lt
          have c0 := HL.out.at_ n lt
          obtain ⟨X, hX⟩ : ∃ X : B64, L[n] = X := ⟨_, rfl⟩
          have HX1 := hid hX
          rw [hX] at TU c0
          clear hX
          replace TU := hid TU
          generalize (L.take n).foldl mm S0 = S at *
          obtain ⟨⟨_, c1, c2⟩, f1, f2⟩ := I2.out.out
          go_wp2_with fail
          go_region
          go_wp2_with fail
          have I3 := hid ((I2.out.put1 (bmin S.1 X)).next (below_dr _))
          have HL3 := hid ((HL.out.other hgo 0 (.int .u64 (ub (bmin S.1 X)))).below (below_dr _))
          clear I2 HL c0 c1 c2 f1 f2
          generalize (wr.setCell ⟨w.heap.size + 1 + 1, 0, none⟩ (.int .u64 (ub (bmin S.1 X)))).drew = wx at *
          have c0 := HL3.out.at_ n lt
          have hx : L[n] = X := HX1.out
          rw [hx] at c0
          obtain ⟨⟨_, c1, c2⟩, f1, f2⟩ := I3.out.out
          dsimp only at c1 c2
          go_region
          go_wp2_with fail
          have I4 := hid ((I3.out.put2 (bmax S.2 X)).next (below_dr _))
          have HL4 := hid ((HL3.out.other hgo 1 (.int .u64 (ub (bmax S.2 X)))).below (below_dr _))
          clear I3 HL3 c0 c1 c2 f1 f2
          refine ⟨⟨n + 1, by omega, by go_num, hid (by rw [TU.out]; exact I4.out), HL4⟩, by simp [intOf]; omega⟩
        · have hnl' : ¬ (n : Int) < 2 := by omega
          obtain rfl : n = 2 := by omega
          go_wp2_with fail
          refine ⟨⟨j + 1, by omega, by rw [WK.out], hid ?_⟩, by rw [WK.out, ← KN.out]; simp only [intOf]; omega⟩
          rw [HNX.out, HFk.out]
          have e : L.take 2 = [] ++ [a.1 * PK, a.2 * PK] := by rw [hL'.out]; rfl
          have I5 := I2.out
          rw [e] at I5
          exact I5
    · have hlt' : ¬ ((C + j : Nat) : Int) ≤ D := by omega
      obtain rfl : j = D - C + 1 := by omega
      have HR2 := hR'.out
      rw [← HR2] at I0
      have r1 := I0.out.out.1.2.1
      have r2 := I0.out.out.1.2.2
      have r0 := I0.out.out.1.1
      have s0 := I0.out.res.1.1
      have f1 := I0.out.res.2.1
      have f2 := I0.out.res.2.2
      have s1 := I0.out.res.1.2.1
      have s2 := I0.out.res.1.2.2
      clear HR2
      go_wp2_with fail
      exact bodyPost_ret (v := .agg #[.int .u64 (ub R.1), .int .u64 (ub R.2)]) (by simp [results, Try.results27, go_sem, r1, r2, r0, s0, s1, s2, f1, f2]; try rfl) rfl ⟨rfl, (I0.out.bel.setCell (by simp) _).setCell (by simp) _⟩


set_option maxHeartbeats 16000000 in
theorem qShift6f (c : Bool) (a : Tn) (C D : Nat) (w : World) (hcd : C ≤ D) (hd : D < sizeW c) (ht : (topW c).toNat < a.2.toNat * 2 ^ D) :
    Calls Try.prog 27 #[.int .i64 6, tv a, .int .i64 (C : Int), .int .i64 (D : Int), .int .i64 (szI c)] w fun e w' =>
      e = .returned (tv (0#64, topW c)) ∧ Below w.heap.size w w' := by
  have h64 := sizeW_le c
  have HT := fun W => qTop_any (sizeW c) W (by omega)
  rw [show (1#64 <<< sizeW c - 1#64 : B64) = topW c by cases c <;> decide, ← sz_nat] at HT
  have HP := hid fun (k : Nat) (hk : k ≤ 64) W => qPower_any k W hk
  have HH := fun W => qPower_any (sizeW c - 1) W (by omega)
  have hs1 : wrap64 (szI c - 1) = ((sizeW c - 1 : Nat) : Int) := by unfold wrap64 szI sizeW; cases c <;> simp
  have HX := hid fun (x y T : B64) W => qTimes_any x y T W
  have hd64 : D < 64 := by omega
  have HD := hid fun W => HP.out D (by omega) W
  have HX6 := hid fun W => HX.out a.2 (1#64 <<< D) (topW c) W
  have f6 : decide ((topW c).toNat < a.2.toNat * (1#64 <<< D).toNat) = true := by rw [toNat_bit D hd64]; exact decide_eq_true (by omega)
  rw [f6] at HX6
  clear f6 ht
  generalize 1#64 <<< D = PD at *
  generalize topW c = T at *
  generalize szI c = SZ at *
  generalize 1#64 <<< (sizeW c - 1) = HF at *
  generalize ((sizeW c - 1 : Nat) : Int) = S1 at *
  replace HT := hid HT
  replace HH := hid HH
  obtain ⟨w2, hw2⟩ : ∃ w2 : World, w2 = ((w.alloc (.cells #[.int .u64 (ub a.1), .int .u64 (ub a.2)] 24)).alloc (.cells #[.int .u64 0, .int .u64 0] 24)) := ⟨_, rfl⟩
  have A0 : TC w2 w.heap.size a ∧ TB w2 (w.heap.size + 1) t0 ∧ Below w.heap.size w w2 ∧ w2.heap.size = w.heap.size + 1 + 1 := by
    rw [hw2]
    have b1 : Below w.heap.size w (w.alloc (.cells #[.int .u64 (ub a.1), .int .u64 (ub a.2)] 24)) := (Below.refl _ _).alloc (Nat.le_refl _) _
    exact ⟨(TC.new rfl).alloc _, TB.new (a := t0) (by simp), b1.alloc (by simp) _, by simp⟩
  have A1 := hid A0
  have hw2' := hid hw2
  clear A0 hw2
  unfold tv
  clear h64 hd
  go_enter Try.func27, Try.ntmps27
  go_wp2_with fail
  refine (HT.out _).mono ?_
  rintro e w_ ⟨rfl, rfl⟩
  go_wp2_with fail
  rw [← hw2'.out]
  have p2 := A1.out.1.2.2
  refine wp_region_held_drew (S := (fun w' : World => Below w2.heap.size w2 w')) (by kernel_rfl) ?_ (fun hHeld => ?_)
  · (try dsimp only); first | (with_reducible exact below_dr _) | (with_reducible exact Below.refl _ _) | exact below_dr _
  have hBk := below_dr w2
  refine tq 0 rfl (fun _ hS => by go_simp; try with_reducible rfl) ?_
  try simp only [s1, s2, s3]
  refine tq 1 rfl (fun _ hS => by go_simp; try with_reducible rfl) ?_
  try simp only [s1, s2, s3]
  refine tq 2 rfl (fun _ hS => by go_simp; try with_reducible rfl) ?_
  try simp only [s1, s2, s3]
  refine tq 3 rfl (fun _ hS => by go_simp; try with_reducible rfl) ?_
  try simp only [s1, s2, s3]
  refine tq 4 rfl (fun _ hS => by have c0 := cn hS p2; go_simp; try with_reducible rfl) ?_
  try simp only [s1, s2, s3]
  refine tq 5 rfl (fun _ hS => by go_simp; try with_reducible rfl) ?_
  try simp only [s1, s2, s3]
  refine tq 7 rfl (fun _ hS => by go_simp; try with_reducible rfl) ?_
  try simp only [s1, s2, s3]
  refine wpAnyH_ready (rs := [6]) (by kernel_rfl) (by simp) ?_
  refine AllReadyH.cons rfl (fun K hK => ?_) AllReadyH.nil
  go_simp
  go_at_call 55
  refine (HD.out _).mono ?_
  rintro e ws1 ⟨rfl, rfl⟩
  try go_simp
  refine hK.out _ _ ?_ (fun hHeld => ?_)
  · (try dsimp only); exact hBk
  clear hK K
  (try simp only [Act.put, List.setIfInBounds_toArray, List.set_cons_zero, List.set_cons_succ])
  refine wpAnyH_ready (rs := [8]) (by kernel_rfl) (by simp) ?_
  refine AllReadyH.cons rfl (fun K hK => ?_) AllReadyH.nil
  go_simp
  go_at_call 23
  refine (HX6.out _).mono ?_
  rintro e ws2 ⟨rfl, rfl⟩
  try go_simp
  refine hK.out _ _ ?_ (fun hHeld => ?_)
  · (try dsimp only); exact hBk
  clear hK K
  (try simp only [Act.put, List.setIfInBounds_toArray, List.set_cons_zero, List.set_cons_succ])
  refine tq 9 rfl (fun _ hS => by go_simp; try with_reducible rfl) ?_
  try simp only [s1, s2, s3]
  refine wpAnyH_done (by kernel_rfl) ?_ _

  have r1 := A1.out.2.1.2.1
  have r2 := A1.out.2.1.2.2
  have r3 := A1.out.2.1.1.1
  have r4 := A1.out.2.1.1.2.1
  have r5 := A1.out.2.1.1.2.2
  go_wp2_with fail
  exact bodyPost_ret (v := .agg #[.int .u64 0, .int .u64 (ub T)]) (by simp [results, Try.results27, go_sem, r1, r2, r3, r4, r5]; try rfl) rfl ⟨rfl, ((A1.out.2.2.1.drew).setCell (by simp) _).setCell (by simp) _⟩

end Go.Proofs.Ytjcnpjidkimldaa
