/-
  Contract of Check: what is wrong with an image, and where.
-/
import Derived.Test.YtjcnpjidkimldaaGreatDoorAQShL
namespace Go.Proofs.YtjcnpjidkimldaaGreatDoor.Is
set_option linter.unusedSimpArgs false
set_option linter.unusedVariables false
set_option maxRecDepth 100000
open Go.ChangeShapes Go.WideShapes Go.ChangeAt Go.RowKit Go.Shelf
attribute [local go_sem] Oper.semAt_some

def zM : M4 := ⟨0, 0, 0, 0⟩
def mpA (l : List M4) (k : Nat) : M4 := l.getD k zM
def MapAt (w : World) (b o : Nat) (m : M4) : Prop :=
  w.cell? ⟨b, o, none⟩ = some (.int .i64 m.kind) ∧ w.cell? ⟨b, o + 1, none⟩ = some (.int .i64 m.key) ∧ w.cell? ⟨b, o + 2, none⟩ = some (.int .i64 m.value) ∧ w.cell? ⟨b, o + 3, none⟩ = some (.int .i64 m.cap)
theorem MapAt.kept {w w' : World} {n b o : Nat} {m : M4} (h : MapAt w b o m) (hb : Below n w w') (hl : b < n) : MapAt w' b o m := by
  obtain ⟨a0, a1, a2, a3⟩ := h
  exact ⟨(hb.cell (p := ⟨b, o, none⟩) hl).trans a0, (hb.cell (p := ⟨b, o + 1, none⟩) hl).trans a1, (hb.cell (p := ⟨b, o + 2, none⟩) hl).trans a2, (hb.cell (p := ⟨b, o + 3, none⟩) hl).trans a3⟩
/-- A slice that reads as these maps, in memory below n₀. -/
def MpSl (n₀ : Nat) (w : World) (p : Option Addr) (n : Nat) (l : List M4) : Prop :=
  l.length = n ∧ n < 4398046511104 ∧ (n = 0 ∨ ∃ b off, p = some ⟨b, off, none⟩ ∧ b < n₀ ∧ ∀ j, j < n → MapAt w b (off + j * 4) (mpA l j))
theorem MpSl.kept {n₀ m : Nat} {w w' : World} {p : Option Addr} {n : Nat} {l : List M4} (h : MpSl n₀ w p n l) (hb : Below m w w') (hm : n₀ ≤ m) : MpSl n₀ w' p n l := by
  obtain ⟨h1, h3, h4⟩ := h
  refine ⟨h1, h3, h4.imp id ?_⟩
  rintro ⟨b, off, e, hl, hc⟩
  exact ⟨b, off, e, hl, fun j hj => (hc j hj).kept hb (by omega)⟩
theorem MpSl.wide {n₀ m : Nat} {w : World} {p : Option Addr} {n : Nat} {l : List M4} (h : MpSl n₀ w p n l) (hm : n₀ ≤ m) : MpSl m w p n l := by
  obtain ⟨h1, h3, h4⟩ := h
  refine ⟨h1, h3, h4.imp id ?_⟩
  rintro ⟨b, off, e, hl, hc⟩
  exact ⟨b, off, e, by omega, hc⟩

/-- What lies in Check's own memory between two rounds. -/
def CkI (w : World) (pm pc : Option Addr) (cm cc lm lc : Nat) (W : World) : Prop :=
  W.cell? ⟨w.heap.size, 0, none⟩ = some (.slice pm lm cm) ∧ W.cell? ⟨w.heap.size, 1, none⟩ = some (.slice pc lc cc) ∧ Boxed W (w.heap.size + 1) 3 (.int .i64 0) ∧ Boxed W (w.heap.size + 1 + 1) 27 (.int .i64 0)
theorem ckI_step {w : World} {pm pc : Option Addr} {cm cc lm lc : Nat} {X Y : World} {row : Option Nat} (h : CkI w pm pc cm cc lm lc X) (hg : X.grownBy Y row) (hr : ∀ r, row = some r → ∃ o : Obj, X.heap[r]? = some o ∧ o.isCells = false) : CkI w pm pc cm cc lm lc Y := by
  obtain ⟨h1, h2, h3, h4⟩ := h
  exact ⟨cell_kept h1 hg hr, cell_kept h2 hg hr, boxed_own (β := Unit) _ _ (fun _ => _) () X Y row h3 hg hr, boxed_own (β := Unit) _ _ (fun _ => _) () X Y row h4 hg hr⟩
theorem CkI.kept {w : World} {pm pc : Option Addr} {cm cc lm lc : Nat} {X Y : World} (h : CkI w pm pc cm cc lm lc X) (hb : Below X.heap.size X Y) : CkI w pm pc cm cc lm lc Y :=
  ckI_step h (grown_of_below hb) (fun r e => by cases e)
theorem badM_none {l : List M4} (h : ∀ j, j < l.length → mayB (mpA l j) = true) : badM l = none := by
  unfold badM
  rw [List.find?_eq_none]
  intro j hj
  show ¬ (!mayB (mpA l j)) = true
  rw [h j (List.mem_range.1 hj)]
  decide
theorem badM_some {l : List M4} {k : Nat} (h : ∀ j, j < k → mayB (mpA l j) = true) (hk : k < l.length) (hb : mayB (mpA l k) = false) : badM l = some k := by
  unfold badM
  have h1 : (List.range k).find? (fun k => !mayB (l.getD k ⟨0, 0, 0, 0⟩)) = none := by
    rw [List.find?_eq_none]
    intro j hj
    show ¬ (!mayB (mpA l j)) = true
    rw [h j (List.mem_range.1 hj)]
    decide
  obtain ⟨n, hn⟩ : ∃ n, l.length = k + 1 + n := ⟨l.length - (k + 1), by omega⟩
  rw [hn, List.range_add, List.range_succ, List.append_assoc, List.find?_append, h1]
  have hb' : (!mayB (l.getD k ⟨0, 0, 0, 0⟩)) = true := by
    show (!mayB (mpA l k)) = true
    rw [hb]; rfl
  rw [List.singleton_append, List.find?_cons_of_pos (p := fun k => !mayB (l.getD k ⟨0, 0, 0, 0⟩)) hb']
  rfl

set_option maxRecDepth 100000 in
set_option maxHeartbeats 2000000 in
theorem check_any (pm pc : Option Addr) (cm cc : Nat) (l : List M4) (c : List I5) (w : World) (hz : SzOk w) (hml : MpSl w.heap.size w pm l.length l) (hsl : CdSl w.heap.size w pc c.length c) (hcap : c.length ≤ cc) :
    Calls Tryz.prog 34 #[.agg #[.slice pm l.length cm, .slice pc c.length cc]] w fun e w' => e = .returned (.tuple #[.int .i64 (chkI l c).1, .int .i64 (chkI l c).2]) ∧ Below w.heap.size w w' := by
  refine (callsIn_wide (n := 10)).1 ?_
  refine callsIn_of_wp_marks Tryz.func34 rfl trivial ?_ rfl
  simp only [Tryz.ntmps34, List.size_toArray, List.length_cons, List.length_nil, Nat.reduceAdd, Nat.reduceSub, Array.replicate_succ, Array.replicate_zero, List.push_toArray, List.append_toArray, List.nil_append, List.cons_append]
  have HSL := hid hsl
  have HML := hid hml
  have HZ := hid hz
  have hlen := hsl.2.2.1
  have hlem := hml.2.1
  clear hsl hz hml
  by_cases h0 : c.length = 0
  · have hk : chkI l c = (0, 4) := by unfold chkI; rw [if_pos h0]
    rw [hk]
    have m0 : (c.length == 0) = true := by simpa using h0
    have m1 : ((c.length : Int) == 0) = true := beq_iff_eq.2 (by omega)
    clear h0 hk
    gi_wp2
    refine ⟨.tuple #[.int .i64 0, .int .i64 4], ?_, rfl, ((((Below.refl w.heap.size w).alloc (Nat.le_refl _) _).alloc (by simp) _).alloc (by simp; omega) _)⟩
    simp [results, Tryz.results34, go_sem]
  have m0 : (c.length == 0) = false := by simpa using h0
  have m1 : ((c.length : Int) == 0) = false := beq_eq_false_iff_ne.2 (by omega)
  by_cases h1 : 512 < c.length
  · have hk : chkI l c = (0, 3) := by unfold chkI; rw [if_neg h0, if_pos (.inl h1)]
    rw [hk]
    have m2 : decide (512 < c.length) = true := by simpa using h1
    have m3 : decide ((512 : Int) < (c.length : Int)) = true := decide_eq_true (by have := h1; omega)
    clear h0 hk h1
    gi_wp2
    refine ⟨.tuple #[.int .i64 0, .int .i64 3], ?_, rfl, ((((Below.refl w.heap.size w).alloc (Nat.le_refl _) _).alloc (by simp) _).alloc (by simp; omega) _)⟩
    simp [results, Tryz.results34, go_sem]
  have m2 : decide (512 < c.length) = false := by simpa using h1
  have m3 : decide ((512 : Int) < (c.length : Int)) = false := decide_eq_false (by omega)
  by_cases h2 : 4 < l.length
  · have hk : chkI l c = (0, 3) := by unfold chkI; rw [if_neg h0, if_pos (.inr h2)]
    rw [hk]
    have m4 : decide (4 < l.length) = true := by simpa using h2
    have m5 : decide ((4 : Int) < (l.length : Int)) = true := decide_eq_true (by omega)
    clear h0 hk h1 h2
    gi_wp2
    refine ⟨.tuple #[.int .i64 0, .int .i64 3], ?_, rfl, ((((Below.refl w.heap.size w).alloc (Nat.le_refl _) _).alloc (by simp) _).alloc (by simp; omega) _)⟩
    simp [results, Tryz.results34, go_sem]
  have m4 : decide (4 < l.length) = false := by simpa using h2
  have m5 : decide ((4 : Int) < (l.length : Int)) = false := decide_eq_false (by omega)
  gi_wp2
  have hBa : Below w.heap.size w (((w.alloc (.cells #[.slice pm l.length cm, .slice pc c.length cc] 32)).alloc (.cells #[.int .i64 0] 3)).alloc (.cells #[.int .i64 0] 27)) := (((Below.refl _ w).alloc (Nat.le_refl _) _).alloc (by simp) _).alloc (by simp; omega) _
  have hC0 : CkI w pm pc cm cc l.length c.length (((w.alloc (.cells #[.slice pm l.length cm, .slice pc c.length cc] 32)).alloc (.cells #[.int .i64 0] 3)).alloc (.cells #[.int .i64 0] 27)) := by
    have b2 := (Boxed.new (w.alloc (.cells #[.slice pm l.length cm, .slice pc c.length cc] 32)) 3 (.int .i64 0)).alloc (.cells #[.int .i64 0] 27)
    have b3 := Boxed.new ((w.alloc (.cells #[.slice pm l.length cm, .slice pc c.length cc] 32)).alloc (.cells #[.int .i64 0] 3)) 27 (.int .i64 0)
    simp only [World.size_alloc] at b2 b3
    exact ⟨cna _ (cna _ (by simp)), cna _ (cna _ (by simp)), b2, b3⟩
  have hszA : (((w.alloc (.cells #[.slice pm l.length cm, .slice pc c.length cc] 32)).alloc (.cells #[.int .i64 0] 3)).alloc (.cells #[.int .i64 0] 27)).heap.size = w.heap.size + 1 + 1 + 1 := by simp
  generalize ((w.alloc (.cells #[.slice pm l.length cm, .slice pc c.length cc] 32)).alloc (.cells #[.int .i64 0] 3)).alloc (.cells #[.int .i64 0] 27) = Wa at *
  gi_loopw [27] (fun i wr => ∃ k : Nat, i = .int .i64 k ∧ k ≤ l.length ∧ Hid (∀ j, j < k → mayB (mpA l j) = true) ∧ Hid (CkI w pm pc cm cc l.length c.length wr) ∧ Hid (Below w.heap.size w wr))
    (fun i _ => l.length - (intOf i).toNat)
  case atStart => exact ⟨0, rfl, by omega, hid (fun j hj => by omega), hid hC0, hid hBa⟩
  case round =>
    obtain ⟨k, rfl, hk, HM, HC, HB⟩ := hrel
    clear hC0 hBa
    by_cases hlt : k < l.length
    · obtain ⟨b, off, hp, hb, hins⟩ := (HML.out.kept HB.out (Nat.le_refl _)).2.2.resolve_left (by omega)
      subst hp
      obtain ⟨i0, i1, i2, i3⟩ := hins k hlt
      clear hins
      gi_wp2
      refine ⟨trivial, ?_⟩
      have hbA : Below wr.heap.size wr (wr.alloc (.cells #[.int .i64 (mpA l k).kind, .int .i64 (mpA l k).key, .int .i64 (mpA l k).value, .int .i64 (mpA l k).cap] 53)) := (Below.refl _ wr).alloc (Nat.le_refl _) _
      have hsA : wr.heap.size < (wr.alloc (.cells #[.int .i64 (mpA l k).kind, .int .i64 (mpA l k).key, .int .i64 (mpA l k).value, .int .i64 (mpA l k).cap] 53)).heap.size := by simp
      refine (callsIn_wide.2 (mayBe_I (mpA l k) _)).mono ?_
      rintro e W2 ⟨rfl, b2⟩
      have hb2 := hbA.trans (b2.mono (by omega))
      have hC := HC.out.kept hb2
      have hB := HB.out.trans (hb2.mono HB.out.size)
      have hc2 := hC.2.2.1.cell
      have hf2 := hC.2.2.1.frozen
      have hc3 := hC.2.2.2.cell
      have hf3 := hC.2.2.2.frozen
      have HC2 := hid hC
      have HB2 := hid hB
      clear hC hB hb2 b2 hbA hsA i0 i1 i2 i3 HC HB
      cases hm : mayB (mpA l k)
      · have hk1 : chkI l c = ((k : Int), 26) := by unfold chkI; rw [if_neg h0, if_neg (by omega), badM_some HM.out hlt hm]
        have HK1 := hid hk1
        clear hk1 hm
        gi_wp2
        rw [HK1.out]
        have e2 := ((HC2.out.2.2.1.set (.int .i64 (k : Int))).other (show w.heap.size + 1 ≠ w.heap.size + 1 + 1 by omega) (.int .i64 26)).cell
        have e3 := ((HC2.out.2.2.2.other (show w.heap.size + 1 + 1 ≠ w.heap.size + 1 by omega) (.int .i64 (k : Int))).set (.int .i64 26)).cell
        refine ⟨.tuple #[.int .i64 (k : Int), .int .i64 26], ?_, rfl, ((HB2.out.setCell (p := ⟨w.heap.size + 1, 0, none⟩) (by simp) _).setCell (p := ⟨w.heap.size + 1 + 1, 0, none⟩) (by simp; omega) _)⟩
        simp [results, Tryz.results34, go_sem, e2, e3]
      · have HM2 : Hid (∀ j, j < k + 1 → mayB (mpA l j) = true) := hid (fun j hj => by
          by_cases e : j = k
          · rw [e]; exact hm
          · exact HM.out j (by omega))
        clear hm
        gi_wp2
        go_roundw
        case rel => exact ⟨k + 1, by simp, by omega, HM2, HC2, HB2⟩
        case measure => simp [intOf]; omega
    · obtain rfl : k = l.length := by omega
      have hbm := badM_none HM.out
      have HBM := hid hbm
      have hcc := HC.out.2.1
      clear hbm
      gi_wp2
      refine ⟨trivial, ?_⟩
      refine (callsIn_wide.2 (begins_at _ _ _ _)).mono ?_
      rintro e w' ⟨rfl, rfl⟩
      gi_wp2
      have s3 := Boxed.new wr 25 (.slice pc c.length cc)
      have hbA : Below wr.heap.size wr (wr.alloc (.cells #[.slice pc c.length cc] 25)) := (Below.refl _ wr).alloc (Nat.le_refl _) _
      have hC0 := HC.out.kept hbA
      have hBW := HB.out.trans (hbA.mono HB.out.size)
      have hszW : (wr.alloc (.cells #[.slice pc c.length cc] 25)).heap.size = wr.heap.size + 1 := by simp
      have hsr : w.heap.size + 1 + 1 < wr.heap.size := HC.out.2.2.2.lt
      clear hbA hcc
      generalize wr.alloc (.cells #[.slice pc c.length cc] 25) = W0 at *
      generalize wr.heap.size = s at *
      refine wpIn_rangeFunc_ownG rfl (by omega) (gf := 114) (lb := #[.pointer (some ⟨s, 0, none⟩)]) rfl trivial (enters_of Tryz.func114 (by kernel_rfl) rfl)
        (begins_stops _ (by omega) s w.heap.size cc pc c W0 hBW.size HZ.out.1 (by omega) (HZ.out.below hBW) (HSL.out.kept hBW (Nat.le_refl _)) s3.cell) KpS.trans (KpS.put hBW.size (by omega)) (Below.refl _ _) (fun _ => rfl)
        (fun pre W => (CkI w pm pc cm cc l.length c.length W ∧ ∀ y ∈ pre, (alE l.length c y.1 != 0) = false) ∧ Below w.heap.size w W)
        (fun cd pre W => (cd = .ret ∧ ∃ ini x, pre = ini ++ [x] ∧ (∀ y ∈ ini, (alE l.length c y.1 != 0) = false) ∧ (alE l.length c x.1 != 0) = true ∧ Boxed W (w.heap.size + 1) 3 (.int .i64 (x.1 : Int)) ∧ Boxed W (w.heap.size + 1 + 1) 27 (.int .i64 (alE l.length c x.1))) ∧ Below w.heap.size w W)
        (OwnFrom.and (Own.from (fun s X Y row hs hg hr => ⟨ckI_step hs.1 hg hr, hs.2⟩) _) (ownFrom_below (Nat.le_refl _) hBW.size))
        (fun cd => OwnFrom.and (Own.from (fun s X Y row hs hg hr => by obtain ⟨hc, ini, x, e1, e2, e3, e4, e5⟩ := hs; exact ⟨hc, ini, x, e1, e2, e3, boxed_own (β := Unit) _ _ (fun _ => _) () X Y row e4 hg hr, boxed_own (β := Unit) _ _ (fun _ => _) () X Y row e5 hg hr⟩) _) (ownFrom_below (Nat.le_refl _) hBW.size))
        ⟨⟨hC0, by simp⟩, hBW⟩
        (fun x => { tmps := #[.agg #[.slice pm l.length cm, .slice pc c.length cc], .pointer (some ⟨w.heap.size, 0, none⟩), .pointer (some ⟨w.heap.size + 1, 0, none⟩), .pointer (some ⟨w.heap.size + 1 + 1, 0, none⟩), u4, u5, .int .i64 (x.1 : Int), undef, .bool false, .pointer (some ⟨w.heap.size, 1, none⟩), .slice pc c.length cc, .int .i64 c.length, .bool false, .bool false, .pointer (some ⟨w.heap.size, 1, none⟩), .slice pc c.length cc, .int .i64 c.length, .bool false, .bool false, .pointer (some ⟨w.heap.size, 0, none⟩), .slice pm l.length cm, .int .i64 l.length, .bool false, .bool false, .pointer (some ⟨w.heap.size, 0, none⟩), .slice pm l.length cm, .int .i64 l.length, .int .i64 l.length, .bool false, u29, u30, u31, u32, u33, u34, u35, u36, .pointer (some ⟨w.heap.size, 1, none⟩), .slice pc c.length cc, .func (.func 114) #[] #[.pointer (some ⟨s, 0, none⟩)], .int .i64 (x.1 : Int), (at5 c x.1).V, undef, undef, undef, undef, undef, undef, undef, undef, undef, undef, undef, undef, undef, undef, undef, undef, undef], defers := [] }) ?assign ?body ?done ?stop
      case assign =>
        intro l x W K hK
        dsimp only [bgV]
        gi_wp2
        exact hK
      case body =>
        rintro l0 pre x W ⟨⟨hC, hn⟩, hB⟩ _
        obtain ⟨k, hk, hst⟩ := x
        dsimp only
        obtain ⟨b, off, hp, hb, hins⟩ := (HSL.out.kept hB (Nat.le_refl _)).2.2.2.resolve_left (by omega)
        subst hp
        have hi := hins k hk
        have hnx : NextAt W b (off + k * 5) (c.length - k) (nextI c k) := by
          unfold nextI
          by_cases e : k + 1 = c.length
          · exact .inl ⟨by rw [e]; exact List.getElem?_eq_none (Nat.le_refl _), by omega⟩
          · refine .inr ⟨at5 c (k + 1), ?_, by omega, ?_⟩
            · unfold at5
              rw [List.getD_eq_getElem?_getD, List.getElem?_eq_getElem (by omega)]; rfl
            · have := hins (k + 1) (by omega)
              rwa [show off + (k + 1) * 5 = off + k * 5 + 5 by omega] at this
        obtain ⟨q, hq, hsl⟩ := slice_from b off c.length cc k (by omega) hcap (k : Int) rfl
        have hq' := hq hk
        subst hq'
        clear hq
        have hbl := World.block_lt_of_cell? W _ hi.1
        have hbl' : b < W.heap.size := hbl
        have HS : Hid (∀ W', Below W.heap.size W W' → Calls Tryz.prog 74 #[.slice (some ⟨b, off + k * 5, none⟩) (c.length - k) (cc - k), .int .i64 l.length] W' fun e w' => e = .returned (.int .i64 (alE l.length c k)) ∧ Below W'.heap.size W' w') :=
          hid (fun W' hb' => standing_I (at5 c k) (at5_ok HSL.out.2.1 k) (nextI c k) l.length b (off + k * 5) (c.length - k) (cc - k) W' ((HZ.out.below hB).below hb') (by omega) (by omega) (hi.kept hb' hbl') (hnx.below hb' hbl'))
        have hmx : Tryz.prog.follows .mixedOrders = true := by kernel_rfl
        clear hbl hbl'
        have c0 := hC.1
        have c1 := hC.2.1
        have HC1 := hid hC
        have HB1 := hid hB
        have HN := hid hn
        clear hC hB hn hins hi hnx
        gi_wp2
        generalize hQQ : (Exit.then _ (Exit.inBlock 4 _)) = QQ
        have key : ∀ W9, Below W.drew.heap.size W.drew W9 → QQ .normal { tmps := #[.agg #[.slice pm l.length cm, .slice (some ⟨b, off, none⟩) c.length cc], .pointer (some ⟨w.heap.size, 0, none⟩), .pointer (some ⟨w.heap.size + 1, 0, none⟩), .pointer (some ⟨w.heap.size + 1 + 1, 0, none⟩), u4, u5, .int .i64 (k : Int), .int .i64 (alE l.length c k), .bool false, .pointer (some ⟨w.heap.size, 1, none⟩), .slice (some ⟨b, off, none⟩) c.length cc, .int .i64 c.length, .bool false, .bool false, .pointer (some ⟨w.heap.size, 1, none⟩), .slice (some ⟨b, off, none⟩) c.length cc, .int .i64 c.length, .bool false, .bool false, .pointer (some ⟨w.heap.size, 0, none⟩), .slice pm l.length cm, .int .i64 l.length, .bool false, .bool false, .pointer (some ⟨w.heap.size, 0, none⟩), .slice pm l.length cm, .int .i64 l.length, .int .i64 l.length, .bool false, u29, u30, u31, u32, u33, u34, u35, u36, .pointer (some ⟨w.heap.size, 1, none⟩), .slice (some ⟨b, off, none⟩) c.length cc, .func (.func 114) #[] #[.pointer (some ⟨s, 0, none⟩)], .int .i64 (k : Int), (at5 c k).V, .pointer (some ⟨w.heap.size, 1, none⟩), .slice (some ⟨b, off, none⟩) c.length cc, .int .i64 (k : Int), .slice (some ⟨b, off + k * 5, none⟩) (c.length - k) (cc - k), .pointer (some ⟨w.heap.size, 0, none⟩), .slice pm l.length cm, .int .i64 l.length, .int .i64 (alE l.length c k), undef, undef, undef, undef, undef, undef, undef, undef, undef], defers := [] } W9 := by
          intro W9 b9
          subst hQQ
          have hb9 := below_next (below_dr W) b9
          have hC9 := HC1.out.kept hb9
          have HB9 := hid (HB1.out.trans (hb9.mono HB1.out.size))
          have HK9 := hid (KpS.new (n₀ := w.heap.size) (Bs := s) hb9)
          have HO9 := hid (KpS.ko (n₀ := 0) (Bs := 0) hb9)
          have hc2 := hC9.2.2.1.cell
          have hf2 := hC9.2.2.1.frozen
          have hc3 := hC9.2.2.2.cell
          have hf3 := hC9.2.2.2.frozen
          have HC9 := hid hC9
          clear hb9 hC9 b9 c0 c1
          cases he : (alE l.length c k != 0)
          · gi_wp2
            exact ⟨HO9.out.from _, HK9.out, ⟨⟨HC9.out, fun y hy => (List.mem_append.1 hy).elim (HN.out y) (fun e => by rw [List.mem_singleton.1 e]; exact he)⟩, HB9.out⟩⟩
          · gi_wp2
            refine ⟨((HO9.out.trans (KeepsOthers.setCell _ _ _)).trans (KeepsOthers.setCell _ _ _)).from _, ⟨rfl, pre, ⟨k, hk, hst⟩, rfl, HN.out, he, ?_, ?_⟩, ?_⟩
            · exact (HC9.out.2.2.1.set _).other (by omega) _
            · exact (HC9.out.2.2.2.other (by omega) _).set _
            · exact (HB9.out.setCell (p := ⟨w.heap.size + 1, 0, none⟩) (by simp) _).setCell (p := ⟨w.heap.size + 1 + 1, 0, none⟩) (by simp; omega) _
        gi_region_with_o (refine ⟨trivial, ?_⟩; gi_at_call 74; refine (CallsIn.inRound l0 (callsIn_wide.2 (HS.out _ (below_dr W)))).mono ?_; rintro e W9 ⟨rfl, b9⟩)
        all_goals exact key _ b9
      case done =>
        rintro D ys W hD hall ⟨⟨hC, hn⟩, hB⟩ hK
        have hf : firstB c (fun k => alE l.length c k != 0) c.length = none := by
          rw [firstB_none]
          intro j hj hs
          have hm : j ∈ ys.map (·.1) := by rw [show ys.map (·.1) = begsTo c c.length from hall]; exact mem_begsTo.2 ⟨hj, hs⟩
          obtain ⟨y, hy, rfl⟩ := List.mem_map.1 hm
          exact hn y hy
        have hchk : chkI l c = leadI c := by unfold chkI; rw [if_neg h0, if_neg (by omega), HBM.out]; dsimp only; rw [hf]
        have HCK := hid hchk
        have c1 := hC.2.1
        have HC1 := hid hC
        have HB1 := hid hB
        have HK1 := hid hK
        clear hf hchk hC hB hK hn hall
        gi_wp2
        refine ⟨trivial, ?_⟩
        refine (callsIn_wide.2 (leading_any pc cc c W (HZ.out.below HB1.out) ((HSL.out.kept HB1.out (Nat.le_refl _)).wide HB1.out.size) (by omega) hcap)).mono ?_
        rintro e W2 ⟨rfl, b2⟩
        have hC2 := HC1.out.kept b2
        have HB2 := hid (HB1.out.trans (b2.mono HB1.out.size))
        have HK2 := hid ((b2.block D (Array.getElem?_eq_some_iff.1 HK1.out).1).trans HK1.out)
        have hc2 := hC2.2.2.1.cell
        have hf2 := hC2.2.2.1.frozen
        have hc3 := hC2.2.2.2.cell
        have hf3 := hC2.2.2.2.frozen
        have HC2 := hid hC2
        clear b2 hC2 HC1 HB1 HK1 c1
        generalize leadI c = L at *
        obtain ⟨v2, v3⟩ := L
        dsimp only
        gi_wp2
        have hK5 := ((KeepsOthers.setCell W2 ⟨w.heap.size + 1, 0, none⟩ (.int .i64 v2)).trans (KeepsOthers.setCell _ ⟨w.heap.size + 1 + 1, 0, none⟩ (.int .i64 v3))).same D _ HK2.out rfl
        refine ⟨by simp, .inl ⟨_, _, rfl, run_takeDeferred hK5, ?_⟩⟩
        have hP := grownBy_putObj' ((W2.setCell ⟨w.heap.size + 1, 0, none⟩ (.int .i64 v2)).setCell ⟨w.heap.size + 1 + 1, 0, none⟩ (.int .i64 v3)) D (.deferred none)
        have hr : ∀ r, some D = some r → ∃ o : Obj, ((W2.setCell ⟨w.heap.size + 1, 0, none⟩ (.int .i64 v2)).setCell ⟨w.heap.size + 1 + 1, 0, none⟩ (.int .i64 v3)).heap[r]? = some o ∧ o.isCells = false := fun r e => by cases e; exact ⟨_, hK5, rfl⟩
        have e2 := cell_kept ((HC2.out.2.2.1.set (.int .i64 v2)).other (show w.heap.size + 1 ≠ w.heap.size + 1 + 1 by omega) (.int .i64 v3)).cell hP hr
        have e3 := cell_kept ((HC2.out.2.2.2.other (show w.heap.size + 1 + 1 ≠ w.heap.size + 1 by omega) (.int .i64 v2)).set (.int .i64 v3)).cell hP hr
        rw [HCK.out]
        refine ⟨.tuple #[.int .i64 v2, .int .i64 v3], ?_, rfl, ((HB2.out.setCell (p := ⟨w.heap.size + 1, 0, none⟩) (by simp) _).setCell (p := ⟨w.heap.size + 1 + 1, 0, none⟩) (by simp; omega) _).trans (belowK_b (w := w) (Nat.le_refl _) _ D _ _ (by omega) hK5 rfl rfl)⟩
        simp [results, Tryz.results34, go_sem, e2, e3]
      case stop =>
        rintro D cd pre W hD hpre ⟨⟨rfl, ini, x, rfl, hn, hj, hb2, hb3⟩, hB⟩ hK
        gi_wp2
        refine ⟨by simp, .inl ⟨_, _, rfl, run_takeDeferred hK, ?_⟩⟩
        have hP := grownBy_putObj' W D (.deferred none)
        have hr : ∀ r, some D = some r → ∃ o : Obj, W.heap[r]? = some o ∧ o.isCells = false := fun r e => by cases e; exact ⟨_, hK, rfl⟩
        have hc2 := cell_kept hb2.cell hP hr
        have hc3 := cell_kept hb3.cell hP hr
        have hchk : chkI l c = ((x.1 : Int), alE l.length c x.1) := by
          obtain ⟨k, hk, hs, e⟩ := hpre
          rw [List.map_append] at e
          obtain ⟨e1, e2⟩ := List.append_inj' e (by simp)
          have e3 : x.1 = k := by simpa using e2
          have hf : firstB c (fun k => alE l.length c k != 0) c.length = some k := by
            refine firstB_at (fun j hjk hsj => ?_) hs (e3 ▸ hj) hk
            have hm : j ∈ ini.map (·.1) := by rw [e1]; exact mem_begsTo.2 ⟨hjk, hsj⟩
            obtain ⟨y, hy, rfl⟩ := List.mem_map.1 hm
            exact hn y hy
          unfold chkI
          rw [if_neg h0, if_neg (by omega), HBM.out]
          dsimp only
          rw [hf, e3]
        rw [hchk]
        refine ⟨.tuple #[.int .i64 (x.1 : Int), .int .i64 (alE l.length c x.1)], ?_, rfl, hB.trans (belowK_b (w := w) (Nat.le_refl _) W D _ _ (by have := HC.out.2.2.2.lt; have := hBW.size; omega) hK rfl rfl)⟩
        simp [results, Tryz.results34, go_sem, hc2, hc3]
end Go.Proofs.YtjcnpjidkimldaaGreatDoor.Is
