/-
  The code's takeImage and Decode.
-/
import Derived.Test.YtolpgcoebmboeaaImJ
namespace Go.Proofs.Ytolpgcoebmboeaa
set_option linter.unusedSimpArgs false
set_option linter.unusedVariables false
open Go.ChangeShapes Go.WideShapes Go.ChangeAt Go.RowKit

theorem own_kept {w w' : World} {b : Nat} {e : TypeId} {k n : Nat} {v : Value} {xs : List Value} (h : w.ownsRow b e k v n xs) (hb : Below w.heap.size w w') : w'.ownsRow b e k v n xs :=
  h.kept (row := none) ⟨hb.os, hb.tape, hb.output, hb.size, fun k hk _ => hb.block k hk⟩ (by
    rcases h.2 with ⟨e, _⟩ | ⟨g, cap, cur, e, _⟩
    · exact .inl (by rw [e]; rfl)
    · exact .inr (by rw [e]; simp [Value.ownBlock]))
theorem But.set {B : Nat} {a b : World} (h : But B a b) {p : Addr} (hp : a.heap.size ≤ p.block) (v : Value) : But B a (b.setCell p v) :=
  ⟨h.os, h.tape, h.output, by have := h.size; simp; omega, fun j hj hn => (Below.heap_setCell _ _ _ _ (by omega)).trans (h.block j hj hn)⟩
theorem Tk.set {n₀ B : Nat} {w : World} {zs : List Int} (h : Tk n₀ B w zs) {p : Addr} (hp : B < p.block) (v : Value) : Tk n₀ B (w.setCell p v) zs :=
  h.grown (row := some p.block) ⟨rfl, rfl, rfl, by simp, fun k hk hne => Below.heap_setCell _ _ _ _ (fun e => hne (by rw [e]))⟩ (fun k e => by injection e with e; omega)
theorem nQ_nP (zs : List Int) : nQ (zs.drop (1 + 4 * nM zs)) = nP zs := by
  unfold nQ nP
  rw [getD_drop, getD_drop, Nat.add_zero, show 1 + 4 * nM zs + 1 = 2 + 4 * nM zs by omega]
/-- What takeImage tells. -/
def tE (zs : List Int) : Int := if mE zs = 0 then cE (zs.drop (1 + 4 * nM zs)) else mE zs
set_option maxHeartbeats 3200000 in
theorem takeImage_any (n₀ B : Nat) (w : World) (zs : List Int) (hT : Tk n₀ B w zs) (hz : zs.length < 4611686018427387904) (hn : n₀ ≤ w.heap.size) :
    Calls Try.prog 23 #[.func (.func 22) #[] #[.pointer (some ⟨B, 0, none⟩)]] w fun e w' => But B w w' ∧
      ((tE zs = 0 ∧ ∃ v u, e = .returned (.tuple #[.agg #[v, u], .int .i64 0]) ∧ Tk n₀ B w' (zs.drop (3 + 4 * nM zs + 8 * nP zs)) ∧ w'.ownsRow (w.heap.size + 1) 48 4 v (nM zs) ((decL zs).flatMap cellsM) ∧ w'.ownsRow (w.heap.size + 1) 51 5 u (nP zs) ((decC zs).flatMap cellsI)) ∨
       (tE zs ≠ 0 ∧ e = .returned (.tuple #[.agg #[.slice none 0 0, .slice none 0 0], .int .i64 (tE zs)]))) := by
  have hbA := (Below.refl w.heap.size w).alloc (Nat.le_refl _) (.cells #[.slice none 0 0, .slice none 0 0] 25)
  have hqA : (w.alloc (.cells #[.slice none 0 0, .slice none 0 0] 25)).heap.size = w.heap.size + 1 := by simp
  have hM := takeMaps_any n₀ B (w.alloc (.cells #[.slice none 0 0, .slice none 0 0] 25)) zs (hT.kept hbA) hz (by rw [hqA]; omega)
  have HBA := hid (But.of (B := B) hbA)
  have hBw := hT.lt
  have hnB := hT.hB
  rw [hqA] at hM
  have HM := hid hM
  have z0 : (w.alloc (.cells #[.slice none 0 0, .slice none 0 0] 25)).cell? ⟨w.heap.size, 0, none⟩ = some (.slice none 0 0) := World.cell?_alloc_at _ _ _ _ rfl
  have z1 : (w.alloc (.cells #[.slice none 0 0, .slice none 0 0] 25)).cell? ⟨w.heap.size, 1, none⟩ = some (.slice none 0 0) := World.cell?_alloc_at _ _ _ _ rfl
  have f0 : (w.alloc (.cells #[.slice none 0 0, .slice none 0 0] 25)).frozen? ⟨w.heap.size, 0, none⟩ = false := World.frozen?_alloc_at _ _ _ _ rfl
  have f1 : (w.alloc (.cells #[.slice none 0 0, .slice none 0 0] 25)).frozen? ⟨w.heap.size, 1, none⟩ = false := World.frozen?_alloc_at _ _ _ _ rfl
  have hne : some w.heap.size ≠ some B := by simp; omega
  clear hM hbA hT
  go_enter Try.func23, Try.ntmps23
  go_wp2_with fail
  refine HM.out.mono ?_
  rintro e w1 ⟨b1, h1⟩
  have q1 : w.heap.size < w1.heap.size := by have := b1.size; omega
  have y0 := b1.cell z0 hne
  have y1 := b1.cell z1 hne
  have g0 := (World.frozen?_of_block (a := ⟨w.heap.size, 0, none⟩) (b1.block w.heap.size (by omega) hne)).trans f0
  have g1 := (World.frozen?_of_block (a := ⟨w.heap.size, 1, none⟩) (b1.block w.heap.size (by omega) hne)).trans f1
  have HB1 := hid (HBA.out.trans b1)
  clear HM z0 z1 f0 f1 b1 HBA
  rcases h1 with ⟨hE, v, rfl, T1, o1⟩ | ⟨hE, rfl⟩
  rotate_left
  · have d0 : (mE zs != 0) = true := by simpa using hE
    have d1 : (mE zs == 0) = false := by simpa using hE
    have ht : tE zs = mE zs := by unfold tE; rw [if_neg hE]
    have HT := hid ht
    have HE := hid hE
    clear ht hE
    generalize mE zs = k at *
    go_wp2
    refine bodyPost_ret (v := .tuple #[.agg #[.slice none 0 0, .slice none 0 0], .int .i64 k]) (by simp [results, Try.results23, go_sem, y0, y1]) rfl ⟨((HB1.out.set (p := ⟨w.heap.size, 0, none⟩) (Nat.le_refl _) _).set (p := ⟨w.heap.size, 1, none⟩) (Nat.le_refl _) _), .inr ⟨by rw [HT.out]; exact HE.out, ret_val (by rw [HT.out])⟩⟩
  · have hC := takeCode_any n₀ B w1 _ T1 (by rw [List.length_drop]; omega) (by omega)
    have HC := hid hC
    have HE := hid hE
    have O1 := hid o1
    clear hC hE T1 o1
    obtain ⟨pv, cv, rfl, _, _⟩ := own_slice O1.out
    go_wp2_with fail
    refine HC.out.mono ?_
    rintro e w2 ⟨b2, h2⟩
    have q2 : w.heap.size < w2.heap.size := by have := b2.size; omega
    replace y0 := b2.cell y0 hne
    replace y1 := b2.cell y1 hne
    replace g0 := (World.frozen?_of_block (a := ⟨w.heap.size, 0, none⟩) (b2.block w.heap.size (by omega) hne)).trans g0
    replace g1 := (World.frozen?_of_block (a := ⟨w.heap.size, 1, none⟩) (b2.block w.heap.size (by omega) hne)).trans g1
    have HB2 := hid (HB1.out.trans b2)
    have O2 := hid (own_but O1.out b2 (by omega))
    clear HC b2 HB1 O1
    rcases h2 with ⟨hE2, u, rfl, T2, o2⟩ | ⟨hE2, rfl⟩
    rotate_left
    · have ht : tE zs = cE (zs.drop (1 + 4 * nM zs)) := by unfold tE; rw [if_pos HE.out]
      have d0 : (cE (zs.drop (1 + 4 * nM zs)) != 0) = true := by simpa using hE2
      have d1 : (cE (zs.drop (1 + 4 * nM zs)) == 0) = false := by simpa using hE2
      have HT := hid ht
      have HE2 := hid hE2
      clear ht hE2
      generalize cE (zs.drop (1 + 4 * nM zs)) = k at *
      go_wp2
      refine bodyPost_ret (v := .tuple #[.agg #[.slice none 0 0, .slice none 0 0], .int .i64 k]) (by simp [results, Try.results23, go_sem, y0, y1]) rfl ⟨((HB2.out.set (p := ⟨w.heap.size, 0, none⟩) (Nat.le_refl _) _).set (p := ⟨w.heap.size, 1, none⟩) (Nat.le_refl _) _), .inr ⟨by rw [HT.out]; exact HE2.out, ret_val (by rw [HT.out])⟩⟩
    · obtain ⟨pu, cu, rfl, _, _⟩ := own_slice o2
      have ht : tE zs = 0 := by unfold tE; rw [if_pos HE.out]; exact hE2
      have HO := hid o2
      have HT := hid ht
      have HT2 := hid T2
      clear o2 T2 ht hE2
      go_wp2
      refine bodyPost_ret (v := .tuple #[.agg #[.slice pv (nM zs) cv, .slice pu (nQ (zs.drop (1 + 4 * nM zs))) cu], .int .i64 0]) (by simp [results, Try.results23, go_sem, y0, y1, q2]) rfl ⟨((HB2.out.set (p := ⟨w.heap.size, 0, none⟩) (Nat.le_refl _) _).set (p := ⟨w.heap.size, 1, none⟩) (Nat.le_refl _) _), .inl ⟨HT.out, _, _, rfl, ?_, ?_, ?_⟩⟩
      · have := (HT2.out.set (p := ⟨w.heap.size, 0, none⟩) hBw (.slice pv (nM zs) cv)).set (p := ⟨w.heap.size, 1, none⟩) hBw (.slice pu (nQ (zs.drop (1 + 4 * nM zs))) cu)
        rw [List.drop_drop, show 1 + 4 * nM zs + (2 + 8 * nQ (zs.drop (1 + 4 * nM zs))) = 3 + 4 * nM zs + 8 * nP zs by rw [nQ_nP]; omega] at this
        exact this
      · exact ownsRow_setCell_below (ownsRow_setCell_below O2.out (a := ⟨w.heap.size, 0, none⟩) (Nat.lt_succ_self _) _) (a := ⟨w.heap.size, 1, none⟩) (Nat.lt_succ_self _) _
      · have := ownsRow_setCell_below (ownsRow_setCell_below (own_mono HO.out q1) (a := ⟨w.heap.size, 0, none⟩) (Nat.lt_succ_self _) (.slice pv (nM zs) cv)) (a := ⟨w.heap.size, 1, none⟩) (Nat.lt_succ_self _) (.slice pu (nQ (zs.drop (1 + 4 * nM zs))) cu)
        unfold decC
        rw [List.drop_drop, show 1 + 4 * nM zs + 2 = 3 + 4 * nM zs by omega, nQ_nP] at this
        rw [nQ_nP]
        exact this

theorem dec_len (zs : List Int) (h : ¬ 65536 < zs.length) : decE zs = if tE zs = 0 then (if 3 + 4 * nM zs + 8 * nP zs < zs.length then 5 else 0) else tE zs := by
  have hl : (zs.drop (1 + 4 * nM zs)).length = zs.length - (1 + 4 * nM zs) := List.length_drop
  unfold tE mE cE decE
  rw [nQ_nP, hl, if_neg h]
  by_cases h1 : zs.length < 1
  · rw [if_pos h1, if_pos h1]; rfl
  rw [if_neg h1, if_neg h1]
  by_cases h2 : 4 < nM zs
  · rw [if_pos h2, if_pos h2]; rfl
  rw [if_neg h2, if_neg h2]
  by_cases h3 : zs.length < 1 + 4 * nM zs
  · rw [if_pos h3, if_pos (by omega)]; rfl
  rw [if_neg h3, if_pos rfl]
  by_cases h4 : zs.length < 3 + 4 * nM zs
  · rw [if_pos h4, if_pos (by omega : zs.length - (1 + 4 * nM zs) < 2)]; rfl
  rw [if_neg h4, if_neg (by omega : ¬ zs.length - (1 + 4 * nM zs) < 2)]
  by_cases h5 : 512 < nP zs
  · rw [if_pos h5, if_pos h5]; rfl
  rw [if_neg h5, if_neg h5]
  by_cases h6 : zs.length < 3 + 4 * nM zs + 8 * nP zs
  · rw [if_pos h6, if_pos (by omega : zs.length - (1 + 4 * nM zs) < 2 + 8 * nP zs)]; rfl
  rw [if_neg h6, if_neg (by omega : ¬ zs.length - (1 + 4 * nM zs) < 2 + 8 * nP zs), if_pos rfl]
def dL (zs : List Int) : List M4 := if decE zs = 0 then decL zs else []
def dC (zs : List Int) : List I5 := if decE zs = 0 then decC zs else []
/-- A pointer that is nil, or to a block at or behind n. -/
def NewP (n : Nat) (p : Option Addr) : Prop := ∀ b, p = some b → n ≤ b.block
theorem newP_own {w : World} {b n : Nat} {e : TypeId} {k m cap : Nat} {p : Option Addr} {xs : List Value} (h : w.ownsRow b e k (.slice p m cap) m xs) (hn : n ≤ b) : NewP n p := by
  rcases h.2 with ⟨e, _⟩ | ⟨g, c, cur, e, hg, _⟩
  · injection e with e1 e2 e3
    subst e1
    intro b h
    cases h
  · injection e with e1 e2 e3
    subst e1
    intro b h
    injection h with h
    subst h
    exact Nat.le_trans hn hg
/-- What Decode tells. -/
def DeP (w : World) (zs : List Int) (e : Ending) (w' : World) : Prop :=
  ∃ pm cm pc cc, e = .returned (.tuple #[.agg #[.slice pm (dL zs).length cm, .slice pc (dC zs).length cc], .int .i64 (decE zs)]) ∧ ImS w'.heap.size w' pm (dL zs) pc (dC zs) ∧ Below w.heap.size w w' ∧ NewP w.heap.size pm ∧ NewP w.heap.size pc
theorem ImS.none (n₀ : Nat) (w : World) (pm pc : Option Addr) : ImS n₀ w pm [] pc [] := ⟨⟨rfl, by decide, .inl rfl⟩, ⟨rfl, (fun x h => by cases h), by decide, .inl rfl⟩⟩
theorem dep_err {w w' : World} {zs : List Int} {e : Ending} {k : Int} (hk : decE zs = k) (h0 : k ≠ 0) (he : e = .returned (.tuple #[.agg #[.slice none 0 0, .slice none 0 0], .int .i64 k])) (hb : Below w.heap.size w w') : DeP w zs e w' := by
  refine ⟨none, 0, none, 0, ?_, ?_, hb, (fun b h => by cases h), (fun b h => by cases h)⟩
  · unfold dL dC
    rw [hk, if_neg h0, if_neg h0]
    exact he
  · unfold dL dC
    rw [hk, if_neg h0, if_neg h0]
    exact ImS.none _ _ _ _
theorem dep_ok {w w' : World} {zs : List Int} {e : Ending} {pm pc : Option Addr} {cm cc n₀ : Nat} (hn₀ : w.heap.size ≤ n₀) (hz : By zs) (hk : decE zs = 0) (he : e = .returned (.tuple #[.agg #[.slice pm (nM zs) cm, .slice pc (nP zs) cc], .int .i64 0]))
    (hm : w'.ownsRow n₀ 48 4 (.slice pm (nM zs) cm) (nM zs) ((decL zs).flatMap cellsM)) (hc : w'.ownsRow n₀ 51 5 (.slice pc (nP zs) cc) (nP zs) ((decC zs).flatMap cellsI)) (hb : Below w.heap.size w w') : DeP w zs e w' := by
  obtain ⟨h0, h1, h2, h3⟩ := decE_ok hk
  have l1 : (decL zs).length = nM zs := takeM_len _ _
  have l2 : (decC zs).length = nP zs := takeI_len _ _
  obtain ⟨p3, c3, e3, _, hm3⟩ := own_mp hm (by omega)
  obtain ⟨p4, c4, e4, _, hm4⟩ := own_cd hc (takeI_ok _ (hz.drop _)).1 (by omega)
  injection e3 with e31 e32 e33
  injection e4 with e41 e42 e43
  subst e31 e41
  refine ⟨pm, cm, pc, cc, ?_, ?_, hb, newP_own hm hn₀, newP_own hc hn₀⟩
  · unfold dL dC
    rw [hk, if_pos rfl, if_pos rfl, l1, l2]
    exact he
  · unfold dL dC
    rw [hk, if_pos rfl, if_pos rfl]
    exact ⟨l1.symm ▸ hm3, l2.symm ▸ hm4⟩
set_option maxHeartbeats 3200000 in
theorem cDecode_any (p : Option Addr) (cap : Nat) (zs : List Int) (w : World) (hL : ByL w.heap.size w p zs.length zs) (hc : zs.length ≤ cap) (hz : zs.length < 4611686018427387904) :
    Calls Try.prog 16 #[.slice p zs.length cap] w (DeP w zs) := by
  have hW : Below w.heap.size w ((w.alloc (.cells #[.slice p zs.length cap] 29)).alloc (.cells #[.slice none 0 0, .slice none 0 0] 25)) := ((Below.refl w.heap.size w).alloc (Nat.le_refl _) _).alloc (by simp) _
  by_cases h3 : 65536 < zs.length
  · have hE : decE zs = 3 := by unfold decE; rw [if_pos h3]
    have d0 : decide (65536 < (zs.length : Int)) = true := decide_eq_true (by omega)
    have d1 : decide (65536 < zs.length) = true := decide_eq_true h3
    clear h3 hL
    go_enter Try.func16, Try.ntmps16
    go_wp2
    refine bodyPost_ret (v := .tuple #[.agg #[.slice none 0 0, .slice none 0 0], .int .i64 3]) (by simp [results, Try.results16, go_sem]) rfl (dep_err hE (by decide) rfl hW)
  have d0 : decide (65536 < (zs.length : Int)) = false := decide_eq_false (by omega)
  have d1 : decide (65536 < zs.length) = false := decide_eq_false h3
  have hqW : ((w.alloc (.cells #[.slice p zs.length cap] 29)).alloc (.cells #[.slice none 0 0, .slice none 0 0] 25)).heap.size = w.heap.size + 2 := by simp
  have c0 : ((w.alloc (.cells #[.slice p zs.length cap] 29)).alloc (.cells #[.slice none 0 0, .slice none 0 0] 25)).cell? ⟨w.heap.size, 0, none⟩ = some (.slice p zs.length cap) := by simp
  have T0 : Tk w.heap.size w.heap.size ((w.alloc (.cells #[.slice p zs.length cap] 29)).alloc (.cells #[.slice none 0 0, .slice none 0 0] 25)) zs := ⟨⟨p, cap, c0, hc, hL.kept hW (Nat.le_refl _)⟩, by simp, Nat.le_refl _⟩
  have z0 : ((w.alloc (.cells #[.slice p zs.length cap] 29)).alloc (.cells #[.slice none 0 0, .slice none 0 0] 25)).cell? ⟨w.heap.size + 1, 0, none⟩ = some (.slice none 0 0) := World.cell?_alloc_at _ _ _ _ (by simp)
  have z1 : ((w.alloc (.cells #[.slice p zs.length cap] 29)).alloc (.cells #[.slice none 0 0, .slice none 0 0] 25)).cell? ⟨w.heap.size + 1, 1, none⟩ = some (.slice none 0 0) := World.cell?_alloc_at _ _ _ _ (by simp)
  have f0 : ((w.alloc (.cells #[.slice p zs.length cap] 29)).alloc (.cells #[.slice none 0 0, .slice none 0 0] 25)).frozen? ⟨w.heap.size + 1, 0, none⟩ = false := World.frozen?_alloc_at _ _ _ _ (by simp)
  have f1 : ((w.alloc (.cells #[.slice p zs.length cap] 29)).alloc (.cells #[.slice none 0 0, .slice none 0 0] 25)).frozen? ⟨w.heap.size + 1, 1, none⟩ = false := World.frozen?_alloc_at _ _ _ _ (by simp)
  have HT := hid (takeImage_any w.heap.size w.heap.size ((w.alloc (.cells #[.slice p zs.length cap] 29)).alloc (.cells #[.slice none 0 0, .slice none 0 0] 25)) zs T0 hz (by omega))
  have HD := hid (dec_len zs h3)
  have HW := hid hW
  have HZ := hid T0.by
  have hne : some (w.heap.size + 1) ≠ some w.heap.size := by simp
  have hf : ∀ (fn : Fn) (first cp : Array Value) (W : World), (Instr.makeFunc fn first cp).run Try.prog W = .ok (.func fn first cp) W := fun _ _ _ _ => rfl
  clear h3 hL T0 c0 hW
  go_enter Try.func16, Try.ntmps16
  go_wp2_with fail
  generalize (w.alloc (.cells #[.slice p zs.length cap] 29)).alloc (.cells #[.slice none 0 0, .slice none 0 0] 25) = W0 at *
  refine HT.out.mono ?_
  rintro e w1 ⟨b1, h1⟩
  have q1 : w.heap.size + 1 < w1.heap.size := by have := b1.size; omega
  have q0 : w.heap.size < w1.heap.size := by omega
  have y0 := b1.cell z0 hne
  have y1 := b1.cell z1 hne
  have g0 := (World.frozen?_of_block (a := ⟨w.heap.size + 1, 0, none⟩) (b1.block (w.heap.size + 1) (by omega) hne)).trans f0
  have g1 := (World.frozen?_of_block (a := ⟨w.heap.size + 1, 1, none⟩) (b1.block (w.heap.size + 1) (by omega) hne)).trans f1
  have HB := hid (HW.out.trans (b1.below (Nat.le_refl _) (by omega)))
  clear HT z0 z1 f0 f1 b1 HW
  rcases h1 with ⟨hE, v, u, rfl, T1, o1, o2⟩ | ⟨hE, rfl⟩
  rotate_left
  · have hD := HD.out
    rw [if_neg hE] at hD
    have d2 : (tE zs == 0) = false := by simpa using hE
    have HE := hid hE
    have HDD := hid hD
    clear hE hD HD
    generalize tE zs = k at *
    go_wp2
    refine bodyPost_ret (v := .tuple #[.agg #[.slice none 0 0, .slice none 0 0], .int .i64 k]) (by simp [results, Try.results16, go_sem, y0, y1, q1]) rfl (dep_err HDD.out HE.out rfl ?_)
    exact ((HB.out.setCell (p := ⟨w.heap.size + 1, 0, none⟩) (by simp) _).setCell (p := ⟨w.heap.size + 1, 1, none⟩) (by simp) _).alloc (by simp; omega) _
  · obtain ⟨pv, cv, rfl, _, _⟩ := own_slice o1
    obtain ⟨pu, cu, rfl, _, _⟩ := own_slice o2
    obtain ⟨pb, cb, hcb, _, _⟩ := T1.box
    have hD := HD.out
    rw [if_pos hE] at hD
    have hln : (zs.drop (3 + 4 * nM zs + 8 * nP zs)).length = zs.length - (3 + 4 * nM zs + 8 * nP zs) := List.length_drop
    rw [hln] at hcb
    have HO1 := hid o1
    have HO2 := hid o2
    clear hE HD T1 o1 o2 hln
    by_cases hmore : 3 + 4 * nM zs + 8 * nP zs < zs.length
    · rw [if_pos hmore] at hD
      have HDD := hid hD
      have d2 : decide ((0 : Int) < ((zs.length - (3 + 4 * nM zs + 8 * nP zs) : Nat) : Int)) = true := decide_eq_true (by omega)
      have d3 : decide (0 < zs.length - (3 + 4 * nM zs + 8 * nP zs)) = true := decide_eq_true (by omega)
      generalize zs.length - (3 + 4 * nM zs + 8 * nP zs) = rest at *
      clear hD hmore
      go_wp2
      refine bodyPost_ret (v := .tuple #[.agg #[.slice none 0 0, .slice none 0 0], .int .i64 5]) (by simp [results, Try.results16, go_sem, y0, y1, q1]) rfl (dep_err HDD.out (by decide) rfl ?_)
      exact ((HB.out.setCell (p := ⟨w.heap.size + 1, 0, none⟩) (by simp) _).setCell (p := ⟨w.heap.size + 1, 1, none⟩) (by simp) _).alloc (by simp; omega) _
    · rw [if_neg hmore] at hD
      have HDD := hid hD
      have d2 : decide ((0 : Int) < ((zs.length - (3 + 4 * nM zs + 8 * nP zs) : Nat) : Int)) = false := decide_eq_false (by omega)
      have d3 : decide (0 < zs.length - (3 + 4 * nM zs + 8 * nP zs)) = false := decide_eq_false (by omega)
      generalize zs.length - (3 + 4 * nM zs + 8 * nP zs) = rest at *
      clear hD hmore
      go_wp2
      refine bodyPost_ret (v := .tuple #[.agg #[.slice pv (nM zs) cv, .slice pu (nP zs) cu], .int .i64 0]) (by simp [results, Try.results16, go_sem, y0, y1, q1]) rfl (dep_ok (n₀ := W0.heap.size + 1) (by omega) HZ.out HDD.out rfl ?_ ?_ ?_)
      · exact (ownsRow_setCell_below (ownsRow_setCell_below HO1.out (a := ⟨w.heap.size + 1, 0, none⟩) (by simp; omega) _) (a := ⟨w.heap.size + 1, 1, none⟩) (by simp; omega) _).alloc _
      · exact (ownsRow_setCell_below (ownsRow_setCell_below HO2.out (a := ⟨w.heap.size + 1, 0, none⟩) (by simp; omega) _) (a := ⟨w.heap.size + 1, 1, none⟩) (by simp; omega) _).alloc _
      · exact ((HB.out.setCell (p := ⟨w.heap.size + 1, 0, none⟩) (by simp) _).setCell (p := ⟨w.heap.size + 1, 1, none⟩) (by simp) _).alloc (by simp; omega) _
end Go.Proofs.Ytolpgcoebmboeaa
