/-
  TnumUndoes: what is added and taken away again.
-/
import Derived.Test.YtbinbjfpjielkaaTnU
import Derived.Test.YtbinbjfpjielkaaTnH
import Derived.Test.YtbinbjfpjielkaaTnW
import Derived.Deep.RegionHeld3
import Derived.Deep.RegionLaw
namespace Go.Proofs.Ytbinbjfpjielkaa
set_option linter.unusedSimpArgs false
set_option linter.unusedVariables false
open Go.ChangeShapes Go.WideShapes Go.ChangeAt Go.RowKit

def CutR (R : Act → World → Prop) : Exit → Act → World → Prop
  | .normal, a, w => R a w
  | _, _, _ => False
theorem CutR.imp {R : Act → World → Prop} {Q : Exit → Act → World → Prop} (h : ∀ a w, R a w → Q .normal a w) : ∀ e a w, CutR R e a w → Q e a w := fun e a w hr => by
  cases e <;> first | exact h a w hr | exact hr.elim
theorem cutA {P : Program} {c : Code} {Q : Exit → Act → World → Prop} {a : Act} {w : World} {A : Nat → Act} {F : Nat → World → Prop} (h1 : Code.wp P c (CutR fun a' W' => ∃ g : Nat, F g W' ∧ a' = A g) a w) (h2 : ∀ g W, F g W → Q .normal (A g) W) : Code.wp P c Q a w :=
  Code.wp_mono (CutR.imp fun a' W' ⟨g, hF, e⟩ => e ▸ h2 g W' hF) h1
theorem belowAl {wv W : World} {o : Obj} (h : Below wv.heap.size wv W) : Below wv.heap.size wv (W.alloc o) := h.alloc h.size o
structure TNB (n : Nat) (w : World) (B : Nat) (t : Tn) : Prop where
  le : n ≤ B
  tb : TB w B t
structure UI (w : World) (l : List (Nat × Tn)) (wr : World) : Prop where
  bel : Below w.heap.size w wr
  cs : ∀ p ∈ l, TC wr p.1 p.2
theorem UI.next {w : World} {l : List (Nat × Tn)} {wr w' : World} (h : UI w l wr) (hb : Below wr.heap.size wr w') : UI w l w' :=
  ⟨h.bel.trans (hb.mono h.bel.size), fun p hp => (h.cs p hp).below hb⟩
theorem UI.more {w : World} {l : List (Nat × Tn)} {wr : World} {g : Nat} {T : Tn} (h : UI w l wr) (hc : TC wr g T) : UI w ((g, T) :: l) wr :=
  ⟨h.bel, fun p hp => by rcases List.mem_cons.1 hp with rfl | hp; exact hc; exact h.cs p hp⟩
theorem UI.push {w : World} {l : List (Nat × Tn)} {wr : World} {t : TypeId} (h : UI w l wr) (T : Tn) : UI w ((wr.heap.size, T) :: l) (wr.alloc (.cells #[.int .u64 (ub T.1), .int .u64 (ub T.2)] t)) :=
  (h.next ((Below.refl _ _).alloc (Nat.le_refl _) _)).more (TC.new rfl)
theorem TB.zero {w : World} {t : TypeId} {b : Nat} (hb : b = w.heap.size) : TB (w.alloc (.cells #[.int .u64 0, .int .u64 0] t)) b t0 := by
  have h := TB.new (w := w) (a := t0) (t := t) hb
  have e1 : ub t0.1 = 0 := by first | rfl | decide | simp [t0, ub]
  have e2 : ub t0.2 = 0 := by first | rfl | decide | simp [t0, ub]
  rwa [e1, e2] at h
theorem eqB {n : Nat} {w : World} {B : Nat} {t : Tn} (h : TNB n w B t) : ∃ g, g = B := ⟨B, rfl⟩
theorem keepU {n g : Nat} {T : Tn} {wv w' : World} (pa : g < n) (qa : wv.cell? ⟨g, 0, none⟩ = some (.int .u64 (ub T.1))) (ra : wv.cell? ⟨g, 1, none⟩ = some (.int .u64 (ub T.2))) (hB : Below n wv w') : w'.cell? ⟨g, 0, none⟩ = some (.int .u64 (ub T.1)) ∧ w'.cell? ⟨g, 1, none⟩ = some (.int .u64 (ub T.2)) ∧ Below n wv w' :=
  ⟨(hB.cell (p := ⟨g, 0, none⟩) pa).trans qa, (hB.cell (p := ⟨g, 1, none⟩) pa).trans ra, hB⟩
theorem undoes_a (a b : Tn) (n : B64) (w : World) (ha : tmay a = false) : Calls Try.prog 12 #[tv a, tv b, .int .u64 (ub n)] w fun e w' => e = .returned (.bool true) ∧ Below w.heap.size w w' := by
  have HAW := hid awake_true
  have HA := fun W => tMay_any a W
  rw [ha] at HA
  unfold tv at HA ⊢
  have HA' := hid HA
  clear HA ha
  go_enter Try.func12, Try.ntmps12
  go_wp2_with fail
  refine (HAW.out _).mono ?_
  rintro e w1 ⟨rfl, z1⟩
  have I : UI w [(w.heap.size + 1, b), (w.heap.size, a)] w1 := ⟨(((Below.refl _ _).alloc (Nat.le_refl _) _).alloc (by simp) _).trans (z1.mono (by simp; omega)), by
    intro p hp
    rcases List.mem_cons.1 hp with rfl | hp
    · exact (TC.new (by simp)).below z1
    · rcases List.mem_cons.1 hp with rfl | hp
      · exact ((TC.new rfl).alloc _).below z1
      · cases hp⟩
  clear z1
  have pa := (I.cs (w.heap.size, a) (by simp)).1
  have qa := (I.cs (w.heap.size, a) (by simp)).2.1
  have ra := (I.cs (w.heap.size, a) (by simp)).2.2
  have pb := (I.cs (w.heap.size + 1, b) (by simp)).1
  have qb := (I.cs (w.heap.size + 1, b) (by simp)).2.1
  have rb := (I.cs (w.heap.size + 1, b) (by simp)).2.2
  go_wp2_with fail
  refine (HA'.out _).mono ?_
  rintro e w2 ⟨rfl, zw2⟩
  clear pa qa ra pb qb rb
  replace I := I.next zw2
  clear zw2
  have pa := (I.cs (w.heap.size, a) (by simp)).1
  have qa := (I.cs (w.heap.size, a) (by simp)).2.1
  have ra := (I.cs (w.heap.size, a) (by simp)).2.2
  have pb := (I.cs (w.heap.size + 1, b) (by simp)).1
  have qb := (I.cs (w.heap.size + 1, b) (by simp)).2.1
  have rb := (I.cs (w.heap.size + 1, b) (by simp)).2.2
  go_wp2_with fail
  refine (HAW.out _).mono ?_
  rintro e w9 ⟨rfl, z9⟩
  have HB9 := hid (I.next z9).bel
  go_wp2
  go_ret
  exact ⟨rfl, HB9.out⟩
theorem undoes_b (a b : Tn) (n : B64) (w : World) (ha : tmay a = true) (hb : tmay b = false) : Calls Try.prog 12 #[tv a, tv b, .int .u64 (ub n)] w fun e w' => e = .returned (.bool true) ∧ Below w.heap.size w w' := by
  have HAW := hid awake_true
  have HA := fun W => tMay_any a W
  have HB := fun W => tMay_any b W
  rw [ha] at HA
  rw [hb] at HB
  unfold tv at HA HB ⊢
  have HA' := hid HA
  have HB' := hid HB
  clear HA HB ha hb
  go_enter Try.func12, Try.ntmps12
  go_wp2_with fail
  refine (HAW.out _).mono ?_
  rintro e w1 ⟨rfl, z1⟩
  have I : UI w [(w.heap.size + 1, b), (w.heap.size, a)] w1 := ⟨(((Below.refl _ _).alloc (Nat.le_refl _) _).alloc (by simp) _).trans (z1.mono (by simp; omega)), by
    intro p hp
    rcases List.mem_cons.1 hp with rfl | hp
    · exact (TC.new (by simp)).below z1
    · rcases List.mem_cons.1 hp with rfl | hp
      · exact ((TC.new rfl).alloc _).below z1
      · cases hp⟩
  clear z1
  have pa := (I.cs (w.heap.size, a) (by simp)).1
  have qa := (I.cs (w.heap.size, a) (by simp)).2.1
  have ra := (I.cs (w.heap.size, a) (by simp)).2.2
  have pb := (I.cs (w.heap.size + 1, b) (by simp)).1
  have qb := (I.cs (w.heap.size + 1, b) (by simp)).2.1
  have rb := (I.cs (w.heap.size + 1, b) (by simp)).2.2
  go_wp2_with fail
  refine (HA'.out _).mono ?_
  rintro e w2 ⟨rfl, zw2⟩
  clear pa qa ra pb qb rb
  replace I := I.next zw2
  clear zw2
  have pa := (I.cs (w.heap.size, a) (by simp)).1
  have qa := (I.cs (w.heap.size, a) (by simp)).2.1
  have ra := (I.cs (w.heap.size, a) (by simp)).2.2
  have pb := (I.cs (w.heap.size + 1, b) (by simp)).1
  have qb := (I.cs (w.heap.size + 1, b) (by simp)).2.1
  have rb := (I.cs (w.heap.size + 1, b) (by simp)).2.2
  go_wp2_with fail
  refine (HB'.out _).mono ?_
  rintro e w3 ⟨rfl, zw3⟩
  clear pa qa ra pb qb rb
  replace I := I.next zw3
  clear zw3
  have pa := (I.cs (w.heap.size, a) (by simp)).1
  have qa := (I.cs (w.heap.size, a) (by simp)).2.1
  have ra := (I.cs (w.heap.size, a) (by simp)).2.2
  have pb := (I.cs (w.heap.size + 1, b) (by simp)).1
  have qb := (I.cs (w.heap.size + 1, b) (by simp)).2.1
  have rb := (I.cs (w.heap.size + 1, b) (by simp)).2.2
  go_wp2_with fail
  refine (HAW.out _).mono ?_
  rintro e w9 ⟨rfl, z9⟩
  have HB9 := hid (I.next z9).bel
  go_wp2
  go_ret
  exact ⟨rfl, HB9.out⟩
set_option maxRecDepth 100000 in
set_option maxHeartbeats 4000000 in
theorem undoes_c (a b : Tn) (n : B64) (w : World) (ha : tmay a = true) (hb : tmay b = true) : Calls Try.prog 12 #[tv a, tv b, .int .u64 (ub n)] w fun e w' => e = .returned (.bool true) ∧ Below w.heap.size w w' := by
  have yes : ∀ X Y Z : Tn, tmay X = true → tmay Y = true → bothT X Y Z = Z ∧ bothE X Y = 0 := fun X Y Z h1 h2 => by unfold bothT bothE; rw [h1, h2]; exact ⟨rfl, rfl⟩
  have HAW := hid awake_true
  have HA := fun W => tMay_any a W
  have HB := fun W => tMay_any b W
  rw [ha] at HA
  rw [hb] at HB
  have X1 := fun W => tAdd_any a b W
  rw [(yes a b _ ha hb).1, (yes a b t0 ha hb).2] at X1
  have X8 := fun W => tAdd_any b a W
  rw [(yes b a _ hb ha).1, (yes b a t0 hb ha).2, sum_comm b a] at X8
  have hin := undo ha hb
  have hs := sum_may a b
  generalize sumT a b = S at X1 X8 hin hs
  have X2 := fun W => tSub_any S b W
  rw [(yes S b _ hs hb).1, (yes S b t0 hs hb).2] at X2
  generalize subT S b = D at X2 hin
  have X3 := fun W => tIn_any a D W
  rw [hin] at X3
  obtain ⟨Z, hZ⟩ : ∃ Z : Tn, Z = (0#64, 0#64) := ⟨_, rfl⟩
  have X4 : ∀ W, Calls Try.prog 27 #[.int .u64 0] W fun e w' => e = .returned (tv Z) ∧ Below W.heap.size W w' := fun W => by rw [hZ]; exact tOf_any 0#64 W
  have hzm : tmay Z = true := by rw [hZ]; exact of_may _
  have X5 := fun W => tAdd_any a Z W
  rw [(yes a Z _ ha hzm).1, (yes a Z t0 ha hzm).2, show sumT a Z = a by rw [hZ]; exact sum_zero ha] at X5
  have X6 := fun W => tMul_any a Z W
  rw [(yes a Z _ ha hzm).1, (yes a Z t0 ha hzm).2, show mulT a Z = Z by rw [hZ]; exact mul_zero a] at X6
  clear hzm hZ
  obtain ⟨O, hO⟩ : ∃ O : Tn, O = (1#64, 0#64) := ⟨_, rfl⟩
  have X7 : ∀ W, Calls Try.prog 27 #[.int .u64 1] W fun e w' => e = .returned (tv O) ∧ Below W.heap.size W w' := fun W => by rw [hO]; exact tOf_any 1#64 W
  have hom : tmay O = true := by rw [hO]; exact of_may _
  have X9 := fun W => tMul_any O a W
  rw [(yes O a _ hom ha).1, (yes O a t0 hom ha).2, show mulT O a = a by rw [hO]; exact mul_one ha] at X9
  clear hom hO
  have X10 := fun W => tOf_any n W
  have X11 := fun W => tOf_any a.1 W
  have X12 := fun W => tOf_any (n + a.1) W
  have X13 := fun W => tAdd_any (n, 0#64) (a.1, 0#64) W
  rw [(yes (n, 0#64) (a.1, 0#64) _ (of_may _) (of_may _)).1, (yes (n, 0#64) (a.1, 0#64) t0 (of_may _) (of_may _)).2, sum_of] at X13
  generalize ((n, 0#64) : Tn) = N1 at X10 X13
  generalize ((a.1, 0#64) : Tn) = A1 at X11 X13
  generalize ((n + a.1, 0#64) : Tn) = V at X12 X13
  clear yes hs hin
  unfold tv at HA HB X1 X2 X3 X4 X5 X6 X7 X8 X9 X10 X11 X12 X13 ⊢
  have HA' := hid HA
  have HB' := hid HB
  have H1 := hid X1
  have H2 := hid X2
  have H3 := hid X3
  have H4 := hid X4
  have H5 := hid X5
  have H6 := hid X6
  have H7 := hid X7
  have H8 := hid X8
  have H9 := hid X9
  have H10 := hid X10
  have H11 := hid X11
  have H12 := hid X12
  have H13 := hid X13
  clear HA HB ha hb X1 X2 X3 X4 X5 X6 X7 X8 X9 X10 X11 X12 X13
  go_enter Try.func12, Try.ntmps12
  go_wp2_with fail
  refine (HAW.out _).mono ?_
  rintro e w1 ⟨rfl, z1⟩
  have I : UI w [(w.heap.size + 1, b), (w.heap.size, a)] w1 := ⟨(((Below.refl _ _).alloc (Nat.le_refl _) _).alloc (by simp) _).trans (z1.mono (by simp; omega)), by
    intro p hp
    rcases List.mem_cons.1 hp with rfl | hp
    · exact (TC.new (by simp)).below z1
    · rcases List.mem_cons.1 hp with rfl | hp
      · exact ((TC.new rfl).alloc _).below z1
      · cases hp⟩
  clear z1
  have pa := (I.cs (w.heap.size, a) (by simp)).1
  have qa := (I.cs (w.heap.size, a) (by simp)).2.1
  have ra := (I.cs (w.heap.size, a) (by simp)).2.2
  have pb := (I.cs (w.heap.size + 1, b) (by simp)).1
  have qb := (I.cs (w.heap.size + 1, b) (by simp)).2.1
  have rb := (I.cs (w.heap.size + 1, b) (by simp)).2.2
  go_wp2_with fail
  refine (HA'.out _).mono ?_
  rintro e w2 ⟨rfl, zw2⟩
  clear pa qa ra pb qb rb
  replace I := I.next zw2
  clear zw2
  have pa := (I.cs (w.heap.size, a) (by simp)).1
  have qa := (I.cs (w.heap.size, a) (by simp)).2.1
  have ra := (I.cs (w.heap.size, a) (by simp)).2.2
  have pb := (I.cs (w.heap.size + 1, b) (by simp)).1
  have qb := (I.cs (w.heap.size + 1, b) (by simp)).2.1
  have rb := (I.cs (w.heap.size + 1, b) (by simp)).2.2
  go_wp2_with fail
  refine (HB'.out _).mono ?_
  rintro e w3 ⟨rfl, zw3⟩
  clear pa qa ra pb qb rb
  replace I := I.next zw3
  clear zw3
  have pa := (I.cs (w.heap.size, a) (by simp)).1
  have qa := (I.cs (w.heap.size, a) (by simp)).2.1
  have ra := (I.cs (w.heap.size, a) (by simp)).2.2
  have pb := (I.cs (w.heap.size + 1, b) (by simp)).1
  have qb := (I.cs (w.heap.size + 1, b) (by simp)).2.1
  have rb := (I.cs (w.heap.size + 1, b) (by simp)).2.2
  go_wp2_with fail
  refine (H1.out _).mono ?_
  rintro e w4 ⟨rfl, zw4⟩
  clear pa qa ra pb qb rb
  replace I := I.next zw4
  clear zw4
  replace I := I.push (t := 24) S
  have ps := (I.cs (w4.heap.size, S) (by simp)).1
  have qs := (I.cs (w4.heap.size, S) (by simp)).2.1
  have rs := (I.cs (w4.heap.size, S) (by simp)).2.2
  have pa := (I.cs (w.heap.size, a) (by simp)).1
  have qa := (I.cs (w.heap.size, a) (by simp)).2.1
  have ra := (I.cs (w.heap.size, a) (by simp)).2.2
  have pb := (I.cs (w.heap.size + 1, b) (by simp)).1
  have qb := (I.cs (w.heap.size + 1, b) (by simp)).2.1
  have rb := (I.cs (w.heap.size + 1, b) (by simp)).2.2
  go_wp2_with fail
  refine (H2.out _).mono ?_
  rintro e w5 ⟨rfl, z5⟩
  clear ps qs rs pa qa ra pb qb rb
  replace I := I.next z5
  clear z5
  go_wp2_with fail
  replace I := I.push (t := 24) D
  generalize w5.alloc (.cells #[.int .u64 (ub D.1), .int .u64 (ub D.2)] 24) = wv at I ⊢
  generalize w5.heap.size = g4 at I ⊢
  generalize w4.heap.size = g3 at I ⊢
  have pa := (I.cs (w.heap.size, a) (by simp)).1
  have qa := (I.cs (w.heap.size, a) (by simp)).2.1
  have ra := (I.cs (w.heap.size, a) (by simp)).2.2
  have hb0 : Below wv.heap.size wv wv := Below.refl _ _
  apply cutA (F := fun g W' => UI w ((g, a) :: [(g4, D), (g3, S), (w.heap.size + 1, b), (w.heap.size, a)]) W')
  · go_region_held3 (fun w' => w'.cell? ⟨w.heap.size, 0, none⟩ = some (.int .u64 (ub a.1)) ∧ w'.cell? ⟨w.heap.size, 1, none⟩ = some (.int .u64 (ub a.2)) ∧ Below wv.heap.size wv w')
      ((refine keepU pa qa ra ?_; go_split_ands; first | (with_reducible assumption) | (with_reducible exact below_dr _) | (with_reducible exact below_next (by assumption) bq) | (with_reducible exact belowAl (by assumption)) | (with_reducible exact Below.drew (belowAl (by assumption))) | exact Below.setCell (Below.setCell (by with_reducible assumption) T7.1 _) T7.1 _))
      (first | (go_at_call 27; go_split_ands; (with_reducible refine (H4.out _).mono ?_); rintro e wq ⟨rfl, bq⟩; have hB7 := below_next (a := wv) (by with_reducible assumption) bq; (first | (have T7 : TNB wv.heap.size wq _ t0 := ⟨(by first | exact Nat.le_refl _ | exact Below.size (by assumption)), (TB.zero rfl).below bq⟩) | (have T7 : TNB wv.heap.size wq _ t0 := ⟨(by first | exact Nat.le_refl _ | exact Below.size (by assumption)), ((TB.zero rfl).below (below_dr _)).below bq⟩) | (have T7 : TNB wv.heap.size wq _ t0 := ⟨T7.1, T7.2.below bq⟩) | skip); (try have cq1 := T7.2.1.2.1); (try have cq2 := T7.2.1.2.2); (try have cq3 := T7.2.2.1); (try have cq4 := T7.2.2.2)) | (go_at_call 32; go_split_ands; (with_reducible refine (H5.out _).mono ?_); rintro e wq ⟨rfl, bq⟩; have hB7 := below_next (a := wv) (by with_reducible assumption) bq; (first | (have T7 : TNB wv.heap.size wq _ t0 := ⟨(by first | exact Nat.le_refl _ | exact Below.size (by assumption)), (TB.zero rfl).below bq⟩) | (have T7 : TNB wv.heap.size wq _ t0 := ⟨(by first | exact Nat.le_refl _ | exact Below.size (by assumption)), ((TB.zero rfl).below (below_dr _)).below bq⟩) | (have T7 : TNB wv.heap.size wq _ t0 := ⟨T7.1, T7.2.below bq⟩) | skip); (try have cq1 := T7.2.1.2.1); (try have cq2 := T7.2.1.2.2); (try have cq3 := T7.2.2.1); (try have cq4 := T7.2.2.2)))
    all_goals
      go_split_ands
      first
        | (have hE := eqB T7; obtain ⟨g, hg⟩ := hE)
        | (have hE : ∃ g : Nat, g = wq.heap.size := ⟨_, rfl⟩; obtain ⟨g, hg⟩ := hE)
      refine ⟨g, (I.next (by with_reducible assumption)).more ?_, ?_⟩
      · rw [hg]
        first | exact (T7.tb.put _).1 | exact TC.new rfl
      · first | (rw [← hg]; done) | (rw [← hg]; exact rfl)
  intro g5 W5 I5
  clear I pa qa ra hb0
  have I := I5
  clear I5
  have pa := (I.cs (w.heap.size, a) (by simp)).1
  have qa := (I.cs (w.heap.size, a) (by simp)).2.1
  have ra := (I.cs (w.heap.size, a) (by simp)).2.2
  go_wp2_with fail
  clear pa qa ra
  have pa := (I.cs (w.heap.size, a) (by simp)).1
  have qa := (I.cs (w.heap.size, a) (by simp)).2.1
  have ra := (I.cs (w.heap.size, a) (by simp)).2.2
  have hb0 : Below W5.heap.size W5 W5 := Below.refl _ _
  apply cutA (F := fun g W' => UI w ((g, Z) :: (g5, a) :: [(g4, D), (g3, S), (w.heap.size + 1, b), (w.heap.size, a)]) W')
  · go_region_held3 (fun w' => w'.cell? ⟨w.heap.size, 0, none⟩ = some (.int .u64 (ub a.1)) ∧ w'.cell? ⟨w.heap.size, 1, none⟩ = some (.int .u64 (ub a.2)) ∧ Below W5.heap.size W5 w')
      ((refine keepU pa qa ra ?_; go_split_ands; first | (with_reducible assumption) | (with_reducible exact below_dr _) | (with_reducible exact below_next (by assumption) bq) | (with_reducible exact belowAl (by assumption)) | (with_reducible exact Below.drew (belowAl (by assumption))) | exact Below.setCell (Below.setCell (by with_reducible assumption) T7.1 _) T7.1 _))
      (first | (go_at_call 27; go_split_ands; (with_reducible refine (H4.out _).mono ?_); rintro e wq ⟨rfl, bq⟩; have hB7 := below_next (a := W5) (by with_reducible assumption) bq; (first | (have T7 : TNB W5.heap.size wq _ t0 := ⟨(by first | exact Nat.le_refl _ | exact Below.size (by assumption)), (TB.zero rfl).below bq⟩) | (have T7 : TNB W5.heap.size wq _ t0 := ⟨(by first | exact Nat.le_refl _ | exact Below.size (by assumption)), ((TB.zero rfl).below (below_dr _)).below bq⟩) | (have T7 : TNB W5.heap.size wq _ t0 := ⟨T7.1, T7.2.below bq⟩) | skip); (try have cq1 := T7.2.1.2.1); (try have cq2 := T7.2.1.2.2); (try have cq3 := T7.2.2.1); (try have cq4 := T7.2.2.2)) | (go_at_call 36; go_split_ands; (with_reducible refine (H6.out _).mono ?_); rintro e wq ⟨rfl, bq⟩; have hB7 := below_next (a := W5) (by with_reducible assumption) bq; (first | (have T7 : TNB W5.heap.size wq _ t0 := ⟨(by first | exact Nat.le_refl _ | exact Below.size (by assumption)), (TB.zero rfl).below bq⟩) | (have T7 : TNB W5.heap.size wq _ t0 := ⟨(by first | exact Nat.le_refl _ | exact Below.size (by assumption)), ((TB.zero rfl).below (below_dr _)).below bq⟩) | (have T7 : TNB W5.heap.size wq _ t0 := ⟨T7.1, T7.2.below bq⟩) | skip); (try have cq1 := T7.2.1.2.1); (try have cq2 := T7.2.1.2.2); (try have cq3 := T7.2.2.1); (try have cq4 := T7.2.2.2)))
    all_goals
      go_split_ands
      first
        | (have hE := eqB T7; obtain ⟨g, hg⟩ := hE)
        | (have hE : ∃ g : Nat, g = wq.heap.size := ⟨_, rfl⟩; obtain ⟨g, hg⟩ := hE)
      refine ⟨g, (I.next (by with_reducible assumption)).more ?_, ?_⟩
      · rw [hg]
        first | exact (T7.tb.put _).1 | exact TC.new rfl
      · first | (rw [← hg]; done) | (rw [← hg]; exact rfl)
  intro g6 W6 I6
  clear I pa qa ra hb0
  have I := I6
  clear I6
  have pa := (I.cs (w.heap.size, a) (by simp)).1
  have qa := (I.cs (w.heap.size, a) (by simp)).2.1
  have ra := (I.cs (w.heap.size, a) (by simp)).2.2
  go_wp2_with fail
  clear pa qa ra
  have pa := (I.cs (w.heap.size, a) (by simp)).1
  have qa := (I.cs (w.heap.size, a) (by simp)).2.1
  have ra := (I.cs (w.heap.size, a) (by simp)).2.2
  have hb0 : Below W6.heap.size W6 W6 := Below.refl _ _
  apply cutA (F := fun g W' => UI w ((g, a) :: (g6, Z) :: (g5, a) :: [(g4, D), (g3, S), (w.heap.size + 1, b), (w.heap.size, a)]) W')
  · go_region_held3 (fun w' => w'.cell? ⟨w.heap.size, 0, none⟩ = some (.int .u64 (ub a.1)) ∧ w'.cell? ⟨w.heap.size, 1, none⟩ = some (.int .u64 (ub a.2)) ∧ Below W6.heap.size W6 w')
      ((refine keepU pa qa ra ?_; go_split_ands; first | (with_reducible assumption) | (with_reducible exact below_dr _) | (with_reducible exact below_next (by assumption) bq) | (with_reducible exact belowAl (by assumption)) | (with_reducible exact Below.drew (belowAl (by assumption))) | exact Below.setCell (Below.setCell (by with_reducible assumption) T7.1 _) T7.1 _))
      (first | (go_at_call 27; go_split_ands; (with_reducible refine (H7.out _).mono ?_); rintro e wq ⟨rfl, bq⟩; have hB7 := below_next (a := W6) (by with_reducible assumption) bq; (first | (have T7 : TNB W6.heap.size wq _ t0 := ⟨(by first | exact Nat.le_refl _ | exact Below.size (by assumption)), (TB.zero rfl).below bq⟩) | (have T7 : TNB W6.heap.size wq _ t0 := ⟨(by first | exact Nat.le_refl _ | exact Below.size (by assumption)), ((TB.zero rfl).below (below_dr _)).below bq⟩) | (have T7 : TNB W6.heap.size wq _ t0 := ⟨T7.1, T7.2.below bq⟩) | skip); (try have cq1 := T7.2.1.2.1); (try have cq2 := T7.2.1.2.2); (try have cq3 := T7.2.2.1); (try have cq4 := T7.2.2.2)) | (go_at_call 36; go_split_ands; (with_reducible refine (H9.out _).mono ?_); rintro e wq ⟨rfl, bq⟩; have hB7 := below_next (a := W6) (by with_reducible assumption) bq; (first | (have T7 : TNB W6.heap.size wq _ t0 := ⟨(by first | exact Nat.le_refl _ | exact Below.size (by assumption)), (TB.zero rfl).below bq⟩) | (have T7 : TNB W6.heap.size wq _ t0 := ⟨(by first | exact Nat.le_refl _ | exact Below.size (by assumption)), ((TB.zero rfl).below (below_dr _)).below bq⟩) | (have T7 : TNB W6.heap.size wq _ t0 := ⟨T7.1, T7.2.below bq⟩) | skip); (try have cq1 := T7.2.1.2.1); (try have cq2 := T7.2.1.2.2); (try have cq3 := T7.2.2.1); (try have cq4 := T7.2.2.2)))
    all_goals
      go_split_ands
      first
        | (have hE := eqB T7; obtain ⟨g, hg⟩ := hE)
        | (have hE : ∃ g : Nat, g = wq.heap.size := ⟨_, rfl⟩; obtain ⟨g, hg⟩ := hE)
      refine ⟨g, (I.next (by with_reducible assumption)).more ?_, ?_⟩
      · rw [hg]
        first | exact (T7.tb.put _).1 | exact TC.new rfl
      · first | (rw [← hg]; done) | (rw [← hg]; exact rfl)
  intro g7 W7 I7
  clear I pa qa ra hb0
  have I := I7
  clear I7
  have pa := (I.cs (w.heap.size, a) (by simp)).1
  have qa := (I.cs (w.heap.size, a) (by simp)).2.1
  have ra := (I.cs (w.heap.size, a) (by simp)).2.2
  have pb := (I.cs (w.heap.size + 1, b) (by simp)).1
  have qb := (I.cs (w.heap.size + 1, b) (by simp)).2.1
  have rb := (I.cs (w.heap.size + 1, b) (by simp)).2.2
  go_wp2_with fail
  refine (H8.out _).mono ?_
  rintro e w8 ⟨rfl, zw8⟩
  clear pa qa ra pb qb rb
  replace I := I.next zw8
  clear zw8
  go_wp2_with fail
  replace I := I.push (t := 24) S
  generalize w8.alloc (.cells #[.int .u64 (ub S.1), .int .u64 (ub S.2)] 24) = W8 at I ⊢
  generalize w8.heap.size = g8 at I ⊢
  have pa := (I.cs (w.heap.size, a) (by simp)).1
  have qa := (I.cs (w.heap.size, a) (by simp)).2.1
  have ra := (I.cs (w.heap.size, a) (by simp)).2.2
  have hb0 : Below W8.heap.size W8 W8 := Below.refl _ _
  apply cutA (F := fun g W' => UI w ((g, V) :: (g8, S) :: (g7, a) :: (g6, Z) :: (g5, a) :: [(g4, D), (g3, S), (w.heap.size + 1, b), (w.heap.size, a)]) W')
  · go_region_held3 (fun w' => w'.cell? ⟨w.heap.size, 0, none⟩ = some (.int .u64 (ub a.1)) ∧ w'.cell? ⟨w.heap.size, 1, none⟩ = some (.int .u64 (ub a.2)) ∧ Below W8.heap.size W8 w')
      ((refine keepU pa qa ra ?_; go_split_ands; first | (with_reducible assumption) | (with_reducible exact below_dr _) | (with_reducible exact below_next (by assumption) bq) | (with_reducible exact belowAl (by assumption)) | (with_reducible exact Below.drew (belowAl (by assumption))) | exact Below.setCell (Below.setCell (by with_reducible assumption) T7.1 _) T7.1 _))
      (first | (go_at_call 27; go_split_ands; (with_reducible refine (H10.out _).mono ?_); rintro e wq ⟨rfl, bq⟩; have hB7 := below_next (a := W8) (by with_reducible assumption) bq; (first | (have T7 : TNB W8.heap.size wq _ t0 := ⟨(by first | exact Nat.le_refl _ | exact Below.size (by assumption)), (TB.zero rfl).below bq⟩) | (have T7 : TNB W8.heap.size wq _ t0 := ⟨(by first | exact Nat.le_refl _ | exact Below.size (by assumption)), ((TB.zero rfl).below (below_dr _)).below bq⟩) | (have T7 : TNB W8.heap.size wq _ t0 := ⟨T7.1, T7.2.below bq⟩) | skip); (try have cq1 := T7.2.1.2.1); (try have cq2 := T7.2.1.2.2); (try have cq3 := T7.2.2.1); (try have cq4 := T7.2.2.2)) | (go_at_call 27; go_split_ands; (with_reducible refine (H11.out _).mono ?_); rintro e wq ⟨rfl, bq⟩; have hB7 := below_next (a := W8) (by with_reducible assumption) bq; (first | (have T7 : TNB W8.heap.size wq _ t0 := ⟨(by first | exact Nat.le_refl _ | exact Below.size (by assumption)), (TB.zero rfl).below bq⟩) | (have T7 : TNB W8.heap.size wq _ t0 := ⟨(by first | exact Nat.le_refl _ | exact Below.size (by assumption)), ((TB.zero rfl).below (below_dr _)).below bq⟩) | (have T7 : TNB W8.heap.size wq _ t0 := ⟨T7.1, T7.2.below bq⟩) | skip); (try have cq1 := T7.2.1.2.1); (try have cq2 := T7.2.1.2.2); (try have cq3 := T7.2.2.1); (try have cq4 := T7.2.2.2)) | (go_at_call 32; go_split_ands; (with_reducible refine (H13.out _).mono ?_); rintro e wq ⟨rfl, bq⟩; have hB7 := below_next (a := W8) (by with_reducible assumption) bq; (first | (have T7 : TNB W8.heap.size wq _ t0 := ⟨(by first | exact Nat.le_refl _ | exact Below.size (by assumption)), (TB.zero rfl).below bq⟩) | (have T7 : TNB W8.heap.size wq _ t0 := ⟨(by first | exact Nat.le_refl _ | exact Below.size (by assumption)), ((TB.zero rfl).below (below_dr _)).below bq⟩) | (have T7 : TNB W8.heap.size wq _ t0 := ⟨T7.1, T7.2.below bq⟩) | skip); (try have cq1 := T7.2.1.2.1); (try have cq2 := T7.2.1.2.2); (try have cq3 := T7.2.2.1); (try have cq4 := T7.2.2.2)))
    all_goals
      go_split_ands
      first
        | (have hE := eqB T7; obtain ⟨g, hg⟩ := hE)
        | (have hE : ∃ g : Nat, g = wq.heap.size := ⟨_, rfl⟩; obtain ⟨g, hg⟩ := hE)
      refine ⟨g, (I.next (by with_reducible assumption)).more ?_, ?_⟩
      · rw [hg]
        first | exact (T7.tb.put _).1 | exact TC.new rfl
      · first | (rw [← hg]; done) | (rw [← hg]; exact rfl)
  intro g9 W9 I9
  clear I pa qa ra hb0
  have I := I9
  clear I9
  have pa := (I.cs (w.heap.size, a) (by simp)).1
  have qa := (I.cs (w.heap.size, a) (by simp)).2.1
  have ra := (I.cs (w.heap.size, a) (by simp)).2.2
  have ps := (I.cs (g3, S) (by simp)).1
  have qs := (I.cs (g3, S) (by simp)).2.1
  have rs := (I.cs (g3, S) (by simp)).2.2
  have pd := (I.cs (g4, D) (by simp)).1
  have qd := (I.cs (g4, D) (by simp)).2.1
  have rd := (I.cs (g4, D) (by simp)).2.2
  have p5 := (I.cs (g5, a) (by simp)).1
  have q5 := (I.cs (g5, a) (by simp)).2.1
  have r5 := (I.cs (g5, a) (by simp)).2.2
  have p6 := (I.cs (g6, Z) (by simp)).1
  have q6 := (I.cs (g6, Z) (by simp)).2.1
  have r6 := (I.cs (g6, Z) (by simp)).2.2
  have p7 := (I.cs (g7, a) (by simp)).1
  have q7 := (I.cs (g7, a) (by simp)).2.1
  have r7 := (I.cs (g7, a) (by simp)).2.2
  have p8 := (I.cs (g8, S) (by simp)).1
  have q8 := (I.cs (g8, S) (by simp)).2.1
  have r8 := (I.cs (g8, S) (by simp)).2.2
  have p9 := (I.cs (g9, V) (by simp)).1
  have q9 := (I.cs (g9, V) (by simp)).2.1
  have r9 := (I.cs (g9, V) (by simp)).2.2
  go_wp2_with fail
  go_region_held3 (fun w' => w'.cell? ⟨w.heap.size, 0, none⟩ = some (.int .u64 (ub a.1)) ∧ w'.cell? ⟨w.heap.size, 1, none⟩ = some (.int .u64 (ub a.2)) ∧ w'.cell? ⟨g3, 0, none⟩ = some (.int .u64 (ub S.1)) ∧ w'.cell? ⟨g3, 1, none⟩ = some (.int .u64 (ub S.2)) ∧ w'.cell? ⟨g4, 0, none⟩ = some (.int .u64 (ub D.1)) ∧ w'.cell? ⟨g4, 1, none⟩ = some (.int .u64 (ub D.2)) ∧ w'.cell? ⟨g5, 0, none⟩ = some (.int .u64 (ub a.1)) ∧ w'.cell? ⟨g5, 1, none⟩ = some (.int .u64 (ub a.2)) ∧ w'.cell? ⟨g6, 0, none⟩ = some (.int .u64 (ub Z.1)) ∧ w'.cell? ⟨g6, 1, none⟩ = some (.int .u64 (ub Z.2)) ∧ w'.cell? ⟨g7, 0, none⟩ = some (.int .u64 (ub a.1)) ∧ w'.cell? ⟨g7, 1, none⟩ = some (.int .u64 (ub a.2)) ∧ w'.cell? ⟨g8, 0, none⟩ = some (.int .u64 (ub S.1)) ∧ w'.cell? ⟨g8, 1, none⟩ = some (.int .u64 (ub S.2)) ∧ w'.cell? ⟨g9, 0, none⟩ = some (.int .u64 (ub V.1)) ∧ w'.cell? ⟨g9, 1, none⟩ = some (.int .u64 (ub V.2)) ∧ Below W9.heap.size W9 w')
    (first | (go_split_ands; exact ⟨cn bq (by assumption), cn bq (by assumption), cn bq (by assumption), cn bq (by assumption), cn bq (by assumption), cn bq (by assumption), cn bq (by assumption), cn bq (by assumption), cn bq (by assumption), cn bq (by assumption), cn bq (by assumption), cn bq (by assumption), cn bq (by assumption), cn bq (by assumption), cn bq (by assumption), cn bq (by assumption), below_next (by assumption) bq⟩) | exact ⟨cn (below_dr W9) qa, cn (below_dr W9) ra, cn (below_dr W9) qs, cn (below_dr W9) rs, cn (below_dr W9) qd, cn (below_dr W9) rd, cn (below_dr W9) q5, cn (below_dr W9) r5, cn (below_dr W9) q6, cn (below_dr W9) r6, cn (below_dr W9) q7, cn (below_dr W9) r7, cn (below_dr W9) q8, cn (below_dr W9) r8, cn (below_dr W9) q9, cn (below_dr W9) r9, below_dr W9⟩)
    (first | (go_at_call 23; go_split_ands; (with_reducible refine (H3.out _).mono ?_); rintro e wq ⟨rfl, bq⟩) | (go_at_call 27; go_split_ands; (with_reducible refine (H4.out _).mono ?_); rintro e wq ⟨rfl, bq⟩) | (go_at_call 27; go_split_ands; (with_reducible refine (H12.out _).mono ?_); rintro e wq ⟨rfl, bq⟩))
  all_goals
    go_split_ands
    have HW := hid (I.next (show Below W9.heap.size W9 _ by assumption)).bel
    clear I
    go_wp2
    go_ret
    exact ⟨rfl, HW.out⟩
theorem undoes_walk (a b : Tn) (n : B64) (w : World) : Calls Try.prog 12 #[tv a, tv b, .int .u64 (ub n)] w fun e w' => e = .returned (.bool true) ∧ Below w.heap.size w w' := by
  cases ha : tmay a
  · exact undoes_a a b n w ha
  · cases hb : tmay b
    · exact undoes_b a b n w ha hb
    · exact undoes_c a b n w ha hb
end Go.Proofs.Ytbinbjfpjielkaa
