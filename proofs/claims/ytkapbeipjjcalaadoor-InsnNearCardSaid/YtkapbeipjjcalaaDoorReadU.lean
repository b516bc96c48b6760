/-
  Contracts of Reads, Writes and Places, the code's and the document's own, with one answer each.
-/
import Derived.Test.YtkapbeipjjcalaaDoorReadM
import Derived.Test.YtkapbeipjjcalaaDoorReadW
namespace Go.Proofs.YtkapbeipjjcalaaDoor
set_option linter.unusedSimpArgs false
set_option linter.unusedVariables false
open Go.ChangeShapes Go.WideShapes Go.ChangeAt Go.RowKit Go.Sort Go.Lib

theorem rreads_none (T : Rw) (E op dst src off imm : Int) (w : World) (hE : (E != 0) = true)
    (HO : Hid (∀ W, Calls Tryd.prog 21 #[.agg #[.int .u8 op, .int .u8 dst, .int .u8 src, .int .i16 off, .int .i32 imm]] W fun e w' => e = .returned (.tuple #[whV T, .int .i64 E]) ∧ Below W.heap.size W w')) :
    Calls Tryd.prog 7 #[.agg #[.int .u8 op, .int .u8 dst, .int .u8 src, .int .i16 off, .int .i32 imm]] w (Left2 w []) := by
  go_enter Tryd.func7, Tryd.ntmps7
  go_wp2_with fail
  refine (HO.out _).mono ?_
  rintro e w1 ⟨rfl, b1⟩
  have hb1 := hid (((Below.refl w.heap.size w).alloc (Nat.le_refl _) (.cells #[.int .u8 op, .int .u8 dst, .int .u8 src, .int .i16 off, .int .i32 imm] 24)).trans (b1.mono (by simp)))
  clear b1
  simp only [whV]
  go_wp2
  go_ret
  exact ⟨_, rfl, World.ownsRow_nil _ _ _ _, hb1.out.alloc hb1.out.size _⟩
def uT (op dst src off imm : Int) : Rw := tkR (rowI op src imm) dst src off imm
def uE (op dst src off imm : Int) : Int := tkE (rowI op src imm) dst src off imm
def uL (op dst src off imm : Int) : List Int := rdList (uT op dst src off imm) (uE op dst src off imm) dst src
def uW (op dst src off imm : Int) : Int := if uE op dst src off imm ≠ 0 then -1 else if (uT op dst src off imm).dst = 3 then dst else if (uT op dst src off imm).cls = 8 then 0 else -1
def uP (op dst src off imm : Int) : Int := if uE op dst src off imm ≠ 0 then 0 else if (uT op dst src off imm).cls = 10 then 2 else if (uT op dst src off imm).cls = 11 then 2 else 1
def chkW (r : RR) : Bool := decide (r.cls ≠ 8) || decide (r.dst ≠ 2)
theorem w_all : (rowsI.all chkW) = true := by kernel_rfl
theorem cv_three (u : Int) : cv u = 3 ↔ u = 2 := by
  unfold cv
  by_cases h0 : u = 0
  · subst h0; decide
  by_cases h1 : u = 1
  · subst h1; decide
  by_cases h2 : u = 2
  · subst h2; decide
  simp [h0, h1, h2]
theorem uT_nine (op dst src off imm : Int) (h0 : 0 ≤ op) (h1 : op < 256) : (uT op dst src off imm).cls = 9 → (uT op dst src off imm).dst ≠ 2 ∧ (uT op dst src off imm).src ≠ 2 := by
  unfold uT tkR
  by_cases h : tkE (rowI op src imm) dst src off imm = 0
  · rw [if_pos h]
    obtain ⟨r, hF, hR, hu, _, _⟩ := tk_ok h0 h1 h
    rw [hR]
    simp only [chkUse, Bool.and_eq_true, Bool.or_eq_true, decide_eq_true_eq] at hu
    intro h9
    have h9' : r.cls = 9 := h9
    rcases hu.1.1 with u | u
    · exact absurd h9' u
    · exact ⟨fun x => u.1 ((cv_two _).1 x), fun x => u.2 ((cv_two _).1 x)⟩
  · rw [if_neg h]
    intro h9
    cases h9

theorem ureads (op dst src off imm : Int) (w : World) (h0 : 0 ≤ op) (h1 : op < 256) (d0 : 0 ≤ dst) (d1 : dst < 256) (s0 : 0 ≤ src) (s1 : src < 256) (o0 : -32768 ≤ off) (o1 : off < 32768) (m0 : -2147483648 ≤ imm) (m1 : imm < 2147483648) (hz : SzOk w) : Calls Tryd.prog 6 #[.agg #[.int .u8 op, .int .u8 dst, .int .u8 src, .int .i16 off, .int .i32 imm]] w (Left2 w (uL op dst src off imm)) :=
  reads_any (uT op dst src off imm) (uE op dst src off imm) op dst src off imm w d0 d1 s0 s1 hz (hid fun W h => take_any op dst src off imm W h0 h1 d0 d1 s0 s1 o0 o1 m0 m1 h) (uT_nine op dst src off imm h0 h1)
theorem urreads (op dst src off imm : Int) (w : World) (h0 : 0 ≤ op) (h1 : op < 256) (d0 : 0 ≤ dst) (d1 : dst < 256) (s0 : 0 ≤ src) (s1 : src < 256) (o0 : -32768 ≤ off) (o1 : off < 32768) (m0 : -2147483648 ≤ imm) (m1 : imm < 2147483648) : Calls Tryd.prog 7 #[.agg #[.int .u8 op, .int .u8 dst, .int .u8 src, .int .i16 off, .int .i32 imm]] w (Left2 w (uL op dst src off imm)) := by
  have HO := fun W => rof_any op dst src off imm W h0 h1 d0 d1 s0 s1 o0 o1 m0 m1
  by_cases h : uE op dst src off imm = 0
  · have h' : tkE (rowI op src imm) dst src off imm = 0 := h
    obtain ⟨r, hF, hR, hu, _, _⟩ := tk_ok h0 h1 h'
    have hT : tkR (rowI op src imm) dst src off imm = rowI op src imm := by unfold tkR; rw [if_pos h']
    have HFd := fun W => find_any op dst src off imm W s0 s1 m0 m1
    rw [hF] at HFd
    rw [hT, h'] at HO
    have hL : uL op dst src off imm = readL (fun n : Nat => (dBr r (rowI op src imm) && dst == (n : Int) || (r.src == 1) && src == (n : Int) || ((rowI op src imm).cls == 9) && (n : Int) == 0)) 11 := by
      unfold uL
      rw [show uE op dst src off imm = 0 from h, show uT op dst src off imm = rowI op src imm from hT]
      exact lists_one h0 h1 d0 s0 h' hF _ (fun _ => rfl)
    rw [hL]
    generalize rowI op src imm = T at HO
    cases f1 : (r.dst == 1)
    · cases f2 : (T.cls == 1)
      · cases f4 : (T.cls == 2)
        · exact rreads_e T r op dst src off imm w d0 d1 s0 s1 (hid HO) (hid HFd) f1 f2 f4 _ (hid fun k => by unfold dBr; rw [f1, f2, f4]; rfl)
        · exact rreads_d T r op dst src off imm w d0 d1 s0 s1 (hid HO) (hid HFd) f1 f2 f4 _ (hid fun k => by unfold dBr; rw [f1, f2, f4]; rfl)
      · cases f3 : (T.op != 11)
        · have f4 : (T.cls == 2) = false := by
            have : T.cls = 1 := by simpa using f2
            rw [this]; rfl
          exact rreads_c T r op dst src off imm w d0 d1 s0 s1 (hid HO) (hid HFd) f1 f2 f3 f4 _ (hid fun k => by unfold dBr; rw [f1, f2, f3, f4]; rfl)
        · exact rreads_b T r op dst src off imm w d0 d1 s0 s1 (hid HO) (hid HFd) f1 f2 f3 _ (hid fun k => by unfold dBr; rw [f1, f2, f3]; rfl)
    · exact rreads_a T r op dst src off imm w d0 d1 s0 s1 (hid HO) (hid HFd) f1 _ (hid fun k => by unfold dBr; rw [f1]; rfl)
  · have hL : uL op dst src off imm = [] := by unfold uL rdList; rw [if_pos h]
    rw [hL]
    exact rreads_none (uT op dst src off imm) (uE op dst src off imm) op dst src off imm w (by simpa using h) (hid HO)
theorem uwrites (op dst src off imm : Int) (w : World) (h0 : 0 ≤ op) (h1 : op < 256) (d0 : 0 ≤ dst) (d1 : dst < 256) (s0 : 0 ≤ src) (s1 : src < 256) (o0 : -32768 ≤ off) (o1 : off < 32768) (m0 : -2147483648 ≤ imm) (m1 : imm < 2147483648) (hz : SzOk w) : Calls Tryd.prog 8 #[.agg #[.int .u8 op, .int .u8 dst, .int .u8 src, .int .i16 off, .int .i32 imm]] w fun e w' => e = .returned (.int .i64 (uW op dst src off imm)) ∧ Below w.heap.size w w' := by
  have HT := hid fun W h => take_any op dst src off imm W h0 h1 d0 d1 s0 s1 o0 o1 m0 m1 h
  unfold uW
  by_cases h : uE op dst src off imm = 0
  · rw [if_neg (by simpa using h)]
    by_cases a : (uT op dst src off imm).dst = 3
    · rw [if_pos a]; exact writes_d (uT op dst src off imm) (uE op dst src off imm) op dst src off imm w d0 d1 hz HT (by simpa using h) (by simpa using a)
    rw [if_neg a]
    by_cases b : (uT op dst src off imm).cls = 8
    · rw [if_pos b]; exact writes_c (uT op dst src off imm) (uE op dst src off imm) op dst src off imm w d0 d1 hz HT (by simpa using h) (by simpa using a) (by simpa using b)
    · rw [if_neg b]; exact writes_n (uT op dst src off imm) (uE op dst src off imm) op dst src off imm w d0 d1 hz HT (by simpa using h) (by simpa using a) (by simpa using b)
  · rw [if_pos h]; exact writes_e (uT op dst src off imm) (uE op dst src off imm) op dst src off imm w d0 d1 hz HT (by simpa using h)
theorem uplaces (op dst src off imm : Int) (w : World) (h0 : 0 ≤ op) (h1 : op < 256) (d0 : 0 ≤ dst) (d1 : dst < 256) (s0 : 0 ≤ src) (s1 : src < 256) (o0 : -32768 ≤ off) (o1 : off < 32768) (m0 : -2147483648 ≤ imm) (m1 : imm < 2147483648) (hz : SzOk w) : Calls Tryd.prog 10 #[.agg #[.int .u8 op, .int .u8 dst, .int .u8 src, .int .i16 off, .int .i32 imm]] w fun e w' => e = .returned (.int .i64 (uP op dst src off imm)) ∧ Below w.heap.size w w' := by
  have HT := hid fun W h => of_any op dst src off imm W h0 h1 d0 d1 s0 s1 o0 o1 m0 m1 h
  unfold uP
  by_cases h : uE op dst src off imm = 0
  · rw [if_neg (by simpa using h)]
    by_cases a : (uT op dst src off imm).cls = 10
    · rw [if_pos a]; exact places_a (uT op dst src off imm) (uE op dst src off imm) op dst src off imm w d0 d1 hz HT (by simpa using h) (by simpa using a)
    rw [if_neg a]
    by_cases b : (uT op dst src off imm).cls = 11
    · rw [if_pos b]; exact places_b (uT op dst src off imm) (uE op dst src off imm) op dst src off imm w d0 d1 hz HT (by simpa using h) (by simpa using a) (by simpa using b)
    · rw [if_neg b]; exact places_n (uT op dst src off imm) (uE op dst src off imm) op dst src off imm w d0 d1 hz HT (by simpa using h) (by simpa using a) (by simpa using b)
  · rw [if_pos h]; exact places_e (uT op dst src off imm) (uE op dst src off imm) op dst src off imm w d0 d1 hz HT (by simpa using h)
theorem urplaces (op dst src off imm : Int) (w : World) (h0 : 0 ≤ op) (h1 : op < 256) (d0 : 0 ≤ dst) (d1 : dst < 256) (s0 : 0 ≤ src) (s1 : src < 256) (o0 : -32768 ≤ off) (o1 : off < 32768) (m0 : -2147483648 ≤ imm) (m1 : imm < 2147483648) : Calls Tryd.prog 11 #[.agg #[.int .u8 op, .int .u8 dst, .int .u8 src, .int .i16 off, .int .i32 imm]] w fun e w' => e = .returned (.int .i64 (uP op dst src off imm)) ∧ Below w.heap.size w w' := by
  have HT := hid fun W => rof_any op dst src off imm W h0 h1 d0 d1 s0 s1 o0 o1 m0 m1
  unfold uP
  by_cases h : uE op dst src off imm = 0
  · rw [if_neg (by simpa using h)]
    by_cases a : (uT op dst src off imm).cls = 10
    · rw [if_pos a]; exact rplaces_a (uT op dst src off imm) ⟨0, 0, 0, 0, false, false, 0, 0, 0, 0, 0⟩ (uE op dst src off imm) op dst src off imm w d0 d1 HT (by simpa using h) (by simpa using a)
    rw [if_neg a]
    by_cases b : (uT op dst src off imm).cls = 11
    · rw [if_pos b]; exact rplaces_b (uT op dst src off imm) ⟨0, 0, 0, 0, false, false, 0, 0, 0, 0, 0⟩ (uE op dst src off imm) op dst src off imm w d0 d1 HT (by simpa using h) (by simpa using a) (by simpa using b)
    · rw [if_neg b]; exact rplaces_n (uT op dst src off imm) ⟨0, 0, 0, 0, false, false, 0, 0, 0, 0, 0⟩ (uE op dst src off imm) op dst src off imm w d0 d1 HT (by simpa using h) (by simpa using a) (by simpa using b)
  · rw [if_pos h]; exact rplaces_e (uT op dst src off imm) ⟨0, 0, 0, 0, false, false, 0, 0, 0, 0, 0⟩ (uE op dst src off imm) op dst src off imm w d0 d1 HT (by simpa using h)
theorem urwrites (op dst src off imm : Int) (w : World) (h0 : 0 ≤ op) (h1 : op < 256) (d0 : 0 ≤ dst) (d1 : dst < 256) (s0 : 0 ≤ src) (s1 : src < 256) (o0 : -32768 ≤ off) (o1 : off < 32768) (m0 : -2147483648 ≤ imm) (m1 : imm < 2147483648) : Calls Tryd.prog 9 #[.agg #[.int .u8 op, .int .u8 dst, .int .u8 src, .int .i16 off, .int .i32 imm]] w fun e w' => e = .returned (.int .i64 (uW op dst src off imm)) ∧ Below w.heap.size w w' := by
  have HT := fun W => rof_any op dst src off imm W h0 h1 d0 d1 s0 s1 o0 o1 m0 m1
  unfold uW
  by_cases h : uE op dst src off imm = 0
  · rw [if_neg (by simpa using h)]
    have h' : tkE (rowI op src imm) dst src off imm = 0 := h
    obtain ⟨r, hF, hR, hu, _, _⟩ := tk_ok h0 h1 h'
    have hT : tkR (rowI op src imm) dst src off imm = rowI op src imm := by unfold tkR; rw [if_pos h']
    have HFd := fun W => find_any op dst src off imm W s0 s1 m0 m1
    rw [hF] at HFd
    have hm : r ∈ rowsI := List.mem_of_find?_eq_some hF
    have hw := w_all
    rw [List.all_eq_true] at hw
    have hw := hw r hm
    have eT : uT op dst src off imm = toRw r := hT.trans hR
    have hd : (toRw r).dst = 3 ↔ r.dst = 2 := cv_three _
    rw [eT]
    rw [h', hT, hR] at HT
    by_cases a : (toRw r).dst = 3
    · rw [if_pos a]
      have hc : r.cls ≠ 8 := by
        intro hc
        simp only [chkW, Bool.or_eq_true, decide_eq_true_eq] at hw
        rcases hw with hw | hw
        · exact hw hc
        · exact hw (hd.1 a)
      exact rwrites_d (toRw r) r 0 op dst src off imm w d0 d1 (hid HT) (hid HFd) rfl (by simpa [toRw] using hc) (by simpa using hd.1 a)
    rw [if_neg a]
    have a' : (r.dst == 2) = false := by simpa using fun x => a (hd.2 x)
    by_cases b : (toRw r).cls = 8
    · rw [if_pos b]; exact rwrites_c (toRw r) r 0 op dst src off imm w d0 d1 (hid HT) (hid HFd) rfl (by simpa using b)
    · rw [if_neg b]; exact rwrites_n (toRw r) r 0 op dst src off imm w d0 d1 (hid HT) (hid HFd) rfl (by simpa using b) a'
  · rw [if_pos h]; exact rwrites_e (uT op dst src off imm) ⟨0, 0, 0, 0, false, false, 0, 0, 0, 0, 0⟩ (uE op dst src off imm) op dst src off imm w d0 d1 (hid HT) (by simpa using h)
end Go.Proofs.YtkapbeipjjcalaaDoor
