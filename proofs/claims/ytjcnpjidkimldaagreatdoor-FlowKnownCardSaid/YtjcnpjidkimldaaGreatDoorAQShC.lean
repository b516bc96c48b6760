/-
  Contracts of package shape's class, whole and standing.
-/
import Derived.Test.YtjcnpjidkimldaaGreatDoorAQShS
import Derived.BigRegion
import Derived.Deep.RegionHeld3
namespace Go.Proofs.YtjcnpjidkimldaaGreatDoor.Is
set_option linter.unusedSimpArgs false
set_option linter.unusedVariables false
set_option maxRecDepth 100000
open Go.ChangeShapes Go.WideShapes Go.ChangeAt Go.RowKit

theorem slice_from (b off n cap k : Nat) (hk : k ≤ n) (hcap : n ≤ cap) (l : Int) (hl : l = k) : ∃ q, (k < n → q = some ⟨b, off + k * 5, none⟩) ∧ ∀ W, (Instr.slice 25 (.slice (some ⟨b, off, none⟩) n cap) (some (.int .i64 l)) none none).run Tryz.prog W = .ok (.slice q (n - k) (cap - k)) W := by
  subst hl
  refine ⟨if cap = k then some ⟨b, off, none⟩ else some ⟨b, off + k * 5, none⟩, fun h => by rw [if_neg (by omega)], fun W => ?_⟩
  have hu : Tryz.prog.underlying 25 = some (.slice (Tryz.prog.elem 25)) := by kernel_rfl
  rw [run_slice_l (P := Tryz.prog) (w := W) (ht := hu) (kl := .i64) (l := (k : Int)) (h0 := by omega) (h1 := by omega)]
  have hs : ((sizeOf (Tryz.prog.elem 25)).run Tryz.prog W) = .ok 5 W := by kernel_rfl
  rw [hs]
  simp only [Result.andThen, sliced, Int.toNat_natCast]
  by_cases hc : cap = k
  · rw [if_pos hc, if_pos hc]
  · rw [if_neg hc, if_neg hc]
    simp [Addr.add]

theorem class_I (x : I5) (hx : x.ok) (w : World) (hz : SzOk w) : Calls Tryz.prog 117 #[x.V] w fun e w' => e = .returned (.int .i64 x.t.cls) ∧ Below w.heap.size w w' := by
  have HT := hid fun W hW => of_I x hx W hW
  generalize x.t = T at HT ⊢
  generalize x.e = E at HT
  obtain ⟨op, dst, src, off, imm⟩ := x
  unfold I5.V at HT ⊢
  dsimp only at HT ⊢
  have HZ := hid hz
  clear hz hx
  go_enter Tryz.func117, Tryz.ntmps117
  go_wp2_with fail
  refine (HT.out _ (HZ.out.alloc _)).mono ?_
  rintro e w1 ⟨rfl, b1⟩
  have hb1 := hid (((Below.refl w.heap.size w).alloc (Nat.le_refl _) (.cells #[.int .u8 op, .int .u8 dst, .int .u8 src, .int .i16 off, .int .i32 imm] 24)).trans (b1.mono (by simp)))
  clear b1
  simp only [whV]
  go_wp2
  go_ret
  exact ⟨rfl, hb1.out.alloc hb1.out.size _⟩

/-- Is this the second half of a wide instruction? -/
def wholeB (cls : Int) (r : Option I5) : Bool := match r with
  | none => false
  | some h => h.op == 0 && (h.dst == 0 && (h.src == 0 && (h.off == 0 && (cls == 10 || h.imm == 0))))
def zB (x : I5) : Bool := x.op == 0 && (x.dst == 0 && (x.src == 0 && (x.off == 0 && x.imm == 0)))
theorem eq_ins (x : I5) (W : World) : (binOp .eql 24 x.V (.agg #[.int .u8 0, .int .u8 0, .int .u8 0, .int .i16 0, .int .i32 0])).run Tryz.prog W = .ok (.bool (zB x)) W := by
  unfold zB I5.V
  cases h0 : (x.op == 0) <;> cases h1 : (x.dst == 0) <;> cases h2 : (x.src == 0) <;> cases h3 : (x.off == 0) <;> cases h4 : (x.imm == 0) <;> simp [go_sem, h0, h1, h2, h3, h4]

theorem whole_none (r : Rw) (p : Option Addr) (cap : Nat) (w : World) : Calls Tryz.prog 115 #[whV r, .slice p 0 cap] w fun e w' => e = .returned (.bool false) ∧ Below w.heap.size w w' := by
  unfold whV
  go_enter Tryz.func115, Tryz.ntmps115
  go_wp2
  go_ret
  exact ⟨rfl, (Below.refl _ _).alloc (Nat.le_refl _) _⟩
theorem whole_some (r : Rw) (b off n cap : Nat) (x : I5) (w : World) (hn : 0 < n) (hi : InsAt w b off x) : Calls Tryz.prog 115 #[whV r, .slice (some ⟨b, off, none⟩) n cap] w fun e w' => e = .returned (.bool (wholeB r.cls (some x))) ∧ Below w.heap.size w w' := by
  have hn' : (n == 0) = false := by simp; omega
  have hni : ((n : Int) == 0) = false := by simp; omega
  obtain ⟨c0, c1, c2, c3, c4⟩ := hi
  have hl := World.block_lt_of_cell? w _ c0
  have hl' : b < w.heap.size := hl
  unfold whV
  cases h : (r.cls == 10)
  · have he := eq_ins x
    rw [show wholeB r.cls (some x) = zB x by unfold wholeB zB; rw [h]; rfl]
    unfold I5.V at he
    generalize zB x = Z at he ⊢
    clear hl
    go_enter Tryz.func115, Tryz.ntmps115
    go_wp2
    go_ret
    exact ⟨rfl, ((Below.refl _ _).alloc (Nat.le_refl _) _).alloc (by simp) _⟩
  · have he := eq_ins ⟨x.op, x.dst, x.src, x.off, 0⟩
    rw [show wholeB r.cls (some x) = zB ⟨x.op, x.dst, x.src, x.off, 0⟩ by unfold wholeB zB; rw [h]; rfl]
    unfold I5.V at he
    generalize zB _ = Z at he ⊢
    dsimp only at he
    clear hl
    go_enter Tryz.func115, Tryz.ntmps115
    go_wp2
    go_ret
    exact ⟨rfl, ((Below.refl _ _).alloc (Nat.le_refl _) _).alloc (by simp) _⟩
theorem cn {w w' : World} (hb : Below w.heap.size w w') {p : Addr} {c : Value} (h : w.cell? p = some c) : w'.cell? p = some c :=
  (hb.cell (World.block_lt_of_cell? w _ h)).trans h
theorem cna {w : World} (o : Obj) {p : Addr} {c : Value} (h : w.cell? p = some c) : (w.alloc o).cell? p = some c := cn ((Below.refl w.heap.size w).alloc (Nat.le_refl _) o) h
def Bx (w0 w : World) : Prop := SzOk w0 ∧ Below w0.heap.size w0 w
theorem Bx.next {w0 w w' : World} (hb : Below w.heap.size w w') (h : Bx w0 w) : Bx w0 w' := ⟨h.1, below_next h.2 hb⟩
theorem Bx.sz {w0 w : World} (h : Bx w0 w) : SzOk w := h.1.below h.2
theorem below_dr (w : World) : Below w.heap.size w w.drew := ⟨rfl, rfl, rfl, Nat.le_refl _, fun _ _ => rfl⟩
/-- What is wrong with an instruction by itself. -/
def aloneE (maps : Int) (x : I5) (r : Option I5) : Int :=
  if x.e ≠ 0 then x.e else if x.p = 2 ∧ wholeB x.t.cls r = false then 23 else if x.t.cls = 11 ∧ (x.imm < 0 ∨ maps ≤ x.imm) then 26 else if x.t.cls = 8 ∧ helpB x.imm = false then 27 else 0
/-- What stands behind the first instruction of a slice. -/
def NextAt (w : World) (b off n : Nat) (r : Option I5) : Prop := (r = none ∧ n = 1) ∨ ∃ y, r = some y ∧ 1 < n ∧ InsAt w b (off + 5) y
theorem whole_any (T : Rw) (b off n cap : Nat) (r : Option I5) (w : World) (hn : 0 < n) (h : NextAt w b off n r) (q : Option Addr) (hq : 1 < n → q = some ⟨b, off + 5, none⟩) : Calls Tryz.prog 115 #[whV T, .slice q (n - 1) cap] w fun e w' => e = .returned (.bool (wholeB T.cls r)) ∧ Below w.heap.size w w' := by
  rcases h with ⟨rfl, rfl⟩ | ⟨y, rfl, h1, hi⟩
  · exact whole_none T q cap w
  · rw [hq h1]
    exact whole_some T b (off + 5) (n - 1) cap y w (by omega) hi
theorem NextAt.below {w w' : World} {b off n : Nat} {r : Option I5} (h : NextAt w b off n r) (hb : Below w.heap.size w w') (hl : b < w.heap.size) : NextAt w' b off n r := by
  rcases h with ⟨rfl, rfl⟩ | ⟨y, rfl, h1, hi⟩
  · exact .inl ⟨rfl, rfl⟩
  · exact .inr ⟨y, rfl, h1, hi.kept hb hl⟩

set_option maxHeartbeats 1000000 in
theorem standing_e (x : I5) (hx : x.ok) (r : Option I5) (maps : Int) (b off n cap : Nat) (w : World) (hz : SzOk w) (hn : 0 < n) (hcap : n ≤ cap) (hi : InsAt w b off x) (hr : NextAt w b off n r) (hE : (x.e != 0) = true) :
    Calls Tryz.prog 74 #[.slice (some ⟨b, off, none⟩) n cap, .int .i64 maps] w fun e w' => e = .returned (.int .i64 x.e) ∧ Below w.heap.size w w' := by
  have hl := World.block_lt_of_cell? w _ hi.1
  have hbl : b < w.heap.size := hl
  have HT := hid fun W hW => of_I x hx W hW
  have HP := hid fun W hW => places_I x hx W hW
  have HW := hid fun W (hb : Below w.heap.size w W) C q (hq : 1 < n → q = some ⟨b, off + 5, none⟩) => whole_any x.t b off n C r W hn (hr.below hb hbl) q hq
  have HH := hid fun W => helper_is x.imm W
  generalize x.t = T at *
  generalize x.e = E at *
  generalize x.p = P at *
  generalize wholeB T.cls r = B at *
  generalize helpB x.imm = G at *
  obtain ⟨c0, c1, c2, c3, c4⟩ := hi
  obtain ⟨op, dst, src, off_, imm⟩ := x
  unfold I5.V at HT HP
  dsimp only at *
  have HZ := hid hz
  obtain ⟨_, _, _, _, _, _, _, _, m0, m1⟩ := hx
  clear hz hr hl
  have hni : decide (0 < n) = true := by simpa using hn
  obtain ⟨q1, hq1, hsl⟩ := slice_from b off n cap 1 (by omega) hcap 1 rfl
  have HQ1 := hid hq1
  clear hq1
  go_enter Tryz.func74, Tryz.ntmps74
  go_wp2_with fail
  refine (HT.out _ (HZ.out.alloc _)).mono ?_
  rintro e w1 ⟨rfl, b1⟩
  have q0 : w.heap.size < w1.heap.size := by have := b1.size; simp at this; omega
  have HB1 := hid (((Below.refl w.heap.size w).alloc (Nat.le_refl _) (.cells #[.int .u8 op, .int .u8 dst, .int .u8 src, .int .i16 off_, .int .i32 imm] 24)).trans (b1.mono (by simp)))
  have hz1 := hid ((HZ.out.alloc _).below b1)
  have d0 : w1.cell? ⟨w.heap.size, 0, none⟩ = some (.int .u8 op) := cn b1 (by simp)
  have d1 : w1.cell? ⟨w.heap.size, 1, none⟩ = some (.int .u8 dst) := cn b1 (by simp)
  have d2 : w1.cell? ⟨w.heap.size, 2, none⟩ = some (.int .u8 src) := cn b1 (by simp)
  have d3 : w1.cell? ⟨w.heap.size, 3, none⟩ = some (.int .i16 off_) := cn b1 (by simp)
  have d4 : w1.cell? ⟨w.heap.size, 4, none⟩ = some (.int .i32 imm) := cn b1 (by simp)
  clear c0 c1 c2 c3 c4 b1 HT
  simp only [whV]
  go_wp2
  go_ret
  exact ⟨rfl, HB1.out.alloc HB1.out.size _⟩

set_option maxHeartbeats 1000000 in
theorem standing_h (x : I5) (hx : x.ok) (r : Option I5) (maps : Int) (b off n cap : Nat) (w : World) (hz : SzOk w) (hn : 0 < n) (hcap : n ≤ cap) (hi : InsAt w b off x) (hr : NextAt w b off n r) (hE : (x.e != 0) = false) (hP : x.p = 2) (hB : wholeB x.t.cls r = false) :
    Calls Tryz.prog 74 #[.slice (some ⟨b, off, none⟩) n cap, .int .i64 maps] w fun e w' => e = .returned (.int .i64 23) ∧ Below w.heap.size w w' := by
  have hl := World.block_lt_of_cell? w _ hi.1
  have hbl : b < w.heap.size := hl
  have HT := hid fun W hW => of_I x hx W hW
  have HP := hid fun W hW => places_I x hx W hW
  have HW := hid fun W (hb : Below w.heap.size w W) C q (hq : 1 < n → q = some ⟨b, off + 5, none⟩) => whole_any x.t b off n C r W hn (hr.below hb hbl) q hq
  have HH := hid fun W => helper_is x.imm W
  generalize x.t = T at *
  generalize x.e = E at *
  rw [hP] at HP
  clear hP
  generalize wholeB T.cls r = B at *
  generalize helpB x.imm = G at *
  obtain ⟨c0, c1, c2, c3, c4⟩ := hi
  obtain ⟨op, dst, src, off_, imm⟩ := x
  unfold I5.V at HT HP
  dsimp only at *
  have HZ := hid hz
  obtain ⟨_, _, _, _, _, _, _, _, m0, m1⟩ := hx
  clear hz hr hl
  have hni : decide (0 < n) = true := by simpa using hn
  obtain ⟨q1, hq1, hsl⟩ := slice_from b off n cap 1 (by omega) hcap 1 rfl
  have HQ1 := hid hq1
  clear hq1
  go_enter Tryz.func74, Tryz.ntmps74
  go_wp2_with fail
  refine (HT.out _ (HZ.out.alloc _)).mono ?_
  rintro e w1 ⟨rfl, b1⟩
  have q0 : w.heap.size < w1.heap.size := by have := b1.size; simp at this; omega
  have HB1 := hid (((Below.refl w.heap.size w).alloc (Nat.le_refl _) (.cells #[.int .u8 op, .int .u8 dst, .int .u8 src, .int .i16 off_, .int .i32 imm] 24)).trans (b1.mono (by simp)))
  have hz1 := hid ((HZ.out.alloc _).below b1)
  have d0 : w1.cell? ⟨w.heap.size, 0, none⟩ = some (.int .u8 op) := cn b1 (by simp)
  have d1 : w1.cell? ⟨w.heap.size, 1, none⟩ = some (.int .u8 dst) := cn b1 (by simp)
  have d2 : w1.cell? ⟨w.heap.size, 2, none⟩ = some (.int .u8 src) := cn b1 (by simp)
  have d3 : w1.cell? ⟨w.heap.size, 3, none⟩ = some (.int .i16 off_) := cn b1 (by simp)
  have d4 : w1.cell? ⟨w.heap.size, 4, none⟩ = some (.int .i32 imm) := cn b1 (by simp)
  clear c0 c1 c2 c3 c4 b1 HT
  simp only [whV]
  go_wp2_with fail
  have X : Bx w (w1.alloc (.cells #[.int .i64 T.cls, .int .i64 T.op, .int .i64 T.size, .bool T.wide, .bool T.reg] 103)) := ⟨HZ.out, HB1.out.alloc HB1.out.size _⟩
  have e0 : (w1.alloc (.cells #[.int .i64 T.cls, .int .i64 T.op, .int .i64 T.size, .bool T.wide, .bool T.reg] 103)).cell? ⟨w1.heap.size, 0, none⟩ = some (.int .i64 T.cls) := by simp
  have e1 : (w1.alloc (.cells #[.int .i64 T.cls, .int .i64 T.op, .int .i64 T.size, .bool T.wide, .bool T.reg] 103)).cell? ⟨w1.heap.size, 1, none⟩ = some (.int .i64 T.op) := by simp
  have e2 : (w1.alloc (.cells #[.int .i64 T.cls, .int .i64 T.op, .int .i64 T.size, .bool T.wide, .bool T.reg] 103)).cell? ⟨w1.heap.size, 2, none⟩ = some (.int .i64 T.size) := by simp
  have e3 : (w1.alloc (.cells #[.int .i64 T.cls, .int .i64 T.op, .int .i64 T.size, .bool T.wide, .bool T.reg] 103)).cell? ⟨w1.heap.size, 3, none⟩ = some (.bool T.wide) := by simp
  have e4 : (w1.alloc (.cells #[.int .i64 T.cls, .int .i64 T.op, .int .i64 T.size, .bool T.wide, .bool T.reg] 103)).cell? ⟨w1.heap.size, 4, none⟩ = some (.bool T.reg) := by simp
  replace d0 := cna (.cells #[.int .i64 T.cls, .int .i64 T.op, .int .i64 T.size, .bool T.wide, .bool T.reg] 103) d0
  replace d1 := cna (.cells #[.int .i64 T.cls, .int .i64 T.op, .int .i64 T.size, .bool T.wide, .bool T.reg] 103) d1
  replace d2 := cna (.cells #[.int .i64 T.cls, .int .i64 T.op, .int .i64 T.size, .bool T.wide, .bool T.reg] 103) d2
  replace d3 := cna (.cells #[.int .i64 T.cls, .int .i64 T.op, .int .i64 T.size, .bool T.wide, .bool T.reg] 103) d3
  replace d4 := cna (.cells #[.int .i64 T.cls, .int .i64 T.op, .int .i64 T.size, .bool T.wide, .bool T.reg] 103) d4
  clear hz1 HB1
  generalize w1.alloc (.cells #[.int .i64 T.cls, .int .i64 T.op, .int .i64 T.size, .bool T.wide, .bool T.reg] 103) = wr at *
  generalize w1.heap.size = g1 at *
  first
  | (go_region_held3 (fun w' => w'.cell? ⟨w.heap.size, 0, none⟩ = some (.int .u8 op) ∧ w'.cell? ⟨w.heap.size, 1, none⟩ = some (.int .u8 dst) ∧ w'.cell? ⟨w.heap.size, 2, none⟩ = some (.int .u8 src) ∧ w'.cell? ⟨w.heap.size, 3, none⟩ = some (.int .i16 off_) ∧ w'.cell? ⟨w.heap.size, 4, none⟩ = some (.int .i32 imm) ∧ w'.cell? ⟨g1, 0, none⟩ = some (.int .i64 T.cls) ∧ w'.cell? ⟨g1, 1, none⟩ = some (.int .i64 T.op) ∧ w'.cell? ⟨g1, 2, none⟩ = some (.int .i64 T.size) ∧ w'.cell? ⟨g1, 3, none⟩ = some (.bool T.wide) ∧ w'.cell? ⟨g1, 4, none⟩ = some (.bool T.reg) ∧ Bx w w')
      (first | (go_split_ands; exact ⟨cn b9 (by assumption), cn b9 (by assumption), cn b9 (by assumption), cn b9 (by assumption), cn b9 (by assumption), cn b9 (by assumption), cn b9 (by assumption), cn b9 (by assumption), cn b9 (by assumption), cn b9 (by assumption), Bx.next b9 (by assumption)⟩) | exact ⟨cn (below_dr wr) d0, cn (below_dr wr) d1, cn (below_dr wr) d2, cn (below_dr wr) d3, cn (below_dr wr) d4, cn (below_dr wr) e0, cn (below_dr wr) e1, cn (below_dr wr) e2, cn (below_dr wr) e3, cn (below_dr wr) e4, Bx.next (below_dr wr) X⟩)
      (first | (go_at_call 101; go_split_ands; refine (HP.out _ (Bx.sz (by assumption))).mono ?_; rintro e w9 ⟨rfl, b9⟩) | (go_at_call 115; go_split_ands; refine (HW.out _ (show Bx w _ by assumption).2 _ _ HQ1.out).mono ?_; rintro e w9 ⟨rfl, b9⟩)))
  | fail
  go_wp2
  go_ret
  exact ⟨rfl, (show Bx w _ by go_split_ands; assumption).2⟩

set_option maxHeartbeats 1000000 in
theorem standing_pa (x : I5) (hx : x.ok) (r : Option I5) (maps : Int) (b off n cap : Nat) (w : World) (hz : SzOk w) (hn : 0 < n) (hcap : n ≤ cap) (hi : InsAt w b off x) (hr : NextAt w b off n r) (hE : (x.e != 0) = false) (hP : x.p = 1) (k1 : (x.t.cls == 11) = true) (k2 : decide (x.imm < 0) = true) :
    Calls Tryz.prog 74 #[.slice (some ⟨b, off, none⟩) n cap, .int .i64 maps] w fun e w' => e = .returned (.int .i64 26) ∧ Below w.heap.size w w' := by
  have hl := World.block_lt_of_cell? w _ hi.1
  have hbl : b < w.heap.size := hl
  have HT := hid fun W hW => of_I x hx W hW
  have HP := hid fun W hW => places_I x hx W hW
  have HW := hid fun W (hb : Below w.heap.size w W) C q (hq : 1 < n → q = some ⟨b, off + 5, none⟩) => whole_any x.t b off n C r W hn (hr.below hb hbl) q hq
  have HH := hid fun W => helper_is x.imm W
  generalize x.t = T at *
  generalize x.e = E at *
  rw [hP] at HP
  clear hP
  generalize wholeB T.cls r = B at *
  generalize helpB x.imm = G at *
  obtain ⟨c0, c1, c2, c3, c4⟩ := hi
  obtain ⟨op, dst, src, off_, imm⟩ := x
  unfold I5.V at HT HP
  dsimp only at *
  have HZ := hid hz
  obtain ⟨_, _, _, _, _, _, _, _, m0, m1⟩ := hx
  clear hz hr hl
  have hni : decide (0 < n) = true := by simpa using hn
  obtain ⟨q1, hq1, hsl⟩ := slice_from b off n cap 1 (by omega) hcap 1 rfl
  have HQ1 := hid hq1
  clear hq1
  go_enter Tryz.func74, Tryz.ntmps74
  go_wp2_with fail
  refine (HT.out _ (HZ.out.alloc _)).mono ?_
  rintro e w1 ⟨rfl, b1⟩
  have q0 : w.heap.size < w1.heap.size := by have := b1.size; simp at this; omega
  have HB1 := hid (((Below.refl w.heap.size w).alloc (Nat.le_refl _) (.cells #[.int .u8 op, .int .u8 dst, .int .u8 src, .int .i16 off_, .int .i32 imm] 24)).trans (b1.mono (by simp)))
  have hz1 := hid ((HZ.out.alloc _).below b1)
  have d0 : w1.cell? ⟨w.heap.size, 0, none⟩ = some (.int .u8 op) := cn b1 (by simp)
  have d1 : w1.cell? ⟨w.heap.size, 1, none⟩ = some (.int .u8 dst) := cn b1 (by simp)
  have d2 : w1.cell? ⟨w.heap.size, 2, none⟩ = some (.int .u8 src) := cn b1 (by simp)
  have d3 : w1.cell? ⟨w.heap.size, 3, none⟩ = some (.int .i16 off_) := cn b1 (by simp)
  have d4 : w1.cell? ⟨w.heap.size, 4, none⟩ = some (.int .i32 imm) := cn b1 (by simp)
  clear c0 c1 c2 c3 c4 b1 HT
  simp only [whV]
  go_wp2_with fail
  have X : Bx w (w1.alloc (.cells #[.int .i64 T.cls, .int .i64 T.op, .int .i64 T.size, .bool T.wide, .bool T.reg] 103)) := ⟨HZ.out, HB1.out.alloc HB1.out.size _⟩
  have e0 : (w1.alloc (.cells #[.int .i64 T.cls, .int .i64 T.op, .int .i64 T.size, .bool T.wide, .bool T.reg] 103)).cell? ⟨w1.heap.size, 0, none⟩ = some (.int .i64 T.cls) := by simp
  have e1 : (w1.alloc (.cells #[.int .i64 T.cls, .int .i64 T.op, .int .i64 T.size, .bool T.wide, .bool T.reg] 103)).cell? ⟨w1.heap.size, 1, none⟩ = some (.int .i64 T.op) := by simp
  have e2 : (w1.alloc (.cells #[.int .i64 T.cls, .int .i64 T.op, .int .i64 T.size, .bool T.wide, .bool T.reg] 103)).cell? ⟨w1.heap.size, 2, none⟩ = some (.int .i64 T.size) := by simp
  have e3 : (w1.alloc (.cells #[.int .i64 T.cls, .int .i64 T.op, .int .i64 T.size, .bool T.wide, .bool T.reg] 103)).cell? ⟨w1.heap.size, 3, none⟩ = some (.bool T.wide) := by simp
  have e4 : (w1.alloc (.cells #[.int .i64 T.cls, .int .i64 T.op, .int .i64 T.size, .bool T.wide, .bool T.reg] 103)).cell? ⟨w1.heap.size, 4, none⟩ = some (.bool T.reg) := by simp
  replace d0 := cna (.cells #[.int .i64 T.cls, .int .i64 T.op, .int .i64 T.size, .bool T.wide, .bool T.reg] 103) d0
  replace d1 := cna (.cells #[.int .i64 T.cls, .int .i64 T.op, .int .i64 T.size, .bool T.wide, .bool T.reg] 103) d1
  replace d2 := cna (.cells #[.int .i64 T.cls, .int .i64 T.op, .int .i64 T.size, .bool T.wide, .bool T.reg] 103) d2
  replace d3 := cna (.cells #[.int .i64 T.cls, .int .i64 T.op, .int .i64 T.size, .bool T.wide, .bool T.reg] 103) d3
  replace d4 := cna (.cells #[.int .i64 T.cls, .int .i64 T.op, .int .i64 T.size, .bool T.wide, .bool T.reg] 103) d4
  clear hz1 HB1
  generalize w1.alloc (.cells #[.int .i64 T.cls, .int .i64 T.op, .int .i64 T.size, .bool T.wide, .bool T.reg] 103) = wr at *
  generalize w1.heap.size = g1 at *
  first
  | (go_region_with (go_at_call 101; refine (HP.out _ (by first | exact Bx.sz X | exact Bx.sz (Bx.next (below_dr wr) X))).mono ?_; rintro e w9 ⟨rfl, b9⟩))
  | fail
  all_goals
    have f0 := cn b9 (cn (below_dr wr) e0)
    have f4 := cn b9 (cn (below_dr wr) d4)
    have X9 := Bx.next b9 (Bx.next (below_dr wr) X)
    clear d0 d1 d2 d3 d4 e0 e1 e2 e3 e4
    go_wp2
    go_ret
    exact ⟨rfl, X9.2⟩

set_option maxHeartbeats 1000000 in
theorem standing_pb (x : I5) (hx : x.ok) (r : Option I5) (maps : Int) (b off n cap : Nat) (w : World) (hz : SzOk w) (hn : 0 < n) (hcap : n ≤ cap) (hi : InsAt w b off x) (hr : NextAt w b off n r) (hE : (x.e != 0) = false) (hP : x.p = 1) (k1 : (x.t.cls == 11) = true) (k2 : decide (x.imm < 0) = false) (k3 : decide (maps ≤ x.imm) = true) :
    Calls Tryz.prog 74 #[.slice (some ⟨b, off, none⟩) n cap, .int .i64 maps] w fun e w' => e = .returned (.int .i64 26) ∧ Below w.heap.size w w' := by
  have hl := World.block_lt_of_cell? w _ hi.1
  have hbl : b < w.heap.size := hl
  have HT := hid fun W hW => of_I x hx W hW
  have HP := hid fun W hW => places_I x hx W hW
  have HW := hid fun W (hb : Below w.heap.size w W) C q (hq : 1 < n → q = some ⟨b, off + 5, none⟩) => whole_any x.t b off n C r W hn (hr.below hb hbl) q hq
  have HH := hid fun W => helper_is x.imm W
  generalize x.t = T at *
  generalize x.e = E at *
  rw [hP] at HP
  clear hP
  generalize wholeB T.cls r = B at *
  generalize helpB x.imm = G at *
  obtain ⟨c0, c1, c2, c3, c4⟩ := hi
  obtain ⟨op, dst, src, off_, imm⟩ := x
  unfold I5.V at HT HP
  dsimp only at *
  have HZ := hid hz
  obtain ⟨_, _, _, _, _, _, _, _, m0, m1⟩ := hx
  clear hz hr hl
  have hni : decide (0 < n) = true := by simpa using hn
  obtain ⟨q1, hq1, hsl⟩ := slice_from b off n cap 1 (by omega) hcap 1 rfl
  have HQ1 := hid hq1
  clear hq1
  go_enter Tryz.func74, Tryz.ntmps74
  go_wp2_with fail
  refine (HT.out _ (HZ.out.alloc _)).mono ?_
  rintro e w1 ⟨rfl, b1⟩
  have q0 : w.heap.size < w1.heap.size := by have := b1.size; simp at this; omega
  have HB1 := hid (((Below.refl w.heap.size w).alloc (Nat.le_refl _) (.cells #[.int .u8 op, .int .u8 dst, .int .u8 src, .int .i16 off_, .int .i32 imm] 24)).trans (b1.mono (by simp)))
  have hz1 := hid ((HZ.out.alloc _).below b1)
  have d0 : w1.cell? ⟨w.heap.size, 0, none⟩ = some (.int .u8 op) := cn b1 (by simp)
  have d1 : w1.cell? ⟨w.heap.size, 1, none⟩ = some (.int .u8 dst) := cn b1 (by simp)
  have d2 : w1.cell? ⟨w.heap.size, 2, none⟩ = some (.int .u8 src) := cn b1 (by simp)
  have d3 : w1.cell? ⟨w.heap.size, 3, none⟩ = some (.int .i16 off_) := cn b1 (by simp)
  have d4 : w1.cell? ⟨w.heap.size, 4, none⟩ = some (.int .i32 imm) := cn b1 (by simp)
  clear c0 c1 c2 c3 c4 b1 HT
  simp only [whV]
  go_wp2_with fail
  have X : Bx w (w1.alloc (.cells #[.int .i64 T.cls, .int .i64 T.op, .int .i64 T.size, .bool T.wide, .bool T.reg] 103)) := ⟨HZ.out, HB1.out.alloc HB1.out.size _⟩
  have e0 : (w1.alloc (.cells #[.int .i64 T.cls, .int .i64 T.op, .int .i64 T.size, .bool T.wide, .bool T.reg] 103)).cell? ⟨w1.heap.size, 0, none⟩ = some (.int .i64 T.cls) := by simp
  have e1 : (w1.alloc (.cells #[.int .i64 T.cls, .int .i64 T.op, .int .i64 T.size, .bool T.wide, .bool T.reg] 103)).cell? ⟨w1.heap.size, 1, none⟩ = some (.int .i64 T.op) := by simp
  have e2 : (w1.alloc (.cells #[.int .i64 T.cls, .int .i64 T.op, .int .i64 T.size, .bool T.wide, .bool T.reg] 103)).cell? ⟨w1.heap.size, 2, none⟩ = some (.int .i64 T.size) := by simp
  have e3 : (w1.alloc (.cells #[.int .i64 T.cls, .int .i64 T.op, .int .i64 T.size, .bool T.wide, .bool T.reg] 103)).cell? ⟨w1.heap.size, 3, none⟩ = some (.bool T.wide) := by simp
  have e4 : (w1.alloc (.cells #[.int .i64 T.cls, .int .i64 T.op, .int .i64 T.size, .bool T.wide, .bool T.reg] 103)).cell? ⟨w1.heap.size, 4, none⟩ = some (.bool T.reg) := by simp
  replace d0 := cna (.cells #[.int .i64 T.cls, .int .i64 T.op, .int .i64 T.size, .bool T.wide, .bool T.reg] 103) d0
  replace d1 := cna (.cells #[.int .i64 T.cls, .int .i64 T.op, .int .i64 T.size, .bool T.wide, .bool T.reg] 103) d1
  replace d2 := cna (.cells #[.int .i64 T.cls, .int .i64 T.op, .int .i64 T.size, .bool T.wide, .bool T.reg] 103) d2
  replace d3 := cna (.cells #[.int .i64 T.cls, .int .i64 T.op, .int .i64 T.size, .bool T.wide, .bool T.reg] 103) d3
  replace d4 := cna (.cells #[.int .i64 T.cls, .int .i64 T.op, .int .i64 T.size, .bool T.wide, .bool T.reg] 103) d4
  clear hz1 HB1
  generalize w1.alloc (.cells #[.int .i64 T.cls, .int .i64 T.op, .int .i64 T.size, .bool T.wide, .bool T.reg] 103) = wr at *
  generalize w1.heap.size = g1 at *
  first
  | (go_region_with (go_at_call 101; refine (HP.out _ (by first | exact Bx.sz X | exact Bx.sz (Bx.next (below_dr wr) X))).mono ?_; rintro e w9 ⟨rfl, b9⟩))
  | fail
  all_goals
    have f0 := cn b9 (cn (below_dr wr) e0)
    have f4 := cn b9 (cn (below_dr wr) d4)
    have X9 := Bx.next b9 (Bx.next (below_dr wr) X)
    clear d0 d1 d2 d3 d4 e0 e1 e2 e3 e4
    go_wp2
    go_ret
    exact ⟨rfl, X9.2⟩

set_option maxHeartbeats 1000000 in
theorem standing_pc (x : I5) (hx : x.ok) (r : Option I5) (maps : Int) (b off n cap : Nat) (w : World) (hz : SzOk w) (hn : 0 < n) (hcap : n ≤ cap) (hi : InsAt w b off x) (hr : NextAt w b off n r) (hE : (x.e != 0) = false) (hP : x.p = 1) (k1 : (x.t.cls == 11) = true) (k2 : decide (x.imm < 0) = false) (k3 : decide (maps ≤ x.imm) = false) (k4 : (x.t.cls == 8) = false) :
    Calls Tryz.prog 74 #[.slice (some ⟨b, off, none⟩) n cap, .int .i64 maps] w fun e w' => e = .returned (.int .i64 0) ∧ Below w.heap.size w w' := by
  have hl := World.block_lt_of_cell? w _ hi.1
  have hbl : b < w.heap.size := hl
  have HT := hid fun W hW => of_I x hx W hW
  have HP := hid fun W hW => places_I x hx W hW
  have HW := hid fun W (hb : Below w.heap.size w W) C q (hq : 1 < n → q = some ⟨b, off + 5, none⟩) => whole_any x.t b off n C r W hn (hr.below hb hbl) q hq
  have HH := hid fun W => helper_is x.imm W
  generalize x.t = T at *
  generalize x.e = E at *
  rw [hP] at HP
  clear hP
  generalize wholeB T.cls r = B at *
  generalize helpB x.imm = G at *
  obtain ⟨c0, c1, c2, c3, c4⟩ := hi
  obtain ⟨op, dst, src, off_, imm⟩ := x
  unfold I5.V at HT HP
  dsimp only at *
  have HZ := hid hz
  obtain ⟨_, _, _, _, _, _, _, _, m0, m1⟩ := hx
  clear hz hr hl
  have hni : decide (0 < n) = true := by simpa using hn
  obtain ⟨q1, hq1, hsl⟩ := slice_from b off n cap 1 (by omega) hcap 1 rfl
  have HQ1 := hid hq1
  clear hq1
  go_enter Tryz.func74, Tryz.ntmps74
  go_wp2_with fail
  refine (HT.out _ (HZ.out.alloc _)).mono ?_
  rintro e w1 ⟨rfl, b1⟩
  have q0 : w.heap.size < w1.heap.size := by have := b1.size; simp at this; omega
  have HB1 := hid (((Below.refl w.heap.size w).alloc (Nat.le_refl _) (.cells #[.int .u8 op, .int .u8 dst, .int .u8 src, .int .i16 off_, .int .i32 imm] 24)).trans (b1.mono (by simp)))
  have hz1 := hid ((HZ.out.alloc _).below b1)
  have d0 : w1.cell? ⟨w.heap.size, 0, none⟩ = some (.int .u8 op) := cn b1 (by simp)
  have d1 : w1.cell? ⟨w.heap.size, 1, none⟩ = some (.int .u8 dst) := cn b1 (by simp)
  have d2 : w1.cell? ⟨w.heap.size, 2, none⟩ = some (.int .u8 src) := cn b1 (by simp)
  have d3 : w1.cell? ⟨w.heap.size, 3, none⟩ = some (.int .i16 off_) := cn b1 (by simp)
  have d4 : w1.cell? ⟨w.heap.size, 4, none⟩ = some (.int .i32 imm) := cn b1 (by simp)
  clear c0 c1 c2 c3 c4 b1 HT
  simp only [whV]
  go_wp2_with fail
  have X : Bx w (w1.alloc (.cells #[.int .i64 T.cls, .int .i64 T.op, .int .i64 T.size, .bool T.wide, .bool T.reg] 103)) := ⟨HZ.out, HB1.out.alloc HB1.out.size _⟩
  have e0 : (w1.alloc (.cells #[.int .i64 T.cls, .int .i64 T.op, .int .i64 T.size, .bool T.wide, .bool T.reg] 103)).cell? ⟨w1.heap.size, 0, none⟩ = some (.int .i64 T.cls) := by simp
  have e1 : (w1.alloc (.cells #[.int .i64 T.cls, .int .i64 T.op, .int .i64 T.size, .bool T.wide, .bool T.reg] 103)).cell? ⟨w1.heap.size, 1, none⟩ = some (.int .i64 T.op) := by simp
  have e2 : (w1.alloc (.cells #[.int .i64 T.cls, .int .i64 T.op, .int .i64 T.size, .bool T.wide, .bool T.reg] 103)).cell? ⟨w1.heap.size, 2, none⟩ = some (.int .i64 T.size) := by simp
  have e3 : (w1.alloc (.cells #[.int .i64 T.cls, .int .i64 T.op, .int .i64 T.size, .bool T.wide, .bool T.reg] 103)).cell? ⟨w1.heap.size, 3, none⟩ = some (.bool T.wide) := by simp
  have e4 : (w1.alloc (.cells #[.int .i64 T.cls, .int .i64 T.op, .int .i64 T.size, .bool T.wide, .bool T.reg] 103)).cell? ⟨w1.heap.size, 4, none⟩ = some (.bool T.reg) := by simp
  replace d0 := cna (.cells #[.int .i64 T.cls, .int .i64 T.op, .int .i64 T.size, .bool T.wide, .bool T.reg] 103) d0
  replace d1 := cna (.cells #[.int .i64 T.cls, .int .i64 T.op, .int .i64 T.size, .bool T.wide, .bool T.reg] 103) d1
  replace d2 := cna (.cells #[.int .i64 T.cls, .int .i64 T.op, .int .i64 T.size, .bool T.wide, .bool T.reg] 103) d2
  replace d3 := cna (.cells #[.int .i64 T.cls, .int .i64 T.op, .int .i64 T.size, .bool T.wide, .bool T.reg] 103) d3
  replace d4 := cna (.cells #[.int .i64 T.cls, .int .i64 T.op, .int .i64 T.size, .bool T.wide, .bool T.reg] 103) d4
  clear hz1 HB1
  generalize w1.alloc (.cells #[.int .i64 T.cls, .int .i64 T.op, .int .i64 T.size, .bool T.wide, .bool T.reg] 103) = wr at *
  generalize w1.heap.size = g1 at *
  first
  | (go_region_with (go_at_call 101; refine (HP.out _ (by first | exact Bx.sz X | exact Bx.sz (Bx.next (below_dr wr) X))).mono ?_; rintro e w9 ⟨rfl, b9⟩))
  | fail
  all_goals
    have f0 := cn b9 (cn (below_dr wr) e0)
    have f4 := cn b9 (cn (below_dr wr) d4)
    have X9 := Bx.next b9 (Bx.next (below_dr wr) X)
    clear d0 d1 d2 d3 d4 e0 e1 e2 e3 e4
    go_wp2
    go_ret
    exact ⟨rfl, X9.2⟩

set_option maxHeartbeats 1000000 in
theorem standing_pd (x : I5) (hx : x.ok) (r : Option I5) (maps : Int) (b off n cap : Nat) (w : World) (hz : SzOk w) (hn : 0 < n) (hcap : n ≤ cap) (hi : InsAt w b off x) (hr : NextAt w b off n r) (hE : (x.e != 0) = false) (hP : x.p = 1) (k1 : (x.t.cls == 11) = false) (k4 : (x.t.cls == 8) = true) (k5 : helpB x.imm = false) :
    Calls Tryz.prog 74 #[.slice (some ⟨b, off, none⟩) n cap, .int .i64 maps] w fun e w' => e = .returned (.int .i64 27) ∧ Below w.heap.size w w' := by
  have hl := World.block_lt_of_cell? w _ hi.1
  have hbl : b < w.heap.size := hl
  have HT := hid fun W hW => of_I x hx W hW
  have HP := hid fun W hW => places_I x hx W hW
  have HW := hid fun W (hb : Below w.heap.size w W) C q (hq : 1 < n → q = some ⟨b, off + 5, none⟩) => whole_any x.t b off n C r W hn (hr.below hb hbl) q hq
  have HH := hid fun W => helper_is x.imm W
  generalize x.t = T at *
  generalize x.e = E at *
  rw [hP] at HP
  clear hP
  generalize wholeB T.cls r = B at *
  generalize helpB x.imm = G at *
  obtain ⟨c0, c1, c2, c3, c4⟩ := hi
  obtain ⟨op, dst, src, off_, imm⟩ := x
  unfold I5.V at HT HP
  dsimp only at *
  have HZ := hid hz
  obtain ⟨_, _, _, _, _, _, _, _, m0, m1⟩ := hx
  clear hz hr hl
  have hni : decide (0 < n) = true := by simpa using hn
  obtain ⟨q1, hq1, hsl⟩ := slice_from b off n cap 1 (by omega) hcap 1 rfl
  have HQ1 := hid hq1
  clear hq1
  go_enter Tryz.func74, Tryz.ntmps74
  go_wp2_with fail
  refine (HT.out _ (HZ.out.alloc _)).mono ?_
  rintro e w1 ⟨rfl, b1⟩
  have q0 : w.heap.size < w1.heap.size := by have := b1.size; simp at this; omega
  have HB1 := hid (((Below.refl w.heap.size w).alloc (Nat.le_refl _) (.cells #[.int .u8 op, .int .u8 dst, .int .u8 src, .int .i16 off_, .int .i32 imm] 24)).trans (b1.mono (by simp)))
  have hz1 := hid ((HZ.out.alloc _).below b1)
  have d0 : w1.cell? ⟨w.heap.size, 0, none⟩ = some (.int .u8 op) := cn b1 (by simp)
  have d1 : w1.cell? ⟨w.heap.size, 1, none⟩ = some (.int .u8 dst) := cn b1 (by simp)
  have d2 : w1.cell? ⟨w.heap.size, 2, none⟩ = some (.int .u8 src) := cn b1 (by simp)
  have d3 : w1.cell? ⟨w.heap.size, 3, none⟩ = some (.int .i16 off_) := cn b1 (by simp)
  have d4 : w1.cell? ⟨w.heap.size, 4, none⟩ = some (.int .i32 imm) := cn b1 (by simp)
  clear c0 c1 c2 c3 c4 b1 HT
  simp only [whV]
  go_wp2_with fail
  have X : Bx w (w1.alloc (.cells #[.int .i64 T.cls, .int .i64 T.op, .int .i64 T.size, .bool T.wide, .bool T.reg] 103)) := ⟨HZ.out, HB1.out.alloc HB1.out.size _⟩
  have e0 : (w1.alloc (.cells #[.int .i64 T.cls, .int .i64 T.op, .int .i64 T.size, .bool T.wide, .bool T.reg] 103)).cell? ⟨w1.heap.size, 0, none⟩ = some (.int .i64 T.cls) := by simp
  have e1 : (w1.alloc (.cells #[.int .i64 T.cls, .int .i64 T.op, .int .i64 T.size, .bool T.wide, .bool T.reg] 103)).cell? ⟨w1.heap.size, 1, none⟩ = some (.int .i64 T.op) := by simp
  have e2 : (w1.alloc (.cells #[.int .i64 T.cls, .int .i64 T.op, .int .i64 T.size, .bool T.wide, .bool T.reg] 103)).cell? ⟨w1.heap.size, 2, none⟩ = some (.int .i64 T.size) := by simp
  have e3 : (w1.alloc (.cells #[.int .i64 T.cls, .int .i64 T.op, .int .i64 T.size, .bool T.wide, .bool T.reg] 103)).cell? ⟨w1.heap.size, 3, none⟩ = some (.bool T.wide) := by simp
  have e4 : (w1.alloc (.cells #[.int .i64 T.cls, .int .i64 T.op, .int .i64 T.size, .bool T.wide, .bool T.reg] 103)).cell? ⟨w1.heap.size, 4, none⟩ = some (.bool T.reg) := by simp
  replace d0 := cna (.cells #[.int .i64 T.cls, .int .i64 T.op, .int .i64 T.size, .bool T.wide, .bool T.reg] 103) d0
  replace d1 := cna (.cells #[.int .i64 T.cls, .int .i64 T.op, .int .i64 T.size, .bool T.wide, .bool T.reg] 103) d1
  replace d2 := cna (.cells #[.int .i64 T.cls, .int .i64 T.op, .int .i64 T.size, .bool T.wide, .bool T.reg] 103) d2
  replace d3 := cna (.cells #[.int .i64 T.cls, .int .i64 T.op, .int .i64 T.size, .bool T.wide, .bool T.reg] 103) d3
  replace d4 := cna (.cells #[.int .i64 T.cls, .int .i64 T.op, .int .i64 T.size, .bool T.wide, .bool T.reg] 103) d4
  clear hz1 HB1
  generalize w1.alloc (.cells #[.int .i64 T.cls, .int .i64 T.op, .int .i64 T.size, .bool T.wide, .bool T.reg] 103) = wr at *
  generalize w1.heap.size = g1 at *
  first
  | (go_region_with (go_at_call 101; refine (HP.out _ (by first | exact Bx.sz X | exact Bx.sz (Bx.next (below_dr wr) X))).mono ?_; rintro e w9 ⟨rfl, b9⟩))
  | fail
  all_goals
    have f0 := cn b9 (cn (below_dr wr) e0)
    have f4 := cn b9 (cn (below_dr wr) d4)
    have X9 := Bx.next b9 (Bx.next (below_dr wr) X)
    clear d0 d1 d2 d3 d4 e0 e1 e2 e3 e4
    go_wp2_with fail
    refine (HH.out _).mono ?_
    rintro e w' ⟨rfl, rfl⟩
    go_wp2
    go_ret
    exact ⟨rfl, X9.2⟩

set_option maxHeartbeats 1000000 in
theorem standing_pf (x : I5) (hx : x.ok) (r : Option I5) (maps : Int) (b off n cap : Nat) (w : World) (hz : SzOk w) (hn : 0 < n) (hcap : n ≤ cap) (hi : InsAt w b off x) (hr : NextAt w b off n r) (hE : (x.e != 0) = false) (hP : x.p = 1) (k1 : (x.t.cls == 11) = false) (k4 : (x.t.cls == 8) = true) (k5 : helpB x.imm = true) :
    Calls Tryz.prog 74 #[.slice (some ⟨b, off, none⟩) n cap, .int .i64 maps] w fun e w' => e = .returned (.int .i64 0) ∧ Below w.heap.size w w' := by
  have hl := World.block_lt_of_cell? w _ hi.1
  have hbl : b < w.heap.size := hl
  have HT := hid fun W hW => of_I x hx W hW
  have HP := hid fun W hW => places_I x hx W hW
  have HW := hid fun W (hb : Below w.heap.size w W) C q (hq : 1 < n → q = some ⟨b, off + 5, none⟩) => whole_any x.t b off n C r W hn (hr.below hb hbl) q hq
  have HH := hid fun W => helper_is x.imm W
  generalize x.t = T at *
  generalize x.e = E at *
  rw [hP] at HP
  clear hP
  generalize wholeB T.cls r = B at *
  generalize helpB x.imm = G at *
  obtain ⟨c0, c1, c2, c3, c4⟩ := hi
  obtain ⟨op, dst, src, off_, imm⟩ := x
  unfold I5.V at HT HP
  dsimp only at *
  have HZ := hid hz
  obtain ⟨_, _, _, _, _, _, _, _, m0, m1⟩ := hx
  clear hz hr hl
  have hni : decide (0 < n) = true := by simpa using hn
  obtain ⟨q1, hq1, hsl⟩ := slice_from b off n cap 1 (by omega) hcap 1 rfl
  have HQ1 := hid hq1
  clear hq1
  go_enter Tryz.func74, Tryz.ntmps74
  go_wp2_with fail
  refine (HT.out _ (HZ.out.alloc _)).mono ?_
  rintro e w1 ⟨rfl, b1⟩
  have q0 : w.heap.size < w1.heap.size := by have := b1.size; simp at this; omega
  have HB1 := hid (((Below.refl w.heap.size w).alloc (Nat.le_refl _) (.cells #[.int .u8 op, .int .u8 dst, .int .u8 src, .int .i16 off_, .int .i32 imm] 24)).trans (b1.mono (by simp)))
  have hz1 := hid ((HZ.out.alloc _).below b1)
  have d0 : w1.cell? ⟨w.heap.size, 0, none⟩ = some (.int .u8 op) := cn b1 (by simp)
  have d1 : w1.cell? ⟨w.heap.size, 1, none⟩ = some (.int .u8 dst) := cn b1 (by simp)
  have d2 : w1.cell? ⟨w.heap.size, 2, none⟩ = some (.int .u8 src) := cn b1 (by simp)
  have d3 : w1.cell? ⟨w.heap.size, 3, none⟩ = some (.int .i16 off_) := cn b1 (by simp)
  have d4 : w1.cell? ⟨w.heap.size, 4, none⟩ = some (.int .i32 imm) := cn b1 (by simp)
  clear c0 c1 c2 c3 c4 b1 HT
  simp only [whV]
  go_wp2_with fail
  have X : Bx w (w1.alloc (.cells #[.int .i64 T.cls, .int .i64 T.op, .int .i64 T.size, .bool T.wide, .bool T.reg] 103)) := ⟨HZ.out, HB1.out.alloc HB1.out.size _⟩
  have e0 : (w1.alloc (.cells #[.int .i64 T.cls, .int .i64 T.op, .int .i64 T.size, .bool T.wide, .bool T.reg] 103)).cell? ⟨w1.heap.size, 0, none⟩ = some (.int .i64 T.cls) := by simp
  have e1 : (w1.alloc (.cells #[.int .i64 T.cls, .int .i64 T.op, .int .i64 T.size, .bool T.wide, .bool T.reg] 103)).cell? ⟨w1.heap.size, 1, none⟩ = some (.int .i64 T.op) := by simp
  have e2 : (w1.alloc (.cells #[.int .i64 T.cls, .int .i64 T.op, .int .i64 T.size, .bool T.wide, .bool T.reg] 103)).cell? ⟨w1.heap.size, 2, none⟩ = some (.int .i64 T.size) := by simp
  have e3 : (w1.alloc (.cells #[.int .i64 T.cls, .int .i64 T.op, .int .i64 T.size, .bool T.wide, .bool T.reg] 103)).cell? ⟨w1.heap.size, 3, none⟩ = some (.bool T.wide) := by simp
  have e4 : (w1.alloc (.cells #[.int .i64 T.cls, .int .i64 T.op, .int .i64 T.size, .bool T.wide, .bool T.reg] 103)).cell? ⟨w1.heap.size, 4, none⟩ = some (.bool T.reg) := by simp
  replace d0 := cna (.cells #[.int .i64 T.cls, .int .i64 T.op, .int .i64 T.size, .bool T.wide, .bool T.reg] 103) d0
  replace d1 := cna (.cells #[.int .i64 T.cls, .int .i64 T.op, .int .i64 T.size, .bool T.wide, .bool T.reg] 103) d1
  replace d2 := cna (.cells #[.int .i64 T.cls, .int .i64 T.op, .int .i64 T.size, .bool T.wide, .bool T.reg] 103) d2
  replace d3 := cna (.cells #[.int .i64 T.cls, .int .i64 T.op, .int .i64 T.size, .bool T.wide, .bool T.reg] 103) d3
  replace d4 := cna (.cells #[.int .i64 T.cls, .int .i64 T.op, .int .i64 T.size, .bool T.wide, .bool T.reg] 103) d4
  clear hz1 HB1
  generalize w1.alloc (.cells #[.int .i64 T.cls, .int .i64 T.op, .int .i64 T.size, .bool T.wide, .bool T.reg] 103) = wr at *
  generalize w1.heap.size = g1 at *
  first
  | (go_region_with (go_at_call 101; refine (HP.out _ (by first | exact Bx.sz X | exact Bx.sz (Bx.next (below_dr wr) X))).mono ?_; rintro e w9 ⟨rfl, b9⟩))
  | fail
  all_goals
    have f0 := cn b9 (cn (below_dr wr) e0)
    have f4 := cn b9 (cn (below_dr wr) d4)
    have X9 := Bx.next b9 (Bx.next (below_dr wr) X)
    clear d0 d1 d2 d3 d4 e0 e1 e2 e3 e4
    go_wp2_with fail
    refine (HH.out _).mono ?_
    rintro e w' ⟨rfl, rfl⟩
    go_wp2
    go_ret
    exact ⟨rfl, X9.2⟩

set_option maxHeartbeats 1000000 in
theorem standing_pg (x : I5) (hx : x.ok) (r : Option I5) (maps : Int) (b off n cap : Nat) (w : World) (hz : SzOk w) (hn : 0 < n) (hcap : n ≤ cap) (hi : InsAt w b off x) (hr : NextAt w b off n r) (hE : (x.e != 0) = false) (hP : x.p = 1) (k1 : (x.t.cls == 11) = false) (k4 : (x.t.cls == 8) = false) :
    Calls Tryz.prog 74 #[.slice (some ⟨b, off, none⟩) n cap, .int .i64 maps] w fun e w' => e = .returned (.int .i64 0) ∧ Below w.heap.size w w' := by
  have hl := World.block_lt_of_cell? w _ hi.1
  have hbl : b < w.heap.size := hl
  have HT := hid fun W hW => of_I x hx W hW
  have HP := hid fun W hW => places_I x hx W hW
  have HW := hid fun W (hb : Below w.heap.size w W) C q (hq : 1 < n → q = some ⟨b, off + 5, none⟩) => whole_any x.t b off n C r W hn (hr.below hb hbl) q hq
  have HH := hid fun W => helper_is x.imm W
  generalize x.t = T at *
  generalize x.e = E at *
  rw [hP] at HP
  clear hP
  generalize wholeB T.cls r = B at *
  generalize helpB x.imm = G at *
  obtain ⟨c0, c1, c2, c3, c4⟩ := hi
  obtain ⟨op, dst, src, off_, imm⟩ := x
  unfold I5.V at HT HP
  dsimp only at *
  have HZ := hid hz
  obtain ⟨_, _, _, _, _, _, _, _, m0, m1⟩ := hx
  clear hz hr hl
  have hni : decide (0 < n) = true := by simpa using hn
  obtain ⟨q1, hq1, hsl⟩ := slice_from b off n cap 1 (by omega) hcap 1 rfl
  have HQ1 := hid hq1
  clear hq1
  go_enter Tryz.func74, Tryz.ntmps74
  go_wp2_with fail
  refine (HT.out _ (HZ.out.alloc _)).mono ?_
  rintro e w1 ⟨rfl, b1⟩
  have q0 : w.heap.size < w1.heap.size := by have := b1.size; simp at this; omega
  have HB1 := hid (((Below.refl w.heap.size w).alloc (Nat.le_refl _) (.cells #[.int .u8 op, .int .u8 dst, .int .u8 src, .int .i16 off_, .int .i32 imm] 24)).trans (b1.mono (by simp)))
  have hz1 := hid ((HZ.out.alloc _).below b1)
  have d0 : w1.cell? ⟨w.heap.size, 0, none⟩ = some (.int .u8 op) := cn b1 (by simp)
  have d1 : w1.cell? ⟨w.heap.size, 1, none⟩ = some (.int .u8 dst) := cn b1 (by simp)
  have d2 : w1.cell? ⟨w.heap.size, 2, none⟩ = some (.int .u8 src) := cn b1 (by simp)
  have d3 : w1.cell? ⟨w.heap.size, 3, none⟩ = some (.int .i16 off_) := cn b1 (by simp)
  have d4 : w1.cell? ⟨w.heap.size, 4, none⟩ = some (.int .i32 imm) := cn b1 (by simp)
  clear c0 c1 c2 c3 c4 b1 HT
  simp only [whV]
  go_wp2_with fail
  have X : Bx w (w1.alloc (.cells #[.int .i64 T.cls, .int .i64 T.op, .int .i64 T.size, .bool T.wide, .bool T.reg] 103)) := ⟨HZ.out, HB1.out.alloc HB1.out.size _⟩
  have e0 : (w1.alloc (.cells #[.int .i64 T.cls, .int .i64 T.op, .int .i64 T.size, .bool T.wide, .bool T.reg] 103)).cell? ⟨w1.heap.size, 0, none⟩ = some (.int .i64 T.cls) := by simp
  have e1 : (w1.alloc (.cells #[.int .i64 T.cls, .int .i64 T.op, .int .i64 T.size, .bool T.wide, .bool T.reg] 103)).cell? ⟨w1.heap.size, 1, none⟩ = some (.int .i64 T.op) := by simp
  have e2 : (w1.alloc (.cells #[.int .i64 T.cls, .int .i64 T.op, .int .i64 T.size, .bool T.wide, .bool T.reg] 103)).cell? ⟨w1.heap.size, 2, none⟩ = some (.int .i64 T.size) := by simp
  have e3 : (w1.alloc (.cells #[.int .i64 T.cls, .int .i64 T.op, .int .i64 T.size, .bool T.wide, .bool T.reg] 103)).cell? ⟨w1.heap.size, 3, none⟩ = some (.bool T.wide) := by simp
  have e4 : (w1.alloc (.cells #[.int .i64 T.cls, .int .i64 T.op, .int .i64 T.size, .bool T.wide, .bool T.reg] 103)).cell? ⟨w1.heap.size, 4, none⟩ = some (.bool T.reg) := by simp
  replace d0 := cna (.cells #[.int .i64 T.cls, .int .i64 T.op, .int .i64 T.size, .bool T.wide, .bool T.reg] 103) d0
  replace d1 := cna (.cells #[.int .i64 T.cls, .int .i64 T.op, .int .i64 T.size, .bool T.wide, .bool T.reg] 103) d1
  replace d2 := cna (.cells #[.int .i64 T.cls, .int .i64 T.op, .int .i64 T.size, .bool T.wide, .bool T.reg] 103) d2
  replace d3 := cna (.cells #[.int .i64 T.cls, .int .i64 T.op, .int .i64 T.size, .bool T.wide, .bool T.reg] 103) d3
  replace d4 := cna (.cells #[.int .i64 T.cls, .int .i64 T.op, .int .i64 T.size, .bool T.wide, .bool T.reg] 103) d4
  clear hz1 HB1
  generalize w1.alloc (.cells #[.int .i64 T.cls, .int .i64 T.op, .int .i64 T.size, .bool T.wide, .bool T.reg] 103) = wr at *
  generalize w1.heap.size = g1 at *
  first
  | (go_region_with (go_at_call 101; refine (HP.out _ (by first | exact Bx.sz X | exact Bx.sz (Bx.next (below_dr wr) X))).mono ?_; rintro e w9 ⟨rfl, b9⟩))
  | fail
  all_goals
    have f0 := cn b9 (cn (below_dr wr) e0)
    have f4 := cn b9 (cn (below_dr wr) d4)
    have X9 := Bx.next b9 (Bx.next (below_dr wr) X)
    clear d0 d1 d2 d3 d4 e0 e1 e2 e3 e4
    go_wp2
    go_ret
    exact ⟨rfl, X9.2⟩

set_option maxHeartbeats 1000000 in
theorem standing_qa (x : I5) (hx : x.ok) (r : Option I5) (maps : Int) (b off n cap : Nat) (w : World) (hz : SzOk w) (hn : 0 < n) (hcap : n ≤ cap) (hi : InsAt w b off x) (hr : NextAt w b off n r) (hE : (x.e != 0) = false) (hP : x.p = 2) (hB : wholeB x.t.cls r = true) (k1 : (x.t.cls == 11) = true) (k2 : decide (x.imm < 0) = true) :
    Calls Tryz.prog 74 #[.slice (some ⟨b, off, none⟩) n cap, .int .i64 maps] w fun e w' => e = .returned (.int .i64 26) ∧ Below w.heap.size w w' := by
  have hl := World.block_lt_of_cell? w _ hi.1
  have hbl : b < w.heap.size := hl
  have HT := hid fun W hW => of_I x hx W hW
  have HP := hid fun W hW => places_I x hx W hW
  have HW := hid fun W (hb : Below w.heap.size w W) C q (hq : 1 < n → q = some ⟨b, off + 5, none⟩) => whole_any x.t b off n C r W hn (hr.below hb hbl) q hq
  have HH := hid fun W => helper_is x.imm W
  generalize x.t = T at *
  generalize x.e = E at *
  rw [hP] at HP
  clear hP
  generalize wholeB T.cls r = B at *
  generalize helpB x.imm = G at *
  obtain ⟨c0, c1, c2, c3, c4⟩ := hi
  obtain ⟨op, dst, src, off_, imm⟩ := x
  unfold I5.V at HT HP
  dsimp only at *
  have HZ := hid hz
  obtain ⟨_, _, _, _, _, _, _, _, m0, m1⟩ := hx
  clear hz hr hl
  have hni : decide (0 < n) = true := by simpa using hn
  obtain ⟨q1, hq1, hsl⟩ := slice_from b off n cap 1 (by omega) hcap 1 rfl
  have HQ1 := hid hq1
  clear hq1
  go_enter Tryz.func74, Tryz.ntmps74
  go_wp2_with fail
  refine (HT.out _ (HZ.out.alloc _)).mono ?_
  rintro e w1 ⟨rfl, b1⟩
  have q0 : w.heap.size < w1.heap.size := by have := b1.size; simp at this; omega
  have HB1 := hid (((Below.refl w.heap.size w).alloc (Nat.le_refl _) (.cells #[.int .u8 op, .int .u8 dst, .int .u8 src, .int .i16 off_, .int .i32 imm] 24)).trans (b1.mono (by simp)))
  have hz1 := hid ((HZ.out.alloc _).below b1)
  have d0 : w1.cell? ⟨w.heap.size, 0, none⟩ = some (.int .u8 op) := cn b1 (by simp)
  have d1 : w1.cell? ⟨w.heap.size, 1, none⟩ = some (.int .u8 dst) := cn b1 (by simp)
  have d2 : w1.cell? ⟨w.heap.size, 2, none⟩ = some (.int .u8 src) := cn b1 (by simp)
  have d3 : w1.cell? ⟨w.heap.size, 3, none⟩ = some (.int .i16 off_) := cn b1 (by simp)
  have d4 : w1.cell? ⟨w.heap.size, 4, none⟩ = some (.int .i32 imm) := cn b1 (by simp)
  clear c0 c1 c2 c3 c4 b1 HT
  simp only [whV]
  go_wp2_with fail
  have X : Bx w (w1.alloc (.cells #[.int .i64 T.cls, .int .i64 T.op, .int .i64 T.size, .bool T.wide, .bool T.reg] 103)) := ⟨HZ.out, HB1.out.alloc HB1.out.size _⟩
  have e0 : (w1.alloc (.cells #[.int .i64 T.cls, .int .i64 T.op, .int .i64 T.size, .bool T.wide, .bool T.reg] 103)).cell? ⟨w1.heap.size, 0, none⟩ = some (.int .i64 T.cls) := by simp
  have e1 : (w1.alloc (.cells #[.int .i64 T.cls, .int .i64 T.op, .int .i64 T.size, .bool T.wide, .bool T.reg] 103)).cell? ⟨w1.heap.size, 1, none⟩ = some (.int .i64 T.op) := by simp
  have e2 : (w1.alloc (.cells #[.int .i64 T.cls, .int .i64 T.op, .int .i64 T.size, .bool T.wide, .bool T.reg] 103)).cell? ⟨w1.heap.size, 2, none⟩ = some (.int .i64 T.size) := by simp
  have e3 : (w1.alloc (.cells #[.int .i64 T.cls, .int .i64 T.op, .int .i64 T.size, .bool T.wide, .bool T.reg] 103)).cell? ⟨w1.heap.size, 3, none⟩ = some (.bool T.wide) := by simp
  have e4 : (w1.alloc (.cells #[.int .i64 T.cls, .int .i64 T.op, .int .i64 T.size, .bool T.wide, .bool T.reg] 103)).cell? ⟨w1.heap.size, 4, none⟩ = some (.bool T.reg) := by simp
  replace d0 := cna (.cells #[.int .i64 T.cls, .int .i64 T.op, .int .i64 T.size, .bool T.wide, .bool T.reg] 103) d0
  replace d1 := cna (.cells #[.int .i64 T.cls, .int .i64 T.op, .int .i64 T.size, .bool T.wide, .bool T.reg] 103) d1
  replace d2 := cna (.cells #[.int .i64 T.cls, .int .i64 T.op, .int .i64 T.size, .bool T.wide, .bool T.reg] 103) d2
  replace d3 := cna (.cells #[.int .i64 T.cls, .int .i64 T.op, .int .i64 T.size, .bool T.wide, .bool T.reg] 103) d3
  replace d4 := cna (.cells #[.int .i64 T.cls, .int .i64 T.op, .int .i64 T.size, .bool T.wide, .bool T.reg] 103) d4
  clear hz1 HB1
  generalize w1.alloc (.cells #[.int .i64 T.cls, .int .i64 T.op, .int .i64 T.size, .bool T.wide, .bool T.reg] 103) = wr at *
  generalize w1.heap.size = g1 at *
  first
  | (go_region_held3 (fun w' => w'.cell? ⟨w.heap.size, 0, none⟩ = some (.int .u8 op) ∧ w'.cell? ⟨w.heap.size, 1, none⟩ = some (.int .u8 dst) ∧ w'.cell? ⟨w.heap.size, 2, none⟩ = some (.int .u8 src) ∧ w'.cell? ⟨w.heap.size, 3, none⟩ = some (.int .i16 off_) ∧ w'.cell? ⟨w.heap.size, 4, none⟩ = some (.int .i32 imm) ∧ w'.cell? ⟨g1, 0, none⟩ = some (.int .i64 T.cls) ∧ w'.cell? ⟨g1, 1, none⟩ = some (.int .i64 T.op) ∧ w'.cell? ⟨g1, 2, none⟩ = some (.int .i64 T.size) ∧ w'.cell? ⟨g1, 3, none⟩ = some (.bool T.wide) ∧ w'.cell? ⟨g1, 4, none⟩ = some (.bool T.reg) ∧ Bx w w')
      (first | (go_split_ands; exact ⟨cn b9 (by assumption), cn b9 (by assumption), cn b9 (by assumption), cn b9 (by assumption), cn b9 (by assumption), cn b9 (by assumption), cn b9 (by assumption), cn b9 (by assumption), cn b9 (by assumption), cn b9 (by assumption), Bx.next b9 (by assumption)⟩) | exact ⟨cn (below_dr wr) d0, cn (below_dr wr) d1, cn (below_dr wr) d2, cn (below_dr wr) d3, cn (below_dr wr) d4, cn (below_dr wr) e0, cn (below_dr wr) e1, cn (below_dr wr) e2, cn (below_dr wr) e3, cn (below_dr wr) e4, Bx.next (below_dr wr) X⟩)
      (first | (go_at_call 101; go_split_ands; refine (HP.out _ (Bx.sz (by assumption))).mono ?_; rintro e w9 ⟨rfl, b9⟩) | (go_at_call 115; go_split_ands; refine (HW.out _ (show Bx w _ by assumption).2 _ _ HQ1.out).mono ?_; rintro e w9 ⟨rfl, b9⟩)))
  | fail
  go_split_ands
  go_wp2
  go_ret
  exact ⟨rfl, (show Bx w _ by go_split_ands; assumption).2⟩

set_option maxHeartbeats 1000000 in
theorem standing_qb (x : I5) (hx : x.ok) (r : Option I5) (maps : Int) (b off n cap : Nat) (w : World) (hz : SzOk w) (hn : 0 < n) (hcap : n ≤ cap) (hi : InsAt w b off x) (hr : NextAt w b off n r) (hE : (x.e != 0) = false) (hP : x.p = 2) (hB : wholeB x.t.cls r = true) (k1 : (x.t.cls == 11) = true) (k2 : decide (x.imm < 0) = false) (k3 : decide (maps ≤ x.imm) = true) :
    Calls Tryz.prog 74 #[.slice (some ⟨b, off, none⟩) n cap, .int .i64 maps] w fun e w' => e = .returned (.int .i64 26) ∧ Below w.heap.size w w' := by
  have hl := World.block_lt_of_cell? w _ hi.1
  have hbl : b < w.heap.size := hl
  have HT := hid fun W hW => of_I x hx W hW
  have HP := hid fun W hW => places_I x hx W hW
  have HW := hid fun W (hb : Below w.heap.size w W) C q (hq : 1 < n → q = some ⟨b, off + 5, none⟩) => whole_any x.t b off n C r W hn (hr.below hb hbl) q hq
  have HH := hid fun W => helper_is x.imm W
  generalize x.t = T at *
  generalize x.e = E at *
  rw [hP] at HP
  clear hP
  generalize wholeB T.cls r = B at *
  generalize helpB x.imm = G at *
  obtain ⟨c0, c1, c2, c3, c4⟩ := hi
  obtain ⟨op, dst, src, off_, imm⟩ := x
  unfold I5.V at HT HP
  dsimp only at *
  have HZ := hid hz
  obtain ⟨_, _, _, _, _, _, _, _, m0, m1⟩ := hx
  clear hz hr hl
  have hni : decide (0 < n) = true := by simpa using hn
  obtain ⟨q1, hq1, hsl⟩ := slice_from b off n cap 1 (by omega) hcap 1 rfl
  have HQ1 := hid hq1
  clear hq1
  go_enter Tryz.func74, Tryz.ntmps74
  go_wp2_with fail
  refine (HT.out _ (HZ.out.alloc _)).mono ?_
  rintro e w1 ⟨rfl, b1⟩
  have q0 : w.heap.size < w1.heap.size := by have := b1.size; simp at this; omega
  have HB1 := hid (((Below.refl w.heap.size w).alloc (Nat.le_refl _) (.cells #[.int .u8 op, .int .u8 dst, .int .u8 src, .int .i16 off_, .int .i32 imm] 24)).trans (b1.mono (by simp)))
  have hz1 := hid ((HZ.out.alloc _).below b1)
  have d0 : w1.cell? ⟨w.heap.size, 0, none⟩ = some (.int .u8 op) := cn b1 (by simp)
  have d1 : w1.cell? ⟨w.heap.size, 1, none⟩ = some (.int .u8 dst) := cn b1 (by simp)
  have d2 : w1.cell? ⟨w.heap.size, 2, none⟩ = some (.int .u8 src) := cn b1 (by simp)
  have d3 : w1.cell? ⟨w.heap.size, 3, none⟩ = some (.int .i16 off_) := cn b1 (by simp)
  have d4 : w1.cell? ⟨w.heap.size, 4, none⟩ = some (.int .i32 imm) := cn b1 (by simp)
  clear c0 c1 c2 c3 c4 b1 HT
  simp only [whV]
  go_wp2_with fail
  have X : Bx w (w1.alloc (.cells #[.int .i64 T.cls, .int .i64 T.op, .int .i64 T.size, .bool T.wide, .bool T.reg] 103)) := ⟨HZ.out, HB1.out.alloc HB1.out.size _⟩
  have e0 : (w1.alloc (.cells #[.int .i64 T.cls, .int .i64 T.op, .int .i64 T.size, .bool T.wide, .bool T.reg] 103)).cell? ⟨w1.heap.size, 0, none⟩ = some (.int .i64 T.cls) := by simp
  have e1 : (w1.alloc (.cells #[.int .i64 T.cls, .int .i64 T.op, .int .i64 T.size, .bool T.wide, .bool T.reg] 103)).cell? ⟨w1.heap.size, 1, none⟩ = some (.int .i64 T.op) := by simp
  have e2 : (w1.alloc (.cells #[.int .i64 T.cls, .int .i64 T.op, .int .i64 T.size, .bool T.wide, .bool T.reg] 103)).cell? ⟨w1.heap.size, 2, none⟩ = some (.int .i64 T.size) := by simp
  have e3 : (w1.alloc (.cells #[.int .i64 T.cls, .int .i64 T.op, .int .i64 T.size, .bool T.wide, .bool T.reg] 103)).cell? ⟨w1.heap.size, 3, none⟩ = some (.bool T.wide) := by simp
  have e4 : (w1.alloc (.cells #[.int .i64 T.cls, .int .i64 T.op, .int .i64 T.size, .bool T.wide, .bool T.reg] 103)).cell? ⟨w1.heap.size, 4, none⟩ = some (.bool T.reg) := by simp
  replace d0 := cna (.cells #[.int .i64 T.cls, .int .i64 T.op, .int .i64 T.size, .bool T.wide, .bool T.reg] 103) d0
  replace d1 := cna (.cells #[.int .i64 T.cls, .int .i64 T.op, .int .i64 T.size, .bool T.wide, .bool T.reg] 103) d1
  replace d2 := cna (.cells #[.int .i64 T.cls, .int .i64 T.op, .int .i64 T.size, .bool T.wide, .bool T.reg] 103) d2
  replace d3 := cna (.cells #[.int .i64 T.cls, .int .i64 T.op, .int .i64 T.size, .bool T.wide, .bool T.reg] 103) d3
  replace d4 := cna (.cells #[.int .i64 T.cls, .int .i64 T.op, .int .i64 T.size, .bool T.wide, .bool T.reg] 103) d4
  clear hz1 HB1
  generalize w1.alloc (.cells #[.int .i64 T.cls, .int .i64 T.op, .int .i64 T.size, .bool T.wide, .bool T.reg] 103) = wr at *
  generalize w1.heap.size = g1 at *
  first
  | (go_region_held3 (fun w' => w'.cell? ⟨w.heap.size, 0, none⟩ = some (.int .u8 op) ∧ w'.cell? ⟨w.heap.size, 1, none⟩ = some (.int .u8 dst) ∧ w'.cell? ⟨w.heap.size, 2, none⟩ = some (.int .u8 src) ∧ w'.cell? ⟨w.heap.size, 3, none⟩ = some (.int .i16 off_) ∧ w'.cell? ⟨w.heap.size, 4, none⟩ = some (.int .i32 imm) ∧ w'.cell? ⟨g1, 0, none⟩ = some (.int .i64 T.cls) ∧ w'.cell? ⟨g1, 1, none⟩ = some (.int .i64 T.op) ∧ w'.cell? ⟨g1, 2, none⟩ = some (.int .i64 T.size) ∧ w'.cell? ⟨g1, 3, none⟩ = some (.bool T.wide) ∧ w'.cell? ⟨g1, 4, none⟩ = some (.bool T.reg) ∧ Bx w w')
      (first | (go_split_ands; exact ⟨cn b9 (by assumption), cn b9 (by assumption), cn b9 (by assumption), cn b9 (by assumption), cn b9 (by assumption), cn b9 (by assumption), cn b9 (by assumption), cn b9 (by assumption), cn b9 (by assumption), cn b9 (by assumption), Bx.next b9 (by assumption)⟩) | exact ⟨cn (below_dr wr) d0, cn (below_dr wr) d1, cn (below_dr wr) d2, cn (below_dr wr) d3, cn (below_dr wr) d4, cn (below_dr wr) e0, cn (below_dr wr) e1, cn (below_dr wr) e2, cn (below_dr wr) e3, cn (below_dr wr) e4, Bx.next (below_dr wr) X⟩)
      (first | (go_at_call 101; go_split_ands; refine (HP.out _ (Bx.sz (by assumption))).mono ?_; rintro e w9 ⟨rfl, b9⟩) | (go_at_call 115; go_split_ands; refine (HW.out _ (show Bx w _ by assumption).2 _ _ HQ1.out).mono ?_; rintro e w9 ⟨rfl, b9⟩)))
  | fail
  go_split_ands
  go_wp2
  go_ret
  exact ⟨rfl, (show Bx w _ by go_split_ands; assumption).2⟩

set_option maxHeartbeats 1000000 in
theorem standing_qc (x : I5) (hx : x.ok) (r : Option I5) (maps : Int) (b off n cap : Nat) (w : World) (hz : SzOk w) (hn : 0 < n) (hcap : n ≤ cap) (hi : InsAt w b off x) (hr : NextAt w b off n r) (hE : (x.e != 0) = false) (hP : x.p = 2) (hB : wholeB x.t.cls r = true) (k1 : (x.t.cls == 11) = true) (k2 : decide (x.imm < 0) = false) (k3 : decide (maps ≤ x.imm) = false) (k4 : (x.t.cls == 8) = false) :
    Calls Tryz.prog 74 #[.slice (some ⟨b, off, none⟩) n cap, .int .i64 maps] w fun e w' => e = .returned (.int .i64 0) ∧ Below w.heap.size w w' := by
  have hl := World.block_lt_of_cell? w _ hi.1
  have hbl : b < w.heap.size := hl
  have HT := hid fun W hW => of_I x hx W hW
  have HP := hid fun W hW => places_I x hx W hW
  have HW := hid fun W (hb : Below w.heap.size w W) C q (hq : 1 < n → q = some ⟨b, off + 5, none⟩) => whole_any x.t b off n C r W hn (hr.below hb hbl) q hq
  have HH := hid fun W => helper_is x.imm W
  generalize x.t = T at *
  generalize x.e = E at *
  rw [hP] at HP
  clear hP
  generalize wholeB T.cls r = B at *
  generalize helpB x.imm = G at *
  obtain ⟨c0, c1, c2, c3, c4⟩ := hi
  obtain ⟨op, dst, src, off_, imm⟩ := x
  unfold I5.V at HT HP
  dsimp only at *
  have HZ := hid hz
  obtain ⟨_, _, _, _, _, _, _, _, m0, m1⟩ := hx
  clear hz hr hl
  have hni : decide (0 < n) = true := by simpa using hn
  obtain ⟨q1, hq1, hsl⟩ := slice_from b off n cap 1 (by omega) hcap 1 rfl
  have HQ1 := hid hq1
  clear hq1
  go_enter Tryz.func74, Tryz.ntmps74
  go_wp2_with fail
  refine (HT.out _ (HZ.out.alloc _)).mono ?_
  rintro e w1 ⟨rfl, b1⟩
  have q0 : w.heap.size < w1.heap.size := by have := b1.size; simp at this; omega
  have HB1 := hid (((Below.refl w.heap.size w).alloc (Nat.le_refl _) (.cells #[.int .u8 op, .int .u8 dst, .int .u8 src, .int .i16 off_, .int .i32 imm] 24)).trans (b1.mono (by simp)))
  have hz1 := hid ((HZ.out.alloc _).below b1)
  have d0 : w1.cell? ⟨w.heap.size, 0, none⟩ = some (.int .u8 op) := cn b1 (by simp)
  have d1 : w1.cell? ⟨w.heap.size, 1, none⟩ = some (.int .u8 dst) := cn b1 (by simp)
  have d2 : w1.cell? ⟨w.heap.size, 2, none⟩ = some (.int .u8 src) := cn b1 (by simp)
  have d3 : w1.cell? ⟨w.heap.size, 3, none⟩ = some (.int .i16 off_) := cn b1 (by simp)
  have d4 : w1.cell? ⟨w.heap.size, 4, none⟩ = some (.int .i32 imm) := cn b1 (by simp)
  clear c0 c1 c2 c3 c4 b1 HT
  simp only [whV]
  go_wp2_with fail
  have X : Bx w (w1.alloc (.cells #[.int .i64 T.cls, .int .i64 T.op, .int .i64 T.size, .bool T.wide, .bool T.reg] 103)) := ⟨HZ.out, HB1.out.alloc HB1.out.size _⟩
  have e0 : (w1.alloc (.cells #[.int .i64 T.cls, .int .i64 T.op, .int .i64 T.size, .bool T.wide, .bool T.reg] 103)).cell? ⟨w1.heap.size, 0, none⟩ = some (.int .i64 T.cls) := by simp
  have e1 : (w1.alloc (.cells #[.int .i64 T.cls, .int .i64 T.op, .int .i64 T.size, .bool T.wide, .bool T.reg] 103)).cell? ⟨w1.heap.size, 1, none⟩ = some (.int .i64 T.op) := by simp
  have e2 : (w1.alloc (.cells #[.int .i64 T.cls, .int .i64 T.op, .int .i64 T.size, .bool T.wide, .bool T.reg] 103)).cell? ⟨w1.heap.size, 2, none⟩ = some (.int .i64 T.size) := by simp
  have e3 : (w1.alloc (.cells #[.int .i64 T.cls, .int .i64 T.op, .int .i64 T.size, .bool T.wide, .bool T.reg] 103)).cell? ⟨w1.heap.size, 3, none⟩ = some (.bool T.wide) := by simp
  have e4 : (w1.alloc (.cells #[.int .i64 T.cls, .int .i64 T.op, .int .i64 T.size, .bool T.wide, .bool T.reg] 103)).cell? ⟨w1.heap.size, 4, none⟩ = some (.bool T.reg) := by simp
  replace d0 := cna (.cells #[.int .i64 T.cls, .int .i64 T.op, .int .i64 T.size, .bool T.wide, .bool T.reg] 103) d0
  replace d1 := cna (.cells #[.int .i64 T.cls, .int .i64 T.op, .int .i64 T.size, .bool T.wide, .bool T.reg] 103) d1
  replace d2 := cna (.cells #[.int .i64 T.cls, .int .i64 T.op, .int .i64 T.size, .bool T.wide, .bool T.reg] 103) d2
  replace d3 := cna (.cells #[.int .i64 T.cls, .int .i64 T.op, .int .i64 T.size, .bool T.wide, .bool T.reg] 103) d3
  replace d4 := cna (.cells #[.int .i64 T.cls, .int .i64 T.op, .int .i64 T.size, .bool T.wide, .bool T.reg] 103) d4
  clear hz1 HB1
  generalize w1.alloc (.cells #[.int .i64 T.cls, .int .i64 T.op, .int .i64 T.size, .bool T.wide, .bool T.reg] 103) = wr at *
  generalize w1.heap.size = g1 at *
  first
  | (go_region_held3 (fun w' => w'.cell? ⟨w.heap.size, 0, none⟩ = some (.int .u8 op) ∧ w'.cell? ⟨w.heap.size, 1, none⟩ = some (.int .u8 dst) ∧ w'.cell? ⟨w.heap.size, 2, none⟩ = some (.int .u8 src) ∧ w'.cell? ⟨w.heap.size, 3, none⟩ = some (.int .i16 off_) ∧ w'.cell? ⟨w.heap.size, 4, none⟩ = some (.int .i32 imm) ∧ w'.cell? ⟨g1, 0, none⟩ = some (.int .i64 T.cls) ∧ w'.cell? ⟨g1, 1, none⟩ = some (.int .i64 T.op) ∧ w'.cell? ⟨g1, 2, none⟩ = some (.int .i64 T.size) ∧ w'.cell? ⟨g1, 3, none⟩ = some (.bool T.wide) ∧ w'.cell? ⟨g1, 4, none⟩ = some (.bool T.reg) ∧ Bx w w')
      (first | (go_split_ands; exact ⟨cn b9 (by assumption), cn b9 (by assumption), cn b9 (by assumption), cn b9 (by assumption), cn b9 (by assumption), cn b9 (by assumption), cn b9 (by assumption), cn b9 (by assumption), cn b9 (by assumption), cn b9 (by assumption), Bx.next b9 (by assumption)⟩) | exact ⟨cn (below_dr wr) d0, cn (below_dr wr) d1, cn (below_dr wr) d2, cn (below_dr wr) d3, cn (below_dr wr) d4, cn (below_dr wr) e0, cn (below_dr wr) e1, cn (below_dr wr) e2, cn (below_dr wr) e3, cn (below_dr wr) e4, Bx.next (below_dr wr) X⟩)
      (first | (go_at_call 101; go_split_ands; refine (HP.out _ (Bx.sz (by assumption))).mono ?_; rintro e w9 ⟨rfl, b9⟩) | (go_at_call 115; go_split_ands; refine (HW.out _ (show Bx w _ by assumption).2 _ _ HQ1.out).mono ?_; rintro e w9 ⟨rfl, b9⟩)))
  | fail
  go_split_ands
  go_wp2
  go_ret
  exact ⟨rfl, (show Bx w _ by go_split_ands; assumption).2⟩

set_option maxHeartbeats 1000000 in
theorem standing_qd (x : I5) (hx : x.ok) (r : Option I5) (maps : Int) (b off n cap : Nat) (w : World) (hz : SzOk w) (hn : 0 < n) (hcap : n ≤ cap) (hi : InsAt w b off x) (hr : NextAt w b off n r) (hE : (x.e != 0) = false) (hP : x.p = 2) (hB : wholeB x.t.cls r = true) (k1 : (x.t.cls == 11) = false) (k4 : (x.t.cls == 8) = true) (k5 : helpB x.imm = false) :
    Calls Tryz.prog 74 #[.slice (some ⟨b, off, none⟩) n cap, .int .i64 maps] w fun e w' => e = .returned (.int .i64 27) ∧ Below w.heap.size w w' := by
  have hl := World.block_lt_of_cell? w _ hi.1
  have hbl : b < w.heap.size := hl
  have HT := hid fun W hW => of_I x hx W hW
  have HP := hid fun W hW => places_I x hx W hW
  have HW := hid fun W (hb : Below w.heap.size w W) C q (hq : 1 < n → q = some ⟨b, off + 5, none⟩) => whole_any x.t b off n C r W hn (hr.below hb hbl) q hq
  have HH := hid fun W => helper_is x.imm W
  generalize x.t = T at *
  generalize x.e = E at *
  rw [hP] at HP
  clear hP
  generalize wholeB T.cls r = B at *
  generalize helpB x.imm = G at *
  obtain ⟨c0, c1, c2, c3, c4⟩ := hi
  obtain ⟨op, dst, src, off_, imm⟩ := x
  unfold I5.V at HT HP
  dsimp only at *
  have HZ := hid hz
  obtain ⟨_, _, _, _, _, _, _, _, m0, m1⟩ := hx
  clear hz hr hl
  have hni : decide (0 < n) = true := by simpa using hn
  obtain ⟨q1, hq1, hsl⟩ := slice_from b off n cap 1 (by omega) hcap 1 rfl
  have HQ1 := hid hq1
  clear hq1
  go_enter Tryz.func74, Tryz.ntmps74
  go_wp2_with fail
  refine (HT.out _ (HZ.out.alloc _)).mono ?_
  rintro e w1 ⟨rfl, b1⟩
  have q0 : w.heap.size < w1.heap.size := by have := b1.size; simp at this; omega
  have HB1 := hid (((Below.refl w.heap.size w).alloc (Nat.le_refl _) (.cells #[.int .u8 op, .int .u8 dst, .int .u8 src, .int .i16 off_, .int .i32 imm] 24)).trans (b1.mono (by simp)))
  have hz1 := hid ((HZ.out.alloc _).below b1)
  have d0 : w1.cell? ⟨w.heap.size, 0, none⟩ = some (.int .u8 op) := cn b1 (by simp)
  have d1 : w1.cell? ⟨w.heap.size, 1, none⟩ = some (.int .u8 dst) := cn b1 (by simp)
  have d2 : w1.cell? ⟨w.heap.size, 2, none⟩ = some (.int .u8 src) := cn b1 (by simp)
  have d3 : w1.cell? ⟨w.heap.size, 3, none⟩ = some (.int .i16 off_) := cn b1 (by simp)
  have d4 : w1.cell? ⟨w.heap.size, 4, none⟩ = some (.int .i32 imm) := cn b1 (by simp)
  clear c0 c1 c2 c3 c4 b1 HT
  simp only [whV]
  go_wp2_with fail
  have X : Bx w (w1.alloc (.cells #[.int .i64 T.cls, .int .i64 T.op, .int .i64 T.size, .bool T.wide, .bool T.reg] 103)) := ⟨HZ.out, HB1.out.alloc HB1.out.size _⟩
  have e0 : (w1.alloc (.cells #[.int .i64 T.cls, .int .i64 T.op, .int .i64 T.size, .bool T.wide, .bool T.reg] 103)).cell? ⟨w1.heap.size, 0, none⟩ = some (.int .i64 T.cls) := by simp
  have e1 : (w1.alloc (.cells #[.int .i64 T.cls, .int .i64 T.op, .int .i64 T.size, .bool T.wide, .bool T.reg] 103)).cell? ⟨w1.heap.size, 1, none⟩ = some (.int .i64 T.op) := by simp
  have e2 : (w1.alloc (.cells #[.int .i64 T.cls, .int .i64 T.op, .int .i64 T.size, .bool T.wide, .bool T.reg] 103)).cell? ⟨w1.heap.size, 2, none⟩ = some (.int .i64 T.size) := by simp
  have e3 : (w1.alloc (.cells #[.int .i64 T.cls, .int .i64 T.op, .int .i64 T.size, .bool T.wide, .bool T.reg] 103)).cell? ⟨w1.heap.size, 3, none⟩ = some (.bool T.wide) := by simp
  have e4 : (w1.alloc (.cells #[.int .i64 T.cls, .int .i64 T.op, .int .i64 T.size, .bool T.wide, .bool T.reg] 103)).cell? ⟨w1.heap.size, 4, none⟩ = some (.bool T.reg) := by simp
  replace d0 := cna (.cells #[.int .i64 T.cls, .int .i64 T.op, .int .i64 T.size, .bool T.wide, .bool T.reg] 103) d0
  replace d1 := cna (.cells #[.int .i64 T.cls, .int .i64 T.op, .int .i64 T.size, .bool T.wide, .bool T.reg] 103) d1
  replace d2 := cna (.cells #[.int .i64 T.cls, .int .i64 T.op, .int .i64 T.size, .bool T.wide, .bool T.reg] 103) d2
  replace d3 := cna (.cells #[.int .i64 T.cls, .int .i64 T.op, .int .i64 T.size, .bool T.wide, .bool T.reg] 103) d3
  replace d4 := cna (.cells #[.int .i64 T.cls, .int .i64 T.op, .int .i64 T.size, .bool T.wide, .bool T.reg] 103) d4
  clear hz1 HB1
  generalize w1.alloc (.cells #[.int .i64 T.cls, .int .i64 T.op, .int .i64 T.size, .bool T.wide, .bool T.reg] 103) = wr at *
  generalize w1.heap.size = g1 at *
  first
  | (go_region_held3 (fun w' => w'.cell? ⟨w.heap.size, 0, none⟩ = some (.int .u8 op) ∧ w'.cell? ⟨w.heap.size, 1, none⟩ = some (.int .u8 dst) ∧ w'.cell? ⟨w.heap.size, 2, none⟩ = some (.int .u8 src) ∧ w'.cell? ⟨w.heap.size, 3, none⟩ = some (.int .i16 off_) ∧ w'.cell? ⟨w.heap.size, 4, none⟩ = some (.int .i32 imm) ∧ w'.cell? ⟨g1, 0, none⟩ = some (.int .i64 T.cls) ∧ w'.cell? ⟨g1, 1, none⟩ = some (.int .i64 T.op) ∧ w'.cell? ⟨g1, 2, none⟩ = some (.int .i64 T.size) ∧ w'.cell? ⟨g1, 3, none⟩ = some (.bool T.wide) ∧ w'.cell? ⟨g1, 4, none⟩ = some (.bool T.reg) ∧ Bx w w')
      (first | (go_split_ands; exact ⟨cn b9 (by assumption), cn b9 (by assumption), cn b9 (by assumption), cn b9 (by assumption), cn b9 (by assumption), cn b9 (by assumption), cn b9 (by assumption), cn b9 (by assumption), cn b9 (by assumption), cn b9 (by assumption), Bx.next b9 (by assumption)⟩) | exact ⟨cn (below_dr wr) d0, cn (below_dr wr) d1, cn (below_dr wr) d2, cn (below_dr wr) d3, cn (below_dr wr) d4, cn (below_dr wr) e0, cn (below_dr wr) e1, cn (below_dr wr) e2, cn (below_dr wr) e3, cn (below_dr wr) e4, Bx.next (below_dr wr) X⟩)
      (first | (go_at_call 101; go_split_ands; refine (HP.out _ (Bx.sz (by assumption))).mono ?_; rintro e w9 ⟨rfl, b9⟩) | (go_at_call 115; go_split_ands; refine (HW.out _ (show Bx w _ by assumption).2 _ _ HQ1.out).mono ?_; rintro e w9 ⟨rfl, b9⟩)))
  | fail
  go_split_ands
  go_wp2_with fail
  refine (HH.out _).mono ?_
  rintro e w' ⟨rfl, rfl⟩
  go_wp2
  go_ret
  exact ⟨rfl, (show Bx w _ by go_split_ands; assumption).2⟩

set_option maxHeartbeats 1000000 in
theorem standing_qf (x : I5) (hx : x.ok) (r : Option I5) (maps : Int) (b off n cap : Nat) (w : World) (hz : SzOk w) (hn : 0 < n) (hcap : n ≤ cap) (hi : InsAt w b off x) (hr : NextAt w b off n r) (hE : (x.e != 0) = false) (hP : x.p = 2) (hB : wholeB x.t.cls r = true) (k1 : (x.t.cls == 11) = false) (k4 : (x.t.cls == 8) = true) (k5 : helpB x.imm = true) :
    Calls Tryz.prog 74 #[.slice (some ⟨b, off, none⟩) n cap, .int .i64 maps] w fun e w' => e = .returned (.int .i64 0) ∧ Below w.heap.size w w' := by
  have hl := World.block_lt_of_cell? w _ hi.1
  have hbl : b < w.heap.size := hl
  have HT := hid fun W hW => of_I x hx W hW
  have HP := hid fun W hW => places_I x hx W hW
  have HW := hid fun W (hb : Below w.heap.size w W) C q (hq : 1 < n → q = some ⟨b, off + 5, none⟩) => whole_any x.t b off n C r W hn (hr.below hb hbl) q hq
  have HH := hid fun W => helper_is x.imm W
  generalize x.t = T at *
  generalize x.e = E at *
  rw [hP] at HP
  clear hP
  generalize wholeB T.cls r = B at *
  generalize helpB x.imm = G at *
  obtain ⟨c0, c1, c2, c3, c4⟩ := hi
  obtain ⟨op, dst, src, off_, imm⟩ := x
  unfold I5.V at HT HP
  dsimp only at *
  have HZ := hid hz
  obtain ⟨_, _, _, _, _, _, _, _, m0, m1⟩ := hx
  clear hz hr hl
  have hni : decide (0 < n) = true := by simpa using hn
  obtain ⟨q1, hq1, hsl⟩ := slice_from b off n cap 1 (by omega) hcap 1 rfl
  have HQ1 := hid hq1
  clear hq1
  go_enter Tryz.func74, Tryz.ntmps74
  go_wp2_with fail
  refine (HT.out _ (HZ.out.alloc _)).mono ?_
  rintro e w1 ⟨rfl, b1⟩
  have q0 : w.heap.size < w1.heap.size := by have := b1.size; simp at this; omega
  have HB1 := hid (((Below.refl w.heap.size w).alloc (Nat.le_refl _) (.cells #[.int .u8 op, .int .u8 dst, .int .u8 src, .int .i16 off_, .int .i32 imm] 24)).trans (b1.mono (by simp)))
  have hz1 := hid ((HZ.out.alloc _).below b1)
  have d0 : w1.cell? ⟨w.heap.size, 0, none⟩ = some (.int .u8 op) := cn b1 (by simp)
  have d1 : w1.cell? ⟨w.heap.size, 1, none⟩ = some (.int .u8 dst) := cn b1 (by simp)
  have d2 : w1.cell? ⟨w.heap.size, 2, none⟩ = some (.int .u8 src) := cn b1 (by simp)
  have d3 : w1.cell? ⟨w.heap.size, 3, none⟩ = some (.int .i16 off_) := cn b1 (by simp)
  have d4 : w1.cell? ⟨w.heap.size, 4, none⟩ = some (.int .i32 imm) := cn b1 (by simp)
  clear c0 c1 c2 c3 c4 b1 HT
  simp only [whV]
  go_wp2_with fail
  have X : Bx w (w1.alloc (.cells #[.int .i64 T.cls, .int .i64 T.op, .int .i64 T.size, .bool T.wide, .bool T.reg] 103)) := ⟨HZ.out, HB1.out.alloc HB1.out.size _⟩
  have e0 : (w1.alloc (.cells #[.int .i64 T.cls, .int .i64 T.op, .int .i64 T.size, .bool T.wide, .bool T.reg] 103)).cell? ⟨w1.heap.size, 0, none⟩ = some (.int .i64 T.cls) := by simp
  have e1 : (w1.alloc (.cells #[.int .i64 T.cls, .int .i64 T.op, .int .i64 T.size, .bool T.wide, .bool T.reg] 103)).cell? ⟨w1.heap.size, 1, none⟩ = some (.int .i64 T.op) := by simp
  have e2 : (w1.alloc (.cells #[.int .i64 T.cls, .int .i64 T.op, .int .i64 T.size, .bool T.wide, .bool T.reg] 103)).cell? ⟨w1.heap.size, 2, none⟩ = some (.int .i64 T.size) := by simp
  have e3 : (w1.alloc (.cells #[.int .i64 T.cls, .int .i64 T.op, .int .i64 T.size, .bool T.wide, .bool T.reg] 103)).cell? ⟨w1.heap.size, 3, none⟩ = some (.bool T.wide) := by simp
  have e4 : (w1.alloc (.cells #[.int .i64 T.cls, .int .i64 T.op, .int .i64 T.size, .bool T.wide, .bool T.reg] 103)).cell? ⟨w1.heap.size, 4, none⟩ = some (.bool T.reg) := by simp
  replace d0 := cna (.cells #[.int .i64 T.cls, .int .i64 T.op, .int .i64 T.size, .bool T.wide, .bool T.reg] 103) d0
  replace d1 := cna (.cells #[.int .i64 T.cls, .int .i64 T.op, .int .i64 T.size, .bool T.wide, .bool T.reg] 103) d1
  replace d2 := cna (.cells #[.int .i64 T.cls, .int .i64 T.op, .int .i64 T.size, .bool T.wide, .bool T.reg] 103) d2
  replace d3 := cna (.cells #[.int .i64 T.cls, .int .i64 T.op, .int .i64 T.size, .bool T.wide, .bool T.reg] 103) d3
  replace d4 := cna (.cells #[.int .i64 T.cls, .int .i64 T.op, .int .i64 T.size, .bool T.wide, .bool T.reg] 103) d4
  clear hz1 HB1
  generalize w1.alloc (.cells #[.int .i64 T.cls, .int .i64 T.op, .int .i64 T.size, .bool T.wide, .bool T.reg] 103) = wr at *
  generalize w1.heap.size = g1 at *
  first
  | (go_region_held3 (fun w' => w'.cell? ⟨w.heap.size, 0, none⟩ = some (.int .u8 op) ∧ w'.cell? ⟨w.heap.size, 1, none⟩ = some (.int .u8 dst) ∧ w'.cell? ⟨w.heap.size, 2, none⟩ = some (.int .u8 src) ∧ w'.cell? ⟨w.heap.size, 3, none⟩ = some (.int .i16 off_) ∧ w'.cell? ⟨w.heap.size, 4, none⟩ = some (.int .i32 imm) ∧ w'.cell? ⟨g1, 0, none⟩ = some (.int .i64 T.cls) ∧ w'.cell? ⟨g1, 1, none⟩ = some (.int .i64 T.op) ∧ w'.cell? ⟨g1, 2, none⟩ = some (.int .i64 T.size) ∧ w'.cell? ⟨g1, 3, none⟩ = some (.bool T.wide) ∧ w'.cell? ⟨g1, 4, none⟩ = some (.bool T.reg) ∧ Bx w w')
      (first | (go_split_ands; exact ⟨cn b9 (by assumption), cn b9 (by assumption), cn b9 (by assumption), cn b9 (by assumption), cn b9 (by assumption), cn b9 (by assumption), cn b9 (by assumption), cn b9 (by assumption), cn b9 (by assumption), cn b9 (by assumption), Bx.next b9 (by assumption)⟩) | exact ⟨cn (below_dr wr) d0, cn (below_dr wr) d1, cn (below_dr wr) d2, cn (below_dr wr) d3, cn (below_dr wr) d4, cn (below_dr wr) e0, cn (below_dr wr) e1, cn (below_dr wr) e2, cn (below_dr wr) e3, cn (below_dr wr) e4, Bx.next (below_dr wr) X⟩)
      (first | (go_at_call 101; go_split_ands; refine (HP.out _ (Bx.sz (by assumption))).mono ?_; rintro e w9 ⟨rfl, b9⟩) | (go_at_call 115; go_split_ands; refine (HW.out _ (show Bx w _ by assumption).2 _ _ HQ1.out).mono ?_; rintro e w9 ⟨rfl, b9⟩)))
  | fail
  go_split_ands
  go_wp2_with fail
  refine (HH.out _).mono ?_
  rintro e w' ⟨rfl, rfl⟩
  go_wp2
  go_ret
  exact ⟨rfl, (show Bx w _ by go_split_ands; assumption).2⟩

set_option maxHeartbeats 1000000 in
theorem standing_qg (x : I5) (hx : x.ok) (r : Option I5) (maps : Int) (b off n cap : Nat) (w : World) (hz : SzOk w) (hn : 0 < n) (hcap : n ≤ cap) (hi : InsAt w b off x) (hr : NextAt w b off n r) (hE : (x.e != 0) = false) (hP : x.p = 2) (hB : wholeB x.t.cls r = true) (k1 : (x.t.cls == 11) = false) (k4 : (x.t.cls == 8) = false) :
    Calls Tryz.prog 74 #[.slice (some ⟨b, off, none⟩) n cap, .int .i64 maps] w fun e w' => e = .returned (.int .i64 0) ∧ Below w.heap.size w w' := by
  have hl := World.block_lt_of_cell? w _ hi.1
  have hbl : b < w.heap.size := hl
  have HT := hid fun W hW => of_I x hx W hW
  have HP := hid fun W hW => places_I x hx W hW
  have HW := hid fun W (hb : Below w.heap.size w W) C q (hq : 1 < n → q = some ⟨b, off + 5, none⟩) => whole_any x.t b off n C r W hn (hr.below hb hbl) q hq
  have HH := hid fun W => helper_is x.imm W
  generalize x.t = T at *
  generalize x.e = E at *
  rw [hP] at HP
  clear hP
  generalize wholeB T.cls r = B at *
  generalize helpB x.imm = G at *
  obtain ⟨c0, c1, c2, c3, c4⟩ := hi
  obtain ⟨op, dst, src, off_, imm⟩ := x
  unfold I5.V at HT HP
  dsimp only at *
  have HZ := hid hz
  obtain ⟨_, _, _, _, _, _, _, _, m0, m1⟩ := hx
  clear hz hr hl
  have hni : decide (0 < n) = true := by simpa using hn
  obtain ⟨q1, hq1, hsl⟩ := slice_from b off n cap 1 (by omega) hcap 1 rfl
  have HQ1 := hid hq1
  clear hq1
  go_enter Tryz.func74, Tryz.ntmps74
  go_wp2_with fail
  refine (HT.out _ (HZ.out.alloc _)).mono ?_
  rintro e w1 ⟨rfl, b1⟩
  have q0 : w.heap.size < w1.heap.size := by have := b1.size; simp at this; omega
  have HB1 := hid (((Below.refl w.heap.size w).alloc (Nat.le_refl _) (.cells #[.int .u8 op, .int .u8 dst, .int .u8 src, .int .i16 off_, .int .i32 imm] 24)).trans (b1.mono (by simp)))
  have hz1 := hid ((HZ.out.alloc _).below b1)
  have d0 : w1.cell? ⟨w.heap.size, 0, none⟩ = some (.int .u8 op) := cn b1 (by simp)
  have d1 : w1.cell? ⟨w.heap.size, 1, none⟩ = some (.int .u8 dst) := cn b1 (by simp)
  have d2 : w1.cell? ⟨w.heap.size, 2, none⟩ = some (.int .u8 src) := cn b1 (by simp)
  have d3 : w1.cell? ⟨w.heap.size, 3, none⟩ = some (.int .i16 off_) := cn b1 (by simp)
  have d4 : w1.cell? ⟨w.heap.size, 4, none⟩ = some (.int .i32 imm) := cn b1 (by simp)
  clear c0 c1 c2 c3 c4 b1 HT
  simp only [whV]
  go_wp2_with fail
  have X : Bx w (w1.alloc (.cells #[.int .i64 T.cls, .int .i64 T.op, .int .i64 T.size, .bool T.wide, .bool T.reg] 103)) := ⟨HZ.out, HB1.out.alloc HB1.out.size _⟩
  have e0 : (w1.alloc (.cells #[.int .i64 T.cls, .int .i64 T.op, .int .i64 T.size, .bool T.wide, .bool T.reg] 103)).cell? ⟨w1.heap.size, 0, none⟩ = some (.int .i64 T.cls) := by simp
  have e1 : (w1.alloc (.cells #[.int .i64 T.cls, .int .i64 T.op, .int .i64 T.size, .bool T.wide, .bool T.reg] 103)).cell? ⟨w1.heap.size, 1, none⟩ = some (.int .i64 T.op) := by simp
  have e2 : (w1.alloc (.cells #[.int .i64 T.cls, .int .i64 T.op, .int .i64 T.size, .bool T.wide, .bool T.reg] 103)).cell? ⟨w1.heap.size, 2, none⟩ = some (.int .i64 T.size) := by simp
  have e3 : (w1.alloc (.cells #[.int .i64 T.cls, .int .i64 T.op, .int .i64 T.size, .bool T.wide, .bool T.reg] 103)).cell? ⟨w1.heap.size, 3, none⟩ = some (.bool T.wide) := by simp
  have e4 : (w1.alloc (.cells #[.int .i64 T.cls, .int .i64 T.op, .int .i64 T.size, .bool T.wide, .bool T.reg] 103)).cell? ⟨w1.heap.size, 4, none⟩ = some (.bool T.reg) := by simp
  replace d0 := cna (.cells #[.int .i64 T.cls, .int .i64 T.op, .int .i64 T.size, .bool T.wide, .bool T.reg] 103) d0
  replace d1 := cna (.cells #[.int .i64 T.cls, .int .i64 T.op, .int .i64 T.size, .bool T.wide, .bool T.reg] 103) d1
  replace d2 := cna (.cells #[.int .i64 T.cls, .int .i64 T.op, .int .i64 T.size, .bool T.wide, .bool T.reg] 103) d2
  replace d3 := cna (.cells #[.int .i64 T.cls, .int .i64 T.op, .int .i64 T.size, .bool T.wide, .bool T.reg] 103) d3
  replace d4 := cna (.cells #[.int .i64 T.cls, .int .i64 T.op, .int .i64 T.size, .bool T.wide, .bool T.reg] 103) d4
  clear hz1 HB1
  generalize w1.alloc (.cells #[.int .i64 T.cls, .int .i64 T.op, .int .i64 T.size, .bool T.wide, .bool T.reg] 103) = wr at *
  generalize w1.heap.size = g1 at *
  first
  | (go_region_held3 (fun w' => w'.cell? ⟨w.heap.size, 0, none⟩ = some (.int .u8 op) ∧ w'.cell? ⟨w.heap.size, 1, none⟩ = some (.int .u8 dst) ∧ w'.cell? ⟨w.heap.size, 2, none⟩ = some (.int .u8 src) ∧ w'.cell? ⟨w.heap.size, 3, none⟩ = some (.int .i16 off_) ∧ w'.cell? ⟨w.heap.size, 4, none⟩ = some (.int .i32 imm) ∧ w'.cell? ⟨g1, 0, none⟩ = some (.int .i64 T.cls) ∧ w'.cell? ⟨g1, 1, none⟩ = some (.int .i64 T.op) ∧ w'.cell? ⟨g1, 2, none⟩ = some (.int .i64 T.size) ∧ w'.cell? ⟨g1, 3, none⟩ = some (.bool T.wide) ∧ w'.cell? ⟨g1, 4, none⟩ = some (.bool T.reg) ∧ Bx w w')
      (first | (go_split_ands; exact ⟨cn b9 (by assumption), cn b9 (by assumption), cn b9 (by assumption), cn b9 (by assumption), cn b9 (by assumption), cn b9 (by assumption), cn b9 (by assumption), cn b9 (by assumption), cn b9 (by assumption), cn b9 (by assumption), Bx.next b9 (by assumption)⟩) | exact ⟨cn (below_dr wr) d0, cn (below_dr wr) d1, cn (below_dr wr) d2, cn (below_dr wr) d3, cn (below_dr wr) d4, cn (below_dr wr) e0, cn (below_dr wr) e1, cn (below_dr wr) e2, cn (below_dr wr) e3, cn (below_dr wr) e4, Bx.next (below_dr wr) X⟩)
      (first | (go_at_call 101; go_split_ands; refine (HP.out _ (Bx.sz (by assumption))).mono ?_; rintro e w9 ⟨rfl, b9⟩) | (go_at_call 115; go_split_ands; refine (HW.out _ (show Bx w _ by assumption).2 _ _ HQ1.out).mono ?_; rintro e w9 ⟨rfl, b9⟩)))
  | fail
  go_split_ands
  go_wp2
  go_ret
  exact ⟨rfl, (show Bx w _ by go_split_ands; assumption).2⟩

end Go.Proofs.YtjcnpjidkimldaaGreatDoor.Is
