/-
  The laws' own small functions of layer 4: exit, right, awake; code that the call itself lays.
-/
import Derived.Test.YtdnkikgfiganaaaDoorShK
namespace Go.Proofs.YtdnkikgfiganaaaDoor
set_option linter.unusedSimpArgs false
set_option linter.unusedVariables false
open Go.ChangeShapes Go.WideShapes Go.ChangeAt Go.RowKit

def cellsI (x : I5) : List Value := [.int .u8 x.op, .int .u8 x.dst, .int .u8 x.src, .int .i16 x.off, .int .i32 x.imm]
theorem flat5_get (c : List I5) (j : Nat) (hj : j < c.length) (i : Nat) (hi : i < 5) : (c.flatMap cellsI)[j * 5 + i]? = (cellsI (at5 c j))[i]? := by
  induction c generalizing j with
  | nil => exact absurd hj (by simp)
  | cons x c ih =>
    rw [List.flatMap_cons]
    cases j with
    | zero =>
      rw [List.getElem?_append_left (by simp [cellsI]; omega)]
      simp [at5]
    | succ j =>
      rw [List.getElem?_append_right (by simp [cellsI]; omega)]
      rw [show (j + 1) * 5 + i - (cellsI x).length = j * 5 + i by simp [cellsI]; omega, ih j (by simpa using hj)]
      simp [at5]
theorem ins_new (w : World) (c : List I5) (t : TypeId) (cells : Array Value) (h : cells = (c.flatMap cellsI).toArray) (j : Nat) (hj : j < c.length) : InsAt (w.alloc (.cells cells t)) w.heap.size (0 + j * 5) (at5 c j) := by
  subst h
  have hc : ∀ i, i < 5 → (w.alloc (.cells (c.flatMap cellsI).toArray t)).cell? ⟨w.heap.size, 0 + j * 5 + i, none⟩ = (cellsI (at5 c j))[i]? := by
    intro i hi
    unfold World.cell?
    dsimp only
    rw [heap_alloc_new]
    show ((c.flatMap cellsI).toArray)[0 + j * 5 + i]? = _
    rw [List.getElem?_toArray, Nat.zero_add, flat5_get c j hj i hi]
  exact ⟨hc 0 (by omega), hc 1 (by omega), hc 2 (by omega), hc 3 (by omega), hc 4 (by omega)⟩
theorem cd_new (w : World) (c : List I5) (t : TypeId) (cells : Array Value) (h : cells = (c.flatMap cellsI).toArray) (hok : CdOk c) (hl : c.length < 1000) : CdSl (w.alloc (.cells cells t)).heap.size (w.alloc (.cells cells t)) (some ⟨w.heap.size, 0, none⟩) c.length c :=
  ⟨rfl, hok, by omega, .inr ⟨w.heap.size, 0, rfl, by simp, fun j hj => ins_new w c t cells h j hj⟩⟩
theorem mp_nil (n : Nat) (w : World) : MpSl n w none 0 [] := ⟨rfl, by decide, .inl rfl⟩
theorem cd_nil (n : Nat) (w : World) : CdSl n w none 0 [] := ⟨rfl, (fun x h => by cases h), by decide, .inl rfl⟩

def xI : I5 := ⟨149, 0, 0, 0, 0⟩
theorem exit_is (w : World) : Calls Tryd.prog 20 #[] w fun e w' => e = .returned (.agg #[.int .u8 149, .int .u8 0, .int .u8 0, .int .i16 0, .int .i32 0]) ∧ Below w.heap.size w w' := by
  go_enter Tryd.func20, Tryd.ntmps20
  go_wp2
  exact bodyPost_ret (v := .agg #[.int .u8 149, .int .u8 0, .int .u8 0, .int .i16 0, .int .i32 0]) (by simp [results, Tryd.results20, go_sem]; try rfl) rfl ⟨rfl, (Below.refl _ _).alloc (Nat.le_refl _) _⟩

/-- Check at code that lies in a block of the call's own. -/
theorem check_new (c : List I5) (r : Int × Int) (hr : chkI [] c = r) (b : Nat) (n cap : Nat) (w : World) (hz : SzOk w) (hn : c.length = n) (hc : n ≤ cap) (hs : CdSl w.heap.size w (some ⟨b, 0, none⟩) n c) :
    Calls Tryd.prog 15 #[.agg #[.slice none 0 0, .slice (some ⟨b, 0, none⟩) n cap]] w fun e w' => e = .returned (.tuple #[.int .i64 r.1, .int .i64 r.2]) ∧ Below w.heap.size w w' := by
  subst hr
  subst hn
  exact check_any none (some ⟨b, 0, none⟩) 0 cap [] c w hz (mp_nil _ _) hs hc
theorem right_I (pm pc : Option Addr) (cm cc n m : Nat) (l : List M4) (c : List I5) (w : World) (hz : SzOk w) (hml : MpSl w.heap.size w pm m l) (hsl : CdSl w.heap.size w pc n c) (hcap : n ≤ cc) :
    Calls Tryd.prog 19 #[.agg #[.slice pm m cm, .slice pc n cc]] w fun e w' => e = .returned (.bool ((chkI l c).2 == 0)) ∧ Below w.heap.size w w' := by
  obtain rfl := hml.1
  obtain rfl := hsl.1
  have HC := hid fun W (hb : Below w.heap.size w W) => check_any pm pc cm cc l c W (hz.below hb) ((hml.kept hb (Nat.le_refl _)).wide hb.size) ((hsl.kept hb (Nat.le_refl _)).wide hb.size) hcap
  clear hz hml hsl
  generalize chkI l c = r at *
  obtain ⟨r1, r2⟩ := r
  dsimp only at *
  go_enter Tryd.func19, Tryd.ntmps19
  go_wp2_with fail
  refine (HC.out _ ((Below.refl _ w).alloc (Nat.le_refl _) _)).mono ?_
  rintro e w1 ⟨rfl, b1⟩
  have hb1 := hid (((Below.refl w.heap.size w).alloc (Nat.le_refl _) (.cells #[.slice pm l.length cm, .slice pc c.length cc] 25)).trans (b1.mono (by simp)))
  clear b1
  go_wp2
  go_ret
  exact ⟨rfl, hb1.out⟩

def c1 : List I5 := [⟨24, 0, 0, 0, 0⟩, zI, xI]
def c2 : List I5 := [⟨7, 0, 0, 0, 0⟩, ⟨7, 0, 0, 0, 0⟩]
theorem c1_ok : CdOk c1 := by
  intro x hx
  simp only [c1, List.mem_cons, List.not_mem_nil, or_false] at hx
  rcases hx with rfl | rfl | rfl <;> (unfold I5.ok; decide)
theorem c2_ok : CdOk c2 := by
  intro x hx
  simp only [c2, List.mem_cons, List.not_mem_nil, or_false] at hx
  rcases hx with rfl | rfl <;> (unfold I5.ok; decide)
set_option maxHeartbeats 1000000 in
theorem awake_any (w : World) (hz : SzOk w) : Calls Tryd.prog 17 #[] w fun e w' => e = .returned (.bool true) ∧ Below w.heap.size w w' := by
  have HZ := hid hz
  have k1 := hid (show chkI [] c1 = (0, 0) by kernel_rfl)
  have k2 := hid (show chkI [] [] = (0, 4) by kernel_rfl)
  have k3 := hid (show chkI [] c2 = (1, 25) by kernel_rfl)
  clear hz
  go_enter Tryd.func17, Tryd.ntmps17
  go_wp2_with fail
  refine (exit_is _).mono ?_
  rintro e w1 ⟨rfl, b1⟩
  have HB1 := hid b1
  clear b1
  go_wp2_with fail
  refine (check_new c1 (0, 0) k1.out _ 3 3 _ ((HZ.out.below HB1.out).alloc _) rfl (by decide) (cd_new w1 c1 _ _ rfl c1_ok (by decide))).mono ?_
  rintro e w2 ⟨rfl, b2⟩
  have HB2 := hid (below_next HB1.out (((Below.refl w1.heap.size w1).alloc (Nat.le_refl _) (.cells #[.int .u8 24, .int .u8 0, .int .u8 0, .int .i16 0, .int .i32 0, .int .u8 0, .int .u8 0, .int .u8 0, .int .i16 0, .int .i32 0, .int .u8 149, .int .u8 0, .int .u8 0, .int .i16 0, .int .i32 0] 37)).trans (b2.mono (by simp))))
  clear b2 HB1
  go_wp2_with fail
  refine (check_any none none 0 0 [] [] w2 (HZ.out.below HB2.out) (mp_nil _ _) (cd_nil _ _) (by decide)).mono ?_
  rw [k2.out]
  rintro e w3 ⟨rfl, b3⟩
  have HB3 := hid (below_next HB2.out b3)
  clear b3 HB2
  go_wp2_with fail
  refine (check_new c2 (1, 25) k3.out _ 2 2 _ ((HZ.out.below HB3.out).alloc _) rfl (by decide) (cd_new w3 c2 _ _ rfl c2_ok (by decide))).mono ?_
  rintro e w4 ⟨rfl, b4⟩
  have HB4 := hid (below_next HB3.out (((Below.refl w3.heap.size w3).alloc (Nat.le_refl _) (.cells #[.int .u8 7, .int .u8 0, .int .u8 0, .int .i16 0, .int .i32 0, .int .u8 7, .int .u8 0, .int .u8 0, .int .i16 0, .int .i32 0] 37)).trans (b4.mono (by simp))))
  clear b4 HB3
  go_wp2_with fail
  refine (exit_is _).mono ?_
  rintro e w5 ⟨rfl, b5⟩
  have HB5 := hid (below_next HB4.out b5)
  clear b5 HB4
  go_wp2_with fail
  refine (starts_any (some ⟨w5.heap.size, 0, none⟩) 3 c1 _ ((HZ.out.below HB5.out).alloc _) (cd_new w5 c1 _ _ rfl c1_ok (by decide))).mono ?_
  rintro e w6 ⟨g, rfl, hg0, hg1, hcs, b6⟩
  have l0 := (hcs 0 (by decide)).1
  have l1 := (hcs 1 (by decide)).1
  have l2 := (hcs 2 (by decide)).1
  rw [show stB c1 0 = true by kernel_rfl] at l0
  rw [show stB c1 1 = false by kernel_rfl] at l1
  rw [show stB c1 2 = true by kernel_rfl] at l2
  have HB6 := hid (below_next HB5.out (((Below.refl w5.heap.size w5).alloc (Nat.le_refl _) (.cells #[.int .u8 24, .int .u8 0, .int .u8 0, .int .i16 0, .int .i32 0, .int .u8 0, .int .u8 0, .int .u8 0, .int .i16 0, .int .i32 0, .int .u8 149, .int .u8 0, .int .u8 0, .int .i16 0, .int .i32 0] 37)).trans (b6.mono (by simp))))
  clear b6 HB5 hcs hg0 hg1
  rw [show c1.length = 3 from rfl]
  go_wp2_with fail
  refine (target_5 5 ⟨5, 0, 0, -6, 0⟩ (by unfold I5.ok; decide) w6 (by decide) (by decide)).mono ?_
  rintro e w7 ⟨rfl, b7⟩
  rw [show (5 : Int) + 1 + (⟨5, 0, 0, -6, 0⟩ : I5).off = 0 from rfl]
  have HB7 := hid (below_next HB6.out b7)
  clear b7 HB6 l0 l1 l2
  go_wp2_with fail
  refine (helper_is 7 w7).mono ?_
  rw [show helpB 7 = true from rfl]
  rintro e w' ⟨rfl, rfl⟩
  go_wp2_with fail
  refine (helper_is 4 w7).mono ?_
  rw [show helpB 4 = false from rfl]
  rintro e w' ⟨rfl, rfl⟩
  go_wp2
  go_ret
  exact ⟨rfl, HB7.out⟩
end Go.Proofs.YtdnkikgfiganaaaDoor
