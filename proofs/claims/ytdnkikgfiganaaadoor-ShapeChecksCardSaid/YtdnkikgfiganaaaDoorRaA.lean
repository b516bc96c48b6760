/-
  Contract of the document's Alone: what is wrong with one instruction by itself.
-/
import Derived.Test.YtdnkikgfiganaaaDoorShR
import Derived.Test.YtdnkikgfiganaaaDoorShP
namespace Go.Proofs.YtdnkikgfiganaaaDoor
set_option linter.unusedSimpArgs false
set_option linter.unusedVariables false
open Go.ChangeShapes Go.WideShapes Go.ChangeAt Go.RowKit

theorem p_twoA {x : I5} (he : x.e = 0) : x.p = 2 ↔ x.t.cls = 10 ∨ x.t.cls = 11 := by
  unfold I5.p uP
  rw [if_neg (by intro h; exact h he)]
  show (if x.t.cls = 10 then (2 : Int) else if x.t.cls = 11 then 2 else 1) = 2 ↔ _
  by_cases a : x.t.cls = 10
  · rw [if_pos a]; simp [a]
  rw [if_neg a]
  by_cases b : x.t.cls = 11
  · rw [if_pos b]; simp [b]
  rw [if_neg b]; simp [a, b]
def badH (cls : Int) (y : I5) : Bool := y.op != 0 || (y.dst != 0 || (y.src != 0 || (y.off != 0 || (cls == 11 && y.imm != 0))))
theorem whole_bad {cls : Int} (h : cls = 10 ∨ cls = 11) (y : I5) : wholeB cls (some y) = !badH cls y := by
  have hc : (cls == 10) = !(cls == 11) := by rcases h with h | h <;> subst h <;> rfl
  show (y.op == 0 && (y.dst == 0 && (y.src == 0 && (y.off == 0 && (cls == 10 || y.imm == 0))))) = _
  unfold badH
  rw [hc]
  simp only [bne, Bool.not_or, Bool.not_not, Bool.not_and]
theorem alone_e {m : Int} {x : I5} {r : Option I5} (h : x.e ≠ 0) : aloneE m x r = x.e := by unfold aloneE; rw [if_pos h]
theorem alone_n {m : Int} {x : I5} {r : Option I5} (h : x.e = 0) (a : x.t.cls ≠ 10) (b : x.t.cls ≠ 11) : aloneE m x r = if x.t.cls = 8 ∧ helpB x.imm = false then 27 else 0 := by
  unfold aloneE
  have hp : ¬ (x.p = 2) := fun e => by rcases (p_twoA h).1 e with e | e <;> contradiction
  rw [if_neg (by simpa using h), if_neg (by rintro ⟨e, _⟩; exact hp e), if_neg (by rintro ⟨e, _⟩; exact b e)]
theorem alone_w {m : Int} {x : I5} {r : Option I5} (h : x.e = 0) (a : x.t.cls = 10 ∨ x.t.cls = 11) (hb : wholeB x.t.cls r = false) : aloneE m x r = 23 := by
  unfold aloneE
  rw [if_neg (by simpa using h), if_pos ⟨(p_twoA h).2 a, hb⟩]
theorem alone_10 {m : Int} {x : I5} {r : Option I5} (h : x.e = 0) (a : x.t.cls = 10) (hb : wholeB x.t.cls r = true) : aloneE m x r = 0 := by
  unfold aloneE
  rw [if_neg (by simpa using h), if_neg (by rintro ⟨_, e⟩; rw [hb] at e; cases e), if_neg (by rintro ⟨e, _⟩; omega), if_neg (by rintro ⟨e, _⟩; omega)]
theorem alone_11 {m : Int} {x : I5} {r : Option I5} (h : x.e = 0) (a : x.t.cls = 11) (hb : wholeB x.t.cls r = true) : aloneE m x r = if x.imm < 0 ∨ m ≤ x.imm then 26 else 0 := by
  unfold aloneE
  rw [if_neg (by simpa using h), if_neg (by rintro ⟨_, e⟩; rw [hb] at e; cases e)]
  by_cases c : x.imm < 0 ∨ m ≤ x.imm
  · rw [if_pos ⟨a, c⟩, if_pos c]
  · rw [if_neg (by rintro ⟨_, e⟩; exact c e), if_neg c, if_neg (by rintro ⟨e, _⟩; omega)]

set_option maxRecDepth 100000 in
set_option maxHeartbeats 2000000 in
theorem ralone_e (pm pc : Option Addr) (cm cc lm : Nat) (c : List I5) (k : Nat) (w : World) (hsl : CdSl w.heap.size w pc c.length c) (hk : k < c.length) (he : (at5 c k).e ≠ 0) :
    Calls Tryd.prog 47 #[.agg #[.slice pm lm cm, .slice pc c.length cc], .int .i64 k] w fun e w' => e = .returned (.int .i64 (at5 c k).e) ∧ Below w.heap.size w w' := by
  have HOF := hid fun W => rof_I (at5 c k) (at5_ok hsl.2.1 k) W
  obtain ⟨b, off, hp, hb, hins⟩ := hsl.2.2.2.resolve_left (by omega)
  subst hp
  obtain ⟨i0, i1, i2, i3, i4⟩ := hins k hk
  have hlim := hsl.2.2.1
  obtain ⟨_, _, _, _, _, _, _, _, hm0, hm1⟩ := at5_ok hsl.2.1 k
  have hE : ((at5 c k).e != 0) = true := by simpa using he
  clear he
  clear hsl hins
  have hl0 : 0 ≤ (k : Int) := by omega
  have hl1 : (k : Int) < (c.length : Int) := by omega
  generalize at5 c k = x at *
  generalize x.e = E at *
  generalize x.t = T at *
  obtain ⟨op, dst, src, offs, imm⟩ := x
  obtain ⟨cls, o2, sz, wd, rg⟩ := T
  unfold I5.V at *
  unfold whV at *
  dsimp only at *
  go_enter Tryd.func47, Tryd.ntmps47
  go_wp2_with fail
  refine (HOF.out _).mono ?_
  rintro e w1 ⟨rfl, b1⟩
  have c0 : w1.cell? ⟨w.heap.size, 0, none⟩ = some (.slice pm lm cm) := cn b1 (by simp)
  have c1 : w1.cell? ⟨w.heap.size, 1, none⟩ = some (.slice (some ⟨b, off, none⟩) c.length cc) := cn b1 (by simp)
  have c4 : w1.cell? ⟨w.heap.size + 1, 4, none⟩ = some (.int .i32 imm) := cn b1 (by simp)
  have HB := hid ((((Below.refl w.heap.size w).alloc (Nat.le_refl _) (.cells #[.slice pm lm cm, .slice (some ⟨b, off, none⟩) c.length cc] 25)).alloc (by simp) (.cells #[.int .u8 op, .int .u8 dst, .int .u8 src, .int .i16 offs, .int .i32 imm] 37)).trans (b1.mono (by simp; omega)))
  have hz1 : w.heap.size + 1 < w1.heap.size := by have := b1.size; simp at this; omega
  have hz0 : w.heap.size < w1.heap.size := by omega
  have hzb : b < w1.heap.size := by omega
  clear b1 i0 i1 i2 i3 i4 HOF
  go_wp2
  go_ret
  first
    | exact ⟨rfl, HB.out.alloc HB.out.size _⟩
    | exact ⟨rfl, (HB.out.alloc HB.out.size _).alloc (by have := HB.out.size; simp; omega) _⟩
set_option maxRecDepth 100000 in
set_option maxHeartbeats 2000000 in
theorem ralone_n0 (pm pc : Option Addr) (cm cc lm : Nat) (c : List I5) (k : Nat) (w : World) (hsl : CdSl w.heap.size w pc c.length c) (hk : k < c.length) (he : (at5 c k).e = 0) (h10 : (at5 c k).t.cls ≠ 10) (h11 : (at5 c k).t.cls ≠ 11) (h8 : (at5 c k).t.cls ≠ 8) :
    Calls Tryd.prog 47 #[.agg #[.slice pm lm cm, .slice pc c.length cc], .int .i64 k] w fun e w' => e = .returned (.int .i64 0) ∧ Below w.heap.size w w' := by
  have HOF := hid fun W => rof_I (at5 c k) (at5_ok hsl.2.1 k) W
  obtain ⟨b, off, hp, hb, hins⟩ := hsl.2.2.2.resolve_left (by omega)
  subst hp
  obtain ⟨i0, i1, i2, i3, i4⟩ := hins k hk
  have hlim := hsl.2.2.1
  obtain ⟨_, _, _, _, _, _, _, _, hm0, hm1⟩ := at5_ok hsl.2.1 k
  have hE : ((at5 c k).e != 0) = false := by simpa using he
  have hc10 : ((at5 c k).t.cls == 10) = false := by simpa using h10
  have hc11 : ((at5 c k).t.cls == 11) = false := by simpa using h11
  have hc8 : ((at5 c k).t.cls == 8) = false := by simpa using h8
  clear he h10 h11 h8
  clear hsl hins
  have hl0 : 0 ≤ (k : Int) := by omega
  have hl1 : (k : Int) < (c.length : Int) := by omega
  generalize at5 c k = x at *
  generalize x.e = E at *
  generalize x.t = T at *
  obtain ⟨op, dst, src, offs, imm⟩ := x
  obtain ⟨cls, o2, sz, wd, rg⟩ := T
  unfold I5.V at *
  unfold whV at *
  dsimp only at *
  go_enter Tryd.func47, Tryd.ntmps47
  go_wp2_with fail
  refine (HOF.out _).mono ?_
  rintro e w1 ⟨rfl, b1⟩
  have c0 : w1.cell? ⟨w.heap.size, 0, none⟩ = some (.slice pm lm cm) := cn b1 (by simp)
  have c1 : w1.cell? ⟨w.heap.size, 1, none⟩ = some (.slice (some ⟨b, off, none⟩) c.length cc) := cn b1 (by simp)
  have c4 : w1.cell? ⟨w.heap.size + 1, 4, none⟩ = some (.int .i32 imm) := cn b1 (by simp)
  have HB := hid ((((Below.refl w.heap.size w).alloc (Nat.le_refl _) (.cells #[.slice pm lm cm, .slice (some ⟨b, off, none⟩) c.length cc] 25)).alloc (by simp) (.cells #[.int .u8 op, .int .u8 dst, .int .u8 src, .int .i16 offs, .int .i32 imm] 37)).trans (b1.mono (by simp; omega)))
  have hz1 : w.heap.size + 1 < w1.heap.size := by have := b1.size; simp at this; omega
  have hz0 : w.heap.size < w1.heap.size := by omega
  have hzb : b < w1.heap.size := by omega
  clear b1 i0 i1 i2 i3 i4 HOF
  go_wp2
  go_ret
  first
    | exact ⟨rfl, HB.out.alloc HB.out.size _⟩
    | exact ⟨rfl, (HB.out.alloc HB.out.size _).alloc (by have := HB.out.size; simp; omega) _⟩
set_option maxRecDepth 100000 in
set_option maxHeartbeats 2000000 in
theorem ralone_n1 (pm pc : Option Addr) (cm cc lm : Nat) (c : List I5) (k : Nat) (w : World) (hsl : CdSl w.heap.size w pc c.length c) (hk : k < c.length) (he : (at5 c k).e = 0) (h10 : (at5 c k).t.cls ≠ 10) (h11 : (at5 c k).t.cls ≠ 11) (h8 : (at5 c k).t.cls = 8) (hh : helpB (at5 c k).imm = true) :
    Calls Tryd.prog 47 #[.agg #[.slice pm lm cm, .slice pc c.length cc], .int .i64 k] w fun e w' => e = .returned (.int .i64 0) ∧ Below w.heap.size w w' := by
  have HOF := hid fun W => rof_I (at5 c k) (at5_ok hsl.2.1 k) W
  obtain ⟨b, off, hp, hb, hins⟩ := hsl.2.2.2.resolve_left (by omega)
  subst hp
  obtain ⟨i0, i1, i2, i3, i4⟩ := hins k hk
  have hlim := hsl.2.2.1
  obtain ⟨_, _, _, _, _, _, _, _, hm0, hm1⟩ := at5_ok hsl.2.1 k
  have hE : ((at5 c k).e != 0) = false := by simpa using he
  have hc10 : ((at5 c k).t.cls == 10) = false := by simpa using h10
  have hc11 : ((at5 c k).t.cls == 11) = false := by simpa using h11
  have hc8 : ((at5 c k).t.cls == 8) = true := by simpa using h8
  clear he h10 h11 h8
  clear hsl hins
  have hl0 : 0 ≤ (k : Int) := by omega
  have hl1 : (k : Int) < (c.length : Int) := by omega
  generalize at5 c k = x at *
  generalize x.e = E at *
  generalize x.t = T at *
  obtain ⟨op, dst, src, offs, imm⟩ := x
  obtain ⟨cls, o2, sz, wd, rg⟩ := T
  unfold I5.V at *
  unfold whV at *
  dsimp only at *
  go_enter Tryd.func47, Tryd.ntmps47
  go_wp2_with fail
  refine (HOF.out _).mono ?_
  rintro e w1 ⟨rfl, b1⟩
  have c0 : w1.cell? ⟨w.heap.size, 0, none⟩ = some (.slice pm lm cm) := cn b1 (by simp)
  have c1 : w1.cell? ⟨w.heap.size, 1, none⟩ = some (.slice (some ⟨b, off, none⟩) c.length cc) := cn b1 (by simp)
  have c4 : w1.cell? ⟨w.heap.size + 1, 4, none⟩ = some (.int .i32 imm) := cn b1 (by simp)
  have HB := hid ((((Below.refl w.heap.size w).alloc (Nat.le_refl _) (.cells #[.slice pm lm cm, .slice (some ⟨b, off, none⟩) c.length cc] 25)).alloc (by simp) (.cells #[.int .u8 op, .int .u8 dst, .int .u8 src, .int .i16 offs, .int .i32 imm] 37)).trans (b1.mono (by simp; omega)))
  have hz1 : w.heap.size + 1 < w1.heap.size := by have := b1.size; simp at this; omega
  have hz0 : w.heap.size < w1.heap.size := by omega
  have hzb : b < w1.heap.size := by omega
  clear b1 i0 i1 i2 i3 i4 HOF
  go_wp2_with fail
  refine (rhelper_is _ _).mono ?_
  rintro e w' ⟨rfl, rfl⟩
  rw [hh]
  go_wp2
  go_ret
  first
    | exact ⟨rfl, HB.out.alloc HB.out.size _⟩
    | exact ⟨rfl, (HB.out.alloc HB.out.size _).alloc (by have := HB.out.size; simp; omega) _⟩
set_option maxRecDepth 100000 in
set_option maxHeartbeats 2000000 in
theorem ralone_n2 (pm pc : Option Addr) (cm cc lm : Nat) (c : List I5) (k : Nat) (w : World) (hsl : CdSl w.heap.size w pc c.length c) (hk : k < c.length) (he : (at5 c k).e = 0) (h10 : (at5 c k).t.cls ≠ 10) (h11 : (at5 c k).t.cls ≠ 11) (h8 : (at5 c k).t.cls = 8) (hh : helpB (at5 c k).imm = false) :
    Calls Tryd.prog 47 #[.agg #[.slice pm lm cm, .slice pc c.length cc], .int .i64 k] w fun e w' => e = .returned (.int .i64 27) ∧ Below w.heap.size w w' := by
  have HOF := hid fun W => rof_I (at5 c k) (at5_ok hsl.2.1 k) W
  obtain ⟨b, off, hp, hb, hins⟩ := hsl.2.2.2.resolve_left (by omega)
  subst hp
  obtain ⟨i0, i1, i2, i3, i4⟩ := hins k hk
  have hlim := hsl.2.2.1
  obtain ⟨_, _, _, _, _, _, _, _, hm0, hm1⟩ := at5_ok hsl.2.1 k
  have hE : ((at5 c k).e != 0) = false := by simpa using he
  have hc10 : ((at5 c k).t.cls == 10) = false := by simpa using h10
  have hc11 : ((at5 c k).t.cls == 11) = false := by simpa using h11
  have hc8 : ((at5 c k).t.cls == 8) = true := by simpa using h8
  clear he h10 h11 h8
  clear hsl hins
  have hl0 : 0 ≤ (k : Int) := by omega
  have hl1 : (k : Int) < (c.length : Int) := by omega
  generalize at5 c k = x at *
  generalize x.e = E at *
  generalize x.t = T at *
  obtain ⟨op, dst, src, offs, imm⟩ := x
  obtain ⟨cls, o2, sz, wd, rg⟩ := T
  unfold I5.V at *
  unfold whV at *
  dsimp only at *
  go_enter Tryd.func47, Tryd.ntmps47
  go_wp2_with fail
  refine (HOF.out _).mono ?_
  rintro e w1 ⟨rfl, b1⟩
  have c0 : w1.cell? ⟨w.heap.size, 0, none⟩ = some (.slice pm lm cm) := cn b1 (by simp)
  have c1 : w1.cell? ⟨w.heap.size, 1, none⟩ = some (.slice (some ⟨b, off, none⟩) c.length cc) := cn b1 (by simp)
  have c4 : w1.cell? ⟨w.heap.size + 1, 4, none⟩ = some (.int .i32 imm) := cn b1 (by simp)
  have HB := hid ((((Below.refl w.heap.size w).alloc (Nat.le_refl _) (.cells #[.slice pm lm cm, .slice (some ⟨b, off, none⟩) c.length cc] 25)).alloc (by simp) (.cells #[.int .u8 op, .int .u8 dst, .int .u8 src, .int .i16 offs, .int .i32 imm] 37)).trans (b1.mono (by simp; omega)))
  have hz1 : w.heap.size + 1 < w1.heap.size := by have := b1.size; simp at this; omega
  have hz0 : w.heap.size < w1.heap.size := by omega
  have hzb : b < w1.heap.size := by omega
  clear b1 i0 i1 i2 i3 i4 HOF
  go_wp2_with fail
  refine (rhelper_is _ _).mono ?_
  rintro e w' ⟨rfl, rfl⟩
  rw [hh]
  go_wp2
  go_ret
  first
    | exact ⟨rfl, HB.out.alloc HB.out.size _⟩
    | exact ⟨rfl, (HB.out.alloc HB.out.size _).alloc (by have := HB.out.size; simp; omega) _⟩
set_option maxRecDepth 100000 in
set_option maxHeartbeats 2000000 in
theorem ralone_end10 (pm pc : Option Addr) (cm cc lm : Nat) (c : List I5) (k : Nat) (w : World) (hsl : CdSl w.heap.size w pc c.length c) (hk : k < c.length) (he : (at5 c k).e = 0) (hv : (at5 c k).t.cls = 10) (hn : c.length ≤ k + 1) :
    Calls Tryd.prog 47 #[.agg #[.slice pm lm cm, .slice pc c.length cc], .int .i64 k] w fun e w' => e = .returned (.int .i64 23) ∧ Below w.heap.size w w' := by
  have HOF := hid fun W => rof_I (at5 c k) (at5_ok hsl.2.1 k) W
  obtain ⟨b, off, hp, hb, hins⟩ := hsl.2.2.2.resolve_left (by omega)
  subst hp
  obtain ⟨i0, i1, i2, i3, i4⟩ := hins k hk
  have hlim := hsl.2.2.1
  obtain ⟨_, _, _, _, _, _, _, _, hm0, hm1⟩ := at5_ok hsl.2.1 k
  have hE : ((at5 c k).e != 0) = false := by simpa using he
  have hc10 : ((at5 c k).t.cls == 10) = true := by rw [hv]; rfl
  have hc11 : ((at5 c k).t.cls == 11) = false := by rw [hv]; rfl
  have hc8 : ((at5 c k).t.cls == 8) = false := by rw [hv]; rfl
  have hl3 : decide ((c.length : Int) ≤ (k : Int) + 1) = true := decide_eq_true (by omega)
  have hl4 : decide (c.length ≤ k + 1) = true := decide_eq_true (by omega)
  clear he hv
  clear hsl hins
  have hl0 : 0 ≤ (k : Int) := by omega
  have hl1 : (k : Int) < (c.length : Int) := by omega
  generalize at5 c k = x at *
  generalize x.e = E at *
  generalize x.t = T at *
  obtain ⟨op, dst, src, offs, imm⟩ := x
  obtain ⟨cls, o2, sz, wd, rg⟩ := T
  unfold I5.V at *
  unfold whV at *
  dsimp only at *
  go_enter Tryd.func47, Tryd.ntmps47
  go_wp2_with fail
  refine (HOF.out _).mono ?_
  rintro e w1 ⟨rfl, b1⟩
  have c0 : w1.cell? ⟨w.heap.size, 0, none⟩ = some (.slice pm lm cm) := cn b1 (by simp)
  have c1 : w1.cell? ⟨w.heap.size, 1, none⟩ = some (.slice (some ⟨b, off, none⟩) c.length cc) := cn b1 (by simp)
  have c4 : w1.cell? ⟨w.heap.size + 1, 4, none⟩ = some (.int .i32 imm) := cn b1 (by simp)
  have HB := hid ((((Below.refl w.heap.size w).alloc (Nat.le_refl _) (.cells #[.slice pm lm cm, .slice (some ⟨b, off, none⟩) c.length cc] 25)).alloc (by simp) (.cells #[.int .u8 op, .int .u8 dst, .int .u8 src, .int .i16 offs, .int .i32 imm] 37)).trans (b1.mono (by simp; omega)))
  have hz1 : w.heap.size + 1 < w1.heap.size := by have := b1.size; simp at this; omega
  have hz0 : w.heap.size < w1.heap.size := by omega
  have hzb : b < w1.heap.size := by omega
  clear b1 i0 i1 i2 i3 i4 HOF
  go_wp2
  go_ret
  first
    | exact ⟨rfl, HB.out.alloc HB.out.size _⟩
    | exact ⟨rfl, (HB.out.alloc HB.out.size _).alloc (by have := HB.out.size; simp; omega) _⟩
set_option maxRecDepth 100000 in
set_option maxHeartbeats 2000000 in
theorem ralone_h10_0 (pm pc : Option Addr) (cm cc lm : Nat) (c : List I5) (k : Nat) (w : World) (hsl : CdSl w.heap.size w pc c.length c) (hk : k < c.length) (he : (at5 c k).e = 0) (hv : (at5 c k).t.cls = 10) (hn : k + 1 < c.length) (a0 : ((at5 c (k + 1)).op != 0) = true)  :
    Calls Tryd.prog 47 #[.agg #[.slice pm lm cm, .slice pc c.length cc], .int .i64 k] w fun e w' => e = .returned (.int .i64 23) ∧ Below w.heap.size w w' := by
  have HOF := hid fun W => rof_I (at5 c k) (at5_ok hsl.2.1 k) W
  obtain ⟨b, off, hp, hb, hins⟩ := hsl.2.2.2.resolve_left (by omega)
  subst hp
  obtain ⟨i0, i1, i2, i3, i4⟩ := hins k hk
  have hlim := hsl.2.2.1
  obtain ⟨_, _, _, _, _, _, _, _, hm0, hm1⟩ := at5_ok hsl.2.1 k
  obtain ⟨n0, n1, n2, n3, n4⟩ := hins (k + 1) hn
  obtain ⟨_, _, _, _, _, _, _, _, hy0, hy1⟩ := at5_ok hsl.2.1 (k + 1)
  have hE : ((at5 c k).e != 0) = false := by simpa using he
  have hc10 : ((at5 c k).t.cls == 10) = true := by rw [hv]; rfl
  have hc11 : ((at5 c k).t.cls == 11) = false := by rw [hv]; rfl
  have hc8 : ((at5 c k).t.cls == 8) = false := by rw [hv]; rfl
  clear he hv
  clear hsl hins
  have hl0 : 0 ≤ (k : Int) := by omega
  have hl1 : (k : Int) < (c.length : Int) := by omega
  have hl2 : (k : Int) + 1 < (c.length : Int) := by omega
  have hl3 : decide ((c.length : Int) ≤ (k : Int) + 1) = false := decide_eq_false (by omega)
  have hl4 : decide (c.length ≤ k + 1) = false := decide_eq_false (by omega)
  generalize at5 c (k + 1) = y at *
  obtain ⟨y1, y2, y3, y4, y5⟩ := y
  generalize at5 c k = x at *
  generalize x.e = E at *
  generalize x.t = T at *
  obtain ⟨op, dst, src, offs, imm⟩ := x
  obtain ⟨cls, o2, sz, wd, rg⟩ := T
  unfold I5.V at *
  unfold whV at *
  dsimp only at *
  go_enter Tryd.func47, Tryd.ntmps47
  go_wp2_with fail
  refine (HOF.out _).mono ?_
  rintro e w1 ⟨rfl, b1⟩
  have c0 : w1.cell? ⟨w.heap.size, 0, none⟩ = some (.slice pm lm cm) := cn b1 (by simp)
  have c1 : w1.cell? ⟨w.heap.size, 1, none⟩ = some (.slice (some ⟨b, off, none⟩) c.length cc) := cn b1 (by simp)
  have c4 : w1.cell? ⟨w.heap.size + 1, 4, none⟩ = some (.int .i32 imm) := cn b1 (by simp)
  replace n0 := cn b1 (cna (.cells #[.int .u8 op, .int .u8 dst, .int .u8 src, .int .i16 offs, .int .i32 imm] 37) (cna (.cells #[.slice pm lm cm, .slice (some ⟨b, off, none⟩) c.length cc] 25) n0))
  replace n1 := cn b1 (cna (.cells #[.int .u8 op, .int .u8 dst, .int .u8 src, .int .i16 offs, .int .i32 imm] 37) (cna (.cells #[.slice pm lm cm, .slice (some ⟨b, off, none⟩) c.length cc] 25) n1))
  replace n2 := cn b1 (cna (.cells #[.int .u8 op, .int .u8 dst, .int .u8 src, .int .i16 offs, .int .i32 imm] 37) (cna (.cells #[.slice pm lm cm, .slice (some ⟨b, off, none⟩) c.length cc] 25) n2))
  replace n3 := cn b1 (cna (.cells #[.int .u8 op, .int .u8 dst, .int .u8 src, .int .i16 offs, .int .i32 imm] 37) (cna (.cells #[.slice pm lm cm, .slice (some ⟨b, off, none⟩) c.length cc] 25) n3))
  replace n4 := cn b1 (cna (.cells #[.int .u8 op, .int .u8 dst, .int .u8 src, .int .i16 offs, .int .i32 imm] 37) (cna (.cells #[.slice pm lm cm, .slice (some ⟨b, off, none⟩) c.length cc] 25) n4))
  have HB := hid ((((Below.refl w.heap.size w).alloc (Nat.le_refl _) (.cells #[.slice pm lm cm, .slice (some ⟨b, off, none⟩) c.length cc] 25)).alloc (by simp) (.cells #[.int .u8 op, .int .u8 dst, .int .u8 src, .int .i16 offs, .int .i32 imm] 37)).trans (b1.mono (by simp; omega)))
  have hz1 : w.heap.size + 1 < w1.heap.size := by have := b1.size; simp at this; omega
  have hz0 : w.heap.size < w1.heap.size := by omega
  have hzb : b < w1.heap.size := by omega
  clear b1 i0 i1 i2 i3 i4 HOF
  go_wp2
  go_ret
  first
    | exact ⟨rfl, HB.out.alloc HB.out.size _⟩
    | exact ⟨rfl, (HB.out.alloc HB.out.size _).alloc (by have := HB.out.size; simp; omega) _⟩
set_option maxRecDepth 100000 in
set_option maxHeartbeats 2000000 in
theorem ralone_h10_1 (pm pc : Option Addr) (cm cc lm : Nat) (c : List I5) (k : Nat) (w : World) (hsl : CdSl w.heap.size w pc c.length c) (hk : k < c.length) (he : (at5 c k).e = 0) (hv : (at5 c k).t.cls = 10) (hn : k + 1 < c.length) (a0 : ((at5 c (k + 1)).op != 0) = false) (a1 : ((at5 c (k + 1)).dst != 0) = true)  :
    Calls Tryd.prog 47 #[.agg #[.slice pm lm cm, .slice pc c.length cc], .int .i64 k] w fun e w' => e = .returned (.int .i64 23) ∧ Below w.heap.size w w' := by
  have HOF := hid fun W => rof_I (at5 c k) (at5_ok hsl.2.1 k) W
  obtain ⟨b, off, hp, hb, hins⟩ := hsl.2.2.2.resolve_left (by omega)
  subst hp
  obtain ⟨i0, i1, i2, i3, i4⟩ := hins k hk
  have hlim := hsl.2.2.1
  obtain ⟨_, _, _, _, _, _, _, _, hm0, hm1⟩ := at5_ok hsl.2.1 k
  obtain ⟨n0, n1, n2, n3, n4⟩ := hins (k + 1) hn
  obtain ⟨_, _, _, _, _, _, _, _, hy0, hy1⟩ := at5_ok hsl.2.1 (k + 1)
  have hE : ((at5 c k).e != 0) = false := by simpa using he
  have hc10 : ((at5 c k).t.cls == 10) = true := by rw [hv]; rfl
  have hc11 : ((at5 c k).t.cls == 11) = false := by rw [hv]; rfl
  have hc8 : ((at5 c k).t.cls == 8) = false := by rw [hv]; rfl
  clear he hv
  clear hsl hins
  have hl0 : 0 ≤ (k : Int) := by omega
  have hl1 : (k : Int) < (c.length : Int) := by omega
  have hl2 : (k : Int) + 1 < (c.length : Int) := by omega
  have hl3 : decide ((c.length : Int) ≤ (k : Int) + 1) = false := decide_eq_false (by omega)
  have hl4 : decide (c.length ≤ k + 1) = false := decide_eq_false (by omega)
  generalize at5 c (k + 1) = y at *
  obtain ⟨y1, y2, y3, y4, y5⟩ := y
  generalize at5 c k = x at *
  generalize x.e = E at *
  generalize x.t = T at *
  obtain ⟨op, dst, src, offs, imm⟩ := x
  obtain ⟨cls, o2, sz, wd, rg⟩ := T
  unfold I5.V at *
  unfold whV at *
  dsimp only at *
  go_enter Tryd.func47, Tryd.ntmps47
  go_wp2_with fail
  refine (HOF.out _).mono ?_
  rintro e w1 ⟨rfl, b1⟩
  have c0 : w1.cell? ⟨w.heap.size, 0, none⟩ = some (.slice pm lm cm) := cn b1 (by simp)
  have c1 : w1.cell? ⟨w.heap.size, 1, none⟩ = some (.slice (some ⟨b, off, none⟩) c.length cc) := cn b1 (by simp)
  have c4 : w1.cell? ⟨w.heap.size + 1, 4, none⟩ = some (.int .i32 imm) := cn b1 (by simp)
  replace n0 := cn b1 (cna (.cells #[.int .u8 op, .int .u8 dst, .int .u8 src, .int .i16 offs, .int .i32 imm] 37) (cna (.cells #[.slice pm lm cm, .slice (some ⟨b, off, none⟩) c.length cc] 25) n0))
  replace n1 := cn b1 (cna (.cells #[.int .u8 op, .int .u8 dst, .int .u8 src, .int .i16 offs, .int .i32 imm] 37) (cna (.cells #[.slice pm lm cm, .slice (some ⟨b, off, none⟩) c.length cc] 25) n1))
  replace n2 := cn b1 (cna (.cells #[.int .u8 op, .int .u8 dst, .int .u8 src, .int .i16 offs, .int .i32 imm] 37) (cna (.cells #[.slice pm lm cm, .slice (some ⟨b, off, none⟩) c.length cc] 25) n2))
  replace n3 := cn b1 (cna (.cells #[.int .u8 op, .int .u8 dst, .int .u8 src, .int .i16 offs, .int .i32 imm] 37) (cna (.cells #[.slice pm lm cm, .slice (some ⟨b, off, none⟩) c.length cc] 25) n3))
  replace n4 := cn b1 (cna (.cells #[.int .u8 op, .int .u8 dst, .int .u8 src, .int .i16 offs, .int .i32 imm] 37) (cna (.cells #[.slice pm lm cm, .slice (some ⟨b, off, none⟩) c.length cc] 25) n4))
  have HB := hid ((((Below.refl w.heap.size w).alloc (Nat.le_refl _) (.cells #[.slice pm lm cm, .slice (some ⟨b, off, none⟩) c.length cc] 25)).alloc (by simp) (.cells #[.int .u8 op, .int .u8 dst, .int .u8 src, .int .i16 offs, .int .i32 imm] 37)).trans (b1.mono (by simp; omega)))
  have hz1 : w.heap.size + 1 < w1.heap.size := by have := b1.size; simp at this; omega
  have hz0 : w.heap.size < w1.heap.size := by omega
  have hzb : b < w1.heap.size := by omega
  clear b1 i0 i1 i2 i3 i4 HOF
  go_wp2
  go_ret
  first
    | exact ⟨rfl, HB.out.alloc HB.out.size _⟩
    | exact ⟨rfl, (HB.out.alloc HB.out.size _).alloc (by have := HB.out.size; simp; omega) _⟩
set_option maxRecDepth 100000 in
set_option maxHeartbeats 2000000 in
theorem ralone_h10_2 (pm pc : Option Addr) (cm cc lm : Nat) (c : List I5) (k : Nat) (w : World) (hsl : CdSl w.heap.size w pc c.length c) (hk : k < c.length) (he : (at5 c k).e = 0) (hv : (at5 c k).t.cls = 10) (hn : k + 1 < c.length) (a0 : ((at5 c (k + 1)).op != 0) = false) (a1 : ((at5 c (k + 1)).dst != 0) = false) (a2 : ((at5 c (k + 1)).src != 0) = true)  :
    Calls Tryd.prog 47 #[.agg #[.slice pm lm cm, .slice pc c.length cc], .int .i64 k] w fun e w' => e = .returned (.int .i64 23) ∧ Below w.heap.size w w' := by
  have HOF := hid fun W => rof_I (at5 c k) (at5_ok hsl.2.1 k) W
  obtain ⟨b, off, hp, hb, hins⟩ := hsl.2.2.2.resolve_left (by omega)
  subst hp
  obtain ⟨i0, i1, i2, i3, i4⟩ := hins k hk
  have hlim := hsl.2.2.1
  obtain ⟨_, _, _, _, _, _, _, _, hm0, hm1⟩ := at5_ok hsl.2.1 k
  obtain ⟨n0, n1, n2, n3, n4⟩ := hins (k + 1) hn
  obtain ⟨_, _, _, _, _, _, _, _, hy0, hy1⟩ := at5_ok hsl.2.1 (k + 1)
  have hE : ((at5 c k).e != 0) = false := by simpa using he
  have hc10 : ((at5 c k).t.cls == 10) = true := by rw [hv]; rfl
  have hc11 : ((at5 c k).t.cls == 11) = false := by rw [hv]; rfl
  have hc8 : ((at5 c k).t.cls == 8) = false := by rw [hv]; rfl
  clear he hv
  clear hsl hins
  have hl0 : 0 ≤ (k : Int) := by omega
  have hl1 : (k : Int) < (c.length : Int) := by omega
  have hl2 : (k : Int) + 1 < (c.length : Int) := by omega
  have hl3 : decide ((c.length : Int) ≤ (k : Int) + 1) = false := decide_eq_false (by omega)
  have hl4 : decide (c.length ≤ k + 1) = false := decide_eq_false (by omega)
  generalize at5 c (k + 1) = y at *
  obtain ⟨y1, y2, y3, y4, y5⟩ := y
  generalize at5 c k = x at *
  generalize x.e = E at *
  generalize x.t = T at *
  obtain ⟨op, dst, src, offs, imm⟩ := x
  obtain ⟨cls, o2, sz, wd, rg⟩ := T
  unfold I5.V at *
  unfold whV at *
  dsimp only at *
  go_enter Tryd.func47, Tryd.ntmps47
  go_wp2_with fail
  refine (HOF.out _).mono ?_
  rintro e w1 ⟨rfl, b1⟩
  have c0 : w1.cell? ⟨w.heap.size, 0, none⟩ = some (.slice pm lm cm) := cn b1 (by simp)
  have c1 : w1.cell? ⟨w.heap.size, 1, none⟩ = some (.slice (some ⟨b, off, none⟩) c.length cc) := cn b1 (by simp)
  have c4 : w1.cell? ⟨w.heap.size + 1, 4, none⟩ = some (.int .i32 imm) := cn b1 (by simp)
  replace n0 := cn b1 (cna (.cells #[.int .u8 op, .int .u8 dst, .int .u8 src, .int .i16 offs, .int .i32 imm] 37) (cna (.cells #[.slice pm lm cm, .slice (some ⟨b, off, none⟩) c.length cc] 25) n0))
  replace n1 := cn b1 (cna (.cells #[.int .u8 op, .int .u8 dst, .int .u8 src, .int .i16 offs, .int .i32 imm] 37) (cna (.cells #[.slice pm lm cm, .slice (some ⟨b, off, none⟩) c.length cc] 25) n1))
  replace n2 := cn b1 (cna (.cells #[.int .u8 op, .int .u8 dst, .int .u8 src, .int .i16 offs, .int .i32 imm] 37) (cna (.cells #[.slice pm lm cm, .slice (some ⟨b, off, none⟩) c.length cc] 25) n2))
  replace n3 := cn b1 (cna (.cells #[.int .u8 op, .int .u8 dst, .int .u8 src, .int .i16 offs, .int .i32 imm] 37) (cna (.cells #[.slice pm lm cm, .slice (some ⟨b, off, none⟩) c.length cc] 25) n3))
  replace n4 := cn b1 (cna (.cells #[.int .u8 op, .int .u8 dst, .int .u8 src, .int .i16 offs, .int .i32 imm] 37) (cna (.cells #[.slice pm lm cm, .slice (some ⟨b, off, none⟩) c.length cc] 25) n4))
  have HB := hid ((((Below.refl w.heap.size w).alloc (Nat.le_refl _) (.cells #[.slice pm lm cm, .slice (some ⟨b, off, none⟩) c.length cc] 25)).alloc (by simp) (.cells #[.int .u8 op, .int .u8 dst, .int .u8 src, .int .i16 offs, .int .i32 imm] 37)).trans (b1.mono (by simp; omega)))
  have hz1 : w.heap.size + 1 < w1.heap.size := by have := b1.size; simp at this; omega
  have hz0 : w.heap.size < w1.heap.size := by omega
  have hzb : b < w1.heap.size := by omega
  clear b1 i0 i1 i2 i3 i4 HOF
  go_wp2
  go_ret
  first
    | exact ⟨rfl, HB.out.alloc HB.out.size _⟩
    | exact ⟨rfl, (HB.out.alloc HB.out.size _).alloc (by have := HB.out.size; simp; omega) _⟩
set_option maxRecDepth 100000 in
set_option maxHeartbeats 2000000 in
theorem ralone_h10_3 (pm pc : Option Addr) (cm cc lm : Nat) (c : List I5) (k : Nat) (w : World) (hsl : CdSl w.heap.size w pc c.length c) (hk : k < c.length) (he : (at5 c k).e = 0) (hv : (at5 c k).t.cls = 10) (hn : k + 1 < c.length) (a0 : ((at5 c (k + 1)).op != 0) = false) (a1 : ((at5 c (k + 1)).dst != 0) = false) (a2 : ((at5 c (k + 1)).src != 0) = false) (a3 : ((at5 c (k + 1)).off != 0) = true)  :
    Calls Tryd.prog 47 #[.agg #[.slice pm lm cm, .slice pc c.length cc], .int .i64 k] w fun e w' => e = .returned (.int .i64 23) ∧ Below w.heap.size w w' := by
  have HOF := hid fun W => rof_I (at5 c k) (at5_ok hsl.2.1 k) W
  obtain ⟨b, off, hp, hb, hins⟩ := hsl.2.2.2.resolve_left (by omega)
  subst hp
  obtain ⟨i0, i1, i2, i3, i4⟩ := hins k hk
  have hlim := hsl.2.2.1
  obtain ⟨_, _, _, _, _, _, _, _, hm0, hm1⟩ := at5_ok hsl.2.1 k
  obtain ⟨n0, n1, n2, n3, n4⟩ := hins (k + 1) hn
  obtain ⟨_, _, _, _, _, _, _, _, hy0, hy1⟩ := at5_ok hsl.2.1 (k + 1)
  have hE : ((at5 c k).e != 0) = false := by simpa using he
  have hc10 : ((at5 c k).t.cls == 10) = true := by rw [hv]; rfl
  have hc11 : ((at5 c k).t.cls == 11) = false := by rw [hv]; rfl
  have hc8 : ((at5 c k).t.cls == 8) = false := by rw [hv]; rfl
  clear he hv
  clear hsl hins
  have hl0 : 0 ≤ (k : Int) := by omega
  have hl1 : (k : Int) < (c.length : Int) := by omega
  have hl2 : (k : Int) + 1 < (c.length : Int) := by omega
  have hl3 : decide ((c.length : Int) ≤ (k : Int) + 1) = false := decide_eq_false (by omega)
  have hl4 : decide (c.length ≤ k + 1) = false := decide_eq_false (by omega)
  generalize at5 c (k + 1) = y at *
  obtain ⟨y1, y2, y3, y4, y5⟩ := y
  generalize at5 c k = x at *
  generalize x.e = E at *
  generalize x.t = T at *
  obtain ⟨op, dst, src, offs, imm⟩ := x
  obtain ⟨cls, o2, sz, wd, rg⟩ := T
  unfold I5.V at *
  unfold whV at *
  dsimp only at *
  go_enter Tryd.func47, Tryd.ntmps47
  go_wp2_with fail
  refine (HOF.out _).mono ?_
  rintro e w1 ⟨rfl, b1⟩
  have c0 : w1.cell? ⟨w.heap.size, 0, none⟩ = some (.slice pm lm cm) := cn b1 (by simp)
  have c1 : w1.cell? ⟨w.heap.size, 1, none⟩ = some (.slice (some ⟨b, off, none⟩) c.length cc) := cn b1 (by simp)
  have c4 : w1.cell? ⟨w.heap.size + 1, 4, none⟩ = some (.int .i32 imm) := cn b1 (by simp)
  replace n0 := cn b1 (cna (.cells #[.int .u8 op, .int .u8 dst, .int .u8 src, .int .i16 offs, .int .i32 imm] 37) (cna (.cells #[.slice pm lm cm, .slice (some ⟨b, off, none⟩) c.length cc] 25) n0))
  replace n1 := cn b1 (cna (.cells #[.int .u8 op, .int .u8 dst, .int .u8 src, .int .i16 offs, .int .i32 imm] 37) (cna (.cells #[.slice pm lm cm, .slice (some ⟨b, off, none⟩) c.length cc] 25) n1))
  replace n2 := cn b1 (cna (.cells #[.int .u8 op, .int .u8 dst, .int .u8 src, .int .i16 offs, .int .i32 imm] 37) (cna (.cells #[.slice pm lm cm, .slice (some ⟨b, off, none⟩) c.length cc] 25) n2))
  replace n3 := cn b1 (cna (.cells #[.int .u8 op, .int .u8 dst, .int .u8 src, .int .i16 offs, .int .i32 imm] 37) (cna (.cells #[.slice pm lm cm, .slice (some ⟨b, off, none⟩) c.length cc] 25) n3))
  replace n4 := cn b1 (cna (.cells #[.int .u8 op, .int .u8 dst, .int .u8 src, .int .i16 offs, .int .i32 imm] 37) (cna (.cells #[.slice pm lm cm, .slice (some ⟨b, off, none⟩) c.length cc] 25) n4))
  have HB := hid ((((Below.refl w.heap.size w).alloc (Nat.le_refl _) (.cells #[.slice pm lm cm, .slice (some ⟨b, off, none⟩) c.length cc] 25)).alloc (by simp) (.cells #[.int .u8 op, .int .u8 dst, .int .u8 src, .int .i16 offs, .int .i32 imm] 37)).trans (b1.mono (by simp; omega)))
  have hz1 : w.heap.size + 1 < w1.heap.size := by have := b1.size; simp at this; omega
  have hz0 : w.heap.size < w1.heap.size := by omega
  have hzb : b < w1.heap.size := by omega
  clear b1 i0 i1 i2 i3 i4 HOF
  go_wp2
  go_ret
  first
    | exact ⟨rfl, HB.out.alloc HB.out.size _⟩
    | exact ⟨rfl, (HB.out.alloc HB.out.size _).alloc (by have := HB.out.size; simp; omega) _⟩
set_option maxRecDepth 100000 in
set_option maxHeartbeats 2000000 in
theorem ralone_g10 (pm pc : Option Addr) (cm cc lm : Nat) (c : List I5) (k : Nat) (w : World) (hsl : CdSl w.heap.size w pc c.length c) (hk : k < c.length) (he : (at5 c k).e = 0) (hv : (at5 c k).t.cls = 10) (hn : k + 1 < c.length) (a0 : ((at5 c (k + 1)).op != 0) = false) (a1 : ((at5 c (k + 1)).dst != 0) = false) (a2 : ((at5 c (k + 1)).src != 0) = false) (a3 : ((at5 c (k + 1)).off != 0) = false)  :
    Calls Tryd.prog 47 #[.agg #[.slice pm lm cm, .slice pc c.length cc], .int .i64 k] w fun e w' => e = .returned (.int .i64 0) ∧ Below w.heap.size w w' := by
  have HOF := hid fun W => rof_I (at5 c k) (at5_ok hsl.2.1 k) W
  obtain ⟨b, off, hp, hb, hins⟩ := hsl.2.2.2.resolve_left (by omega)
  subst hp
  obtain ⟨i0, i1, i2, i3, i4⟩ := hins k hk
  have hlim := hsl.2.2.1
  obtain ⟨_, _, _, _, _, _, _, _, hm0, hm1⟩ := at5_ok hsl.2.1 k
  obtain ⟨n0, n1, n2, n3, n4⟩ := hins (k + 1) hn
  obtain ⟨_, _, _, _, _, _, _, _, hy0, hy1⟩ := at5_ok hsl.2.1 (k + 1)
  have hE : ((at5 c k).e != 0) = false := by simpa using he
  have hc10 : ((at5 c k).t.cls == 10) = true := by rw [hv]; rfl
  have hc11 : ((at5 c k).t.cls == 11) = false := by rw [hv]; rfl
  have hc8 : ((at5 c k).t.cls == 8) = false := by rw [hv]; rfl
  clear he hv
  clear hsl hins
  have hl0 : 0 ≤ (k : Int) := by omega
  have hl1 : (k : Int) < (c.length : Int) := by omega
  have hl2 : (k : Int) + 1 < (c.length : Int) := by omega
  have hl3 : decide ((c.length : Int) ≤ (k : Int) + 1) = false := decide_eq_false (by omega)
  have hl4 : decide (c.length ≤ k + 1) = false := decide_eq_false (by omega)
  generalize at5 c (k + 1) = y at *
  obtain ⟨y1, y2, y3, y4, y5⟩ := y
  generalize at5 c k = x at *
  generalize x.e = E at *
  generalize x.t = T at *
  obtain ⟨op, dst, src, offs, imm⟩ := x
  obtain ⟨cls, o2, sz, wd, rg⟩ := T
  unfold I5.V at *
  unfold whV at *
  dsimp only at *
  go_enter Tryd.func47, Tryd.ntmps47
  go_wp2_with fail
  refine (HOF.out _).mono ?_
  rintro e w1 ⟨rfl, b1⟩
  have c0 : w1.cell? ⟨w.heap.size, 0, none⟩ = some (.slice pm lm cm) := cn b1 (by simp)
  have c1 : w1.cell? ⟨w.heap.size, 1, none⟩ = some (.slice (some ⟨b, off, none⟩) c.length cc) := cn b1 (by simp)
  have c4 : w1.cell? ⟨w.heap.size + 1, 4, none⟩ = some (.int .i32 imm) := cn b1 (by simp)
  replace n0 := cn b1 (cna (.cells #[.int .u8 op, .int .u8 dst, .int .u8 src, .int .i16 offs, .int .i32 imm] 37) (cna (.cells #[.slice pm lm cm, .slice (some ⟨b, off, none⟩) c.length cc] 25) n0))
  replace n1 := cn b1 (cna (.cells #[.int .u8 op, .int .u8 dst, .int .u8 src, .int .i16 offs, .int .i32 imm] 37) (cna (.cells #[.slice pm lm cm, .slice (some ⟨b, off, none⟩) c.length cc] 25) n1))
  replace n2 := cn b1 (cna (.cells #[.int .u8 op, .int .u8 dst, .int .u8 src, .int .i16 offs, .int .i32 imm] 37) (cna (.cells #[.slice pm lm cm, .slice (some ⟨b, off, none⟩) c.length cc] 25) n2))
  replace n3 := cn b1 (cna (.cells #[.int .u8 op, .int .u8 dst, .int .u8 src, .int .i16 offs, .int .i32 imm] 37) (cna (.cells #[.slice pm lm cm, .slice (some ⟨b, off, none⟩) c.length cc] 25) n3))
  replace n4 := cn b1 (cna (.cells #[.int .u8 op, .int .u8 dst, .int .u8 src, .int .i16 offs, .int .i32 imm] 37) (cna (.cells #[.slice pm lm cm, .slice (some ⟨b, off, none⟩) c.length cc] 25) n4))
  have HB := hid ((((Below.refl w.heap.size w).alloc (Nat.le_refl _) (.cells #[.slice pm lm cm, .slice (some ⟨b, off, none⟩) c.length cc] 25)).alloc (by simp) (.cells #[.int .u8 op, .int .u8 dst, .int .u8 src, .int .i16 offs, .int .i32 imm] 37)).trans (b1.mono (by simp; omega)))
  have hz1 : w.heap.size + 1 < w1.heap.size := by have := b1.size; simp at this; omega
  have hz0 : w.heap.size < w1.heap.size := by omega
  have hzb : b < w1.heap.size := by omega
  clear b1 i0 i1 i2 i3 i4 HOF
  go_wp2
  go_ret
  first
    | exact ⟨rfl, HB.out.alloc HB.out.size _⟩
    | exact ⟨rfl, (HB.out.alloc HB.out.size _).alloc (by have := HB.out.size; simp; omega) _⟩
set_option maxRecDepth 100000 in
set_option maxHeartbeats 2000000 in
theorem ralone_end11 (pm pc : Option Addr) (cm cc lm : Nat) (c : List I5) (k : Nat) (w : World) (hsl : CdSl w.heap.size w pc c.length c) (hk : k < c.length) (he : (at5 c k).e = 0) (hv : (at5 c k).t.cls = 11) (hn : c.length ≤ k + 1) :
    Calls Tryd.prog 47 #[.agg #[.slice pm lm cm, .slice pc c.length cc], .int .i64 k] w fun e w' => e = .returned (.int .i64 23) ∧ Below w.heap.size w w' := by
  have HOF := hid fun W => rof_I (at5 c k) (at5_ok hsl.2.1 k) W
  obtain ⟨b, off, hp, hb, hins⟩ := hsl.2.2.2.resolve_left (by omega)
  subst hp
  obtain ⟨i0, i1, i2, i3, i4⟩ := hins k hk
  have hlim := hsl.2.2.1
  obtain ⟨_, _, _, _, _, _, _, _, hm0, hm1⟩ := at5_ok hsl.2.1 k
  have hE : ((at5 c k).e != 0) = false := by simpa using he
  have hc10 : ((at5 c k).t.cls == 10) = false := by rw [hv]; rfl
  have hc11 : ((at5 c k).t.cls == 11) = true := by rw [hv]; rfl
  have hc8 : ((at5 c k).t.cls == 8) = false := by rw [hv]; rfl
  have hl3 : decide ((c.length : Int) ≤ (k : Int) + 1) = true := decide_eq_true (by omega)
  have hl4 : decide (c.length ≤ k + 1) = true := decide_eq_true (by omega)
  clear he hv
  clear hsl hins
  have hl0 : 0 ≤ (k : Int) := by omega
  have hl1 : (k : Int) < (c.length : Int) := by omega
  generalize at5 c k = x at *
  generalize x.e = E at *
  generalize x.t = T at *
  obtain ⟨op, dst, src, offs, imm⟩ := x
  obtain ⟨cls, o2, sz, wd, rg⟩ := T
  unfold I5.V at *
  unfold whV at *
  dsimp only at *
  go_enter Tryd.func47, Tryd.ntmps47
  go_wp2_with fail
  refine (HOF.out _).mono ?_
  rintro e w1 ⟨rfl, b1⟩
  have c0 : w1.cell? ⟨w.heap.size, 0, none⟩ = some (.slice pm lm cm) := cn b1 (by simp)
  have c1 : w1.cell? ⟨w.heap.size, 1, none⟩ = some (.slice (some ⟨b, off, none⟩) c.length cc) := cn b1 (by simp)
  have c4 : w1.cell? ⟨w.heap.size + 1, 4, none⟩ = some (.int .i32 imm) := cn b1 (by simp)
  have HB := hid ((((Below.refl w.heap.size w).alloc (Nat.le_refl _) (.cells #[.slice pm lm cm, .slice (some ⟨b, off, none⟩) c.length cc] 25)).alloc (by simp) (.cells #[.int .u8 op, .int .u8 dst, .int .u8 src, .int .i16 offs, .int .i32 imm] 37)).trans (b1.mono (by simp; omega)))
  have hz1 : w.heap.size + 1 < w1.heap.size := by have := b1.size; simp at this; omega
  have hz0 : w.heap.size < w1.heap.size := by omega
  have hzb : b < w1.heap.size := by omega
  clear b1 i0 i1 i2 i3 i4 HOF
  go_wp2
  go_ret
  first
    | exact ⟨rfl, HB.out.alloc HB.out.size _⟩
    | exact ⟨rfl, (HB.out.alloc HB.out.size _).alloc (by have := HB.out.size; simp; omega) _⟩
set_option maxRecDepth 100000 in
set_option maxHeartbeats 2000000 in
theorem ralone_h11_0 (pm pc : Option Addr) (cm cc lm : Nat) (c : List I5) (k : Nat) (w : World) (hsl : CdSl w.heap.size w pc c.length c) (hk : k < c.length) (he : (at5 c k).e = 0) (hv : (at5 c k).t.cls = 11) (hn : k + 1 < c.length) (a0 : ((at5 c (k + 1)).op != 0) = true)  :
    Calls Tryd.prog 47 #[.agg #[.slice pm lm cm, .slice pc c.length cc], .int .i64 k] w fun e w' => e = .returned (.int .i64 23) ∧ Below w.heap.size w w' := by
  have HOF := hid fun W => rof_I (at5 c k) (at5_ok hsl.2.1 k) W
  obtain ⟨b, off, hp, hb, hins⟩ := hsl.2.2.2.resolve_left (by omega)
  subst hp
  obtain ⟨i0, i1, i2, i3, i4⟩ := hins k hk
  have hlim := hsl.2.2.1
  obtain ⟨_, _, _, _, _, _, _, _, hm0, hm1⟩ := at5_ok hsl.2.1 k
  obtain ⟨n0, n1, n2, n3, n4⟩ := hins (k + 1) hn
  obtain ⟨_, _, _, _, _, _, _, _, hy0, hy1⟩ := at5_ok hsl.2.1 (k + 1)
  have hE : ((at5 c k).e != 0) = false := by simpa using he
  have hc10 : ((at5 c k).t.cls == 10) = false := by rw [hv]; rfl
  have hc11 : ((at5 c k).t.cls == 11) = true := by rw [hv]; rfl
  have hc8 : ((at5 c k).t.cls == 8) = false := by rw [hv]; rfl
  clear he hv
  clear hsl hins
  have hl0 : 0 ≤ (k : Int) := by omega
  have hl1 : (k : Int) < (c.length : Int) := by omega
  have hl2 : (k : Int) + 1 < (c.length : Int) := by omega
  have hl3 : decide ((c.length : Int) ≤ (k : Int) + 1) = false := decide_eq_false (by omega)
  have hl4 : decide (c.length ≤ k + 1) = false := decide_eq_false (by omega)
  generalize at5 c (k + 1) = y at *
  obtain ⟨y1, y2, y3, y4, y5⟩ := y
  generalize at5 c k = x at *
  generalize x.e = E at *
  generalize x.t = T at *
  obtain ⟨op, dst, src, offs, imm⟩ := x
  obtain ⟨cls, o2, sz, wd, rg⟩ := T
  unfold I5.V at *
  unfold whV at *
  dsimp only at *
  go_enter Tryd.func47, Tryd.ntmps47
  go_wp2_with fail
  refine (HOF.out _).mono ?_
  rintro e w1 ⟨rfl, b1⟩
  have c0 : w1.cell? ⟨w.heap.size, 0, none⟩ = some (.slice pm lm cm) := cn b1 (by simp)
  have c1 : w1.cell? ⟨w.heap.size, 1, none⟩ = some (.slice (some ⟨b, off, none⟩) c.length cc) := cn b1 (by simp)
  have c4 : w1.cell? ⟨w.heap.size + 1, 4, none⟩ = some (.int .i32 imm) := cn b1 (by simp)
  replace n0 := cn b1 (cna (.cells #[.int .u8 op, .int .u8 dst, .int .u8 src, .int .i16 offs, .int .i32 imm] 37) (cna (.cells #[.slice pm lm cm, .slice (some ⟨b, off, none⟩) c.length cc] 25) n0))
  replace n1 := cn b1 (cna (.cells #[.int .u8 op, .int .u8 dst, .int .u8 src, .int .i16 offs, .int .i32 imm] 37) (cna (.cells #[.slice pm lm cm, .slice (some ⟨b, off, none⟩) c.length cc] 25) n1))
  replace n2 := cn b1 (cna (.cells #[.int .u8 op, .int .u8 dst, .int .u8 src, .int .i16 offs, .int .i32 imm] 37) (cna (.cells #[.slice pm lm cm, .slice (some ⟨b, off, none⟩) c.length cc] 25) n2))
  replace n3 := cn b1 (cna (.cells #[.int .u8 op, .int .u8 dst, .int .u8 src, .int .i16 offs, .int .i32 imm] 37) (cna (.cells #[.slice pm lm cm, .slice (some ⟨b, off, none⟩) c.length cc] 25) n3))
  replace n4 := cn b1 (cna (.cells #[.int .u8 op, .int .u8 dst, .int .u8 src, .int .i16 offs, .int .i32 imm] 37) (cna (.cells #[.slice pm lm cm, .slice (some ⟨b, off, none⟩) c.length cc] 25) n4))
  have HB := hid ((((Below.refl w.heap.size w).alloc (Nat.le_refl _) (.cells #[.slice pm lm cm, .slice (some ⟨b, off, none⟩) c.length cc] 25)).alloc (by simp) (.cells #[.int .u8 op, .int .u8 dst, .int .u8 src, .int .i16 offs, .int .i32 imm] 37)).trans (b1.mono (by simp; omega)))
  have hz1 : w.heap.size + 1 < w1.heap.size := by have := b1.size; simp at this; omega
  have hz0 : w.heap.size < w1.heap.size := by omega
  have hzb : b < w1.heap.size := by omega
  clear b1 i0 i1 i2 i3 i4 HOF
  go_wp2
  go_ret
  first
    | exact ⟨rfl, HB.out.alloc HB.out.size _⟩
    | exact ⟨rfl, (HB.out.alloc HB.out.size _).alloc (by have := HB.out.size; simp; omega) _⟩
set_option maxRecDepth 100000 in
set_option maxHeartbeats 2000000 in
theorem ralone_h11_1 (pm pc : Option Addr) (cm cc lm : Nat) (c : List I5) (k : Nat) (w : World) (hsl : CdSl w.heap.size w pc c.length c) (hk : k < c.length) (he : (at5 c k).e = 0) (hv : (at5 c k).t.cls = 11) (hn : k + 1 < c.length) (a0 : ((at5 c (k + 1)).op != 0) = false) (a1 : ((at5 c (k + 1)).dst != 0) = true)  :
    Calls Tryd.prog 47 #[.agg #[.slice pm lm cm, .slice pc c.length cc], .int .i64 k] w fun e w' => e = .returned (.int .i64 23) ∧ Below w.heap.size w w' := by
  have HOF := hid fun W => rof_I (at5 c k) (at5_ok hsl.2.1 k) W
  obtain ⟨b, off, hp, hb, hins⟩ := hsl.2.2.2.resolve_left (by omega)
  subst hp
  obtain ⟨i0, i1, i2, i3, i4⟩ := hins k hk
  have hlim := hsl.2.2.1
  obtain ⟨_, _, _, _, _, _, _, _, hm0, hm1⟩ := at5_ok hsl.2.1 k
  obtain ⟨n0, n1, n2, n3, n4⟩ := hins (k + 1) hn
  obtain ⟨_, _, _, _, _, _, _, _, hy0, hy1⟩ := at5_ok hsl.2.1 (k + 1)
  have hE : ((at5 c k).e != 0) = false := by simpa using he
  have hc10 : ((at5 c k).t.cls == 10) = false := by rw [hv]; rfl
  have hc11 : ((at5 c k).t.cls == 11) = true := by rw [hv]; rfl
  have hc8 : ((at5 c k).t.cls == 8) = false := by rw [hv]; rfl
  clear he hv
  clear hsl hins
  have hl0 : 0 ≤ (k : Int) := by omega
  have hl1 : (k : Int) < (c.length : Int) := by omega
  have hl2 : (k : Int) + 1 < (c.length : Int) := by omega
  have hl3 : decide ((c.length : Int) ≤ (k : Int) + 1) = false := decide_eq_false (by omega)
  have hl4 : decide (c.length ≤ k + 1) = false := decide_eq_false (by omega)
  generalize at5 c (k + 1) = y at *
  obtain ⟨y1, y2, y3, y4, y5⟩ := y
  generalize at5 c k = x at *
  generalize x.e = E at *
  generalize x.t = T at *
  obtain ⟨op, dst, src, offs, imm⟩ := x
  obtain ⟨cls, o2, sz, wd, rg⟩ := T
  unfold I5.V at *
  unfold whV at *
  dsimp only at *
  go_enter Tryd.func47, Tryd.ntmps47
  go_wp2_with fail
  refine (HOF.out _).mono ?_
  rintro e w1 ⟨rfl, b1⟩
  have c0 : w1.cell? ⟨w.heap.size, 0, none⟩ = some (.slice pm lm cm) := cn b1 (by simp)
  have c1 : w1.cell? ⟨w.heap.size, 1, none⟩ = some (.slice (some ⟨b, off, none⟩) c.length cc) := cn b1 (by simp)
  have c4 : w1.cell? ⟨w.heap.size + 1, 4, none⟩ = some (.int .i32 imm) := cn b1 (by simp)
  replace n0 := cn b1 (cna (.cells #[.int .u8 op, .int .u8 dst, .int .u8 src, .int .i16 offs, .int .i32 imm] 37) (cna (.cells #[.slice pm lm cm, .slice (some ⟨b, off, none⟩) c.length cc] 25) n0))
  replace n1 := cn b1 (cna (.cells #[.int .u8 op, .int .u8 dst, .int .u8 src, .int .i16 offs, .int .i32 imm] 37) (cna (.cells #[.slice pm lm cm, .slice (some ⟨b, off, none⟩) c.length cc] 25) n1))
  replace n2 := cn b1 (cna (.cells #[.int .u8 op, .int .u8 dst, .int .u8 src, .int .i16 offs, .int .i32 imm] 37) (cna (.cells #[.slice pm lm cm, .slice (some ⟨b, off, none⟩) c.length cc] 25) n2))
  replace n3 := cn b1 (cna (.cells #[.int .u8 op, .int .u8 dst, .int .u8 src, .int .i16 offs, .int .i32 imm] 37) (cna (.cells #[.slice pm lm cm, .slice (some ⟨b, off, none⟩) c.length cc] 25) n3))
  replace n4 := cn b1 (cna (.cells #[.int .u8 op, .int .u8 dst, .int .u8 src, .int .i16 offs, .int .i32 imm] 37) (cna (.cells #[.slice pm lm cm, .slice (some ⟨b, off, none⟩) c.length cc] 25) n4))
  have HB := hid ((((Below.refl w.heap.size w).alloc (Nat.le_refl _) (.cells #[.slice pm lm cm, .slice (some ⟨b, off, none⟩) c.length cc] 25)).alloc (by simp) (.cells #[.int .u8 op, .int .u8 dst, .int .u8 src, .int .i16 offs, .int .i32 imm] 37)).trans (b1.mono (by simp; omega)))
  have hz1 : w.heap.size + 1 < w1.heap.size := by have := b1.size; simp at this; omega
  have hz0 : w.heap.size < w1.heap.size := by omega
  have hzb : b < w1.heap.size := by omega
  clear b1 i0 i1 i2 i3 i4 HOF
  go_wp2
  go_ret
  first
    | exact ⟨rfl, HB.out.alloc HB.out.size _⟩
    | exact ⟨rfl, (HB.out.alloc HB.out.size _).alloc (by have := HB.out.size; simp; omega) _⟩
set_option maxRecDepth 100000 in
set_option maxHeartbeats 2000000 in
theorem ralone_h11_2 (pm pc : Option Addr) (cm cc lm : Nat) (c : List I5) (k : Nat) (w : World) (hsl : CdSl w.heap.size w pc c.length c) (hk : k < c.length) (he : (at5 c k).e = 0) (hv : (at5 c k).t.cls = 11) (hn : k + 1 < c.length) (a0 : ((at5 c (k + 1)).op != 0) = false) (a1 : ((at5 c (k + 1)).dst != 0) = false) (a2 : ((at5 c (k + 1)).src != 0) = true)  :
    Calls Tryd.prog 47 #[.agg #[.slice pm lm cm, .slice pc c.length cc], .int .i64 k] w fun e w' => e = .returned (.int .i64 23) ∧ Below w.heap.size w w' := by
  have HOF := hid fun W => rof_I (at5 c k) (at5_ok hsl.2.1 k) W
  obtain ⟨b, off, hp, hb, hins⟩ := hsl.2.2.2.resolve_left (by omega)
  subst hp
  obtain ⟨i0, i1, i2, i3, i4⟩ := hins k hk
  have hlim := hsl.2.2.1
  obtain ⟨_, _, _, _, _, _, _, _, hm0, hm1⟩ := at5_ok hsl.2.1 k
  obtain ⟨n0, n1, n2, n3, n4⟩ := hins (k + 1) hn
  obtain ⟨_, _, _, _, _, _, _, _, hy0, hy1⟩ := at5_ok hsl.2.1 (k + 1)
  have hE : ((at5 c k).e != 0) = false := by simpa using he
  have hc10 : ((at5 c k).t.cls == 10) = false := by rw [hv]; rfl
  have hc11 : ((at5 c k).t.cls == 11) = true := by rw [hv]; rfl
  have hc8 : ((at5 c k).t.cls == 8) = false := by rw [hv]; rfl
  clear he hv
  clear hsl hins
  have hl0 : 0 ≤ (k : Int) := by omega
  have hl1 : (k : Int) < (c.length : Int) := by omega
  have hl2 : (k : Int) + 1 < (c.length : Int) := by omega
  have hl3 : decide ((c.length : Int) ≤ (k : Int) + 1) = false := decide_eq_false (by omega)
  have hl4 : decide (c.length ≤ k + 1) = false := decide_eq_false (by omega)
  generalize at5 c (k + 1) = y at *
  obtain ⟨y1, y2, y3, y4, y5⟩ := y
  generalize at5 c k = x at *
  generalize x.e = E at *
  generalize x.t = T at *
  obtain ⟨op, dst, src, offs, imm⟩ := x
  obtain ⟨cls, o2, sz, wd, rg⟩ := T
  unfold I5.V at *
  unfold whV at *
  dsimp only at *
  go_enter Tryd.func47, Tryd.ntmps47
  go_wp2_with fail
  refine (HOF.out _).mono ?_
  rintro e w1 ⟨rfl, b1⟩
  have c0 : w1.cell? ⟨w.heap.size, 0, none⟩ = some (.slice pm lm cm) := cn b1 (by simp)
  have c1 : w1.cell? ⟨w.heap.size, 1, none⟩ = some (.slice (some ⟨b, off, none⟩) c.length cc) := cn b1 (by simp)
  have c4 : w1.cell? ⟨w.heap.size + 1, 4, none⟩ = some (.int .i32 imm) := cn b1 (by simp)
  replace n0 := cn b1 (cna (.cells #[.int .u8 op, .int .u8 dst, .int .u8 src, .int .i16 offs, .int .i32 imm] 37) (cna (.cells #[.slice pm lm cm, .slice (some ⟨b, off, none⟩) c.length cc] 25) n0))
  replace n1 := cn b1 (cna (.cells #[.int .u8 op, .int .u8 dst, .int .u8 src, .int .i16 offs, .int .i32 imm] 37) (cna (.cells #[.slice pm lm cm, .slice (some ⟨b, off, none⟩) c.length cc] 25) n1))
  replace n2 := cn b1 (cna (.cells #[.int .u8 op, .int .u8 dst, .int .u8 src, .int .i16 offs, .int .i32 imm] 37) (cna (.cells #[.slice pm lm cm, .slice (some ⟨b, off, none⟩) c.length cc] 25) n2))
  replace n3 := cn b1 (cna (.cells #[.int .u8 op, .int .u8 dst, .int .u8 src, .int .i16 offs, .int .i32 imm] 37) (cna (.cells #[.slice pm lm cm, .slice (some ⟨b, off, none⟩) c.length cc] 25) n3))
  replace n4 := cn b1 (cna (.cells #[.int .u8 op, .int .u8 dst, .int .u8 src, .int .i16 offs, .int .i32 imm] 37) (cna (.cells #[.slice pm lm cm, .slice (some ⟨b, off, none⟩) c.length cc] 25) n4))
  have HB := hid ((((Below.refl w.heap.size w).alloc (Nat.le_refl _) (.cells #[.slice pm lm cm, .slice (some ⟨b, off, none⟩) c.length cc] 25)).alloc (by simp) (.cells #[.int .u8 op, .int .u8 dst, .int .u8 src, .int .i16 offs, .int .i32 imm] 37)).trans (b1.mono (by simp; omega)))
  have hz1 : w.heap.size + 1 < w1.heap.size := by have := b1.size; simp at this; omega
  have hz0 : w.heap.size < w1.heap.size := by omega
  have hzb : b < w1.heap.size := by omega
  clear b1 i0 i1 i2 i3 i4 HOF
  go_wp2
  go_ret
  first
    | exact ⟨rfl, HB.out.alloc HB.out.size _⟩
    | exact ⟨rfl, (HB.out.alloc HB.out.size _).alloc (by have := HB.out.size; simp; omega) _⟩
set_option maxRecDepth 100000 in
set_option maxHeartbeats 2000000 in
theorem ralone_h11_3 (pm pc : Option Addr) (cm cc lm : Nat) (c : List I5) (k : Nat) (w : World) (hsl : CdSl w.heap.size w pc c.length c) (hk : k < c.length) (he : (at5 c k).e = 0) (hv : (at5 c k).t.cls = 11) (hn : k + 1 < c.length) (a0 : ((at5 c (k + 1)).op != 0) = false) (a1 : ((at5 c (k + 1)).dst != 0) = false) (a2 : ((at5 c (k + 1)).src != 0) = false) (a3 : ((at5 c (k + 1)).off != 0) = true)  :
    Calls Tryd.prog 47 #[.agg #[.slice pm lm cm, .slice pc c.length cc], .int .i64 k] w fun e w' => e = .returned (.int .i64 23) ∧ Below w.heap.size w w' := by
  have HOF := hid fun W => rof_I (at5 c k) (at5_ok hsl.2.1 k) W
  obtain ⟨b, off, hp, hb, hins⟩ := hsl.2.2.2.resolve_left (by omega)
  subst hp
  obtain ⟨i0, i1, i2, i3, i4⟩ := hins k hk
  have hlim := hsl.2.2.1
  obtain ⟨_, _, _, _, _, _, _, _, hm0, hm1⟩ := at5_ok hsl.2.1 k
  obtain ⟨n0, n1, n2, n3, n4⟩ := hins (k + 1) hn
  obtain ⟨_, _, _, _, _, _, _, _, hy0, hy1⟩ := at5_ok hsl.2.1 (k + 1)
  have hE : ((at5 c k).e != 0) = false := by simpa using he
  have hc10 : ((at5 c k).t.cls == 10) = false := by rw [hv]; rfl
  have hc11 : ((at5 c k).t.cls == 11) = true := by rw [hv]; rfl
  have hc8 : ((at5 c k).t.cls == 8) = false := by rw [hv]; rfl
  clear he hv
  clear hsl hins
  have hl0 : 0 ≤ (k : Int) := by omega
  have hl1 : (k : Int) < (c.length : Int) := by omega
  have hl2 : (k : Int) + 1 < (c.length : Int) := by omega
  have hl3 : decide ((c.length : Int) ≤ (k : Int) + 1) = false := decide_eq_false (by omega)
  have hl4 : decide (c.length ≤ k + 1) = false := decide_eq_false (by omega)
  generalize at5 c (k + 1) = y at *
  obtain ⟨y1, y2, y3, y4, y5⟩ := y
  generalize at5 c k = x at *
  generalize x.e = E at *
  generalize x.t = T at *
  obtain ⟨op, dst, src, offs, imm⟩ := x
  obtain ⟨cls, o2, sz, wd, rg⟩ := T
  unfold I5.V at *
  unfold whV at *
  dsimp only at *
  go_enter Tryd.func47, Tryd.ntmps47
  go_wp2_with fail
  refine (HOF.out _).mono ?_
  rintro e w1 ⟨rfl, b1⟩
  have c0 : w1.cell? ⟨w.heap.size, 0, none⟩ = some (.slice pm lm cm) := cn b1 (by simp)
  have c1 : w1.cell? ⟨w.heap.size, 1, none⟩ = some (.slice (some ⟨b, off, none⟩) c.length cc) := cn b1 (by simp)
  have c4 : w1.cell? ⟨w.heap.size + 1, 4, none⟩ = some (.int .i32 imm) := cn b1 (by simp)
  replace n0 := cn b1 (cna (.cells #[.int .u8 op, .int .u8 dst, .int .u8 src, .int .i16 offs, .int .i32 imm] 37) (cna (.cells #[.slice pm lm cm, .slice (some ⟨b, off, none⟩) c.length cc] 25) n0))
  replace n1 := cn b1 (cna (.cells #[.int .u8 op, .int .u8 dst, .int .u8 src, .int .i16 offs, .int .i32 imm] 37) (cna (.cells #[.slice pm lm cm, .slice (some ⟨b, off, none⟩) c.length cc] 25) n1))
  replace n2 := cn b1 (cna (.cells #[.int .u8 op, .int .u8 dst, .int .u8 src, .int .i16 offs, .int .i32 imm] 37) (cna (.cells #[.slice pm lm cm, .slice (some ⟨b, off, none⟩) c.length cc] 25) n2))
  replace n3 := cn b1 (cna (.cells #[.int .u8 op, .int .u8 dst, .int .u8 src, .int .i16 offs, .int .i32 imm] 37) (cna (.cells #[.slice pm lm cm, .slice (some ⟨b, off, none⟩) c.length cc] 25) n3))
  replace n4 := cn b1 (cna (.cells #[.int .u8 op, .int .u8 dst, .int .u8 src, .int .i16 offs, .int .i32 imm] 37) (cna (.cells #[.slice pm lm cm, .slice (some ⟨b, off, none⟩) c.length cc] 25) n4))
  have HB := hid ((((Below.refl w.heap.size w).alloc (Nat.le_refl _) (.cells #[.slice pm lm cm, .slice (some ⟨b, off, none⟩) c.length cc] 25)).alloc (by simp) (.cells #[.int .u8 op, .int .u8 dst, .int .u8 src, .int .i16 offs, .int .i32 imm] 37)).trans (b1.mono (by simp; omega)))
  have hz1 : w.heap.size + 1 < w1.heap.size := by have := b1.size; simp at this; omega
  have hz0 : w.heap.size < w1.heap.size := by omega
  have hzb : b < w1.heap.size := by omega
  clear b1 i0 i1 i2 i3 i4 HOF
  go_wp2
  go_ret
  first
    | exact ⟨rfl, HB.out.alloc HB.out.size _⟩
    | exact ⟨rfl, (HB.out.alloc HB.out.size _).alloc (by have := HB.out.size; simp; omega) _⟩
set_option maxRecDepth 100000 in
set_option maxHeartbeats 2000000 in
theorem ralone_h11_4 (pm pc : Option Addr) (cm cc lm : Nat) (c : List I5) (k : Nat) (w : World) (hsl : CdSl w.heap.size w pc c.length c) (hk : k < c.length) (he : (at5 c k).e = 0) (hv : (at5 c k).t.cls = 11) (hn : k + 1 < c.length) (a0 : ((at5 c (k + 1)).op != 0) = false) (a1 : ((at5 c (k + 1)).dst != 0) = false) (a2 : ((at5 c (k + 1)).src != 0) = false) (a3 : ((at5 c (k + 1)).off != 0) = false) (a4 : ((at5 c (k + 1)).imm != 0) = true)  :
    Calls Tryd.prog 47 #[.agg #[.slice pm lm cm, .slice pc c.length cc], .int .i64 k] w fun e w' => e = .returned (.int .i64 23) ∧ Below w.heap.size w w' := by
  have HOF := hid fun W => rof_I (at5 c k) (at5_ok hsl.2.1 k) W
  obtain ⟨b, off, hp, hb, hins⟩ := hsl.2.2.2.resolve_left (by omega)
  subst hp
  obtain ⟨i0, i1, i2, i3, i4⟩ := hins k hk
  have hlim := hsl.2.2.1
  obtain ⟨_, _, _, _, _, _, _, _, hm0, hm1⟩ := at5_ok hsl.2.1 k
  obtain ⟨n0, n1, n2, n3, n4⟩ := hins (k + 1) hn
  obtain ⟨_, _, _, _, _, _, _, _, hy0, hy1⟩ := at5_ok hsl.2.1 (k + 1)
  have hE : ((at5 c k).e != 0) = false := by simpa using he
  have hc10 : ((at5 c k).t.cls == 10) = false := by rw [hv]; rfl
  have hc11 : ((at5 c k).t.cls == 11) = true := by rw [hv]; rfl
  have hc8 : ((at5 c k).t.cls == 8) = false := by rw [hv]; rfl
  clear he hv
  clear hsl hins
  have hl0 : 0 ≤ (k : Int) := by omega
  have hl1 : (k : Int) < (c.length : Int) := by omega
  have hl2 : (k : Int) + 1 < (c.length : Int) := by omega
  have hl3 : decide ((c.length : Int) ≤ (k : Int) + 1) = false := decide_eq_false (by omega)
  have hl4 : decide (c.length ≤ k + 1) = false := decide_eq_false (by omega)
  generalize at5 c (k + 1) = y at *
  obtain ⟨y1, y2, y3, y4, y5⟩ := y
  generalize at5 c k = x at *
  generalize x.e = E at *
  generalize x.t = T at *
  obtain ⟨op, dst, src, offs, imm⟩ := x
  obtain ⟨cls, o2, sz, wd, rg⟩ := T
  unfold I5.V at *
  unfold whV at *
  dsimp only at *
  go_enter Tryd.func47, Tryd.ntmps47
  go_wp2_with fail
  refine (HOF.out _).mono ?_
  rintro e w1 ⟨rfl, b1⟩
  have c0 : w1.cell? ⟨w.heap.size, 0, none⟩ = some (.slice pm lm cm) := cn b1 (by simp)
  have c1 : w1.cell? ⟨w.heap.size, 1, none⟩ = some (.slice (some ⟨b, off, none⟩) c.length cc) := cn b1 (by simp)
  have c4 : w1.cell? ⟨w.heap.size + 1, 4, none⟩ = some (.int .i32 imm) := cn b1 (by simp)
  replace n0 := cn b1 (cna (.cells #[.int .u8 op, .int .u8 dst, .int .u8 src, .int .i16 offs, .int .i32 imm] 37) (cna (.cells #[.slice pm lm cm, .slice (some ⟨b, off, none⟩) c.length cc] 25) n0))
  replace n1 := cn b1 (cna (.cells #[.int .u8 op, .int .u8 dst, .int .u8 src, .int .i16 offs, .int .i32 imm] 37) (cna (.cells #[.slice pm lm cm, .slice (some ⟨b, off, none⟩) c.length cc] 25) n1))
  replace n2 := cn b1 (cna (.cells #[.int .u8 op, .int .u8 dst, .int .u8 src, .int .i16 offs, .int .i32 imm] 37) (cna (.cells #[.slice pm lm cm, .slice (some ⟨b, off, none⟩) c.length cc] 25) n2))
  replace n3 := cn b1 (cna (.cells #[.int .u8 op, .int .u8 dst, .int .u8 src, .int .i16 offs, .int .i32 imm] 37) (cna (.cells #[.slice pm lm cm, .slice (some ⟨b, off, none⟩) c.length cc] 25) n3))
  replace n4 := cn b1 (cna (.cells #[.int .u8 op, .int .u8 dst, .int .u8 src, .int .i16 offs, .int .i32 imm] 37) (cna (.cells #[.slice pm lm cm, .slice (some ⟨b, off, none⟩) c.length cc] 25) n4))
  have HB := hid ((((Below.refl w.heap.size w).alloc (Nat.le_refl _) (.cells #[.slice pm lm cm, .slice (some ⟨b, off, none⟩) c.length cc] 25)).alloc (by simp) (.cells #[.int .u8 op, .int .u8 dst, .int .u8 src, .int .i16 offs, .int .i32 imm] 37)).trans (b1.mono (by simp; omega)))
  have hz1 : w.heap.size + 1 < w1.heap.size := by have := b1.size; simp at this; omega
  have hz0 : w.heap.size < w1.heap.size := by omega
  have hzb : b < w1.heap.size := by omega
  clear b1 i0 i1 i2 i3 i4 HOF
  go_wp2
  go_ret
  first
    | exact ⟨rfl, HB.out.alloc HB.out.size _⟩
    | exact ⟨rfl, (HB.out.alloc HB.out.size _).alloc (by have := HB.out.size; simp; omega) _⟩
set_option maxRecDepth 100000 in
set_option maxHeartbeats 2000000 in
theorem ralone_g11a (pm pc : Option Addr) (cm cc lm : Nat) (c : List I5) (k : Nat) (w : World) (hsl : CdSl w.heap.size w pc c.length c) (hk : k < c.length) (he : (at5 c k).e = 0) (hv : (at5 c k).t.cls = 11) (hn : k + 1 < c.length) (a0 : ((at5 c (k + 1)).op != 0) = false) (a1 : ((at5 c (k + 1)).dst != 0) = false) (a2 : ((at5 c (k + 1)).src != 0) = false) (a3 : ((at5 c (k + 1)).off != 0) = false) (a4 : ((at5 c (k + 1)).imm != 0) = false) (hi : (at5 c k).imm < 0) :
    Calls Tryd.prog 47 #[.agg #[.slice pm lm cm, .slice pc c.length cc], .int .i64 k] w fun e w' => e = .returned (.int .i64 26) ∧ Below w.heap.size w w' := by
  have HOF := hid fun W => rof_I (at5 c k) (at5_ok hsl.2.1 k) W
  obtain ⟨b, off, hp, hb, hins⟩ := hsl.2.2.2.resolve_left (by omega)
  subst hp
  obtain ⟨i0, i1, i2, i3, i4⟩ := hins k hk
  have hlim := hsl.2.2.1
  obtain ⟨_, _, _, _, _, _, _, _, hm0, hm1⟩ := at5_ok hsl.2.1 k
  obtain ⟨n0, n1, n2, n3, n4⟩ := hins (k + 1) hn
  obtain ⟨_, _, _, _, _, _, _, _, hy0, hy1⟩ := at5_ok hsl.2.1 (k + 1)
  have hE : ((at5 c k).e != 0) = false := by simpa using he
  have hc10 : ((at5 c k).t.cls == 10) = false := by rw [hv]; rfl
  have hc11 : ((at5 c k).t.cls == 11) = true := by rw [hv]; rfl
  have hc8 : ((at5 c k).t.cls == 8) = false := by rw [hv]; rfl
  have t0 : decide ((at5 c k).imm < 0) = true := decide_eq_true hi
  clear he hv hi
  clear hsl hins
  have hl0 : 0 ≤ (k : Int) := by omega
  have hl1 : (k : Int) < (c.length : Int) := by omega
  have hl2 : (k : Int) + 1 < (c.length : Int) := by omega
  have hl3 : decide ((c.length : Int) ≤ (k : Int) + 1) = false := decide_eq_false (by omega)
  have hl4 : decide (c.length ≤ k + 1) = false := decide_eq_false (by omega)
  generalize at5 c (k + 1) = y at *
  obtain ⟨y1, y2, y3, y4, y5⟩ := y
  generalize at5 c k = x at *
  generalize x.e = E at *
  generalize x.t = T at *
  obtain ⟨op, dst, src, offs, imm⟩ := x
  obtain ⟨cls, o2, sz, wd, rg⟩ := T
  unfold I5.V at *
  unfold whV at *
  dsimp only at *
  go_enter Tryd.func47, Tryd.ntmps47
  go_wp2_with fail
  refine (HOF.out _).mono ?_
  rintro e w1 ⟨rfl, b1⟩
  have c0 : w1.cell? ⟨w.heap.size, 0, none⟩ = some (.slice pm lm cm) := cn b1 (by simp)
  have c1 : w1.cell? ⟨w.heap.size, 1, none⟩ = some (.slice (some ⟨b, off, none⟩) c.length cc) := cn b1 (by simp)
  have c4 : w1.cell? ⟨w.heap.size + 1, 4, none⟩ = some (.int .i32 imm) := cn b1 (by simp)
  replace n0 := cn b1 (cna (.cells #[.int .u8 op, .int .u8 dst, .int .u8 src, .int .i16 offs, .int .i32 imm] 37) (cna (.cells #[.slice pm lm cm, .slice (some ⟨b, off, none⟩) c.length cc] 25) n0))
  replace n1 := cn b1 (cna (.cells #[.int .u8 op, .int .u8 dst, .int .u8 src, .int .i16 offs, .int .i32 imm] 37) (cna (.cells #[.slice pm lm cm, .slice (some ⟨b, off, none⟩) c.length cc] 25) n1))
  replace n2 := cn b1 (cna (.cells #[.int .u8 op, .int .u8 dst, .int .u8 src, .int .i16 offs, .int .i32 imm] 37) (cna (.cells #[.slice pm lm cm, .slice (some ⟨b, off, none⟩) c.length cc] 25) n2))
  replace n3 := cn b1 (cna (.cells #[.int .u8 op, .int .u8 dst, .int .u8 src, .int .i16 offs, .int .i32 imm] 37) (cna (.cells #[.slice pm lm cm, .slice (some ⟨b, off, none⟩) c.length cc] 25) n3))
  replace n4 := cn b1 (cna (.cells #[.int .u8 op, .int .u8 dst, .int .u8 src, .int .i16 offs, .int .i32 imm] 37) (cna (.cells #[.slice pm lm cm, .slice (some ⟨b, off, none⟩) c.length cc] 25) n4))
  have HB := hid ((((Below.refl w.heap.size w).alloc (Nat.le_refl _) (.cells #[.slice pm lm cm, .slice (some ⟨b, off, none⟩) c.length cc] 25)).alloc (by simp) (.cells #[.int .u8 op, .int .u8 dst, .int .u8 src, .int .i16 offs, .int .i32 imm] 37)).trans (b1.mono (by simp; omega)))
  have hz1 : w.heap.size + 1 < w1.heap.size := by have := b1.size; simp at this; omega
  have hz0 : w.heap.size < w1.heap.size := by omega
  have hzb : b < w1.heap.size := by omega
  clear b1 i0 i1 i2 i3 i4 HOF
  go_wp2
  go_ret
  first
    | exact ⟨rfl, HB.out.alloc HB.out.size _⟩
    | exact ⟨rfl, (HB.out.alloc HB.out.size _).alloc (by have := HB.out.size; simp; omega) _⟩
set_option maxRecDepth 100000 in
set_option maxHeartbeats 2000000 in
theorem ralone_g11b (pm pc : Option Addr) (cm cc lm : Nat) (c : List I5) (k : Nat) (w : World) (hsl : CdSl w.heap.size w pc c.length c) (hk : k < c.length) (he : (at5 c k).e = 0) (hv : (at5 c k).t.cls = 11) (hn : k + 1 < c.length) (a0 : ((at5 c (k + 1)).op != 0) = false) (a1 : ((at5 c (k + 1)).dst != 0) = false) (a2 : ((at5 c (k + 1)).src != 0) = false) (a3 : ((at5 c (k + 1)).off != 0) = false) (a4 : ((at5 c (k + 1)).imm != 0) = false) (hi : ¬ (at5 c k).imm < 0) (hj : (lm : Int) ≤ (at5 c k).imm) :
    Calls Tryd.prog 47 #[.agg #[.slice pm lm cm, .slice pc c.length cc], .int .i64 k] w fun e w' => e = .returned (.int .i64 26) ∧ Below w.heap.size w w' := by
  have HOF := hid fun W => rof_I (at5 c k) (at5_ok hsl.2.1 k) W
  obtain ⟨b, off, hp, hb, hins⟩ := hsl.2.2.2.resolve_left (by omega)
  subst hp
  obtain ⟨i0, i1, i2, i3, i4⟩ := hins k hk
  have hlim := hsl.2.2.1
  obtain ⟨_, _, _, _, _, _, _, _, hm0, hm1⟩ := at5_ok hsl.2.1 k
  obtain ⟨n0, n1, n2, n3, n4⟩ := hins (k + 1) hn
  obtain ⟨_, _, _, _, _, _, _, _, hy0, hy1⟩ := at5_ok hsl.2.1 (k + 1)
  have hE : ((at5 c k).e != 0) = false := by simpa using he
  have hc10 : ((at5 c k).t.cls == 10) = false := by rw [hv]; rfl
  have hc11 : ((at5 c k).t.cls == 11) = true := by rw [hv]; rfl
  have hc8 : ((at5 c k).t.cls == 8) = false := by rw [hv]; rfl
  have t0 : decide ((at5 c k).imm < 0) = false := decide_eq_false hi
  have t1 : decide ((lm : Int) ≤ (at5 c k).imm) = true := decide_eq_true hj
  clear he hv hi hj
  clear hsl hins
  have hl0 : 0 ≤ (k : Int) := by omega
  have hl1 : (k : Int) < (c.length : Int) := by omega
  have hl2 : (k : Int) + 1 < (c.length : Int) := by omega
  have hl3 : decide ((c.length : Int) ≤ (k : Int) + 1) = false := decide_eq_false (by omega)
  have hl4 : decide (c.length ≤ k + 1) = false := decide_eq_false (by omega)
  generalize at5 c (k + 1) = y at *
  obtain ⟨y1, y2, y3, y4, y5⟩ := y
  generalize at5 c k = x at *
  generalize x.e = E at *
  generalize x.t = T at *
  obtain ⟨op, dst, src, offs, imm⟩ := x
  obtain ⟨cls, o2, sz, wd, rg⟩ := T
  unfold I5.V at *
  unfold whV at *
  dsimp only at *
  go_enter Tryd.func47, Tryd.ntmps47
  go_wp2_with fail
  refine (HOF.out _).mono ?_
  rintro e w1 ⟨rfl, b1⟩
  have c0 : w1.cell? ⟨w.heap.size, 0, none⟩ = some (.slice pm lm cm) := cn b1 (by simp)
  have c1 : w1.cell? ⟨w.heap.size, 1, none⟩ = some (.slice (some ⟨b, off, none⟩) c.length cc) := cn b1 (by simp)
  have c4 : w1.cell? ⟨w.heap.size + 1, 4, none⟩ = some (.int .i32 imm) := cn b1 (by simp)
  replace n0 := cn b1 (cna (.cells #[.int .u8 op, .int .u8 dst, .int .u8 src, .int .i16 offs, .int .i32 imm] 37) (cna (.cells #[.slice pm lm cm, .slice (some ⟨b, off, none⟩) c.length cc] 25) n0))
  replace n1 := cn b1 (cna (.cells #[.int .u8 op, .int .u8 dst, .int .u8 src, .int .i16 offs, .int .i32 imm] 37) (cna (.cells #[.slice pm lm cm, .slice (some ⟨b, off, none⟩) c.length cc] 25) n1))
  replace n2 := cn b1 (cna (.cells #[.int .u8 op, .int .u8 dst, .int .u8 src, .int .i16 offs, .int .i32 imm] 37) (cna (.cells #[.slice pm lm cm, .slice (some ⟨b, off, none⟩) c.length cc] 25) n2))
  replace n3 := cn b1 (cna (.cells #[.int .u8 op, .int .u8 dst, .int .u8 src, .int .i16 offs, .int .i32 imm] 37) (cna (.cells #[.slice pm lm cm, .slice (some ⟨b, off, none⟩) c.length cc] 25) n3))
  replace n4 := cn b1 (cna (.cells #[.int .u8 op, .int .u8 dst, .int .u8 src, .int .i16 offs, .int .i32 imm] 37) (cna (.cells #[.slice pm lm cm, .slice (some ⟨b, off, none⟩) c.length cc] 25) n4))
  have HB := hid ((((Below.refl w.heap.size w).alloc (Nat.le_refl _) (.cells #[.slice pm lm cm, .slice (some ⟨b, off, none⟩) c.length cc] 25)).alloc (by simp) (.cells #[.int .u8 op, .int .u8 dst, .int .u8 src, .int .i16 offs, .int .i32 imm] 37)).trans (b1.mono (by simp; omega)))
  have hz1 : w.heap.size + 1 < w1.heap.size := by have := b1.size; simp at this; omega
  have hz0 : w.heap.size < w1.heap.size := by omega
  have hzb : b < w1.heap.size := by omega
  clear b1 i0 i1 i2 i3 i4 HOF
  go_wp2
  go_ret
  first
    | exact ⟨rfl, HB.out.alloc HB.out.size _⟩
    | exact ⟨rfl, (HB.out.alloc HB.out.size _).alloc (by have := HB.out.size; simp; omega) _⟩
set_option maxRecDepth 100000 in
set_option maxHeartbeats 2000000 in
theorem ralone_g11c (pm pc : Option Addr) (cm cc lm : Nat) (c : List I5) (k : Nat) (w : World) (hsl : CdSl w.heap.size w pc c.length c) (hk : k < c.length) (he : (at5 c k).e = 0) (hv : (at5 c k).t.cls = 11) (hn : k + 1 < c.length) (a0 : ((at5 c (k + 1)).op != 0) = false) (a1 : ((at5 c (k + 1)).dst != 0) = false) (a2 : ((at5 c (k + 1)).src != 0) = false) (a3 : ((at5 c (k + 1)).off != 0) = false) (a4 : ((at5 c (k + 1)).imm != 0) = false) (hi : ¬ (at5 c k).imm < 0) (hj : ¬ (lm : Int) ≤ (at5 c k).imm) :
    Calls Tryd.prog 47 #[.agg #[.slice pm lm cm, .slice pc c.length cc], .int .i64 k] w fun e w' => e = .returned (.int .i64 0) ∧ Below w.heap.size w w' := by
  have HOF := hid fun W => rof_I (at5 c k) (at5_ok hsl.2.1 k) W
  obtain ⟨b, off, hp, hb, hins⟩ := hsl.2.2.2.resolve_left (by omega)
  subst hp
  obtain ⟨i0, i1, i2, i3, i4⟩ := hins k hk
  have hlim := hsl.2.2.1
  obtain ⟨_, _, _, _, _, _, _, _, hm0, hm1⟩ := at5_ok hsl.2.1 k
  obtain ⟨n0, n1, n2, n3, n4⟩ := hins (k + 1) hn
  obtain ⟨_, _, _, _, _, _, _, _, hy0, hy1⟩ := at5_ok hsl.2.1 (k + 1)
  have hE : ((at5 c k).e != 0) = false := by simpa using he
  have hc10 : ((at5 c k).t.cls == 10) = false := by rw [hv]; rfl
  have hc11 : ((at5 c k).t.cls == 11) = true := by rw [hv]; rfl
  have hc8 : ((at5 c k).t.cls == 8) = false := by rw [hv]; rfl
  have t0 : decide ((at5 c k).imm < 0) = false := decide_eq_false hi
  have t1 : decide ((lm : Int) ≤ (at5 c k).imm) = false := decide_eq_false hj
  clear he hv hi hj
  clear hsl hins
  have hl0 : 0 ≤ (k : Int) := by omega
  have hl1 : (k : Int) < (c.length : Int) := by omega
  have hl2 : (k : Int) + 1 < (c.length : Int) := by omega
  have hl3 : decide ((c.length : Int) ≤ (k : Int) + 1) = false := decide_eq_false (by omega)
  have hl4 : decide (c.length ≤ k + 1) = false := decide_eq_false (by omega)
  generalize at5 c (k + 1) = y at *
  obtain ⟨y1, y2, y3, y4, y5⟩ := y
  generalize at5 c k = x at *
  generalize x.e = E at *
  generalize x.t = T at *
  obtain ⟨op, dst, src, offs, imm⟩ := x
  obtain ⟨cls, o2, sz, wd, rg⟩ := T
  unfold I5.V at *
  unfold whV at *
  dsimp only at *
  go_enter Tryd.func47, Tryd.ntmps47
  go_wp2_with fail
  refine (HOF.out _).mono ?_
  rintro e w1 ⟨rfl, b1⟩
  have c0 : w1.cell? ⟨w.heap.size, 0, none⟩ = some (.slice pm lm cm) := cn b1 (by simp)
  have c1 : w1.cell? ⟨w.heap.size, 1, none⟩ = some (.slice (some ⟨b, off, none⟩) c.length cc) := cn b1 (by simp)
  have c4 : w1.cell? ⟨w.heap.size + 1, 4, none⟩ = some (.int .i32 imm) := cn b1 (by simp)
  replace n0 := cn b1 (cna (.cells #[.int .u8 op, .int .u8 dst, .int .u8 src, .int .i16 offs, .int .i32 imm] 37) (cna (.cells #[.slice pm lm cm, .slice (some ⟨b, off, none⟩) c.length cc] 25) n0))
  replace n1 := cn b1 (cna (.cells #[.int .u8 op, .int .u8 dst, .int .u8 src, .int .i16 offs, .int .i32 imm] 37) (cna (.cells #[.slice pm lm cm, .slice (some ⟨b, off, none⟩) c.length cc] 25) n1))
  replace n2 := cn b1 (cna (.cells #[.int .u8 op, .int .u8 dst, .int .u8 src, .int .i16 offs, .int .i32 imm] 37) (cna (.cells #[.slice pm lm cm, .slice (some ⟨b, off, none⟩) c.length cc] 25) n2))
  replace n3 := cn b1 (cna (.cells #[.int .u8 op, .int .u8 dst, .int .u8 src, .int .i16 offs, .int .i32 imm] 37) (cna (.cells #[.slice pm lm cm, .slice (some ⟨b, off, none⟩) c.length cc] 25) n3))
  replace n4 := cn b1 (cna (.cells #[.int .u8 op, .int .u8 dst, .int .u8 src, .int .i16 offs, .int .i32 imm] 37) (cna (.cells #[.slice pm lm cm, .slice (some ⟨b, off, none⟩) c.length cc] 25) n4))
  have HB := hid ((((Below.refl w.heap.size w).alloc (Nat.le_refl _) (.cells #[.slice pm lm cm, .slice (some ⟨b, off, none⟩) c.length cc] 25)).alloc (by simp) (.cells #[.int .u8 op, .int .u8 dst, .int .u8 src, .int .i16 offs, .int .i32 imm] 37)).trans (b1.mono (by simp; omega)))
  have hz1 : w.heap.size + 1 < w1.heap.size := by have := b1.size; simp at this; omega
  have hz0 : w.heap.size < w1.heap.size := by omega
  have hzb : b < w1.heap.size := by omega
  clear b1 i0 i1 i2 i3 i4 HOF
  go_wp2
  go_ret
  first
    | exact ⟨rfl, HB.out.alloc HB.out.size _⟩
    | exact ⟨rfl, (HB.out.alloc HB.out.size _).alloc (by have := HB.out.size; simp; omega) _⟩

theorem next_none {c : List I5} {k : Nat} (h : c.length ≤ k + 1) : nextI c k = none := by unfold nextI; exact List.getElem?_eq_none h
theorem next_some {c : List I5} {k : Nat} (h : k + 1 < c.length) : nextI c k = some (at5 c (k + 1)) := by
  unfold nextI at5
  rw [List.getD_eq_getElem?_getD, List.getElem?_eq_getElem h]; rfl
theorem bad_of {cls : Int} {y : I5} : badH cls y = (y.op != 0 || (y.dst != 0 || (y.src != 0 || (y.off != 0 || (cls == 11 && y.imm != 0))))) := rfl
theorem ralone_any (pm pc : Option Addr) (cm cc lm : Nat) (c : List I5) (k : Nat) (w : World) (hsl : CdSl w.heap.size w pc c.length c) (hk : k < c.length) :
    Calls Tryd.prog 47 #[.agg #[.slice pm lm cm, .slice pc c.length cc], .int .i64 k] w fun e w' => e = .returned (.int .i64 (alE lm c k)) ∧ Below w.heap.size w w' := by
  unfold alE
  by_cases he : (at5 c k).e = 0
  · by_cases h10 : (at5 c k).t.cls = 10
    · by_cases hn : k + 1 < c.length
      · rw [next_some hn]
        have hw := whole_bad (.inl h10) (at5 c (k + 1))
        rw [bad_of] at hw
        cases a0 : ((at5 c (k + 1)).op != 0)
        · cases a1 : ((at5 c (k + 1)).dst != 0)
          · cases a2 : ((at5 c (k + 1)).src != 0)
            · cases a3 : ((at5 c (k + 1)).off != 0)
              · rw [alone_10 he h10 (by rw [hw, a0, a1, a2, a3, h10]; rfl)]
                exact ralone_g10 pm pc cm cc lm c k w hsl hk he h10 hn a0 a1 a2 a3
              · rw [alone_w he (.inl h10) (by rw [hw, a0, a1, a2, a3]; rfl)]
                exact ralone_h10_3 pm pc cm cc lm c k w hsl hk he h10 hn a0 a1 a2 a3
            · rw [alone_w he (.inl h10) (by rw [hw, a0, a1, a2]; rfl)]
              exact ralone_h10_2 pm pc cm cc lm c k w hsl hk he h10 hn a0 a1 a2
          · rw [alone_w he (.inl h10) (by rw [hw, a0, a1]; rfl)]
            exact ralone_h10_1 pm pc cm cc lm c k w hsl hk he h10 hn a0 a1
        · rw [alone_w he (.inl h10) (by rw [hw, a0]; rfl)]
          exact ralone_h10_0 pm pc cm cc lm c k w hsl hk he h10 hn a0
      · rw [next_none (by omega), alone_w he (.inl h10) rfl]
        exact ralone_end10 pm pc cm cc lm c k w hsl hk he h10 (by omega)
    · by_cases h11 : (at5 c k).t.cls = 11
      · by_cases hn : k + 1 < c.length
        · rw [next_some hn]
          have hw := whole_bad (.inr h11) (at5 c (k + 1))
          rw [bad_of] at hw
          cases a0 : ((at5 c (k + 1)).op != 0)
          · cases a1 : ((at5 c (k + 1)).dst != 0)
            · cases a2 : ((at5 c (k + 1)).src != 0)
              · cases a3 : ((at5 c (k + 1)).off != 0)
                · cases a4 : ((at5 c (k + 1)).imm != 0)
                  · rw [alone_11 he h11 (by rw [hw, a0, a1, a2, a3, a4, h11]; rfl)]
                    by_cases hi : (at5 c k).imm < 0
                    · rw [if_pos (.inl hi)]
                      exact ralone_g11a pm pc cm cc lm c k w hsl hk he h11 hn a0 a1 a2 a3 a4 hi
                    · by_cases hj : (lm : Int) ≤ (at5 c k).imm
                      · rw [if_pos (.inr hj)]
                        exact ralone_g11b pm pc cm cc lm c k w hsl hk he h11 hn a0 a1 a2 a3 a4 hi hj
                      · rw [if_neg (by rintro (h | h) <;> contradiction)]
                        exact ralone_g11c pm pc cm cc lm c k w hsl hk he h11 hn a0 a1 a2 a3 a4 hi hj
                  · rw [alone_w he (.inr h11) (by rw [hw, a0, a1, a2, a3, a4, h11]; rfl)]
                    exact ralone_h11_4 pm pc cm cc lm c k w hsl hk he h11 hn a0 a1 a2 a3 a4
                · rw [alone_w he (.inr h11) (by rw [hw, a0, a1, a2, a3]; rfl)]
                  exact ralone_h11_3 pm pc cm cc lm c k w hsl hk he h11 hn a0 a1 a2 a3
              · rw [alone_w he (.inr h11) (by rw [hw, a0, a1, a2]; rfl)]
                exact ralone_h11_2 pm pc cm cc lm c k w hsl hk he h11 hn a0 a1 a2
            · rw [alone_w he (.inr h11) (by rw [hw, a0, a1]; rfl)]
              exact ralone_h11_1 pm pc cm cc lm c k w hsl hk he h11 hn a0 a1
          · rw [alone_w he (.inr h11) (by rw [hw, a0]; rfl)]
            exact ralone_h11_0 pm pc cm cc lm c k w hsl hk he h11 hn a0
        · rw [next_none (by omega), alone_w he (.inr h11) rfl]
          exact ralone_end11 pm pc cm cc lm c k w hsl hk he h11 (by omega)
      · rw [alone_n he h10 h11]
        by_cases h8 : (at5 c k).t.cls = 8
        · cases hh : helpB (at5 c k).imm
          · rw [if_pos ⟨h8, rfl⟩]
            exact ralone_n2 pm pc cm cc lm c k w hsl hk he h10 h11 h8 hh
          · rw [if_neg (by rintro ⟨_, h⟩; cases h)]
            exact ralone_n1 pm pc cm cc lm c k w hsl hk he h10 h11 h8 hh
        · rw [if_neg (by rintro ⟨h, _⟩; exact h8 h)]
          exact ralone_n0 pm pc cm cc lm c k w hsl hk he h10 h11 h8
  · rw [alone_e he]
    exact ralone_e pm pc cm cc lm c k w hsl hk he
end Go.Proofs.YtdnkikgfiganaaaDoor
