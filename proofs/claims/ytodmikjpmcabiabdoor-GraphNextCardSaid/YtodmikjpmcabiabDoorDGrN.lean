/-
  Contract of graph's leads: to what a start leads.
-/
import Derived.Test.YtodmikjpmcabiabDoorDGrM
namespace Go.Proofs.YtodmikjpmcabiabDoor
set_option linter.unusedSimpArgs false
set_option linter.unusedVariables false
set_option maxRecDepth 100000
open Go.ChangeShapes Go.WideShapes Go.ChangeAt Go.RowKit

def tgG (c : List I5) (k : Nat) : Int := (k : Int) + 1 + (at5 c k).off
/-- To what the start k leads, in the order in which it is found. -/
def rawL (c : List I5) (k : Nat) : List Int :=
  if (at5 c k).e ≠ 0 ∨ (at5 c k).t.cls = 9 then [] else if (at5 c k).t.cls = 7 then addL c [] (tgG c k) else if (at5 c k).t.cls = 6 then addL c (addL c [] ((k : Int) + 1)) (tgG c k) else addL c [] ((k : Int) + (at5 c k).p)
def nxL (c : List I5) (k : Nat) : List Int := c2L (s2 (rawL c k))
theorem addL_len (c : List I5) (L : List Int) (t : Int) : (addL c L t).length ≤ L.length + 1 := by
  unfold addL
  split <;> simp
theorem rawL_len (c : List I5) (k : Nat) : (rawL c k).length ≤ 2 := by
  unfold rawL
  have h1 := addL_len c [] (tgG c k)
  have h2 := addL_len c [] ((k : Int) + 1)
  have h3 := addL_len c (addL c [] ((k : Int) + 1)) (tgG c k)
  have h4 := addL_len c [] ((k : Int) + (at5 c k).p)
  simp only [List.length_nil] at h1 h2 h4
  split
  · simp
  split
  · omega
  split
  · omega
  · omega
theorem new_cell (Z : World) (cs : Array Value) (t : TypeId) (b : Nat) (hb : b = Z.heap.size) (j : Nat) (u : Value) (hu : cs[j]? = some u) : (Z.alloc (.cells cs t)).cell? ⟨b, j, none⟩ = some u := by
  subst hb
  unfold World.cell?
  dsimp only
  rw [heap_alloc_new]
  exact hu
theorem new_frz (Z : World) (cs : Array Value) (t : TypeId) (o : Obj) (b : Nat) (hb : b = Z.heap.size) (j : Nat) : ((Z.alloc (.cells cs t)).alloc o).frozen? ⟨b, j, none⟩ = false := by
  subst hb
  have h : ((Z.alloc (.cells cs t)).alloc o).heap[Z.heap.size]? = some (.cells cs t (0, 0)) := (Below.heap_alloc _ _ _ (by simp)).trans (heap_alloc_new Z _)
  simp [World.frozen?, h]
def insX (b : Nat) (x : I5) : List (Addr × Value) := [(⟨b, 0, none⟩, .int .u8 x.op), (⟨b, 1, none⟩, .int .u8 x.dst), (⟨b, 2, none⟩, .int .u8 x.src), (⟨b, 3, none⟩, .int .i16 x.off), (⟨b, 4, none⟩, .int .i32 x.imm)]

set_option maxRecDepth 100000 in
set_option maxHeartbeats 4000000 in
theorem leads_next (p : Option Addr) (cap : Nat) (c : List I5) (k bx : Nat) (w : World) (hz : SzOk w) (hsl : CdSl w.heap.size w p c.length c) (hk : k < c.length)
    (his : ∀ W k, Below w.heap.size w W → k < c.length → Calls Tryd.prog 26 #[.int .i64 (k : Int), .pointer (some ⟨bx, 0, none⟩)] W fun e w' => e = .returned (.bool (stB c k)) ∧ Below W.heap.size W w') :
    Calls Tryd.prog 28 #[.slice p c.length cap, .int .i64 (k : Int), .func (.func 26) #[] #[.pointer (some ⟨bx, 0, none⟩)]] w (CpPost w (nxL c k)) := by
  have HIS := hid his
  have HZ := hid hz
  obtain ⟨b, off, hp, hbl, hins⟩ := hsl.2.2.2.resolve_left (by omega)
  subst hp
  obtain ⟨i0, i1, i2, i3, i4⟩ := hins k hk
  have hok := at5_ok hsl.2.1 k
  have hlen := hsl.2.2.1
  have hb1 : b < w.heap.size + 1 := by omega
  have hb2 : b < w.heap.size + 1 + 1 := by omega
  have hb3 : b < w.heap.size + 1 + 1 + 1 := by omega
  have hl0 : 0 ≤ (k : Int) := by omega
  have hl1 : (k : Int) < (c.length : Int) := by omega
  clear hz hsl his hins
  go_enter Tryd.func28, Tryd.ntmps28
  go_wp2_with fail
  have hW0 : (((w.alloc (.cells #[.slice (some ⟨b, off, none⟩) c.length cap] 22)).alloc (.cells #[.func (.func 26) #[] #[.pointer (some ⟨bx, 0, none⟩)]] 53)).alloc (.cells #[.slice none 0 0] 25)).alloc (.cells #[.int .u8 (at5 c k).op, .int .u8 (at5 c k).dst, .int .u8 (at5 c k).src, .int .i16 (at5 c k).off, .int .i32 (at5 c k).imm] 45) = (((w.alloc (.cells #[.slice (some ⟨b, off, none⟩) c.length cap] 22)).alloc (.cells #[.func (.func 26) #[] #[.pointer (some ⟨bx, 0, none⟩)]] 53)).alloc (.cells #[.slice none 0 0] 25)).alloc (.cells #[.int .u8 (at5 c k).op, .int .u8 (at5 c k).dst, .int .u8 (at5 c k).src, .int .i16 (at5 c k).off, .int .i32 (at5 c k).imm] 45) := rfl
  have hm0 : LdM w (some ⟨b, off, none⟩) c.length cap (.func (.func 26) #[] #[.pointer (some ⟨bx, 0, none⟩)]) w.heap.size (w.heap.size + 1) (w.heap.size + 1 + 1) (insX (w.heap.size + 1 + 1 + 1) (at5 c k)) [] (.slice none 0 0) ((((w.alloc (.cells #[.slice (some ⟨b, off, none⟩) c.length cap] 22)).alloc (.cells #[.func (.func 26) #[] #[.pointer (some ⟨bx, 0, none⟩)]] 53)).alloc (.cells #[.slice none 0 0] 25)).alloc (.cells #[.int .u8 (at5 c k).op, .int .u8 (at5 c k).dst, .int .u8 (at5 c k).src, .int .i16 (at5 c k).off, .int .i32 (at5 c k).imm] 45)) := by
    refine ⟨((((Below.refl w.heap.size w).alloc (Nat.le_refl _) _).alloc (by simp) _).alloc (by simp; omega) _).alloc (by simp; omega) _, cna _ (cna _ (cna _ (new_cell _ _ _ _ rfl 0 _ rfl))), cna _ (cna _ (new_cell _ _ _ _ (by simp) 0 _ rfl)), cna _ (new_cell _ _ _ _ (by simp) 0 _ rfl), new_frz _ _ _ _ _ (by simp) 0, World.ownsRow_nil _ _ _ _, (by intro e; cases e), (by intro e; cases e), (by intro e; cases e), by omega, by omega, by omega, fun a u hx => ?_⟩
    simp only [insX, List.mem_cons, List.not_mem_nil, or_false, Prod.mk.injEq] at hx
    rcases hx with ⟨rfl, rfl⟩ | ⟨rfl, rfl⟩ | ⟨rfl, rfl⟩ | ⟨rfl, rfl⟩ | ⟨rfl, rfl⟩ <;> exact ⟨new_cell _ _ _ _ (by simp) _ _ rfl, (by intro e; cases e), (by show w.heap.size + 1 + 1 + 1 ≠ w.heap.size + 1 + 1; omega)⟩
  have HM0 := hid hm0
  clear hm0 hW0
  generalize (((w.alloc (.cells #[.slice (some ⟨b, off, none⟩) c.length cap] 22)).alloc (.cells #[.func (.func 26) #[] #[.pointer (some ⟨bx, 0, none⟩)]] 53)).alloc (.cells #[.slice none 0 0] 25)).alloc (.cells #[.int .u8 (at5 c k).op, .int .u8 (at5 c k).dst, .int .u8 (at5 c k).src, .int .i16 (at5 c k).off, .int .i32 (at5 c k).imm] 45) = wa at *
  refine (of_I (at5 c k) hok wa (HZ.out.below HM0.out.bel)).mono ?_
  rintro e w1 ⟨rfl, b1⟩
  have HM1 := hid (HM0.out.next b1)
  clear b1 HM0 i0 i1 i2 i3 i4
  obtain ⟨x0, _, _⟩ := HM1.out.ex ⟨w.heap.size + 1 + 1 + 1, 0, none⟩ (.int .u8 (at5 c k).op) (by simp [insX])
  obtain ⟨x1, _, _⟩ := HM1.out.ex ⟨w.heap.size + 1 + 1 + 1, 1, none⟩ (.int .u8 (at5 c k).dst) (by simp [insX])
  obtain ⟨x2, _, _⟩ := HM1.out.ex ⟨w.heap.size + 1 + 1 + 1, 2, none⟩ (.int .u8 (at5 c k).src) (by simp [insX])
  obtain ⟨x3, _, _⟩ := HM1.out.ex ⟨w.heap.size + 1 + 1 + 1, 3, none⟩ (.int .i16 (at5 c k).off) (by simp [insX])
  obtain ⟨x4, _, _⟩ := HM1.out.ex ⟨w.heap.size + 1 + 1 + 1, 4, none⟩ (.int .i32 (at5 c k).imm) (by simp [insX])
  have c7 := HM1.out.c7
  have q7 : w.heap.size + 1 + 1 < w1.heap.size := World.block_lt_of_cell? w1 _ c7
  have q9 : w.heap.size + 1 + 1 + 1 < w1.heap.size := World.block_lt_of_cell? w1 _ x0
  have hraw : rawL c k = rawL c k := rfl
  unfold rawL at hraw
  have hrng : -9223372036854775808 ≤ tgG c k ∧ tgG c k < 9223372036854775808 := by
    obtain ⟨_, _, _, _, _, _, o0, o1, _⟩ := hok
    unfold tgG
    omega
  have HTG := hid fun W => gtarget_I (k : Int) (at5 c k) hok W hl0 (by omega)
  have HPL := hid fun W h => places_I (at5 c k) hok W h
  have hp2 := p_cases (at5 c k)
  have HRN := hid hrng
  have bw := fun (A : Array Value) => (Below.refl w1.heap.size w1).alloc (Nat.le_refl _) (.cells A 63)
  have HM2 := hid fun (A : Array Value) => HM1.out.next (bw A)
  have HRL := hid (rawL_len c k)
  clear hrng bw HM1
  by_cases he : (at5 c k).e = 0
  · have hE : ((at5 c k).e != 0) = false := by simpa using he
    have hrw : rawL c k = if (at5 c k).t.cls = 9 then [] else if (at5 c k).t.cls = 7 then addL c [] (tgG c k) else if (at5 c k).t.cls = 6 then addL c (addL c [] ((k : Int) + 1)) (tgG c k) else addL c [] ((k : Int) + (at5 c k).p) := by
      unfold rawL
      by_cases h9 : (at5 c k).t.cls = 9
      · rw [if_pos (.inr h9), if_pos h9]
      · rw [if_neg (by rintro (h | h); exact h he; exact h9 h), if_neg h9]
    have HRW := hid hrw
    clear hrw hraw he
    generalize (at5 c k).t = T at *
    obtain ⟨cls, o2, sz, wd, rg⟩ := T
    unfold whV
    dsimp only at *
    by_cases h9 : cls = 9
    · have d9 : (cls == 9) = true := by simpa using h9
      have HR := hid (show rawL c k = [] by rw [HRW.out, if_pos h9])
      have HMX := hid (HM2.out #[.int .i64 cls, .int .i64 o2, .int .i64 sz, .bool wd, .bool rg])
      clear h9 x0 x1 x2 x3 x4 HRW
      have c7f := HMX.out.c7
      go_wp2_with fail
      refine (ldm_sort HMX.out (by have := HRL.out; rw [HR.out] at this; exact this)).mono ?_
      rintro e2_ wf ⟨rfl, hmf⟩
      have HMF := hid hmf
      have c7g := hmf.c7
      clear hmf c7f
      go_wp2_with fail
      refine (ldm_compact HMF.out (by rw [s2_len]; have := HRL.out; rw [HR.out] at this; exact this)).mono ?_
      rintro e4_ wg ⟨v', rfl, ho, hb⟩
      have HO := hid ho
      have HB := hid hb
      clear ho hb
      go_wp2
      go_ret
      exact ⟨_, rfl, by unfold nxL; rw [HR.out]; exact HO.out, HB.out⟩

    have d9 : (cls == 9) = false := by simpa using h9
    by_cases h7 : cls = 7
    · have d7 : (cls == 7) = true := by simpa using h7
      have HR := hid (show rawL c k = addL c [] (tgG c k) by rw [HRW.out, if_neg h9, if_pos h7])
      have HMX := hid (HM2.out #[.int .i64 cls, .int .i64 o2, .int .i64 sz, .bool wd, .bool rg])
      clear h9 h7 HRW
      go_wp2_with fail
      refine (HTG.out _).mono ?_
      rintro e3 w3 ⟨rfl, b3⟩
      have HM3 := hid (HMX.out.next b3)
      clear b3 x0 x1 x2 x3 x4 c7 HMX
      go_wp2_with fail
      rw [show (k : Int) + 1 + (at5 c k).off = tgG c k from rfl]
      refine (add_next w _ cap c bx _ _ _ _ [] _ (tgG c k) w3 hlen HRN.out.1 HRN.out.2 (by simp) HM3.out HIS.out).mono ?_
      rintro e5 w5 ⟨rfl, v5, hm5⟩
      have HM5 := hid hm5
      clear hm5
      have c7f := HM5.out.c7
      go_wp2_with fail
      refine (ldm_sort HM5.out (by have := HRL.out; rw [HR.out] at this; exact this)).mono ?_
      rintro e2_ wf ⟨rfl, hmf⟩
      have HMF := hid hmf
      have c7g := hmf.c7
      clear hmf c7f
      go_wp2_with fail
      refine (ldm_compact HMF.out (by rw [s2_len]; have := HRL.out; rw [HR.out] at this; exact this)).mono ?_
      rintro e4_ wg ⟨v', rfl, ho, hb⟩
      have HO := hid ho
      have HB := hid hb
      clear ho hb
      go_wp2
      go_ret
      exact ⟨_, rfl, by unfold nxL; rw [HR.out]; exact HO.out, HB.out⟩

    have d7 : (cls == 7) = false := by simpa using h7
    by_cases h6 : cls = 6
    · have d6 : (cls == 6) = true := by simpa using h6
      have HR := hid (show rawL c k = addL c (addL c [] ((k : Int) + 1)) (tgG c k) by rw [HRW.out, if_neg h9, if_neg h7, if_pos h6])
      have HMX := hid (HM2.out #[.int .i64 cls, .int .i64 o2, .int .i64 sz, .bool wd, .bool rg])
      have HQ := hid (And.intro q7 q9)
      clear h9 h7 h6 HRW
      go_wp2_with fail
      refine (add_next w _ cap c bx _ _ _ _ [] _ ((k : Int) + 1) _ hlen (by omega) (by omega) (by simp) HMX.out HIS.out).mono ?_
      rintro e3 w3 ⟨rfl, v3, hm3⟩
      have HM3 := hid hm3
      obtain ⟨y0, _, _⟩ := HM3.out.ex ⟨w.heap.size + 1 + 1 + 1, 0, none⟩ (.int .u8 (at5 c k).op) (by simp [insX])
      obtain ⟨y1, _, _⟩ := HM3.out.ex ⟨w.heap.size + 1 + 1 + 1, 1, none⟩ (.int .u8 (at5 c k).dst) (by simp [insX])
      obtain ⟨y2, _, _⟩ := HM3.out.ex ⟨w.heap.size + 1 + 1 + 1, 2, none⟩ (.int .u8 (at5 c k).src) (by simp [insX])
      obtain ⟨y3, _, _⟩ := HM3.out.ex ⟨w.heap.size + 1 + 1 + 1, 3, none⟩ (.int .i16 (at5 c k).off) (by simp [insX])
      obtain ⟨y4, _, _⟩ := HM3.out.ex ⟨w.heap.size + 1 + 1 + 1, 4, none⟩ (.int .i32 (at5 c k).imm) (by simp [insX])

      clear hm3 x0 x1 x2 x3 x4 c7 HMX
      go_wp2_with fail
      refine (HTG.out _).mono ?_
      rintro e4 w4 ⟨rfl, b4⟩
      have HM4 := hid (HM3.out.next b4)
      clear b4 y0 y1 y2 y3 y4 HM3
      go_wp2_with fail
      rw [show (k : Int) + 1 + (at5 c k).off = tgG c k from rfl]
      refine (add_next w _ cap c bx _ _ _ _ _ _ (tgG c k) w4 hlen HRN.out.1 HRN.out.2 (by have := addL_len c [] ((k : Int) + 1); simp at this; omega) HM4.out HIS.out).mono ?_
      rintro e5 w5 ⟨rfl, v5, hm5⟩
      have HM5 := hid hm5
      clear hm5
      have c7f := HM5.out.c7
      go_wp2_with fail
      refine (ldm_sort HM5.out (by have := HRL.out; rw [HR.out] at this; exact this)).mono ?_
      rintro e2_ wf ⟨rfl, hmf⟩
      have HMF := hid hmf
      have c7g := hmf.c7
      clear hmf c7f
      go_wp2_with fail
      refine (ldm_compact HMF.out (by rw [s2_len]; have := HRL.out; rw [HR.out] at this; exact this)).mono ?_
      rintro e4_ wg ⟨v', rfl, ho, hb⟩
      have HO := hid ho
      have HB := hid hb
      clear ho hb
      go_wp2
      go_ret
      exact ⟨_, rfl, by unfold nxL; rw [HR.out]; exact HO.out, HB.out⟩

    have d6 : (cls == 6) = false := by simpa using h6
    have HR := hid (show rawL c k = addL c [] ((k : Int) + (at5 c k).p) by rw [HRW.out, if_neg h9, if_neg h7, if_neg h6])
    have HMX := hid (HM2.out #[.int .i64 cls, .int .i64 o2, .int .i64 sz, .bool wd, .bool rg])
    have hpb : 0 ≤ (at5 c k).p ∧ (at5 c k).p ≤ 2 := by omega
    clear h9 h7 h6 HRW hp2
    go_wp2_with fail
    refine (HPL.out _ (HZ.out.below HMX.out.bel)).mono ?_
    rintro e3 w3 ⟨rfl, b3⟩
    have HM3 := hid (HMX.out.next b3)
    clear b3 x0 x1 x2 x3 x4 c7 HMX
    obtain ⟨hp0, hp2⟩ := hpb
    generalize (at5 c k).p = pp at *
    go_wp2_with fail
    refine (add_next w _ cap c bx _ _ _ _ [] _ ((k : Int) + pp) w3 hlen (by omega) (by omega) (by simp) HM3.out HIS.out).mono ?_
    rintro e5 w5 ⟨rfl, v5, hm5⟩
    have HM5 := hid hm5
    clear hm5
    have c7f := HM5.out.c7
    go_wp2_with fail
    refine (ldm_sort HM5.out (by have := HRL.out; rw [HR.out] at this; exact this)).mono ?_
    rintro e2_ wf ⟨rfl, hmf⟩
    have HMF := hid hmf
    have c7g := hmf.c7
    clear hmf c7f
    go_wp2_with fail
    refine (ldm_compact HMF.out (by rw [s2_len]; have := HRL.out; rw [HR.out] at this; exact this)).mono ?_
    rintro e4_ wg ⟨v', rfl, ho, hb⟩
    have HO := hid ho
    have HB := hid hb
    clear ho hb
    go_wp2
    go_ret
    exact ⟨_, rfl, by unfold nxL; rw [HR.out]; exact HO.out, HB.out⟩
  · have hr : rawL c k = [] := by unfold rawL; rw [if_pos (.inl he)]
    have hE : ((at5 c k).e != 0) = true := by simpa using he
    have HR := hid hr
    clear hr he hraw x0 x1 x2 x3 x4
    generalize (at5 c k).t = T at *
    obtain ⟨cls, o2, sz, wd, rg⟩ := T
    unfold whV
    dsimp only at *
    go_wp2_with fail
    refine (ldm_sort (HM2.out _) (by simp)).mono ?_
    rintro e2 w3 ⟨rfl, hm3⟩
    have HM3 := hid hm3
    have c7' := hm3.c7
    clear hm3 c7
    go_wp2_with fail
    refine (ldm_compact HM3.out (by rw [s2_len]; simp)).mono ?_
    rintro e4 w4 ⟨v', rfl, ho, hb⟩
    have HO := hid ho
    have HB := hid hb
    clear ho hb
    go_wp2
    go_ret
    exact ⟨_, rfl, by unfold nxL; rw [HR.out]; exact HO.out, HB.out⟩

end Go.Proofs.YtodmikjpmcabiabDoor
