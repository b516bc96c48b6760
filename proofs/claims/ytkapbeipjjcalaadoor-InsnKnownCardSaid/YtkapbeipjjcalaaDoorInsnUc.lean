/-
  The contract of insn.Make, all ways together.
-/
import Derived.Test.YtkapbeipjjcalaaDoorInsnQ
import Derived.Test.YtkapbeipjjcalaaDoorInsnPs
import Derived.Test.YtkapbeipjjcalaaDoorInsnPc
import Derived.Test.YtkapbeipjjcalaaDoorInsnPr
import Derived.Test.YtkapbeipjjcalaaDoorInsnPo
namespace Go.Proofs.YtkapbeipjjcalaaDoor
set_option linter.unusedSimpArgs false
set_option linter.unusedVariables false
open Go.ChangeShapes Go.WideShapes Go.ChangeAt Go.RowKit

def mkV (q : Rw) (dst src off imm : Int) : Value := if mkE q dst src off imm = 0 then insV (opI q) dst (mkS q src) off (mkM q imm) else insV 0 0 0 0 0
theorem eq_what (a b : Rw) (W : World) : (binOp .eql 31 (whV a) (whV b)).run Tryd.prog W = .ok (.bool (whB a b)) W := by
  unfold whV whB
  cases h0 : (a.cls == b.cls) <;> cases h1 : (a.op == b.op) <;> cases h2 : (a.size == b.size) <;> cases h3 : (a.wide == b.wide) <;> cases h4 : (a.reg == b.reg) <;> simp [go_sem, h0, h1, h2, h3, h4]
theorem wrap32_bd (x : Int) : -2147483648 ≤ wrap32 x ∧ wrap32 x < 2147483648 := by
  unfold wrap32
  omega
theorem mkS_bd (q : Rw) {src : Int} (s0 : 0 ≤ src) (s1 : src < 256) : 0 ≤ mkS q src ∧ mkS q src < 256 := by
  unfold mkS
  split
  · exact ⟨by decide, by decide⟩
  · split
    · exact ⟨by decide, by decide⟩
    · exact ⟨s0, s1⟩
theorem mkM_bd (q : Rw) {imm : Int} (m0 : -2147483648 ≤ imm) (m1 : imm < 2147483648) : -2147483648 ≤ mkM q imm ∧ mkM q imm < 2147483648 := by
  unfold mkM
  split
  · exact wrap32_bd _
  · exact ⟨m0, m1⟩

theorem make_any (q : Rw) (op dst src off imm : Int) (w : World) (h0 : 0 ≤ op) (h1 : op < 256) (d0 : 0 ≤ dst) (d1 : dst < 256) (s0 : 0 ≤ src) (s1 : src < 256) (o0 : -32768 ≤ off) (o1 : off < 32768) (m0 : -2147483648 ≤ imm) (m1 : imm < 2147483648) (hz : SzOk w) :
    Calls Tryd.prog 14 #[whV q, .agg #[.int .u8 op, .int .u8 dst, .int .u8 src, .int .i16 off, .int .i32 imm]] w fun e w' => e = .returned (.tuple #[mkV q dst src off imm, .int .i64 (mkE q dst src off imm)]) ∧ Below w.heap.size w w' := by
  have HO : Hid (∀ W, SzOk W → Calls Tryd.prog 23 #[whV q] W fun e w' => e = .returned (.int .u8 (opI q)) ∧ Below W.heap.size W w') := hid fun W h => opOf_any q W h
  have HR : Hid (∀ W, SzOk W → Calls Tryd.prog 24 #[.agg #[.int .u8 (opI q), .int .u8 dst, .int .u8 (mkS q src), .int .i16 off, .int .i32 (mkM q imm)]] W fun e w' => e = .returned (rowV (rowI (opI q) (mkS q src) (mkM q imm))) ∧ Below W.heap.size W w') :=
    hid fun W h => rowOf_any (opI q) dst (mkS q src) off (mkM q imm) W (opI_bd q).1 (opI_bd q).2 h
  have HT : Hid (∀ W, SzOk W → Calls Tryd.prog 17 #[.agg #[.int .u8 (opI q), .int .u8 dst, .int .u8 (mkS q src), .int .i16 off, .int .i32 (mkM q imm)]] W fun e w' => e = .returned (.tuple #[rowV (tkR (rowI (opI q) (mkS q src) (mkM q imm)) dst (mkS q src) off (mkM q imm)), .int .i64 (tkE (rowI (opI q) (mkS q src) (mkM q imm)) dst (mkS q src) off (mkM q imm))]) ∧ Below W.heap.size W w') :=
    hid fun W h => take_any (opI q) dst (mkS q src) off (mkM q imm) W (opI_bd q).1 (opI_bd q).2 d0 d1 (mkS_bd q s0 s1).1 (mkS_bd q s0 s1).2 o0 o1 (mkM_bd q m0 m1).1 (mkM_bd q m0 m1).2 h
  have hbd := opI_bd q
  have hne := fun W => neq_what q (rowI (opI q) (mkS q src) (mkM q imm)) W
  unfold mkV
  cases hq : whB q r0
  · cases hr : whB q (rowI (opI q) (mkS q src) (mkM q imm))
    · have hE : mkE q dst src off imm = 1 := by unfold mkE; rw [hq, hr]; rfl
      rw [hE, if_neg (by decide)]
      rw [hr] at hne
      by_cases c2 : q.cls = 2
      · have eS : mkS q src = src := by unfold mkS; rw [if_neg (by omega), if_neg (by omega)]
        have eM : mkM q imm = wrap32 (wrap64 (8 * q.size)) := by unfold mkM; rw [if_pos c2]
        rw [eS, eM] at HR hne
        obtain ⟨cls, o, size, wide, reg, x1, x2, x3, x4⟩ := q
        obtain rfl : cls = 2 := c2
        exact make_s_n o size wide reg op dst src off imm _ _ w hbd.1 hbd.2 hz HO HR hne
      by_cases c10 : q.cls = 10
      · have eS : mkS q src = 0 := by unfold mkS; rw [if_pos c10]
        have eM : mkM q imm = imm := by unfold mkM; rw [if_neg c2]
        rw [eS, eM] at HR hne
        obtain ⟨cls, o, size, wide, reg, x1, x2, x3, x4⟩ := q
        obtain rfl : cls = 10 := c10
        exact make_c_n o size wide reg op dst src off imm _ _ w hbd.1 hbd.2 hz HO HR hne
      by_cases c11 : q.cls = 11
      · have eS : mkS q src = 1 := by unfold mkS; rw [if_neg c10, if_pos c11]
        have eM : mkM q imm = imm := by unfold mkM; rw [if_neg c2]
        rw [eS, eM] at HR hne
        obtain ⟨cls, o, size, wide, reg, x1, x2, x3, x4⟩ := q
        obtain rfl : cls = 11 := c11
        exact make_r_n o size wide reg op dst src off imm _ _ w hbd.1 hbd.2 hz HO HR hne
      have eS : mkS q src = src := by unfold mkS; rw [if_neg c10, if_neg c11]
      have eM : mkM q imm = imm := by unfold mkM; rw [if_neg c2]
      rw [eS, eM] at HR hne
      have hn0 := fun W => eq_what q r0 W
      rw [hq] at hn0
      exact make_o_n q.cls q.op q.size q.wide q.reg op dst src off imm _ _ w hbd.1 hbd.2 hz HO HR (by simpa using c2) (by simpa using c10) (by simpa using c11) hn0 hne
    · have hE : mkE q dst src off imm = tkE (rowI (opI q) (mkS q src) (mkM q imm)) dst (mkS q src) off (mkM q imm) := by unfold mkE; rw [hq, hr]; rfl
      rw [hr] at hne
      rw [hE]
      by_cases hk : tkE (rowI (opI q) (mkS q src) (mkM q imm)) dst (mkS q src) off (mkM q imm) = 0
      · have hk' : (tkE (rowI (opI q) (mkS q src) (mkM q imm)) dst (mkS q src) off (mkM q imm) != 0) = false := by simpa using hk
        rw [if_pos hk]
        generalize tkR (rowI (opI q) (mkS q src) (mkM q imm)) dst (mkS q src) off (mkM q imm) = T at HT
        generalize hkk : tkE (rowI (opI q) (mkS q src) (mkM q imm)) dst (mkS q src) off (mkM q imm) = kk at HT hk hk' ⊢
        subst hk
        clear hkk hE
        by_cases c2 : q.cls = 2
        · have eS : mkS q src = src := by unfold mkS; rw [if_neg (by omega), if_neg (by omega)]
          have eM : mkM q imm = wrap32 (wrap64 (8 * q.size)) := by unfold mkM; rw [if_pos c2]
          rw [eS, eM] at HR HT hne ⊢
          obtain ⟨cls, o, size, wide, reg, x1, x2, x3, x4⟩ := q
          obtain rfl : cls = 2 := c2
          exact make_s_k o size wide reg op dst src off imm _ _ w hbd.1 hbd.2 hz HO HR hne T _ hk' HT
        by_cases c10 : q.cls = 10
        · have eS : mkS q src = 0 := by unfold mkS; rw [if_pos c10]
          have eM : mkM q imm = imm := by unfold mkM; rw [if_neg c2]
          rw [eS, eM] at HR HT hne ⊢
          obtain ⟨cls, o, size, wide, reg, x1, x2, x3, x4⟩ := q
          obtain rfl : cls = 10 := c10
          exact make_c_k o size wide reg op dst src off imm _ _ w hbd.1 hbd.2 hz HO HR hne T _ hk' HT
        by_cases c11 : q.cls = 11
        · have eS : mkS q src = 1 := by unfold mkS; rw [if_neg c10, if_pos c11]
          have eM : mkM q imm = imm := by unfold mkM; rw [if_neg c2]
          rw [eS, eM] at HR HT hne ⊢
          obtain ⟨cls, o, size, wide, reg, x1, x2, x3, x4⟩ := q
          obtain rfl : cls = 11 := c11
          exact make_r_k o size wide reg op dst src off imm _ _ w hbd.1 hbd.2 hz HO HR hne T _ hk' HT
        have eS : mkS q src = src := by unfold mkS; rw [if_neg c10, if_neg c11]
        have eM : mkM q imm = imm := by unfold mkM; rw [if_neg c2]
        rw [eS, eM] at HR HT hne ⊢
        have hn0 := fun W => eq_what q r0 W
        rw [hq] at hn0
        exact make_o_k q.cls q.op q.size q.wide q.reg op dst src off imm _ _ w hbd.1 hbd.2 hz HO HR (by simpa using c2) (by simpa using c10) (by simpa using c11) hn0 hne T _ hk' HT
      · have hk' : (tkE (rowI (opI q) (mkS q src) (mkM q imm)) dst (mkS q src) off (mkM q imm) != 0) = true := by simpa using hk
        rw [if_neg hk]
        generalize tkR (rowI (opI q) (mkS q src) (mkM q imm)) dst (mkS q src) off (mkM q imm) = T at HT
        generalize hkk : tkE (rowI (opI q) (mkS q src) (mkM q imm)) dst (mkS q src) off (mkM q imm) = kk at HT hk hk' ⊢
        clear hkk hE
        by_cases c2 : q.cls = 2
        · have eS : mkS q src = src := by unfold mkS; rw [if_neg (by omega), if_neg (by omega)]
          have eM : mkM q imm = wrap32 (wrap64 (8 * q.size)) := by unfold mkM; rw [if_pos c2]
          rw [eS, eM] at HR HT hne
          obtain ⟨cls, o, size, wide, reg, x1, x2, x3, x4⟩ := q
          obtain rfl : cls = 2 := c2
          exact make_s_e o size wide reg op dst src off imm _ _ w hbd.1 hbd.2 hz HO HR hne T _ hk' HT
        by_cases c10 : q.cls = 10
        · have eS : mkS q src = 0 := by unfold mkS; rw [if_pos c10]
          have eM : mkM q imm = imm := by unfold mkM; rw [if_neg c2]
          rw [eS, eM] at HR HT hne
          obtain ⟨cls, o, size, wide, reg, x1, x2, x3, x4⟩ := q
          obtain rfl : cls = 10 := c10
          exact make_c_e o size wide reg op dst src off imm _ _ w hbd.1 hbd.2 hz HO HR hne T _ hk' HT
        by_cases c11 : q.cls = 11
        · have eS : mkS q src = 1 := by unfold mkS; rw [if_neg c10, if_pos c11]
          have eM : mkM q imm = imm := by unfold mkM; rw [if_neg c2]
          rw [eS, eM] at HR HT hne
          obtain ⟨cls, o, size, wide, reg, x1, x2, x3, x4⟩ := q
          obtain rfl : cls = 11 := c11
          exact make_r_e o size wide reg op dst src off imm _ _ w hbd.1 hbd.2 hz HO HR hne T _ hk' HT
        have eS : mkS q src = src := by unfold mkS; rw [if_neg c10, if_neg c11]
        have eM : mkM q imm = imm := by unfold mkM; rw [if_neg c2]
        rw [eS, eM] at HR HT hne
        have hn0 := fun W => eq_what q r0 W
        rw [hq] at hn0
        exact make_o_e q.cls q.op q.size q.wide q.reg op dst src off imm _ _ w hbd.1 hbd.2 hz HO HR (by simpa using c2) (by simpa using c10) (by simpa using c11) hn0 hne T _ hk' HT
  · have hE : mkE q dst src off imm = 1 := by unfold mkE; rw [hq]; rfl
    rw [hE, if_neg (by decide)]
    have e := whB_iff hq
    obtain ⟨cls, o, size, wide, reg, x1, x2, x3, x4⟩ := q
    obtain ⟨e1, e2, e3, e4, e5⟩ := e
    have e1' : cls = 0 := e1
    have e2' : o = 0 := e2
    have e3' : size = 0 := e3
    have e4' : wide = false := e4
    have e5' : reg = false := e5
    subst e1' e2' e3' e4' e5'
    exact make_zero op dst src off imm _ w hz HO

end Go.Proofs.YtkapbeipjjcalaaDoor
