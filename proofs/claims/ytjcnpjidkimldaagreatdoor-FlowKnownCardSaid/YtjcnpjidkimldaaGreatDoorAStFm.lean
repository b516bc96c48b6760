/-
  Contracts of Begin and of the laws' start; registers and values stored at a place. What May, In and Begin of states are known to answer, as the evaluator of closed calls takes them: states read off their cells. Contracts of flow's tellsMap and hasMapsOf.
-/
import Derived.Test.YtjcnpjidkimldaaGreatDoorAStL
import Derived.Test.YtjcnpjidkimldaaGreatDoorAStK
import Derived.Test.YtjcnpjidkimldaaGreatDoorAEvS
import Derived.Deep.MidRow
import Derived.BigRegion
namespace Go.Proofs.YtjcnpjidkimldaaGreatDoor
set_option linter.unusedSimpArgs false
set_option linter.unusedVariables false
set_option maxRecDepth 100000
set_option maxRecDepth 100000
open Go.ChangeShapes Go.WideShapes Go.ChangeAt Go.RowKit Me

theorem wpList_store_rg {ops : Array Oper} {rest : List Oper} {op : Oper} {a : Act} {w : World} {Q : Exit → Act → World → Prop} (x y : Operand) (hgd : op.guard = none) (ho : op.op = .store 41 x y)
    (b o : Nat) (r : Rg) (hx : a.eval x = .pointer (some ⟨b, o, none⟩)) (hy : a.eval y = .agg (rC r).toArray) (ht : w.there b o 9)
    (h : wpList Tryz.prog ops Q rest (a.put op.dst undef) (w.setCells b o (rC r))) : wpList Tryz.prog ops Q (op :: rest) a w :=
  wpList_store_mid hgd 41 x y ho b o (rC r).toArray hx hy (by rw [List.size_toArray, rC_len]; exact ht) (by rw [List.size_toArray, rC_len]; exact yinfo30) (all_oneCell_toArray (one_rC r)) h
theorem there_part {W : World} {b n m o : Nat} (h : W.there b 0 n) (hm : o + m ≤ n) : W.there b o m := fun j hj => by
  have := h (o + j) (by omega)
  rwa [Nat.zero_add] at this
def ctxR : Rg := ⟨2, false, 0, sc0, 0, 0⟩
def frmR : Rg := ⟨4, false, 0, sc0, 512, 512⟩
theorem begS_is : stC (putRg (putRg st0 1 ctxR) 10 frmR) = stC begS := stC_congr (fun k hk => by
    have : k = 0 ∨ k = 1 ∨ k = 2 ∨ k = 3 ∨ k = 4 ∨ k = 5 ∨ k = 6 ∨ k = 7 ∨ k = 8 ∨ k = 9 ∨ k = 10 := by omega
    rcases this with rfl | rfl | rfl | rfl | rfl | rfl | rfl | rfl | rfl | rfl | rfl <;> rfl) (fun k _ => rfl) rfl
theorem ctxC : (rC ctxR).toArray = #[.int .u8 2, .bool false, .int .i64 0, .int .u64 0, .int .u64 0, .int .u64 0, .int .u64 0, .int .i64 0, .int .i64 0] := by kernel_rfl
theorem frmC : (rC frmR).toArray = #[.int .u8 4, .bool false, .int .i64 0, .int .u64 0, .int .u64 0, .int .u64 0, .int .u64 0, .int .i64 512, .int .i64 512] := by kernel_rfl
set_option maxHeartbeats 8000000 in
theorem uBegin_any (w : World) : Calls Tryz.prog 9 #[] w fun e w' => e = .returned (stV begS) ∧ Below w.heap.size w w' := by
  have ZF0 := (zero_of_info zs_info).1
  have ZF : ∀ w, (zeroValue 47).run Tryz.prog w = .ok (.agg (stC st0).toArray) w := ZF0
  have BL2 := bld_r_k 2
  have BL4 := bld_r_e 4 512 512
  have a := RwT.new (g := w.heap.size) (n := 740) (w := w) (W := w) (cs := stC st0) 47 (Below.refl _ _) (Nat.le_refl _) (by rw [stC_len])
  have b := RwT.new (g := w.heap.size) (n := 740) (w := w) (cs := stC st0) 47 a.i.bel (by simp) (by rw [stC_len])
  have I0 := a.alloc (by simp) (.cells (stC st0).toArray 47)
  have e1 : (w.alloc (.cells (stC st0).toArray 47)).heap.size = w.heap.size + 1 := by simp
  rw [e1] at b
  have b1 := b.putReg (k := 1) (r := ctxR) (by decide) (by omega)
  have b2 := b1.putReg (k := 10) (r := frmR) (by decide) (by omega)
  rw [begS_is] at b2
  have I1 := I0.apart (c := w.heap.size + 1) (o := 1 * 9) (vs := rC ctxR) (by omega) (by omega)
  have I2 := I1.apart (c := w.heap.size + 1) (o := 10 * 9) (vs := rC frmR) (by omega) (by omega)
  have I3 := I2.whole (vs := stC begS) (Nat.le_refl _) (stC_len _)
  have T1 := hid (there_part (o := 1 * 9) (m := 9) b.t (by decide))
  have T2 := hid (there_part (o := 10 * 9) (m := 9) b1.t (by decide))
  have his : Hid ((Tryz.prog.info? 47).map (·.size) = some (stC begS).length) := hid (by rw [stC_len]; exact yinfo36)
  replace b2 := hid b2
  replace I2 := hid I2
  replace I3 := hid I3
  clear a b b1 I0 I1 ZF0 e1
  unfold stV
  obtain ⟨CZ, hCZ⟩ : ∃ CF, (stC st0).toArray = CF := ⟨_, rfl⟩
  rw [hCZ] at ZF T1 T2 b2 I2 I3
  clear hCZ
  go_enter Tryz.func9, Tryz.ntmps9
  go_wp2_with (first | ((with_reducible refine at_store 41 ?_); refine wpList_store_rg _ _ rfl rfl (w.heap.size + 1) (1 * 9) ctxR rfl (congrArg Value.agg ctxC.symm) T1.out ?_) | ((with_reducible refine at_store 41 ?_); refine wpList_store_rg _ _ rfl rfl (w.heap.size + 1) (10 * 9) frmR rfl (congrArg Value.agg frmC.symm) T2.out ?_) | ((with_reducible refine at_load 47 ?_); refine wpList_load_g (by rfl) 47 _ rfl (w.heap.size + 1) (0) rfl (stC begS) _ b2.out.i.r0 Tryz.underlying47 rfl his.out ?_) | ((with_reducible refine at_store 47 ?_); refine wpList_store_st _ _ rfl rfl w.heap.size begS rfl rfl I2.out.t ?_))
  exact bodyPost_ret (row_res rfl _ _ w.heap.size 0 (stC begS) _ rfl I3.out.i.r0 Tryz.underlying47 rfl (by rw [stC_len]; exact yinfo36)) rfl ⟨rfl, I3.out.i.bel⟩
end Go.Proofs.YtjcnpjidkimldaaGreatDoor

namespace Go.Proofs.YtjcnpjidkimldaaGreatDoor
set_option linter.unusedSimpArgs false
set_option linter.unusedVariables false
set_option maxRecDepth 100000
set_option maxRecDepth 100000
open Go.ChangeShapes Go.WideShapes Go.ChangeAt Go.RowKit Me

namespace SE
def byteB (a : Int) : Bool := match a with
  | .ofNat n => Nat.ble n 255
  | _ => false
def longB (a : Int) : Bool := match a with
  | .ofNat n => Nat.blt n 9223372036854775808
  | .negSucc n => Nat.blt n 9223372036854775808
def wordB (a : Int) : Bool := match a with
  | .ofNat n => Nat.blt n 18446744073709551616
  | _ => false
def bv (a : Int) : B64 := match a with
  | .ofNat n => BitVec.ofNat 64 n
  | _ => 0#64
def b8 (a : Int) : B8 := match a with
  | .ofNat n => BitVec.ofNat 8 n
  | _ => 0#8
theorem byteB_spec {a : Int} (h : byteB a = true) : 0 ≤ a ∧ a < 256 := by
  unfold byteB at h
  split at h
  · rename_i n
    have := Nat.le_of_ble_eq_true h
    exact ⟨Int.natCast_nonneg n, by show (n : Int) < 256; omega⟩
  · cases h
theorem longB_spec {a : Int} (h : longB a = true) : -9223372036854775808 ≤ a ∧ a < 9223372036854775808 := by
  unfold longB at h
  split at h
  · rename_i n
    have := Nat.le_of_ble_eq_true h
    show -9223372036854775808 ≤ (n : Int) ∧ (n : Int) < 9223372036854775808
    omega
  · rename_i n
    have := Nat.le_of_ble_eq_true h
    rw [Int.negSucc_eq]
    omega
theorem wordB_spec {a : Int} (h : wordB a = true) : ub (bv a) = a := by
  unfold wordB at h
  split at h
  · rename_i n
    have := Nat.le_of_ble_eq_true h
    show ((BitVec.ofNat 64 n).toNat : Int) = (n : Int)
    rw [BitVec.toNat_ofNat, Nat.mod_eq_of_lt (by omega)]
  · cases h
theorem b8_spec {a : Int} (h : byteB a = true) : vb (b8 a) = a := by
  unfold byteB at h
  split at h
  · rename_i n
    have := Nat.le_of_ble_eq_true h
    show ((BitVec.ofNat 8 n).toNat : Int) = (n : Int)
    rw [BitVec.toNat_ofNat, Nat.mod_eq_of_lt (by omega)]
  · cases h
def okc (k m a b c d lo hi : Int) : Bool := match byteB k, longB m, wordB a, wordB b, wordB c, wordB d, longB lo, longB hi with
  | true, true, true, true, true, true, true, true => true
  | _, _, _, _, _, _, _, _ => false
def rdR : List Value → Option (Rg × List Value)
  | .int .u8 k :: .bool l :: .int .i64 m :: .int .u64 a :: .int .u64 b :: .int .u64 c :: .int .u64 d :: .int .i64 lo :: .int .i64 hi :: r => match okc k m a b c d lo hi with
    | true => some (⟨k, l, m, ((bv a, bv b), (bv c, bv d)), lo, hi⟩, r)
    | false => none
  | _ => none
theorem rdR_spec {cs : List Value} {q : Rg × List Value} (h : rdR cs = some q) : cs = rC q.1 ++ q.2 ∧ ROk q.1 := by
  unfold rdR at h
  split at h
  · rename_i k l m a b c d lo hi r
    split at h
    · rename_i ho
      obtain rfl := Option.some.inj h
      unfold okc at ho
      split at ho
      · rename_i h1 h2 h3 h4 h5 h6 h7 h8
        refine ⟨?_, ?_⟩
        · unfold rC
          dsimp only
          rw [wordB_spec h3, wordB_spec h4, wordB_spec h5, wordB_spec h6]
          rfl
        · exact ⟨byteB_spec h1, longB_spec h2, longB_spec h7, longB_spec h8⟩
      · cases ho
    · cases h
  · cases h
def rdRs : Nat → List Value → Option (List Rg × List Value)
  | 0, cs => some ([], cs)
  | n + 1, cs => match rdR cs with
    | some (r, cs') => match rdRs n cs' with
      | some (l, rest) => some (r :: l, rest)
      | none => none
    | none => none
theorem rdRs_spec : ∀ {n : Nat} {cs : List Value} {q : List Rg × List Value}, rdRs n cs = some q → q.1.length = n ∧ cs = q.1.flatMap rC ++ q.2 ∧ ∀ r ∈ q.1, ROk r
  | 0, cs, q, h => by
    obtain rfl := Option.some.inj h
    exact ⟨rfl, rfl, fun r hr => by cases hr⟩
  | n + 1, cs, q, h => by
    unfold rdRs at h
    split at h
    · rename_i r cs' hr
      split at h
      · rename_i l rest hl
        obtain rfl := Option.some.inj h
        obtain ⟨e1, o1⟩ := rdR_spec hr
        obtain ⟨e2, e3, o2⟩ := rdRs_spec hl
        dsimp only at e1 o1 e2 e3 o2 ⊢
        refine ⟨by simp [e2], by rw [e1, e3]; simp, fun x hx => ?_⟩
        rcases List.mem_cons.1 hx with rfl | hx
        · exact o1
        · exact o2 x hx
      · cases h
    · cases h
def rdKs : Nat → List Value → Option (List Sk × List Value)
  | 0, cs => some ([], cs)
  | n + 1, cs => match cs with
    | .int .u8 h :: cs => match byteB h with
      | true => match rdR cs with
        | some (r, cs') => match rdKs n cs' with
          | some (l, rest) => some (⟨b8 h, r⟩ :: l, rest)
          | none => none
        | none => none
      | false => none
    | _ => none
theorem rdKs_spec : ∀ {n : Nat} {cs : List Value} {q : List Sk × List Value}, rdKs n cs = some q → q.1.length = n ∧ cs = q.1.flatMap kC ++ q.2 ∧ ∀ x ∈ q.1, ROk x.r
  | 0, cs, q, h => by
    obtain rfl := Option.some.inj h
    exact ⟨rfl, rfl, fun r hr => by cases hr⟩
  | n + 1, cs, q, h => by
    unfold rdKs at h
    split at h
    · rename_i hv cs0
      split at h
      · rename_i hb
        split at h
        · rename_i r cs' hr
          split at h
          · rename_i l rest hl
            obtain rfl := Option.some.inj h
            obtain ⟨e1, o1⟩ := rdR_spec hr
            obtain ⟨e2, e3, o2⟩ := rdKs_spec hl
            dsimp only at e1 o1 e2 e3 o2 ⊢
            refine ⟨by simp [e2], ?_, fun x hx => ?_⟩
            · rw [e1, e3, List.flatMap_cons]
              unfold kC
              dsimp only
              rw [b8_spec hb]
              simp
            · rcases List.mem_cons.1 hx with rfl | hx
              · exact o1
              · exact o2 x hx
          · cases h
        · cases h
      · cases h
    · cases h
theorem flat_getD {α : Type} (f : α → List Value) (d : α) (l : List α) : (List.range l.length).flatMap (fun k => f (l.getD k d)) = l.flatMap f := by
  have : (List.range l.length).map (fun k => l.getD k d) = l := by
    apply List.ext_getElem?
    intro i
    rw [List.getElem?_map]
    by_cases hi : i < l.length
    · rw [List.getElem?_range hi]; simp [List.getD, hi]
    · rw [List.getElem?_eq_none (by simpa using hi), List.getElem?_eq_none (by omega)]; rfl
  conv => rhs; rw [← this]
  rw [List.flatMap_map]
def mkS (rs : List Rg) (ks : List Sk) (p : Int) : St := ⟨fun i => rs.getD i r0, fun i => ks.getD i k0, p⟩
/-- The state that a row of cells is. -/
def rdS (cs : List Value) : Option St := match rdRs 11 cs with
  | some (rs, cs') => match rdKs 64 cs' with
    | some (ks, [.int .i64 p]) => match longB p with
      | true => some (mkS rs ks p)
      | false => none
    | _ => none
  | none => none
theorem rdS_spec {cs : List Value} {S : St} (h : rdS cs = some S) : cs = stC S ∧ StOk S := by
  unfold rdS at h
  split at h
  · rename_i rs cs' hr
    split at h
    · rename_i ks p hk
      split at h
      · rename_i hp
        obtain rfl := Option.some.inj h
        obtain ⟨a1, a2, a3⟩ := rdRs_spec hr
        obtain ⟨b1, b2, b3⟩ := rdKs_spec hk
        dsimp only at a1 a2 a3 b1 b2 b3
        refine ⟨?_, fun k hk => ?_, fun k hk => ?_, longB_spec hp⟩
        · rw [a2, b2]
          unfold stC regC stkC mkS
          dsimp only
          have e1 := flat_getD rC r0 rs
          have e2 := flat_getD kC k0 ks
          rw [a1] at e1
          rw [b1] at e2
          rw [e1, e2]
        · show ROk (rs.getD k r0)
          rw [List.getD_eq_getElem?_getD]
          cases hq : rs[k]? with
          | none => exact r0_ok
          | some x => exact a3 x (List.mem_of_getElem? hq)
        · show ROk (ks.getD k k0).r
          rw [List.getD_eq_getElem?_getD]
          cases hq : ks[k]? with
          | none => exact r0_ok
          | some x => exact b3 x (List.mem_of_getElem? hq)
      · cases h
    · cases h
  · cases h
theorem rC_fix (η : Ev.Env) (r : Rg) : (rC r).map (Ev.rV η) = rC r := by unfold rC; simp
theorem kC_fix (η : Ev.Env) (x : Sk) : (kC x).map (Ev.rV η) = kC x := by unfold kC; simp [rC_fix]
theorem stC_fix (η : Ev.Env) (S : St) : (stC S).map (Ev.rV η) = stC S := by
  unfold stC regC stkC
  simp only [List.map_append, List.map_flatMap, rC_fix, kC_fix, List.map_cons, List.map_nil, Ev.rV_int]
theorem stV_fix (η : Ev.Env) (S : St) : Ev.rV η (stV S) = stV S := by
  unfold stV
  have := stC_fix η S
  simp [this]
/-- The answers. -/
def orSt (mf jf bf : FuncId) : FuncId → List Value → Option Value := fun f args => match Nat.beq f mf with
  | true => match args with
    | [.agg ⟨a⟩] => match rdS a with
      | some S => match sMay S with
        | b => some (.bool b)
      | none => none
    | _ => none
  | false => match Nat.beq f jf with
    | true => match args with
      | [.agg ⟨a⟩, .agg ⟨b⟩] => match rdS a, rdS b with
        | some S, some V => match sIn S V with
          | b => some (.bool b)
        | _, _ => none
      | _ => none
    | false => match Nat.beq f bf with
      | true => match args with
        | [] => some (stV begS)
        | _ => none
      | false => none
theorem orSt_ok (f : FuncId) (args : List Value) (v : Value) (h : orSt 36 137 9 f args = some v) :
    (∀ η, args.map (Ev.rV η) = args) ∧ (∀ η, Ev.rV η v = v) ∧ ∀ W : World, Calls Tryz.prog f args.toArray W fun e W' => e = .returned v ∧ Below W.heap.size W W' := by
  unfold orSt at h
  split at h
  · rename_i hf
    obtain rfl : f = 36 := Nat.eq_of_beq_eq_true hf
    split at h
    · rename_i a
      split at h
      · rename_i S hS
        obtain ⟨rfl, o⟩ := rdS_spec hS
        obtain rfl := Option.some.inj h
        refine ⟨fun η => ?_, fun η => by simp, fun W => uMay_any S o W⟩
        have e1 := stV_fix η S
        unfold stV at e1
        simp only [List.map_cons, List.map_nil, e1]
      · cases h
    · cases h
  · split at h
    · rename_i hf
      obtain rfl : f = 137 := Nat.eq_of_beq_eq_true hf
      split at h
      · rename_i a b
        split at h
        · rename_i S V hS hV
          obtain ⟨rfl, o⟩ := rdS_spec hS
          obtain ⟨rfl, o'⟩ := rdS_spec hV
          obtain rfl := Option.some.inj h
          refine ⟨fun η => ?_, fun η => by simp, fun W => uIn_any S V o o' W⟩
          have e1 := stV_fix η S
          have e2 := stV_fix η V
          unfold stV at e1 e2
          simp only [List.map_cons, List.map_nil, e1, e2]
        · cases h
      · cases h
    · split at h
      · rename_i hf
        obtain rfl : f = 9 := Nat.eq_of_beq_eq_true hf
        split at h
        · obtain rfl := Option.some.inj h
          exact ⟨fun _ => rfl, fun η => stV_fix η _, fun W => uBegin_any W⟩
        · cases h
      · cases h
end SE
end Go.Proofs.YtjcnpjidkimldaaGreatDoor

namespace Go.Proofs.YtjcnpjidkimldaaGreatDoor
set_option linter.unusedSimpArgs false
set_option linter.unusedVariables false
set_option maxRecDepth 100000
set_option maxRecDepth 100000
open Go.ChangeShapes Go.WideShapes Go.ChangeAt Go.RowKit Me

def tMap (r : Rg) : Bool := r.k == 5 || (r.k == 6 || r.k == 7)
def hasM (S : St) (n : Int) : Bool := allR (fun k => !(tMap (S.rg k) && decide (n ≤ (S.rg k).m))) && allK (fun k => !(tMap (S.sk k).r && decide (n ≤ (S.sk k).r.m)))
theorem tMap_any (r : Rg) (w : World) : Calls Tryz.prog 80 #[.agg (rC r).toArray] w fun e w' => e = .returned (.bool (tMap r)) ∧ Below w.heap.size w w' := by
  show Calls Tryz.prog 80 #[rV r] w _
  unfold tMap
  have B : Below w.heap.size w (w.alloc (.cells #[.int .u8 r.k, .bool r.l, .int .i64 r.m, .int .u64 (ub r.s.1.1), .int .u64 (ub r.s.1.2), .int .u64 (ub r.s.2.1), .int .u64 (ub r.s.2.2), .int .i64 r.lo, .int .i64 r.hi] 41)) := (Below.refl _ _).alloc (Nat.le_refl _) _
  unfold rV
  cases e5 : (r.k == 5)
  · cases e6 : (r.k == 6)
    · cases e7 : (r.k == 7)
      all_goals
        go_enter Tryz.func80, Tryz.ntmps80
        go_wp2
        go_ret
        exact ⟨rfl, B⟩
    · go_enter Tryz.func80, Tryz.ntmps80
      go_wp2
      go_ret
      exact ⟨rfl, B⟩
  · go_enter Tryz.func80, Tryz.ntmps80
    go_wp2
    go_ret
    exact ⟨rfl, B⟩
theorem range_r {w : World} {b o : Nat} {x : Sk} (h : w.rangeAt b o (kC x)) : w.rangeAt b (o + 1) (rC x.r) := fun j v hv => by
  have := h (j + 1) v (by show (Value.int .u8 (vb x.h) :: rC x.r)[j + 1]? = some v; simpa using hv)
  rwa [show o + 1 + j = o + (j + 1) by omega]
theorem range_m {w : World} {b o : Nat} {r : Rg} (h : w.rangeAt b o (rC r)) : w.cell? ⟨b, o + 2, none⟩ = some (.int .i64 r.m) := h 2 _ rfl
set_option maxHeartbeats 8000000 in
theorem hasM_any (S : St) (n : Int) (w : World) : Calls Tryz.prog 37 #[.agg (stC S).toArray, .int .i64 n] w fun e w' => e = .returned (.bool (hasM S n)) ∧ Below w.heap.size w w' := by
  have HT := hid fun (r : Rg) W => tMap_any r W
  have I0 := hid (RwI.first w (stC S) 47)
  have hr : hasM S n = (allR (fun k => !(tMap (S.rg k) && decide (n ≤ (S.rg k).m))) && allK (fun k => !(tMap (S.sk k).r && decide (n ≤ (S.sk k).r.m)))) := rfl
  generalize hRR : hasM S n = R at hr ⊢
  have HRR := hid hr
  obtain ⟨CF, hCF⟩ : ∃ CF, (stC S).toArray = CF := ⟨_, rfl⟩
  rw [hCF] at I0 ⊢
  clear hr hRR hCF
  go_enter Tryz.func37, Tryz.ntmps37
  go_wp2_with fail
  go_loopw [7] (fun i w' => ∃ k : Nat, k ≤ 11 ∧ i = .int .i64 k ∧ Hid (∀ j, j < k → (fun k => !(tMap (S.rg k) && decide (n ≤ (S.rg k).m))) j = true) ∧ Hid (RwI w.heap.size w w' w.heap.size (stC S))) (fun i _ => 11 - (intOf i).toNat)
  case atStart => exact ⟨0, by omega, rfl, hid (fun j hj => by omega), I0⟩
  case round =>
    clear I0
    obtain ⟨k, hk, rfl, hP, I1⟩ := hrel
    by_cases hlt : k < 11
    · have hlt' : (k : Int) < 11 := by omega
      have hrk : Hid (wr.rangeAt w.heap.size (k * 9) (rC (S.rg k))) := hid (range_reg I1.out.r0 k hlt)
      have HS : Hid ((Tryz.prog.info? 41).map (·.size) = some (rC (S.rg k)).length) := hid (by rw [rC_len]; exact yinfo30)
      have HKk := hid (HT.out (S.rg k))
      cases hb : tMap (S.rg k)
      · have HPk : Hid ((fun k => !(tMap (S.rg k) && decide (n ≤ (S.rg k).m))) k = true) := hid (by show (!(tMap (S.rg k) && decide (n ≤ (S.rg k).m))) = true; rw [hb]; rfl)
        rw [hb] at HKk
        clear hb
        go_wp2_with (refine wpList_load_mid (op := ⟨_, .load 41 _, _, _, _, _⟩) rfl 41 _ rfl w.heap.size (k * 9) rfl (rC (S.rg k)) _ hrk.out Tryz.underlying41 rfl HS.out ?_)
        refine (HKk.out _).mono ?_
        rintro e w1 ⟨rfl, b1⟩
        have I2 := hid (I1.out.next b1 (Nat.le_of_lt I1.out.sz))
        clear b1 hrk I1
        go_wp2
        go_roundw
        case rel => first | exact ⟨k + 1, by omega, by go_num, hid (fun i hi => (Nat.lt_succ_iff_lt_or_eq.1 hi).elim (fun q => hP.out i q) (fun q => q ▸ HPk.out)), I2⟩ | ((repeat apply Exists.intro); exact ⟨⟨k + 1, by omega, by go_num, hid (fun i hi => (Nat.lt_succ_iff_lt_or_eq.1 hi).elim (fun q => hP.out i q) (fun q => q ▸ HPk.out)), I2⟩, rfl⟩)
        case measure => simp [intOf]; omega
      · have HBB := hid hb
        rw [hb] at HKk
        clear hb
        go_wp2_with (refine wpList_load_mid (op := ⟨_, .load 41 _, _, _, _, _⟩) rfl 41 _ rfl w.heap.size (k * 9) rfl (rC (S.rg k)) _ hrk.out Tryz.underlying41 rfl HS.out ?_)
        refine (HKk.out _).mono ?_
        rintro e w1 ⟨rfl, b1⟩
        have I2 := hid (I1.out.next b1 (Nat.le_of_lt I1.out.sz))
        clear b1 hrk I1
        have hm : w1.cell? ⟨w.heap.size, k * 9 + 2, none⟩ = some (.int .i64 (S.rg k).m) := range_m (range_reg I2.out.r0 k hlt)
        by_cases hc : n ≤ (S.rg k).m
        · have HPk' : Hid ((fun k => !(tMap (S.rg k) && decide (n ≤ (S.rg k).m))) k = false) := hid (by show (!(tMap (S.rg k) && decide (n ≤ (S.rg k).m))) = false; rw [HBB.out, decide_eq_true hc]; rfl)
          obtain ⟨M, hM⟩ : ∃ M, M = (S.rg k).m := ⟨_, rfl⟩
          rw [← hM] at hm hc
          clear hM
          go_wp2
          go_ret
          refine ⟨Me.ret_val ?_, I2.out.bel⟩
          rw [HRR.out, allR_no hlt HPk'.out, Bool.false_and]
          rfl
        · have HPk' : Hid ((fun k => !(tMap (S.rg k) && decide (n ≤ (S.rg k).m))) k = true) := hid (by show (!(tMap (S.rg k) && decide (n ≤ (S.rg k).m))) = true; rw [HBB.out, decide_eq_false hc]; rfl)
          obtain ⟨M, hM⟩ : ∃ M, M = (S.rg k).m := ⟨_, rfl⟩
          rw [← hM] at hm hc
          clear hM
          have hc' : M < n := by omega
          clear hc
          go_wp2
          go_roundw
          case rel => first | exact ⟨k + 1, by omega, by go_num, hid (fun i hi => (Nat.lt_succ_iff_lt_or_eq.1 hi).elim (fun q => hP.out i q) (fun q => q ▸ HPk'.out)), I2⟩ | ((repeat apply Exists.intro); exact ⟨⟨k + 1, by omega, by go_num, hid (fun i hi => (Nat.lt_succ_iff_lt_or_eq.1 hi).elim (fun q => hP.out i q) (fun q => q ▸ HPk'.out)), I2⟩, rfl⟩)
          case measure => simp [intOf]; omega
    · have hk8 : k = 11 := by omega
      subst hk8
      have HA : Hid (allR (fun k => !(tMap (S.rg k) && decide (n ≤ (S.rg k).m))) = true) := (allR_iff _).2 (fun i hi => hP.out i hi)
      clear hP hlt hk
      go_wp2_with fail
      go_loopw [25] (fun i w' => ∃ k : Nat, k ≤ 64 ∧ i = .int .i64 k ∧ Hid (∀ j, j < k → (fun k => !(tMap (S.sk k).r && decide (n ≤ (S.sk k).r.m))) j = true) ∧ Hid (RwI w.heap.size w w' w.heap.size (stC S))) (fun i _ => 64 - (intOf i).toNat)
      case atStart => exact ⟨0, by omega, rfl, hid (fun j hj => by omega), I1⟩
      case round =>
        clear I1
        obtain ⟨k, hk, rfl, hP, I1⟩ := hrel
        by_cases hlt : k < 64
        · have hlt' : (k : Int) < 64 := by omega
          have hrk : Hid (wr.rangeAt w.heap.size (99 + k * 10 + 1) (rC ((S.sk k).r))) := hid (range_r (range_slot I1.out.r0 k hlt))
          have HS : Hid ((Tryz.prog.info? 41).map (·.size) = some (rC ((S.sk k).r)).length) := hid (by rw [rC_len]; exact yinfo30)
          have HKk := hid (HT.out ((S.sk k).r))
          cases hb : tMap ((S.sk k).r)
          · have HPk : Hid ((fun k => !(tMap (S.sk k).r && decide (n ≤ (S.sk k).r.m))) k = true) := hid (by show (!(tMap ((S.sk k).r) && decide (n ≤ ((S.sk k).r).m))) = true; rw [hb]; rfl)
            rw [hb] at HKk
            clear hb
            go_wp2_with (refine wpList_load_mid (op := ⟨_, .load 41 _, _, _, _, _⟩) rfl 41 _ rfl w.heap.size (99 + k * 10 + 1) rfl (rC ((S.sk k).r)) _ hrk.out Tryz.underlying41 rfl HS.out ?_)
            refine (HKk.out _).mono ?_
            rintro e w1 ⟨rfl, b1⟩
            have I2 := hid (I1.out.next b1 (Nat.le_of_lt I1.out.sz))
            clear b1 hrk I1
            go_wp2
            go_roundw
            case rel => first | exact ⟨k + 1, by omega, by go_num, hid (fun i hi => (Nat.lt_succ_iff_lt_or_eq.1 hi).elim (fun q => hP.out i q) (fun q => q ▸ HPk.out)), I2⟩ | ((repeat apply Exists.intro); exact ⟨⟨k + 1, by omega, by go_num, hid (fun i hi => (Nat.lt_succ_iff_lt_or_eq.1 hi).elim (fun q => hP.out i q) (fun q => q ▸ HPk.out)), I2⟩, rfl⟩)
            case measure => simp [intOf]; omega
          · have HBB := hid hb
            rw [hb] at HKk
            clear hb
            go_wp2_with (refine wpList_load_mid (op := ⟨_, .load 41 _, _, _, _, _⟩) rfl 41 _ rfl w.heap.size (99 + k * 10 + 1) rfl (rC ((S.sk k).r)) _ hrk.out Tryz.underlying41 rfl HS.out ?_)
            refine (HKk.out _).mono ?_
            rintro e w1 ⟨rfl, b1⟩
            have I2 := hid (I1.out.next b1 (Nat.le_of_lt I1.out.sz))
            clear b1 hrk I1
            have hm : w1.cell? ⟨w.heap.size, 99 + k * 10 + 1 + 2, none⟩ = some (.int .i64 ((S.sk k).r).m) := range_m (range_r (range_slot I2.out.r0 k hlt))
            by_cases hc : n ≤ ((S.sk k).r).m
            · have HPk' : Hid ((fun k => !(tMap (S.sk k).r && decide (n ≤ (S.sk k).r.m))) k = false) := hid (by show (!(tMap ((S.sk k).r) && decide (n ≤ ((S.sk k).r).m))) = false; rw [HBB.out, decide_eq_true hc]; rfl)
              obtain ⟨M, hM⟩ : ∃ M, M = ((S.sk k).r).m := ⟨_, rfl⟩
              rw [← hM] at hm hc
              clear hM
              go_wp2
              go_ret
              refine ⟨Me.ret_val ?_, I2.out.bel⟩
              rw [HRR.out, allK_no hlt HPk'.out, Bool.and_false]
              rfl
            · have HPk' : Hid ((fun k => !(tMap (S.sk k).r && decide (n ≤ (S.sk k).r.m))) k = true) := hid (by show (!(tMap ((S.sk k).r) && decide (n ≤ ((S.sk k).r).m))) = true; rw [HBB.out, decide_eq_false hc]; rfl)
              obtain ⟨M, hM⟩ : ∃ M, M = ((S.sk k).r).m := ⟨_, rfl⟩
              rw [← hM] at hm hc
              clear hM
              have hc' : M < n := by omega
              clear hc
              go_wp2
              go_roundw
              case rel => first | exact ⟨k + 1, by omega, by go_num, hid (fun i hi => (Nat.lt_succ_iff_lt_or_eq.1 hi).elim (fun q => hP.out i q) (fun q => q ▸ HPk'.out)), I2⟩ | ((repeat apply Exists.intro); exact ⟨⟨k + 1, by omega, by go_num, hid (fun i hi => (Nat.lt_succ_iff_lt_or_eq.1 hi).elim (fun q => hP.out i q) (fun q => q ▸ HPk'.out)), I2⟩, rfl⟩)
              case measure => simp [intOf]; omega
        · have hk8 : k = 64 := by omega
          subst hk8
          have HB : Hid (allK (fun k => !(tMap (S.sk k).r && decide (n ≤ (S.sk k).r.m))) = true) := (allK_iff _).2 (fun i hi => hP.out i hi)
          clear hP hlt hk
          go_wp2
          go_ret
          refine ⟨Me.ret_val ?_, I1.out.bel⟩
          rw [HRR.out, HA.out, HB.out]
          rfl
end Go.Proofs.YtjcnpjidkimldaaGreatDoor
