/-
  Contract of the document's Check: what is wrong with an image, and where. And the laws' comparison of an image with itself.
-/
import Derived.Test.YtdnkikgfiganaaaDoorRaA
import Derived.Test.YtdnkikgfiganaaaDoorShK
import Derived.Deep.RegionHeld3
import Derived.BigQuiet
namespace Go.Proofs.YtdnkikgfiganaaaDoor
set_option linter.unusedSimpArgs false
set_option linter.unusedVariables false
open Go.ChangeShapes Go.WideShapes Go.ChangeAt Go.RowKit

/-- A slice of bools of the call's own reads so. -/
def BlSl (w : World) (p : Option Addr) (n : Nat) (f : Nat → Bool) : Prop := n = 0 ∨ ∃ g, p = some ⟨g, 0, none⟩ ∧ g < w.heap.size ∧ ∀ j, j < n → w.cell? ⟨g, j, none⟩ = some (.bool (f j))
theorem own_bools {w0 w : World} {v : Value} {c : List I5} {n : Nat} (h : OwnB w0 w v (stUp c n)) : ∃ q cap, v = .slice q n cap ∧ BlSl w q n (stB c) ∧ (∀ g o s, q = some ⟨g, o, s⟩ → w0.heap.size ≤ g) := by
  obtain ⟨h, hb⟩ := h
  rcases h.2 with ⟨rfl, h0⟩ | ⟨g, cap, cur, rfl, hg, hh, _⟩
  · rw [stUp_len] at h0
    subst h0
    exact ⟨none, 0, rfl, .inl rfl, (fun _ _ _ e => by cases e)⟩
  · rw [stUp_len]
    refine ⟨_, cap, rfl, .inr ⟨g, rfl, (h.lt g rfl).2, fun j hj => ?_⟩, (fun _ _ _ e => by cases e; exact hg)⟩
    have hc := h.cells (g := g) rfl j (.bool (stB c j)) (by
      unfold stUp
      rw [List.map_map, List.getElem?_map, List.getElem?_range hj]; rfl)
    have e : ((⟨g, 0, none⟩ : Addr).add j) = ⟨g, 0 + j, none⟩ := by simp only [Addr.add]; split <;> simp_all
    rw [e, Nat.zero_add] at hc
    exact hc
theorem BlSl.kept {w w' : World} {p : Option Addr} {n : Nat} {f : Nat → Bool} (h : BlSl w p n f) (hb : Below w.heap.size w w') : BlSl w' p n f := by
  refine h.imp id ?_
  rintro ⟨g, e, hl, hc⟩
  exact ⟨g, e, Nat.lt_of_lt_of_le hl hb.size, fun j hj => (hb.cell (p := ⟨g, j, none⟩) hl).trans (hc j hj)⟩
theorem rtarget_5 (at_ : Int) (x : I5) (hx : x.ok) (w : World) (h0 : 0 ≤ at_) (h1 : at_ < 4611686018427387904) : Calls Tryd.prog 49 #[.int .i64 at_, x.V] w fun e w' => e = .returned (.int .i64 (at_ + 1 + x.off)) ∧ Below w.heap.size w w' := by
  obtain ⟨_, _, _, _, _, _, o0, o1, _⟩ := hx
  exact rtarget_I at_ x.op x.dst x.src x.off x.imm w h0 h1 o0 o1
def lstN (c : List I5) (k : Nat) : Nat := (begsTo c k).getLastD 0
theorem lstN_zero (c : List I5) : lstN c 0 = 0 := rfl
theorem lstN_yes {c : List I5} {k : Nat} (h : stB c k = true) : lstN c (k + 1) = k := by
  unfold lstN
  rw [begsTo_succ, if_pos h, List.getLastD_concat]
theorem lstN_no {c : List I5} {k : Nat} (h : stB c k = false) : lstN c (k + 1) = lstN c k := by
  unfold lstN
  rw [begsTo_succ, if_neg (by rw [h]; decide), List.append_nil]
theorem chk_short {l : List M4} {c : List I5} (h : c.length = 0) : chkI l c = (0, 4) := by unfold chkI; rw [if_pos h]
theorem chk_long {l : List M4} {c : List I5} (h : c.length ≠ 0) (h1 : 512 < c.length ∨ 4 < l.length) : chkI l c = (0, 3) := by unfold chkI; rw [if_neg h, if_pos h1]
theorem chk_badm {l : List M4} {c : List I5} {k : Nat} (h : c.length ≠ 0) (h1 : ¬ (512 < c.length ∨ 4 < l.length)) (hb : badM l = some k) : chkI l c = ((k : Int), 26) := by unfold chkI; rw [if_neg h, if_neg h1, hb]
theorem chk_alone {l : List M4} {c : List I5} {k : Nat} (h : c.length ≠ 0) (h1 : ¬ (512 < c.length ∨ 4 < l.length)) (hb : badM l = none) (hk : k < c.length) (hs : stB c k = true) (ha : alE l.length c k ≠ 0) (hn : ∀ j, j < k → stB c j = true → alE l.length c j = 0) : chkI l c = ((k : Int), alE l.length c k) := by
  have hf : firstB c (fun k => alE l.length c k != 0) c.length = some k := firstB_some.2 ⟨hk, hs, by simpa using ha, fun j hj hsj => by simpa using hn j hj hsj⟩
  unfold chkI
  rw [if_neg h, if_neg h1, hb]
  dsimp only
  rw [hf]
theorem chk_lead {l : List M4} {c : List I5} (h : c.length ≠ 0) (h1 : ¬ (512 < c.length ∨ 4 < l.length)) (hb : badM l = none) (hn : ∀ j, j < c.length → stB c j = true → alE l.length c j = 0) : chkI l c = leadI c := by
  have hf : firstB c (fun k => alE l.length c k != 0) c.length = none := firstB_none.2 fun j hj hs => by simpa using hn j hj hs
  unfold chkI
  rw [if_neg h, if_neg h1, hb]
  dsimp only
  rw [hf]
theorem lead_jump {c : List I5} {k : Nat} (hk : k < c.length) (hs : stB c k = true) (hj : jmpB c k = true) (hn : ∀ j, j < k → stB c j = true → jmpB c j = false) : leadI c = ((k : Int), 24) := by
  unfold leadI
  rw [firstB_some.2 ⟨hk, hs, hj, hn⟩]
theorem lead_end {c : List I5} (hn : ∀ j, j < c.length → stB c j = true → jmpB c j = false) : leadI c = if endB (at5 c (lastB c)).t.cls then (0, 0) else ((lastB c : Int), 25) := by
  unfold leadI
  rw [firstB_none.2 hn]

set_option maxRecDepth 100000 in
set_option maxHeartbeats 8000000 in
theorem rcheck_any (pm pc : Option Addr) (cm cc : Nat) (l : List M4) (c : List I5) (w : World) (hml : MpSl w.heap.size w pm l.length l) (hsl : CdSl w.heap.size w pc c.length c) :
    Calls Tryd.prog 16 #[.agg #[.slice pm l.length cm, .slice pc c.length cc]] w fun e w' => e = .returned (.tuple #[.int .i64 (chkI l c).1, .int .i64 (chkI l c).2]) ∧ Below w.heap.size w w' := by
  have HSL := hid hsl
  have HML := hid hml
  have hlen := hsl.2.2.1
  have hlem := hml.2.1
  clear hsl hml
  by_cases h0 : c.length = 0
  · rw [chk_short h0]
    have m0 : (c.length == 0) = true := by simpa using h0
    have m1 : ((c.length : Int) == 0) = true := beq_iff_eq.2 (by omega)
    clear h0
    go_enter Tryd.func16, Tryd.ntmps16
    go_wp2
    go_ret2
    exact ⟨rfl, (Below.refl w.heap.size w).alloc (Nat.le_refl _) _⟩
  have m0 : (c.length == 0) = false := by simpa using h0
  have m1 : ((c.length : Int) == 0) = false := beq_eq_false_iff_ne.2 (by omega)
  by_cases h1 : 512 < c.length
  · rw [chk_long h0 (.inl h1)]
    have m2 : decide (512 < c.length) = true := by simpa using h1
    have m3 : decide ((512 : Int) < (c.length : Int)) = true := decide_eq_true (by have := h1; omega)
    clear h0 h1
    go_enter Tryd.func16, Tryd.ntmps16
    go_wp2
    go_ret2
    exact ⟨rfl, (Below.refl w.heap.size w).alloc (Nat.le_refl _) _⟩
  have m2 : decide (512 < c.length) = false := by simpa using h1
  have m3 : decide ((512 : Int) < (c.length : Int)) = false := decide_eq_false (by omega)
  by_cases h2 : 4 < l.length
  · rw [chk_long h0 (.inr h2)]
    have m4 : decide (4 < l.length) = true := by simpa using h2
    have m5 : decide ((4 : Int) < (l.length : Int)) = true := decide_eq_true (by omega)
    clear h0 h1 h2
    go_enter Tryd.func16, Tryd.ntmps16
    go_wp2
    go_ret2
    exact ⟨rfl, (Below.refl w.heap.size w).alloc (Nat.le_refl _) _⟩
  have m4 : decide (4 < l.length) = false := by simpa using h2
  have m5 : decide ((4 : Int) < (l.length : Int)) = false := decide_eq_false (by omega)
  have h3 : ¬ (512 < c.length ∨ 4 < l.length) := by omega
  have H0 := hid h0
  have H3 := hid h3
  clear h0 h3
  go_enter Tryd.func16, Tryd.ntmps16
  go_wp2
  have hBa : Below w.heap.size w (w.alloc (.cells #[.slice pm l.length cm, .slice pc c.length cc] 25)) := (Below.refl _ w).alloc (Nat.le_refl _) _
  have k0 : (w.alloc (.cells #[.slice pm l.length cm, .slice pc c.length cc] 25)).cell? ⟨w.heap.size, 0, none⟩ = some (.slice pm l.length cm) := by simp
  have k1 : (w.alloc (.cells #[.slice pm l.length cm, .slice pc c.length cc] 25)).cell? ⟨w.heap.size, 1, none⟩ = some (.slice pc c.length cc) := by simp
  replace HML := hid ((HML.out.kept hBa (Nat.le_refl _)).wide hBa.size)
  replace HSL := hid ((HSL.out.kept hBa (Nat.le_refl _)).wide hBa.size)
  have HBA := hid hBa
  have K0 := hid k0
  have K1 := hid k1
  clear hBa k0 k1
  generalize w.alloc (.cells #[.slice pm l.length cm, .slice pc c.length cc] 25) = W0 at *
  go_loopw [5] (fun i wr => ∃ k : Nat, i = .int .i64 k ∧ k ≤ l.length ∧ Hid (∀ j, j < k → mayB (mpA l j) = true) ∧ Hid (Below W0.heap.size W0 wr)) (fun i _ => l.length - (intOf i).toNat)
  case atStart => exact ⟨0, rfl, by omega, hid (fun j hj => by omega), hid (Below.refl _ _)⟩
  case round =>
    obtain ⟨k, rfl, hk, HM, HB⟩ := hrel
    have k0 := cn HB.out K0.out
    have k1 := cn HB.out K1.out
    by_cases hlt : k < l.length
    · obtain ⟨b, off, hp, hb, hins⟩ := (HML.out.kept HB.out (Nat.le_refl _)).2.2.resolve_left (by omega)
      subst hp
      obtain ⟨i0, i1, i2, i3⟩ := hins k hlt
      clear hins
      go_wp2_with fail
      refine (may_I (mpA l k) _).mono ?_
      rintro e W2 ⟨rfl, b2⟩
      have HB2 := hid (below_next HB.out b2)
      clear b2 i0 i1 i2 i3
      cases hm : mayB (mpA l k)
      · have hk1 := hid (chk_badm H0.out H3.out (badM_some HM.out hlt hm))
        clear hm
        go_wp2
        rw [hk1.out]
        go_ret2
        exact ⟨rfl, below_next HBA.out HB2.out⟩
      · have HM2 : Hid (∀ j, j < k + 1 → mayB (mpA l j) = true) := hid (fun j hj => by
          by_cases e : j = k
          · rw [e]; exact hm
          · exact HM.out j (by omega))
        clear hm
        go_wp2
        go_roundw
        case rel => exact ⟨k + 1, by simp, by omega, HM2, HB2⟩
        case measure => simp [intOf]; omega
    · obtain rfl : k = l.length := by omega
      have HBM := hid (badM_none HM.out)
      go_wp2_with fail
      refine (rstarts_any pc cc c wr ((HSL.out.kept HB.out (Nat.le_refl _)).wide HB.out.size)).mono ?_
      rintro e w2 ⟨v, rfl, own⟩
      obtain ⟨q, cp, rfl, hq, _⟩ := own_bools own
      have HB2 := hid (below_next HB.out own.2)
      have HQ := hid hq
      clear hq own HB k0 k1 HM
      go_wp2
      go_loopw [7, 8] (fun la i wr => ∃ k : Nat, i = .int .i64 k ∧ la = .int .i64 (lstN c k) ∧ k ≤ c.length ∧ Hid (∀ j, j < k → stB c j = true → alE l.length c j = 0) ∧ Hid (BlSl wr q c.length (stB c)) ∧ Hid (Below W0.heap.size W0 wr)) (fun _ i _ => c.length - (intOf i).toNat)
      case atStart => exact ⟨0, rfl, rfl, by omega, hid (fun j hj => by omega), HQ, HB2⟩
      case round =>
        obtain ⟨k, rfl, rfl, hk, HN, HQ1, HB⟩ := hrel
        clear HQ HB2
        have k0 := cn HB.out K0.out
        have k1 := cn HB.out K1.out
        by_cases hlt : k < c.length
        · obtain ⟨g, hqe, hgl, hcb⟩ := HQ1.out.resolve_left (by omega)
          subst hqe
          have f0 := hcb k hlt
          clear hcb
          have hl0 : 0 ≤ (k : Int) := by omega
          have hl1 : (k : Int) < (c.length : Int) := by omega
          cases hs : stB c k
          · rw [hs] at f0
            have HN2 : Hid (∀ j, j < k + 1 → stB c j = true → alE l.length c j = 0) := hid (fun j hj hsj => by
              by_cases e : j = k
              · subst e; rw [hs] at hsj; cases hsj
              · exact HN.out j (by omega) hsj)
            have HLN := hid (lstN_no hs)
            go_wp2
            go_roundw
            case rel => exact ⟨k + 1, by simp, by rw [HLN.out], by omega, HN2, HQ1, HB⟩
            case measure => simp [intOf]; omega
          · rw [hs] at f0
            go_wp2_with fail
            refine (ralone_any pm pc cm cc l.length c k wr ((HSL.out.kept HB.out (Nat.le_refl _)).wide HB.out.size) hlt).mono ?_
            rintro e w3 ⟨rfl, b3⟩
            have HB3 := hid (below_next HB.out b3)
            have HQ3 := hid (HQ1.out.kept b3)
            have HA := hid (rfl : alE (l.length : Int) c k = alE (l.length : Int) c k)
            generalize hE : alE (l.length : Int) c k = E at HA ⊢
            have HE := hid hE
            clear b3 f0 hE HA
            by_cases hE0 : E = 0
            · subst hE0
              have HN2 : Hid (∀ j, j < k + 1 → stB c j = true → alE l.length c j = 0) := hid (fun j hj hsj => by
                by_cases e : j = k
                · subst e; exact HE.out
                · exact HN.out j (by omega) hsj)
              have HLN := hid (lstN_yes hs)
              clear hs
              go_wp2
              go_roundw
              case rel => exact ⟨k + 1, by simp, by rw [HLN.out], by omega, HN2, HQ3, HB3⟩
              case measure => simp [intOf]; omega
            · have hk1 := hid (chk_alone H0.out H3.out HBM.out hlt hs (by rw [HE.out]; exact hE0) HN.out)
              have hne : (E != 0) = true := by simpa using hE0
              clear hs hE0
              go_wp2
              rw [hk1.out, HE.out]
              go_ret2
              exact ⟨rfl, below_next HBA.out HB3.out⟩
        · obtain rfl : k = c.length := by omega
          have HCL := hid (chk_lead H0.out H3.out HBM.out HN.out)
          have HLB := hid (show lstN c c.length = lastB c from rfl)
          have HLL := hid (lastB_lt (c := c) (by have := H0.out; omega))
          rw [HLB.out]
          clear HLB HN HBM
          go_wp2
          go_loopw [10] (fun i wr => ∃ k : Nat, i = .int .i64 k ∧ k ≤ c.length ∧ Hid (∀ j, j < k → stB c j = true → jmpB c j = false) ∧ Hid (BlSl wr q c.length (stB c)) ∧ Hid (Below W0.heap.size W0 wr)) (fun i _ => c.length - (intOf i).toNat)
          case atStart => exact ⟨0, rfl, by omega, hid (fun j hj => by omega), HQ1, HB⟩
          case round =>
            obtain ⟨k, rfl, hk, HN, HQ2, HB2⟩ := hrel
            clear HQ1 HB
            replace k0 := cn HB2.out K0.out
            replace k1 := cn HB2.out K1.out
            obtain ⟨b, off, hp, hb, hins⟩ := (HSL.out.kept HB2.out (Nat.le_refl _)).2.2.2.resolve_left (by have := H0.out; omega)
            subst hp
            obtain ⟨g, hqe, hgl, hcb⟩ := HQ2.out.resolve_left (by have := H0.out; omega)
            subst hqe
            by_cases hlt : k < c.length
            · have f0 := hcb k hlt
              have hl0 : 0 ≤ (k : Int) := by omega
              have hl1 : (k : Int) < (c.length : Int) := by omega
              cases hs : stB c k
              · rw [hs] at f0
                clear hins hcb
                have HN2 : Hid (∀ j, j < k + 1 → stB c j = true → jmpB c j = false) := hid (fun j hj hsj => by
                  by_cases e : j = k
                  · subst e; rw [hs] at hsj; cases hsj
                  · exact HN.out j (by omega) hsj)
                go_wp2
                go_roundw
                case rel => exact ⟨k + 1, by simp, by omega, HN2, HQ2, HB2⟩
                case measure => simp [intOf]; omega
              · rw [hs] at f0
                obtain ⟨i0, i1, i2, i3, i4⟩ := hins k hlt
                have HCB := hid hcb
                have hok := at5_ok HSL.out.2.1 k
                clear hins hcb
                have hjk : jmpB c k = (((at5 c k).t.cls == 6 || (at5 c k).t.cls == 7) && !(decide (0 ≤ tgI c k) && (decide (tgI c k < c.length) && stB c (tgI c k).toNat))) := rfl
                have htg : tgI c k = (k : Int) + 1 + (at5 c k).off := rfl
                rw [htg] at hjk
                have hstep : jmpB c k = false → Hid (∀ j, j < k + 1 → stB c j = true → jmpB c j = false) := fun h => hid (fun j hj hsj => by
                  by_cases e : j = k
                  · subst e; exact h
                  · exact HN.out j (by omega) hsj)
                have HSTEP := hid hstep
                have hlead : jmpB c k = true → leadI c = ((k : Int), 24) := fun h => lead_jump hlt hs h HN.out
                have HLEAD := hid hlead
                clear htg hstep hlead
                go_wp2_with fail
                refine (rof_I (at5 c k) hok wr).mono ?_
                rintro e w3 ⟨rfl, b3⟩
                have HB3 := hid (below_next HB2.out b3)
                have HQ3 := hid (HQ2.out.kept b3)
                replace k0 := cn b3 k0
                replace k1 := cn b3 k1
                replace i0 := cn b3 i0
                replace i1 := cn b3 i1
                replace i2 := cn b3 i2
                replace i3 := cn b3 i3
                replace i4 := cn b3 i4
                have hz0 : w.heap.size < w3.heap.size := World.block_lt_of_cell? w3 _ k0
                have hzb : b < w3.heap.size := World.block_lt_of_cell? w3 _ i0
                have HT := hid fun W => rtarget_5 (k : Int) (at5 c k) hok W hl0 (by omega)
                have htlo : -9223372036854775808 ≤ (k : Int) + 1 + (at5 c k).off ∧ (k : Int) + 1 + (at5 c k).off < 9223372036854775808 := by
                  obtain ⟨_, _, _, _, _, _, o0, o1, _⟩ := hok
                  omega
                clear b3 f0 HB2 HQ2
                generalize hto : (k : Int) + 1 + (at5 c k).off = to_ at *
                generalize (at5 c k).t = T at *
                clear hto
                obtain ⟨cls, o2, sz, wd, rg⟩ := T
                unfold whV
                dsimp only at *
                go_wp2_with fail
                refine (HT.out _).mono ?_
                rintro e w4 ⟨rfl, b4⟩
                have bA := (Below.refl w3.heap.size w3).alloc (Nat.le_refl _) (.cells #[.int .i64 cls, .int .i64 o2, .int .i64 sz, .bool wd, .bool rg] 78)
                have k2 : w4.cell? ⟨w3.heap.size, 0, none⟩ = some (.int .i64 cls) := cn b4 (by simp)
                replace b4 := bA.trans (b4.mono (by simp))
                have HB4 := hid (below_next HB3.out b4)
                have HQ4 := hid (HQ3.out.kept b4)
                replace k0 := cn b4 k0
                replace k1 := cn b4 k1
                have hcb4 : ∀ j, j < c.length → w4.cell? ⟨g, j, none⟩ = some (.bool (stB c j)) := by
                  obtain ⟨g', e', hg', hc'⟩ := HQ4.out.resolve_left (by omega)
                  injection e' with e'
                  injection e' with e'
                  subst e'
                  exact hc'
                have HC4 := hid hcb4
                have HJK := hid hjk
                obtain ⟨htlo, hthi⟩ := htlo
                clear b4 bA HB3 HQ3 i0 i1 i2 i3 i4 hcb4 hjk HT hok HCB
                by_cases c6 : cls = 6
                · have d6 : (cls == 6) = true := by simpa using c6
                  have d7 : (cls == 7) = false := by subst c6; rfl
                  clear c6
                  by_cases h1 : to_ < 0
                  · have e1 : decide (to_ < 0) = true := decide_eq_true h1
                    have e1n : decide (0 ≤ to_) = false := decide_eq_false (by omega)
                    have hj := hid (HLEAD.out (by rw [HJK.out, d6]; simp; omega))
                    clear HJK HLEAD HSTEP
                    go_wp2
                    rw [HCL.out, hj.out]
                    go_ret2
                    exact ⟨rfl, below_next HBA.out HB4.out⟩
                  have e1 : decide (to_ < 0) = false := decide_eq_false h1
                  by_cases h2 : (c.length : Int) ≤ to_
                  · have e2 : decide ((c.length : Int) ≤ to_) = true := decide_eq_true h2
                    have hj := hid (HLEAD.out (by rw [HJK.out, d6]; simp; omega))
                    clear HJK HLEAD HSTEP
                    go_wp2
                    rw [HCL.out, hj.out]
                    go_ret2
                    exact ⟨rfl, below_next HBA.out HB4.out⟩
                  have e2 : decide ((c.length : Int) ≤ to_) = false := decide_eq_false h2
                  have f1 := HC4.out to_.toNat (by omega)
                  have h3 : 0 ≤ to_ := by omega
                  have h4 : to_ < (c.length : Int) := by omega
                  cases hst : stB c to_.toNat
                  · rw [hst] at f1
                    have hj := hid (HLEAD.out (by rw [HJK.out, d6, hst]; simp))
                    clear HJK HLEAD HSTEP
                    go_wp2
                    rw [HCL.out, hj.out]
                    go_ret2
                    exact ⟨rfl, below_next HBA.out HB4.out⟩
                  · rw [hst] at f1
                    have hj := HSTEP.out (by rw [HJK.out, d6, hst, decide_eq_true h3, decide_eq_true h4]; simp)
                    clear HJK HLEAD HSTEP
                    go_wp2
                    go_roundw
                    case rel => exact ⟨k + 1, by simp, by omega, hj, HQ4, HB4⟩
                    case measure => simp [intOf]; omega
                by_cases c7 : cls = 7
                · have d6 : (cls == 6) = false := by simpa using c6
                  have d7 : (cls == 7) = true := by simpa using c7
                  clear c6 c7
                  by_cases h1 : to_ < 0
                  · have e1 : decide (to_ < 0) = true := decide_eq_true h1
                    have e1n : decide (0 ≤ to_) = false := decide_eq_false (by omega)
                    have hj := hid (HLEAD.out (by rw [HJK.out, d6, d7]; simp; omega))
                    clear HJK HLEAD HSTEP
                    go_wp2
                    rw [HCL.out, hj.out]
                    go_ret2
                    exact ⟨rfl, below_next HBA.out HB4.out⟩
                  have e1 : decide (to_ < 0) = false := decide_eq_false h1
                  by_cases h2 : (c.length : Int) ≤ to_
                  · have e2 : decide ((c.length : Int) ≤ to_) = true := decide_eq_true h2
                    have hj := hid (HLEAD.out (by rw [HJK.out, d6, d7]; simp; omega))
                    clear HJK HLEAD HSTEP
                    go_wp2
                    rw [HCL.out, hj.out]
                    go_ret2
                    exact ⟨rfl, below_next HBA.out HB4.out⟩
                  have e2 : decide ((c.length : Int) ≤ to_) = false := decide_eq_false h2
                  have f1 := HC4.out to_.toNat (by omega)
                  have h3 : 0 ≤ to_ := by omega
                  have h4 : to_ < (c.length : Int) := by omega
                  cases hst : stB c to_.toNat
                  · rw [hst] at f1
                    have hj := hid (HLEAD.out (by rw [HJK.out, d6, d7, hst]; simp))
                    clear HJK HLEAD HSTEP
                    go_wp2
                    rw [HCL.out, hj.out]
                    go_ret2
                    exact ⟨rfl, below_next HBA.out HB4.out⟩
                  · rw [hst] at f1
                    have hj := HSTEP.out (by rw [HJK.out, d6, d7, hst, decide_eq_true h3, decide_eq_true h4]; simp)
                    clear HJK HLEAD HSTEP
                    go_wp2
                    go_roundw
                    case rel => exact ⟨k + 1, by simp, by omega, hj, HQ4, HB4⟩
                    case measure => simp [intOf]; omega
                have d6 : (cls == 6) = false := by simpa using c6
                have d7 : (cls == 7) = false := by simpa using c7
                clear c6 c7

                have hj := HSTEP.out (by rw [HJK.out, d6, d7]; simp)
                clear HJK HLEAD HSTEP
                go_wp2
                go_roundw
                case rel => exact ⟨k + 1, by simp, by omega, hj, HQ4, HB4⟩
                case measure => simp [intOf]; omega
            · obtain rfl : k = c.length := by omega
              have HLE := hid (lead_end HN.out)
              have HKL := hid (at5_ok HSL.out.2.1 (lastB c))
              have hll := HLL.out
              have hl0 : 0 ≤ (lastB c : Int) := by omega
              have hl1 : (lastB c : Int) < (c.length : Int) := by omega
              obtain ⟨i0, i1, i2, i3, i4⟩ := hins (lastB c) hll
              clear hins hcb HN
              generalize lastB c = lb at *
              go_wp2_with fail
              refine (rof_I (at5 c lb) HKL.out wr).mono ?_
              rintro e w3 ⟨rfl, b3⟩
              have HB3 := hid (below_next HB2.out b3)
              clear b3 i0 i1 i2 i3 i4 k0 k1
              generalize (at5 c lb).t = T at *
              obtain ⟨cls, o2, sz, wd, rg⟩ := T
              unfold whV
              unfold endB at HLE
              dsimp only at *
              by_cases c7 : cls = 7
              · have d7 : (cls != 7) = false := by simpa using c7
                have HF := hid (show leadI c = (0, 0) by rw [HLE.out, c7]; rfl)
                clear HLE c7
                go_wp2
                rw [HCL.out, HF.out]
                go_ret2
                exact ⟨rfl, (below_next HBA.out HB3.out).alloc (below_next HBA.out HB3.out).size _⟩
              have d7 : (cls != 7) = true := by simpa using c7
              by_cases c9 : cls = 9
              · have d9 : (cls != 9) = false := by simpa using c9
                have HF := hid (show leadI c = (0, 0) by rw [HLE.out, c9]; rfl)
                clear HLE c7 c9
                go_wp2
                rw [HCL.out, HF.out]
                go_ret2
                exact ⟨rfl, (below_next HBA.out HB3.out).alloc (below_next HBA.out HB3.out).size _⟩
              have d9 : (cls != 9) = true := by simpa using c9
              have HF := hid (show leadI c = ((lb : Int), 25) by rw [HLE.out, if_neg (by simp [c7, c9])])
              clear HLE c7 c9
              go_wp2
              rw [HCL.out, HF.out]
              go_ret2
              exact ⟨rfl, (below_next HBA.out HB3.out).alloc (below_next HBA.out HB3.out).size _⟩
end Go.Proofs.YtdnkikgfiganaaaDoor
