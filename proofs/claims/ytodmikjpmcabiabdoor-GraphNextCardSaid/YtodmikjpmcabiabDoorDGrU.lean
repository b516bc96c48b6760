/-
  Contract of the document's Next (layer 5): to what a place leads.
-/
import Derived.Test.YtodmikjpmcabiabDoorDGrT
import Derived.Test.YtodmikjpmcabiabDoorDGrM
namespace Go.Proofs.YtodmikjpmcabiabDoor
set_option linter.unusedSimpArgs false
set_option linter.unusedVariables false
set_option maxRecDepth 100000
open Go.ChangeShapes Go.WideShapes Go.ChangeAt Go.RowKit

def farB (c : List I5) (a b : Nat) : Bool := (b : Int) == (a : Int) + 1 || ((b : Int) == (a : Int) + 2 || (b : Int) == (a : Int) + 1 + (at5 c a).off)
def rnU (c : List I5) (a m : Nat) : List Int := ((List.range m).filter fun b => farB c a b && leadB c a b).map (fun (b : Nat) => (b : Int))
theorem rnU_no {c : List I5} {a m : Nat} (h : (farB c a m && leadB c a m) = false) : rnU c a (m + 1) = rnU c a m := by
  unfold rnU
  rw [List.range_succ, List.filter_append]
  simp [h]
theorem rnU_yes {c : List I5} {a m : Nat} (h : (farB c a m && leadB c a m) = true) : rnU c a (m + 1) = rnU c a m ++ [(m : Int)] := by
  unfold rnU
  rw [List.range_succ, List.filter_append]
  simp [h]
theorem rnU_len (c : List I5) (a m : Nat) : (rnU c a m).length ≤ m := by
  unfold rnU
  rw [List.length_map]
  exact Nat.le_trans (List.length_filter_le _ _) (by simp)
def rnxt (c : List I5) (a : Int) : List Int := if 0 ≤ a ∧ a < c.length then rnU c a.toNat c.length else []
set_option maxRecDepth 100000 in
set_option maxHeartbeats 4000000 in
theorem rNext_I (p : Option Addr) (cap : Nat) (c : List I5) (a : Int) (w : World) (hsl : CdSl w.heap.size w p c.length c) : Calls Tryd.prog 12 #[.slice p c.length cap, .int .i64 a] w (CpPost w (rnxt c a)) := by
  have HS := hid hsl
  have hlen := hsl.2.2.1
  clear hsl
  by_cases a0 : a < 0
  · have d0 : decide (a < 0) = true := decide_eq_true a0
    have HN := hid (show rnxt c a = [] by unfold rnxt; rw [if_neg (by omega)])
    clear a0
    go_enter Tryd.func12, Tryd.ntmps12
    go_wp2
    go_ret
    exact ⟨_, rfl, by rw [HN.out]; exact World.ownsRow_nil _ _ _ _, Below.refl _ _⟩
  have d0 : decide (a < 0) = false := decide_eq_false a0
  by_cases a1 : (c.length : Int) ≤ a
  · have d1 : decide ((c.length : Int) ≤ a) = true := decide_eq_true a1
    have HN := hid (show rnxt c a = [] by unfold rnxt; rw [if_neg (by omega)])
    clear a0 a1
    go_enter Tryd.func12, Tryd.ntmps12
    go_wp2
    go_ret
    exact ⟨_, rfl, by rw [HN.out]; exact World.ownsRow_nil _ _ _ _, Below.refl _ _⟩
  have d1 : decide ((c.length : Int) ≤ a) = false := decide_eq_false a1
  obtain ⟨k, rfl⟩ := Int.eq_ofNat_of_zero_le (show 0 ≤ a by omega)
  have hk : k < c.length := by omega
  have d1' : decide (c.length ≤ k) = false := decide_eq_false (by omega)
  have HN := hid (show rnxt c (k : Int) = rnU c k c.length by unfold rnxt; rw [if_pos ⟨by omega, by omega⟩, Int.toNat_natCast])
  obtain ⟨bb, off, hp, hbl, hins⟩ := HS.out.2.2.2.resolve_left (by omega)
  subst hp
  obtain ⟨i0, i1, i2, i3, i4⟩ := hins k hk
  have hok := at5_ok HS.out.2.1 k
  obtain ⟨_, _, _, _, _, _, o0, o1, _, _⟩ := hok
  have hl0 : 0 ≤ (k : Int) := by omega
  have hl1 : (k : Int) < (c.length : Int) := by omega
  clear hins a0 a1
  go_enter Tryd.func12, Tryd.ntmps12
  go_wp2
  clear i0 i1 i2 i3 i4
  have HF : Hid (∀ b : Nat, farB c k b = ((b : Int) == (k : Int) + 1 || ((b : Int) == (k : Int) + 2 || (b : Int) == (k : Int) + 1 + (at5 c k).off))) := hid fun b => rfl
  generalize (k : Int) + 1 + (at5 c k).off = to_ at *
  clear o0 o1
  obtain ⟨ii, hii, hp⟩ := Option.map_eq_some_iff.1 intInfoQ
  injection hp with hi1 hp
  injection hp with hi2 hi3
  have HII := hid (And.intro hii (And.intro hi1 (And.intro hi2 hi3)))
  clear hii hi1 hi2 hi3
  go_loopw [5, 7] (fun v i wr => ∃ m : Nat, i = .int .i64 m ∧ m ≤ c.length ∧ Hid (wr.ownsRow w.heap.size 3 1 v (rnU c k m).length ((rnU c k m).map (Value.int .i64))) ∧ Hid (Below w.heap.size w wr)) (fun _ i _ => c.length - (intOf i).toNat)
  case atStart => exact ⟨0, rfl, by omega, hid (World.ownsRow_nil _ _ _ _), hid (Below.refl _ _)⟩
  case round =>
    obtain ⟨m, rfl, hm, HO, HB⟩ := hrel
    by_cases hlt : m < c.length
    · have hm0 : 0 ≤ (m : Int) := by omega
      have hm1 : (m : Int) < (c.length : Int) := by omega
      have HLE := hid (rnU_len c k m)
      have HLD := hid fun W (h : Below w.heap.size w W) => rleads_I (some ⟨bb, off, none⟩) cap c k m hk hlt W ((HS.out.kept h (Nat.le_refl _)).wide h.size)
      by_cases hfb : farB c k m = true
      · have hcs : ((m : Int) == (k : Int) + 1) = true ∨ (((m : Int) == (k : Int) + 1) = false ∧ ((m : Int) == (k : Int) + 2) = true) ∨ (((m : Int) == (k : Int) + 1) = false ∧ ((m : Int) == (k : Int) + 2) = false ∧ ((m : Int) == to_) = true) := by
          have h := HF.out m
          rw [hfb] at h
          cases e1 : ((m : Int) == (k : Int) + 1)
          · cases e2 : ((m : Int) == (k : Int) + 2)
            · cases e3 : ((m : Int) == to_)
              · rw [e1, e2, e3] at h; cases h
              · exact .inr (.inr ⟨rfl, rfl, rfl⟩)
            · exact .inr (.inl ⟨rfl, rfl⟩)
          · exact .inl rfl
        have HFB := hid hfb
        clear hfb
        rcases hcs with e1 | ⟨e1, e2⟩ | ⟨e1, e2, e3⟩
        all_goals
          go_wp2_with fail
          refine (HLD.out wr HB.out).mono ?_
          rintro e w2 ⟨rfl, b2⟩
          have HB2 := hid (below_next HB.out b2)
          have HO2 := hid (own_nx HO.out b2)
          clear b2
          cases hl : leadB c k m
          · have HNO := hid (rnU_no (c := c) (a := k) (m := m) (by rw [HFB.out, hl]; rfl))
            clear hl
            go_wp2
            go_roundw
            case rel => first | exact ⟨m + 1, by simp, by omega, by rw [HNO.out]; exact HO2, HB2⟩ | ((repeat apply Exists.intro); exact ⟨⟨m + 1, by simp, by omega, by rw [HNO.out]; exact HO2, HB2⟩, rfl⟩)
            case measure => simp [intOf]; omega
          · have HYE := hid (rnU_yes (c := c) (a := k) (m := m) (by rw [HFB.out, hl]; rfl))
            have hle := HLE.out
            have hw2 := HB2.out.size
            clear hl
            go_wp2_with (at_builtin; refine stop_app ?_)
            unfold Stop
            refine list_app _ rfl (.tmp 52) (.tmp 54) _ (by rfl) w.heap.size 3 ii _ 1 8 Tryd.underlying25 HII.out.1 HII.out.2.1 HII.out.2.2.1 HII.out.2.2.2 rfl (by decide) u5 (rnU c k m).length ((rnU c k m).map (Value.int .i64)) (by exact rfl) (HO2.out.alloc _) (w2.heap.size + 1) (some ⟨w2.heap.size, 0, none⟩) 1 1 [.int .i64 (m : Int)] (by exact rfl) rfl (src_new1 w2 _ _) (by simp [Value.oneCell']) (by simp only [maxLen]; omega) (by omega) (by simp; omega) ?_
            intro v5 w5 own5 grow5 at5
            have HO5 := hid (show w5.ownsRow w.heap.size 3 1 v5 (rnU c k (m + 1)).length ((rnU c k (m + 1)).map (Value.int .i64)) by
              rw [HYE.out, List.map_append, List.length_append]
              exact own5)
            have HB5 := hid ((HB2.out.alloc hw2 (.cells #[.int .i64 (m : Int)] 3)).grown grow5 (by simp; omega) (fun k e => (HO2.out.lt k e).1))
            clear own5 grow5 at5
            go_wp2
            go_roundw
            case rel => first | exact ⟨m + 1, by simp, by omega, HO5, HB5⟩ | ((repeat apply Exists.intro); exact ⟨⟨m + 1, by simp, by omega, HO5, HB5⟩, rfl⟩)
            case measure => simp [intOf]; omega
      · have hfb' : farB c k m = false := by simpa using hfb
        have hc := HF.out m
        rw [hfb'] at hc
        have e1 : ((m : Int) == (k : Int) + 1) = false := by
          cases e : ((m : Int) == (k : Int) + 1)
          · rfl
          · rw [e] at hc; cases hc
        have e2 : ((m : Int) == (k : Int) + 2) = false := by
          cases e : ((m : Int) == (k : Int) + 2)
          · rfl
          · rw [e1, e] at hc; cases hc
        have e3 : ((m : Int) == to_) = false := by
          cases e : ((m : Int) == to_)
          · rfl
          · rw [e1, e2, e] at hc; cases hc
        have HNO := hid (rnU_no (c := c) (a := k) (m := m) (by rw [hfb']; rfl))
        clear hc hfb hfb'
        go_wp2
        go_roundw
        case rel => first | exact ⟨m + 1, by simp, by omega, by rw [HNO.out]; exact HO, HB⟩ | ((repeat apply Exists.intro); exact ⟨⟨m + 1, by simp, by omega, by rw [HNO.out]; exact HO, HB⟩, rfl⟩)
        case measure => simp [intOf]; omega
    · obtain rfl : m = c.length := by omega
      go_wp2
      go_ret
      exact ⟨_, rfl, by rw [HN.out]; exact HO.out, HB.out⟩
end Go.Proofs.YtodmikjpmcabiabDoor
