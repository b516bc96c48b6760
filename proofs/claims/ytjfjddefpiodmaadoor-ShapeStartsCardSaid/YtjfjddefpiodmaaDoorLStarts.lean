/-
  The walk of law ShapeStarts: where instructions begin, where jumps go, which helpers there are, is the document's; the list is new. The table of sizes is as start-up lays it (the card ties it); no other condition.
-/
import Derived.Test.YtjfjddefpiodmaaDoorShW
import Derived.Test.YtjfjddefpiodmaaDoorShR
import Derived.Deep.RegionHeld3
import Derived.BigQuiet
namespace Go.Proofs.YtjfjddefpiodmaaDoor
set_option linter.unusedSimpArgs false
set_option linter.unusedVariables false
open Go.ChangeShapes Go.WideShapes Go.ChangeAt Go.RowKit

theorem target_W (at_ : Int) (x : I5) (hx : x.ok) (w : World) (h0 : -4611686018427387904 ≤ at_) (h1 : at_ < 4611686018427387904) : Calls Tryd.prog 19 #[.int .i64 at_, x.V] w fun e w' => e = .returned (.int .i64 (at_ + 1 + x.off)) ∧ Below w.heap.size w w' := by
  obtain ⟨_, _, _, _, _, _, o0, o1, _⟩ := hx
  obtain ⟨op, dst, src, off, imm⟩ := x
  dsimp only at o0 o1 ⊢
  unfold I5.V
  dsimp only
  go_enter Tryd.func19, Tryd.ntmps19
  go_wp2
  go_ret
  exact ⟨rfl, (Below.refl _ _).alloc (Nat.le_refl _) _⟩
theorem rtarget_W (at_ : Int) (x : I5) (hx : x.ok) (w : World) (h0 : -4611686018427387904 ≤ at_) (h1 : at_ < 4611686018427387904) : Calls Tryd.prog 20 #[.int .i64 at_, x.V] w fun e w' => e = .returned (.int .i64 (at_ + 1 + x.off)) ∧ Below w.heap.size w w' := by
  obtain ⟨_, _, _, _, _, _, o0, o1, _⟩ := hx
  obtain ⟨op, dst, src, off, imm⟩ := x
  dsimp only at o0 o1 ⊢
  unfold I5.V
  dsimp only
  go_enter Tryd.func20, Tryd.ntmps20
  go_wp2
  go_ret
  exact ⟨rfl, (Below.refl _ _).alloc (Nat.le_refl _) _⟩

/-- A slice of bools of the call's own reads so. -/
def BlSl (w : World) (p : Option Addr) (n : Nat) (f : Nat → Bool) : Prop := n = 0 ∨ ∃ g, p = some ⟨g, 0, none⟩ ∧ g < w.heap.size ∧ ∀ j, j < n → w.cell? ⟨g, j, none⟩ = some (.bool (f j))
theorem own_bools {w0 w : World} {v : Value} {c : List I5} {n : Nat} (h : OwnB w0 w v (stUp c n)) : ∃ q cap, v = .slice q n cap ∧ BlSl w q n (stB c) ∧ (∀ g o s, q = some ⟨g, o, s⟩ → w0.heap.size ≤ g) := by
  obtain ⟨h, hb⟩ := h
  rcases h.2 with ⟨rfl, h0⟩ | ⟨g, cap, cur, rfl, hg, hh, _⟩
  · rw [stUp_len] at h0
    subst h0
    exact ⟨none, 0, rfl, .inl rfl, (fun _ _ _ e => by cases e)⟩
  · rw [stUp_len]
    refine ⟨_, cap, rfl, .inr ⟨g, rfl, (h.lt g rfl).2, fun j hj => ?_⟩, (fun _ _ _ e => by cases e; exact hg)⟩
    have hc := h.cells (g := g) rfl j (.bool (stB c j)) (by
      unfold stUp
      rw [List.map_map, List.getElem?_map, List.getElem?_range hj]; rfl)
    have e : ((⟨g, 0, none⟩ : Addr).add j) = ⟨g, 0 + j, none⟩ := by simp only [Addr.add]; split <;> simp_all
    rw [e, Nat.zero_add] at hc
    exact hc
theorem BlSl.kept {w w' : World} {p : Option Addr} {n : Nat} {f : Nat → Bool} (h : BlSl w p n f) (hb : Below w.heap.size w w') : BlSl w' p n f := by
  refine h.imp id ?_
  rintro ⟨g, e, hl, hc⟩
  exact ⟨g, e, Nat.lt_of_lt_of_le hl hb.size, fun j hj => (hb.cell (p := ⟨g, j, none⟩) hl).trans (hc j hj)⟩

theorem below_dn {B : Nat} {a w : World} (h : Below B a w) (n : Nat) : Below B a (w.drewN n) := ⟨h.os, h.tape, h.output, h.size, h.block⟩
theorem shr_one (a : Int) (h0 : -9223372036854775808 ≤ a) (h1 : a ≤ 9223372036854775807) (W : World) : (binOp .shr 3 (.int .i64 a) (.int .u64 1)).run Tryd.prog W = .ok (.int .i64 (a / 2)) W := by
  simp [go_sem]
/-- What lies behind the second list. -/
def CsI (w : World) (g : Nat) (q : Option Addr) (c : List I5) (W : World) : Prop := (∀ j, j < c.length → W.cell? ⟨g, j, none⟩ = some (.bool (stB c j))) ∧ BlSl W q c.length (stB c) ∧ Bx w W
theorem CsI.kept {w : World} {g : Nat} {q : Option Addr} {c : List I5} {X Y : World} (h : CsI w g q c X) (hb : Below X.heap.size X Y) : CsI w g q c Y := ⟨fun j hj => cn hb (h.1 j hj), h.2.1.kept hb, Bx.next hb h.2.2⟩

set_option maxRecDepth 100000 in
set_option maxHeartbeats 4000000 in
theorem shapeStarts_walk (p : Option Addr) (cap n : Nat) (c : List I5) (at_ hn : Int) (w : World) (hz : SzOk w) (hsl : CdSl w.heap.size w p n c) (hcap : n ≤ cap) (a0 : -9223372036854775808 ≤ at_) (a1 : at_ ≤ 9223372036854775807) :
    Calls Tryd.prog 4 #[.slice p n cap, .int .i64 at_, .int .i32 hn] w fun e w' => e = .returned (.bool true) ∧ Below w.heap.size w w' := by
  obtain rfl := hsl.1
  have HZ := hid hz
  have HSL := hid hsl
  have HS := hid fun W (hb : Below w.heap.size w W) => starts_any p cap c W (hz.below hb) ((hsl.kept hb (Nat.le_refl _)).wide hb.size)
  have HR := hid fun W (hb : Below w.heap.size w W) => rstarts_any p cap c W ((hsl.kept hb (Nat.le_refl _)).wide hb.size)
  have HA := hid fun W (hb : Below w.heap.size w W) => awake_any W (hz.below hb)
  have hlen := hsl.2.2.1
  clear hz hsl
  go_enter Tryd.func4, Tryd.ntmps4
  go_wp2_with fail
  refine (HS.out w (Below.refl _ _)).mono ?_
  rintro e w1 ⟨g, rfl, hg0, hg1, hcs, b1⟩
  go_wp2_with fail
  refine (HR.out w1 b1).mono ?_
  rintro e w2 ⟨v, rfl, own⟩
  obtain ⟨q, cp, rfl, hq, hqg⟩ := own_bools own
  have HB2 := hid (below_next b1 own.2)
  have hA2 : ∀ j, j < c.length → w2.cell? ⟨g, j, none⟩ = some (.bool (stB c j)) ∧ w2.frozen? ⟨g, j, none⟩ = false := fun j hj => ⟨cn own.2 (hcs j hj).1, (own.2.frz (p := ⟨g, j, none⟩) hg1).trans (hcs j hj).2⟩
  have HA2 := hid hA2
  have HQ := hid hq
  have hgq : ∀ g' o s, q = some ⟨g', o, s⟩ → g' ≠ g := fun g' o s e => by have := hqg g' o s e; omega
  have HGQ := hid hgq
  clear hcs hA2 own hq hqg hgq b1 HR
  go_wp2_with fail
  refine (helper_is hn w2).mono ?_
  rintro e w' ⟨rfl, rfl⟩
  go_wp2_with fail
  refine (rhelper_is hn w2).mono ?_
  rintro e w' ⟨rfl, rfl⟩
  generalize helpB hn = hb
  cases hb
  all_goals
    go_wp2
    go_loopw [31] (fun i wr => ∃ k : Nat, i = .int .i64 k ∧ k ≤ c.length ∧ Hid (∀ j, j < c.length → wr.cell? ⟨g, j, none⟩ = some (.bool (if j < k then !stB c j else stB c j)) ∧ wr.frozen? ⟨g, j, none⟩ = false) ∧ Hid (BlSl wr q c.length (stB c)) ∧ Hid (Below w.heap.size w wr)) (fun i _ => c.length - (intOf i).toNat)
    case atStart => exact ⟨0, rfl, by omega, hid (fun j hj => by rw [if_neg (by omega)]; exact HA2.out j hj), HQ, HB2⟩
    case round =>
      obtain ⟨k, rfl, hk, HG, HQ1, HB⟩ := hrel
      clear HA2 HQ HB2
      by_cases hlt : k < c.length
      · obtain ⟨ca, fa⟩ := HG.out k hlt
        rw [if_neg (by omega)] at ca
        obtain ⟨g', rfl, hgl, hcb⟩ := HQ1.out.resolve_left (by omega)
        have cb := hcb k hlt
        have hne : g' ≠ g := HGQ.out g' 0 none rfl
        have HSTEP : Hid (∀ m s, stB c k = s → ∀ j, j < c.length → (((wr.drewN m).setCell ⟨g, k, none⟩ (.bool (!s))).cell? ⟨g, j, none⟩ = some (.bool (if j < k + 1 then !stB c j else stB c j)) ∧ ((wr.drewN m).setCell ⟨g, k, none⟩ (.bool (!s))).frozen? ⟨g, j, none⟩ = false)) := hid (fun m s hs j hj => by
          obtain ⟨h1, h2⟩ := HG.out j hj
          refine ⟨?_, by rw [World.frozen?_setCell]; exact h2⟩
          by_cases e : j = k
          · subst e
            rw [World.cell?_setCell_same' _ _ _ (by rw [show (wr.drewN m).cell? ⟨g, j, none⟩ = _ from h1]; rfl), if_pos (by omega), hs]
          · rw [set_oth (by intro h; apply e; injection h with _ h2; exact h2.symm), show (wr.drewN m).cell? ⟨g, j, none⟩ = _ from h1]
            by_cases e2 : j < k
            · rw [if_pos e2, if_pos (by omega)]
            · rw [if_neg e2, if_neg (by omega)])
        have HQ2 : Hid (∀ m u, BlSl ((wr.drewN m).setCell ⟨g, k, none⟩ u) (some ⟨g', 0, none⟩) c.length (stB c)) := hid (fun m u => .inr ⟨g', rfl, by simp [World.setCell]; exact hgl, fun j hj => by rw [set_oth (by intro h; injection h with h1; exact hne h1.symm)]; exact hcb j hj⟩)
        have HBS : Hid (∀ m u, Below w.heap.size w ((wr.drewN m).setCell ⟨g, k, none⟩ u)) := hid (fun m u => (below_dn HB.out m).setCell (p := ⟨g, k, none⟩) hg0 u)
        have hl0 : 0 ≤ (k : Int) := by omega
        have hl1 : (k : Int) < (c.length : Int) := by omega
        clear hcb HG HQ1 HB
        cases hs : stB c k
        · rw [hs] at ca cb
          go_wp2
          go_quiet (fail)
          go_wp2
          go_roundw
          case rel => exact ⟨k + 1, by go_num, by omega, hid (HSTEP.out _ false hs), hid (HQ2.out _ _), hid (HBS.out _ _)⟩
          case measure => simp [intOf]; omega
        · rw [hs] at ca cb
          go_wp2
          go_quiet (fail)
          go_wp2
          go_roundw
          case rel => exact ⟨k + 1, by go_num, by omega, hid (HSTEP.out _ true hs), hid (HQ2.out _ _), hid (HBS.out _ _)⟩
          case measure => simp [intOf]; omega
      · obtain rfl : k = c.length := by omega
        go_wp2_with fail
        refine (HS.out wr HB.out).mono ?_
        rintro e w3 ⟨g3, rfl, h30, h31, hcs3, b3⟩
        have HC3 : Hid (CsI w g3 q c w3) := hid ⟨fun j hj => (hcs3 j hj).1, HQ1.out.kept b3, HZ.out, below_next HB.out b3⟩
        clear hcs3 b3 HQ1 HB HG HS hk hlt
        go_wp2
        go_loopw [56] (fun i wr => ∃ k : Nat, i = .int .i64 k ∧ k ≤ c.length ∧ Hid (CsI w g3 q c wr)) (fun i _ => c.length - (intOf i).toNat)
        case atStart => exact ⟨0, rfl, by omega, HC3⟩
        case round =>
          obtain ⟨k, rfl, hk, HC⟩ := hrel
          clear HC3
          by_cases hlt : k < c.length
          · obtain ⟨b, off, hp, hb, hins⟩ := (HSL.out.kept HC.out.2.2.2 (Nat.le_refl _)).2.2.2.resolve_left (by omega)
            subst hp
            obtain ⟨i0, i1, i2, i3, i4⟩ := hins k hlt
            have hok := at5_ok HSL.out.2.1 k
            have HT := hid fun W => target_W (at_ / 2) (at5 c k) hok W (by omega) (by omega)
            have HU := hid fun W => rtarget_W (at_ / 2) (at5 c k) hok W (by omega) (by omega)
            have hsh := shr_one at_ a0 a1
            have e0 := HC.out.1 k hlt
            obtain ⟨g', rfl, hgl, hcb⟩ := HC.out.2.1.resolve_left (by omega)
            have f0 := hcb k hlt
            have hl0 : 0 ≤ (k : Int) := by omega
            have hl1 : (k : Int) < (c.length : Int) := by omega
            clear hins hcb hok
            cases hs : stB c k
            · rw [hs] at e0 f0
              go_wp2_with fail
              have hbA : Below wr.heap.size wr (wr.alloc (.cells #[.int .u8 (at5 c k).op, .int .u8 (at5 c k).dst, .int .u8 (at5 c k).src, .int .i16 (at5 c k).off, .int .i32 (at5 c k).imm] 40)) := (Below.refl wr.heap.size wr).alloc (Nat.le_refl _) _
              have j0 : (wr.alloc (.cells #[.int .u8 (at5 c k).op, .int .u8 (at5 c k).dst, .int .u8 (at5 c k).src, .int .i16 (at5 c k).off, .int .i32 (at5 c k).imm] 40)).cell? ⟨wr.heap.size, 0, none⟩ = some (.int .u8 (at5 c k).op) := by simp
              have j1 : (wr.alloc (.cells #[.int .u8 (at5 c k).op, .int .u8 (at5 c k).dst, .int .u8 (at5 c k).src, .int .i16 (at5 c k).off, .int .i32 (at5 c k).imm] 40)).cell? ⟨wr.heap.size, 1, none⟩ = some (.int .u8 (at5 c k).dst) := by simp
              have j2 : (wr.alloc (.cells #[.int .u8 (at5 c k).op, .int .u8 (at5 c k).dst, .int .u8 (at5 c k).src, .int .i16 (at5 c k).off, .int .i32 (at5 c k).imm] 40)).cell? ⟨wr.heap.size, 2, none⟩ = some (.int .u8 (at5 c k).src) := by simp
              have j3 : (wr.alloc (.cells #[.int .u8 (at5 c k).op, .int .u8 (at5 c k).dst, .int .u8 (at5 c k).src, .int .i16 (at5 c k).off, .int .i32 (at5 c k).imm] 40)).cell? ⟨wr.heap.size, 3, none⟩ = some (.int .i16 (at5 c k).off) := by simp
              have j4 : (wr.alloc (.cells #[.int .u8 (at5 c k).op, .int .u8 (at5 c k).dst, .int .u8 (at5 c k).src, .int .i16 (at5 c k).off, .int .i32 (at5 c k).imm] 40)).cell? ⟨wr.heap.size, 4, none⟩ = some (.int .i32 (at5 c k).imm) := by simp
              replace e0 := cn hbA e0
              replace f0 := cn hbA f0
              have X := HC.out.kept hbA
              clear hbA i0 i1 i2 i3 i4 HC hgl
              generalize wr.alloc (.cells #[.int .u8 (at5 c k).op, .int .u8 (at5 c k).dst, .int .u8 (at5 c k).src, .int .i16 (at5 c k).off, .int .i32 (at5 c k).imm] 40) = wa at *
              generalize wr.heap.size = gx at *
              unfold I5.V at HT HU
              generalize (at5 c k).op = op at *
              generalize (at5 c k).dst = dst at *
              generalize (at5 c k).src = src at *
              generalize hof : (at5 c k).off = off_ at *
              generalize (at5 c k).imm = imm at *
              generalize hv2 : at_ / 2 + 1 + off_ = v2 at HT HU
              clear hv2 hof
              go_region_held3 (fun w' => w'.cell? ⟨g3, k, none⟩ = some (.bool false) ∧ w'.cell? ⟨g', k, none⟩ = some (.bool false) ∧ w'.cell? ⟨gx, 0, none⟩ = some (.int .u8 op) ∧ w'.cell? ⟨gx, 1, none⟩ = some (.int .u8 dst) ∧ w'.cell? ⟨gx, 2, none⟩ = some (.int .u8 src) ∧ w'.cell? ⟨gx, 3, none⟩ = some (.int .i16 off_) ∧ w'.cell? ⟨gx, 4, none⟩ = some (.int .i32 imm) ∧ CsI w g3 (some ⟨g', 0, none⟩) c w')
                (first | (go_split_ands; exact ⟨cn b9 (by assumption), cn b9 (by assumption), cn b9 (by assumption), cn b9 (by assumption), cn b9 (by assumption), cn b9 (by assumption), cn b9 (by assumption), CsI.kept (by assumption) b9⟩) | exact ⟨cn (below_dr wa) e0, cn (below_dr wa) f0, cn (below_dr wa) j0, cn (below_dr wa) j1, cn (below_dr wa) j2, cn (below_dr wa) j3, cn (below_dr wa) j4, X.kept (below_dr wa)⟩)
                (first | (go_at_call 19; refine (HT.out _).mono ?_; rintro e w9 ⟨rfl, b9⟩) | (go_at_call 20; refine (HU.out _).mono ?_; rintro e w9 ⟨rfl, b9⟩))
              go_split_ands
              go_wp2
              go_roundw
              case rel => exact ⟨k + 1, by go_num, by omega, hid (by assumption)⟩
              case measure => simp [intOf]; omega
            · rw [hs] at e0 f0
              go_wp2_with fail
              have hbA : Below wr.heap.size wr (wr.alloc (.cells #[.int .u8 (at5 c k).op, .int .u8 (at5 c k).dst, .int .u8 (at5 c k).src, .int .i16 (at5 c k).off, .int .i32 (at5 c k).imm] 40)) := (Below.refl wr.heap.size wr).alloc (Nat.le_refl _) _
              have j0 : (wr.alloc (.cells #[.int .u8 (at5 c k).op, .int .u8 (at5 c k).dst, .int .u8 (at5 c k).src, .int .i16 (at5 c k).off, .int .i32 (at5 c k).imm] 40)).cell? ⟨wr.heap.size, 0, none⟩ = some (.int .u8 (at5 c k).op) := by simp
              have j1 : (wr.alloc (.cells #[.int .u8 (at5 c k).op, .int .u8 (at5 c k).dst, .int .u8 (at5 c k).src, .int .i16 (at5 c k).off, .int .i32 (at5 c k).imm] 40)).cell? ⟨wr.heap.size, 1, none⟩ = some (.int .u8 (at5 c k).dst) := by simp
              have j2 : (wr.alloc (.cells #[.int .u8 (at5 c k).op, .int .u8 (at5 c k).dst, .int .u8 (at5 c k).src, .int .i16 (at5 c k).off, .int .i32 (at5 c k).imm] 40)).cell? ⟨wr.heap.size, 2, none⟩ = some (.int .u8 (at5 c k).src) := by simp
              have j3 : (wr.alloc (.cells #[.int .u8 (at5 c k).op, .int .u8 (at5 c k).dst, .int .u8 (at5 c k).src, .int .i16 (at5 c k).off, .int .i32 (at5 c k).imm] 40)).cell? ⟨wr.heap.size, 3, none⟩ = some (.int .i16 (at5 c k).off) := by simp
              have j4 : (wr.alloc (.cells #[.int .u8 (at5 c k).op, .int .u8 (at5 c k).dst, .int .u8 (at5 c k).src, .int .i16 (at5 c k).off, .int .i32 (at5 c k).imm] 40)).cell? ⟨wr.heap.size, 4, none⟩ = some (.int .i32 (at5 c k).imm) := by simp
              replace e0 := cn hbA e0
              replace f0 := cn hbA f0
              have X := HC.out.kept hbA
              clear hbA i0 i1 i2 i3 i4 HC hgl
              generalize wr.alloc (.cells #[.int .u8 (at5 c k).op, .int .u8 (at5 c k).dst, .int .u8 (at5 c k).src, .int .i16 (at5 c k).off, .int .i32 (at5 c k).imm] 40) = wa at *
              generalize wr.heap.size = gx at *
              unfold I5.V at HT HU
              generalize (at5 c k).op = op at *
              generalize (at5 c k).dst = dst at *
              generalize (at5 c k).src = src at *
              generalize hof : (at5 c k).off = off_ at *
              generalize (at5 c k).imm = imm at *
              generalize hv2 : at_ / 2 + 1 + off_ = v2 at HT HU
              clear hv2 hof
              go_region_held3 (fun w' => w'.cell? ⟨g3, k, none⟩ = some (.bool true) ∧ w'.cell? ⟨g', k, none⟩ = some (.bool true) ∧ w'.cell? ⟨gx, 0, none⟩ = some (.int .u8 op) ∧ w'.cell? ⟨gx, 1, none⟩ = some (.int .u8 dst) ∧ w'.cell? ⟨gx, 2, none⟩ = some (.int .u8 src) ∧ w'.cell? ⟨gx, 3, none⟩ = some (.int .i16 off_) ∧ w'.cell? ⟨gx, 4, none⟩ = some (.int .i32 imm) ∧ CsI w g3 (some ⟨g', 0, none⟩) c w')
                (first | (go_split_ands; exact ⟨cn b9 (by assumption), cn b9 (by assumption), cn b9 (by assumption), cn b9 (by assumption), cn b9 (by assumption), cn b9 (by assumption), cn b9 (by assumption), CsI.kept (by assumption) b9⟩) | exact ⟨cn (below_dr wa) e0, cn (below_dr wa) f0, cn (below_dr wa) j0, cn (below_dr wa) j1, cn (below_dr wa) j2, cn (below_dr wa) j3, cn (below_dr wa) j4, X.kept (below_dr wa)⟩)
                (first | (go_at_call 19; refine (HT.out _).mono ?_; rintro e w9 ⟨rfl, b9⟩) | (go_at_call 20; refine (HU.out _).mono ?_; rintro e w9 ⟨rfl, b9⟩))
              go_split_ands
              go_wp2
              go_roundw
              case rel => exact ⟨k + 1, by go_num, by omega, hid (by assumption)⟩
              case measure => simp [intOf]; omega
          · obtain rfl : k = c.length := by omega
            go_wp2_with fail
            refine (HA.out wr HC.out.2.2.2).mono ?_
            rintro e w4 ⟨rfl, b4⟩
            have HB4 := hid (below_next HC.out.2.2.2 b4)
            clear b4
            go_wp2
            go_ret
            exact ⟨rfl, HB4.out⟩
end Go.Proofs.YtjfjddefpiodmaaDoor
