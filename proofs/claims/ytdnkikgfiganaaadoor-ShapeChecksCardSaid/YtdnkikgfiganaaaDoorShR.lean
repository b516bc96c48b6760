/-
  Contract of the document's own Starts.
-/
import Derived.Test.YtdnkikgfiganaaaDoorShC
import Derived.Test.YtdnkikgfiganaaaDoorShB
import Derived.Test.YtdnkikgfiganaaaDoorPlcR
import Derived.Laws.AppendOwn
import Derived.OwnWalk
namespace Go.Proofs.YtdnkikgfiganaaaDoor
set_option linter.unusedSimpArgs false
set_option linter.unusedVariables false
open Go.ChangeShapes Go.WideShapes Go.ChangeAt Go.RowKit

theorem rplaces_I (x : I5) (hx : x.ok) (w : World) : Calls Tryd.prog 65 #[x.V] w fun e w' => e = .returned (.int .i64 x.p) ∧ Below w.heap.size w w' := by
  obtain ⟨a, b, c, d, e, f, g, h, i, j⟩ := hx
  exact urplaces x.op x.dst x.src x.off x.imm w a b c d e f g h i j
theorem rof_I (x : I5) (hx : x.ok) (w : World) : Calls Tryd.prog 48 #[x.V] w fun e w' => e = .returned (.tuple #[whV x.t, .int .i64 x.e]) ∧ Below w.heap.size w w' := by
  obtain ⟨a, b, c, d, e, f, g, h, i, j⟩ := hx
  exact rof_any x.op x.dst x.src x.off x.imm w a b c d e f g h i j

/-- A list of bools of the call's own. -/
def OwnB (w0 w : World) (v : Value) (L : List Bool) : Prop := w.ownsRow w0.heap.size 4 1 v L.length (L.map Value.bool) ∧ Below w0.heap.size w0 w
theorem OwnB.nil (w0 : World) : OwnB w0 w0 (.slice none 0 0) [] := ⟨World.ownsRow_nil _ _ _ _, Below.refl _ _⟩
theorem boolInfo' : (Tryd.prog.info? 4).map (fun i => (i.zero, i.size, i.bytes)) = some (some (.bool false), 1, 1) := by kernel_rfl
theorem append_bool {ops : Array Oper} {rest : List Oper} {o : Oper} {a : Act} {Q : Exit → Act → World → Prop} (hgd : o.guard = none) (s x : Operand)
    (ho : o.op = .call { callee := .builtin .append, args := #[s, x], argTypes := #[40, 40] })
    (w0 w : World) (v : Value) (L : List Bool) (r : Bool) (hs : a.eval s = v) (hown : OwnB w0 w v L) (wm : World) (g : Nat) (hx : a.eval x = .slice (some ⟨g, 0, none⟩) 1 1) (hg : w.heap.size = g)
    (hw : wm = w.alloc (.cells #[.bool r] 4)) (hlen : L.length < 11728124029440)
    (h : ∀ v' w', OwnB w0 w' v' (L ++ [r]) → wpList Tryd.prog ops Q rest (a.put o.dst v') w') : wpList Tryd.prog ops Q (o :: rest) a wm := by
  subst hw
  subst hg
  obtain ⟨i, hi, hp⟩ := Option.map_eq_some_iff.1 boolInfo'
  injection hp with hp1 hp
  injection hp with hp2 hp3
  obtain ⟨ho1, hb⟩ := hown
  refine wpList_append_own _ hgd s x 40 ho w0.heap.size 4 i _ 1 1 Tryd.underlying40 hi hp1 hp2 hp3 rfl (by decide) v L.length (L.map Value.bool) hs (ho1.alloc _)
    ⟨w.heap.size, 0, none⟩ 1 1 [.bool r] hx rfl ?_ (by intro u hu; simp at hu; subst hu; rfl) (by simp only [maxLen]; omega) (by omega) ?_ ?_
  · intro j u hu
    have hj0 : j = 0 := by
      have := (List.getElem?_eq_some_iff.1 hu).1
      simp at this
      exact this
    subst hj0
    simp at hu
    subst hu
    have : ((⟨w.heap.size, 0, none⟩ : Addr).add 0) = ⟨w.heap.size, 0, none⟩ := rfl
    rw [this]
    simp
  · have := hb.size
    simp
    omega
  · intro v' w' h1 h2 _
    refine h v' w' ⟨?_, ?_⟩
    · rw [List.length_append, List.map_append]
      simpa using h1
    · refine (hb.alloc hb.size _).grown h2 (by have := hb.size; simp; omega) ?_
      intro k hk
      exact (ho1.lt k hk).1
theorem OwnB.step {w0 w w' : World} {v : Value} {L : List Bool} (h : OwnB w0 w v L) (hb : Below w.heap.size w w') : OwnB w0 w' v L := by
  obtain ⟨h1, h2⟩ := h
  exact ⟨h1.kept (grown_of_below hb) (by cases v.ownBlock <;> simp), below_next h2 hb⟩
def stUp (c : List I5) (k : Nat) : List Bool := (List.range k).map (stB c)
theorem stUp_succ (c : List I5) (k : Nat) : stUp c (k + 1) = stUp c k ++ [stB c k] := by unfold stUp; simp [List.range_succ]
theorem stUp_len (c : List I5) (k : Nat) : (stUp c k).length = k := by unfold stUp; simp

def RsPost (w : World) (c : List I5) (e : Ending) (w' : World) : Prop := ∃ v, e = .returned v ∧ OwnB w w' v (stUp c c.length)
set_option maxRecDepth 100000 in
set_option maxHeartbeats 2000000 in
theorem rstarts_any (p : Option Addr) (cap : Nat) (c : List I5) (w : World) (hsl : CdSl w.heap.size w p c.length c) : Calls Tryd.prog 46 #[.slice p c.length cap] w (RsPost w c) := by
  have HSL := hid hsl
  have hlen := hsl.2.2.1
  clear hsl
  go_enter Tryd.func46, Tryd.ntmps46
  go_wp2
  go_loopw [3, 4, 5] (fun l h i wr => ∃ k : Nat, i = .int .i64 k ∧ h = .bool (hf c k) ∧ k ≤ c.length ∧ Hid (OwnB w wr l (stUp c k))) (fun _ _ i _ => c.length - (intOf i).toNat)
  case atStart => exact ⟨0, rfl, rfl, by omega, hid (OwnB.nil w)⟩
  case round =>
    obtain ⟨k, rfl, rfl, hk, HO⟩ := hrel
    by_cases hlt : k < c.length
    · obtain ⟨b, off, hp, hb, hins⟩ := HSL.out.2.2.2.resolve_left (by omega)
      subst hp
      have HIN := hid fun W (hB : Below w.heap.size w W) => (hins k hlt).kept hB hb
      have HPL := hid fun W => rplaces_I (at5 c k) (at5_ok HSL.out.2.1 k) W
      have HSU := hid (stUp_succ c k).symm
      have HFN := hid (show hf c (k + 1) = (!hf c k && ((at5 c k).p == 2)) from rfl)
      have HST := hid (show stB c k = !hf c k from rfl)
      clear hins
      cases hh : hf c k
      · rw [hh] at HFN HST
        go_wp2_with (at_builtin; refine append_bool rfl (.tmp 12) (.tmp 15) rfl w wr _ (stUp c k) true (by exact rfl) HO.out _ _ (by exact rfl) rfl (by exact rfl) (by rw [stUp_len]; omega) ?_; intro v1 w1 own1; obtain ⟨c0, c1, c2, c3, c4⟩ := HIN.out _ own1.2)
        refine (HPL.out w1).mono ?_
        rintro e w2 ⟨rfl, b2⟩
        have HO2 := hid (own1.step b2)
        clear b2 own1 HO c0 c1 c2 c3 c4
        go_wp2
        go_roundw
        case rel => exact ⟨k + 1, by simp, by rw [HFN.out]; simp, by omega, by have h := HO2; rw [← HSU.out, HST.out]; exact h⟩
        case measure => simp [intOf]; omega
      · rw [hh] at HFN HST
        go_wp2_with (at_builtin; refine append_bool rfl (.tmp 12) (.tmp 15) rfl w wr _ (stUp c k) false (by exact rfl) HO.out _ _ (by exact rfl) rfl (by exact rfl) (by rw [stUp_len]; omega) ?_; intro v1 w1 own1)
        go_roundw
        case rel => exact ⟨k + 1, by simp, by rw [HFN.out]; rfl, by omega, by have h := hid own1; rw [← HSU.out, HST.out]; exact h⟩
        case measure => simp [intOf]; omega
    · obtain rfl : k = c.length := by omega
      go_wp2
      go_ret
      exact ⟨_, rfl, HO.out⟩
end Go.Proofs.YtdnkikgfiganaaaDoor
