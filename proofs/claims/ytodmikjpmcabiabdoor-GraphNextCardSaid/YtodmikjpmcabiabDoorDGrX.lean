/-
  Contract of graph's Next: to what any place leads.
-/
import Derived.Test.YtodmikjpmcabiabDoorDGrN
namespace Go.Proofs.YtodmikjpmcabiabDoor
set_option linter.unusedSimpArgs false
set_option linter.unusedVariables false
set_option maxRecDepth 100000
open Go.ChangeShapes Go.WideShapes Go.ChangeAt Go.RowKit

def nextG (c : List I5) (a : Int) : List Int := if 0 ≤ a ∧ a < c.length ∧ stB c a.toNat = true then nxL c a.toNat else []
theorem gNext_I (p : Option Addr) (cap : Nat) (c : List I5) (a : Int) (w : World) (hz : SzOk w) (hsl : CdSl w.heap.size w p c.length c) :
    Calls Tryd.prog 11 #[.slice p c.length cap, .int .i64 a] w (CpPost w (nextG c a)) := by
  have HZ := hid hz
  have HS := hid hsl
  have hlen := hsl.2.2.1
  clear hz hsl
  by_cases a0 : a < 0
  · have d0 : decide (a < 0) = true := decide_eq_true a0
    have HN := hid (show nextG c a = [] by unfold nextG; rw [if_neg (by omega)])
    clear a0
    go_enter Tryd.func11, Tryd.ntmps11
    go_wp2
    go_ret
    exact ⟨_, rfl, by rw [HN.out]; exact World.ownsRow_nil _ _ _ _, (Below.refl _ _).alloc (Nat.le_refl _) _⟩
  have d0 : decide (a < 0) = false := decide_eq_false a0
  by_cases a1 : (c.length : Int) ≤ a
  · have d1 : decide ((c.length : Int) ≤ a) = true := decide_eq_true a1
    have HN := hid (show nextG c a = [] by unfold nextG; rw [if_neg (by omega)])
    clear a0 a1
    go_enter Tryd.func11, Tryd.ntmps11
    go_wp2
    go_ret
    exact ⟨_, rfl, by rw [HN.out]; exact World.ownsRow_nil _ _ _ _, (Below.refl _ _).alloc (Nat.le_refl _) _⟩
  have d1 : decide ((c.length : Int) ≤ a) = false := decide_eq_false a1
  obtain ⟨k, rfl⟩ := Int.eq_ofNat_of_zero_le (show 0 ≤ a by omega)
  have hk : k < c.length := by omega
  have bA := (Below.refl w.heap.size w).alloc (Nat.le_refl _) (.cells #[.slice p c.length cap] 22)
  have c0 : (w.alloc (.cells #[.slice p c.length cap] 22)).cell? ⟨w.heap.size, 0, none⟩ = some (.slice p c.length cap) := by simp
  have HIS := hid fun W j (hb : Below (w.alloc (.cells #[.slice p c.length cap] 22)).heap.size (w.alloc (.cells #[.slice p c.length cap] 22)) W) (hj : j < c.length) => gnext1_I p cap w.heap.size c j (Nat.le_of_lt hj) W (HZ.out.below (below_next bA hb)) ((HS.out.kept (below_next bA hb) (Nat.le_refl _)).wide (below_next bA hb).size) (cn hb c0)
  have HS0 := hid ((HS.out.kept bA (Nat.le_refl _)).wide bA.size)
  have HZ0 := hid (HZ.out.below bA)
  have HBA := hid bA
  have q0 : w.heap.size < (w.alloc (.cells #[.slice p c.length cap] 22)).heap.size := by simp
  clear bA a0 a1
  go_enter Tryd.func11, Tryd.ntmps11
  go_wp2_with fail
  refine (HIS.out _ k (Below.refl _ _) hk).mono ?_
  rintro e w1 ⟨rfl, b1⟩
  replace c0 := cn b1 c0
  have HB1 := hid b1
  clear b1
  cases hs : stB c k
  · have HN := hid (show nextG c (k : Int) = [] by unfold nextG; rw [if_neg (by rw [Int.toNat_natCast, hs]; simp)])
    clear hs
    go_wp2
    go_ret
    exact ⟨_, rfl, by rw [HN.out]; exact World.ownsRow_nil _ _ _ _, below_next HBA.out HB1.out⟩
  · have HN := hid (show nextG c (k : Int) = nxL c k by unfold nextG; rw [if_pos (by rw [Int.toNat_natCast]; exact ⟨by omega, by omega, hs⟩), Int.toNat_natCast])
    clear hs
    go_wp2_with fail
    refine (leads_next p cap c k w.heap.size w1 (HZ0.out.below HB1.out) ((HS0.out.kept HB1.out (Nat.le_refl _)).wide HB1.out.size) hk (fun W j hb hj => HIS.out W j (below_next HB1.out hb) hj)).mono ?_
    rintro e3 w3 ⟨v', rfl, ho, hb⟩
    have HO := hid (own_base ho (below_next HBA.out HB1.out).size)
    have HB3 := hid (below_next (below_next HBA.out HB1.out) hb)
    clear ho hb
    go_wp2
    go_ret
    exact ⟨_, rfl, by rw [HN.out]; exact HO.out, HB3.out⟩
end Go.Proofs.YtodmikjpmcabiabDoor
