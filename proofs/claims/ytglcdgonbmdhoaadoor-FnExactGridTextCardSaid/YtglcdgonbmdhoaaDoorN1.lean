/-
  Contracts: numbers below ten as text, by strconv and by the model.
-/
import Derived.Test.YtglcdgonbmdhoaaDoorC3
import Derived.Lib.SlBytesRow
namespace Go.Proofs.YtglcdgonbmdhoaaDoor
open Go.RowKit

/-- A number below ten as text. -/
def digS (n : Int) : ByteArray := ⟨#[UInt8.ofNat (48 + n.toNat)]⟩

set_option maxHeartbeats 1000000 in
theorem c_Itoa (n : Int) (w : World) (h1 : 0 ≤ n) (h2 : n ≤ 9) : Calls Tryd.prog 51 #[.int .i64 n] w fun e w' => e = .returned (.string (digS n)) ∧ w = w' := by
  have h : n = 0 ∨ n = 1 ∨ n = 2 ∨ n = 3 ∨ n = 4 ∨ n = 5 ∨ n = 6 ∨ n = 7 ∨ n = 8 ∨ n = 9 := by omega
  clear h1 h2
  rcases h with rfl | rfl | rfl | rfl | rfl | rfl | rfl | rfl | rfl | rfl
  all_goals
    go_enter Tryd.func51, Tryd.ntmps51
    go_wp2
    go_ret
    exact ⟨rfl, rfl⟩


theorem conv_one (c n : Int) (hc : c = 48 + n) (h1 : 0 ≤ n) (h2 : n ≤ 9) (w : World) :
    (convert 50 9 (.slice (some ⟨w.heap.size, 0, none⟩) 1 1)).run Tryd.prog (w.alloc (.cells #[.int .u8 c] 5)) = .ok (.string (digS n)) (w.alloc (.cells #[.int .u8 c] 5)) := by
  have h := Lib.run_convert_whole (P := Tryd.prog) (w.alloc (.cells #[.int .u8 c] 5)) 50 5 9 Tryd.underlying50 Tryd.underlying5 Tryd.underlying9 w.heap.size 0 (digS n) (fun i hi => by
    have hi0 : i = 0 := by have : (digS n).size = 1 := rfl; omega
    subst hi0
    rw [World.cell?_alloc_at _ _ _ _ rfl]
    have hn : n = 0 ∨ n = 1 ∨ n = 2 ∨ n = 3 ∨ n = 4 ∨ n = 5 ∨ n = 6 ∨ n = 7 ∨ n = 8 ∨ n = 9 := by omega
    subst hc
    rcases hn with rfl | rfl | rfl | rfl | rfl | rfl | rfl | rfl | rfl | rfl <;> rfl) 1
  exact h

set_option maxHeartbeats 1000000 in
theorem c_l1Num (n : Int) (w : World) (h1 : 0 ≤ n) (h2 : n ≤ 9) : Calls Tryd.prog 47 #[.int .i64 n] w fun e w' => e = .returned (.string (digS n)) ∧ Below w.heap.size w w' := by
  have h : n = 0 ∨ n = 1 ∨ n = 2 ∨ n = 3 ∨ n = 4 ∨ n = 5 ∨ n = 6 ∨ n = 7 ∨ n = 8 ∨ n = 9 := by omega
  have hcv : ∃ c, c = 48 + n := ⟨_, rfl⟩
  obtain ⟨c, hc⟩ := hcv
  have hcv := conv_one c n hc h1 h2
  subst hc
  clear h1 h2
  rcases h with rfl | rfl | rfl | rfl | rfl | rfl | rfl | rfl | rfl | rfl
  all_goals
    simp only [Int.reduceAdd] at hcv
    go_enter Tryd.func47, Tryd.ntmps47
    go_wp2
    go_ret
    exact ⟨rfl, by go_grown⟩

end Go.Proofs.YtglcdgonbmdhoaaDoor
