/-
  Contracts: CountClosures on both sides.
-/
import Derived.Test.YtffknfgejoejoaaShelfB
import Derived.Test.YtffknfgejoejoaaNK4
import Derived.Test.YtffknfgejoejoaaNK5
import Derived.Lib.BitFns
namespace Go.Proofs.Ytffknfgejoejoaa
open Go.RowKit
set_option linter.unusedVariables false

theorem bitLen_same : ∀ (f x : Nat), x < 2 ^ f → Lib.bitLenAux f x = bitLen x
  | 0, x, h => by
    obtain rfl : x = 0 := by omega
    rfl
  | f + 1, x, h => by
    unfold Lib.bitLenAux
    by_cases h0 : x = 0
    · rw [if_pos h0, h0]; rfl
    · rw [if_neg h0, bitLen_same f (x / 2) (by rw [Nat.pow_succ] at h; omega)]
      unfold bitLen
      rw [if_neg h0]
      by_cases h1 : x / 2 = 0
      · have : x = 1 := by omega
        subst this
        rfl
      · rw [if_neg h1, Nat.log2_def x, if_pos (by omega)]
        omega
theorem c_LenB (n : Nat) (w : World) (h : n < 1048576) : Calls Try.prog 86 #[.int .u64 n] w fun e w' => e = .returned (.int .i64 (bitLen n)) ∧ w = w' := by
  refine (Try.bits_Len (n : Int) w (by omega) (by omega)).mono ?_
  rintro e w' ⟨rfl, rfl⟩
  refine ⟨?_, rfl⟩
  rw [Int.toNat_natCast]
  unfold Lib.bitLen
  rw [bitLen_same 64 n (by omega)]
theorem c_CountClosuresI (xss : List (List Int)) (v : Value) (w : World) (hs : ShortL xss) (h : SeenL w v xss) :
    Calls Try.prog 45 #[v] w fun e w' => e = .returned (.tuple #[.int .i64 (cloV xss), .bool (cloB xss)]) ∧ Below w.heap.size w w' :=
  c_CountClosures xss v w hs h fun n w h => c_LenB n w h
end Go.Proofs.Ytffknfgejoejoaa
