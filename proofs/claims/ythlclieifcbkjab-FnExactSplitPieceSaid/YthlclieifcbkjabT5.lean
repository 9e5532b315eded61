/-
  Contracts: the stable sort, and orderOf with the comparison of SortPieces.
-/
import Derived.Test.YthlclieifcbkjabT3
import Derived.Test.YthlclieifcbkjabT4
import Derived.Test.YthlclieifcbkjabQ7
namespace Go.Proofs.Ythlclieifcbkjab
open Go.RowKit
set_option linter.unusedVariables false

set_option maxHeartbeats 1000000 in
theorem c_sortStable (n g c b0 : Nat) (cf : Int → Int → Int) (B : Nat) (W : World) (hn : n ≤ 20) (h0 : 0 < n) (hr : Row W B (.slice (some ⟨g, 0, none⟩) n c) (marks 0 n))
    (H : Hid (∀ (a b : Nat) (u : World), a < n → b < n → W.grownBy u (some g) → Calls Try.prog 26 #[.int .i64 a, .int .i64 b, .pointer (some ⟨b0, 0, none⟩)] u fun e u' => e = .returned (.int .i64 (cf a b)) ∧ Below u.heap.size u u')) :
    Calls Try.prog 41 #[.slice (some ⟨g, 0, none⟩) n c, .func (.func 26) #[] #[.pointer (some ⟨b0, 0, none⟩)]] W fun e w' => e = .returned (.tuple #[]) ∧ Row w' B (.slice (some ⟨g, 0, none⟩) n c) (sortN (fun a b => decide (cf a b < 0)) n) ∧ W.grownBy w' (some g) := by
  have HC := Lib.hid (c_stable n g c b0 cf B W hn h0 hr H)
  clear hr
  generalize sortN (fun a b => decide (cf a b < 0)) n = SN at *
  go_enter Try.func41, Try.ntmps41
  go_wp2_with fail
  refine HC.out.mono ?_
  rintro e w1 ⟨rfl, hr1, hg1⟩
  have HR1 := Lib.hid hr1
  have HG1 := Lib.hid hg1
  clear hr1 hg1
  go_wp2
  refine bodyPost_end (v := .tuple #[]) (by simp [results, Try.results41, go_sem]) rfl ?_
  exact ⟨rfl, HR1.out, HG1.out⟩

set_option maxHeartbeats 4000000 in
theorem c_orderOf (n b0 : Nat) (cf : Int → Int → Int) (W : World) (hn : n ≤ 20) (h0 : 0 < n)
    (H : Hid (∀ (a b : Nat) (u : World), a < n → b < n → Below W.heap.size W u → Calls Try.prog 26 #[.int .i64 a, .int .i64 b, .pointer (some ⟨b0, 0, none⟩)] u fun e u' => e = .returned (.int .i64 (cf a b)) ∧ Below u.heap.size u u')) :
    Calls Try.prog 25 #[.int .i64 n, .func (.func 26) #[] #[.pointer (some ⟨b0, 0, none⟩)]] W (GivesRow W (sortN (fun a b => decide (cf a b < 0)) n)) := by
  obtain ⟨i0, hi0, hz0, hz1, hz2⟩ := info_parts int_info
  have hmk : (Instr.makeSlice 24 (.int .i64 (n : Int)) (.int .i64 (n : Int))).run Try.prog W = .ok (.slice (some ⟨W.heap.size, 0, none⟩) n n) (W.alloc (.cells (madeCells #[.int .i64 0] n) 3)) := by
    have := run_make (P := Try.prog) W 24 3 i0 (.int .i64 0) Try.underlying24 hi0 hz0 .i64 .i64 (n : Int) (n : Int) (by omega) (by omega) (by rw [hz2]; omega) (by omega)
    simpa [hz1, Value.cells] using this
  have H0 : Hid (Row (W.alloc (.cells (madeCells #[.int .i64 0] n) 3)) W.heap.size (.slice (some ⟨W.heap.size, 0, none⟩) n n) (marked 0 (List.replicate n 0) 0)) := by rw [marked_zero]; exact row_zeros W n (by unfold maxLen; omega)
  have HL : Hid (∀ j, j ≤ n → (marked 0 (List.replicate n 0) j).length = n) := fun j hj => by rw [marked_len _ _ _ (by simpa using hj)]; simp
  have HS : Hid (∀ j : Nat, j < n → (marked 0 (List.replicate n 0) j).set j (j : Int) = marked 0 (List.replicate n 0) (j + 1)) := fun j hj => by
    have := marked_set 0 (List.replicate n 0) j (by simpa using hj)
    rwa [Int.zero_add] at this
  have HA : Hid (marked 0 (List.replicate n 0) n = marks 0 n) := by have := marked_all 0 (List.replicate n 0); rw [List.length_replicate] at this; exact this
  clear hi0 hz0 hz1 hz2
  generalize marked 0 (List.replicate n 0) = M at *
  have HSN : Hid (∃ SN, sortN (fun a b => decide (cf a b < 0)) n = SN) := ⟨_, rfl⟩
  obtain ⟨SN, hSN⟩ := HSN
  have HSN := Lib.hid hSN
  rw [hSN]
  clear hSN
  go_enter Try.func25, Try.ntmps25
  go_wp2
  clear hmk
  go_loopw [11] (fun i wr => ∃ k : Nat, k ≤ n ∧ i = .int .i64 k ∧ Row wr W.heap.size (.slice (some ⟨W.heap.size, 0, none⟩) n n) (M k) ∧ Below W.heap.size W wr) (fun i _ => n - (intOf i).toNat)
  case atStart => exact ⟨0, Nat.zero_le _, rfl, H0.out, (Below.refl _ _).alloc (Nat.le_refl _) _⟩
  case round =>
    obtain ⟨k, hk, rfl, hr, hb⟩ := hrel
    have HR := Lib.hid hr
    have HB := Lib.hid hb
    clear hr hb
    by_cases hlt : k < n
    · have hkl : k < (M k).length := by rw [HL.out k hk]; exact hlt
      have q1 : wr.cell? ⟨W.heap.size, k, none⟩ = some (.int .i64 ((M k).getD k 0)) := by
        have hr := HR.out
        rw [← HL.out k hk] at hr
        exact hr.cell k hkl
      have q2 : wr.frozen? ⟨W.heap.size, k, none⟩ = false := by
        have hr := HR.out
        rw [← HL.out k hk] at hr
        exact hr.frozen k
      have N1 : Hid (Row (wr.setCell ⟨W.heap.size, k, none⟩ (.int .i64 k)) W.heap.size (.slice (some ⟨W.heap.size, 0, none⟩) n n) (M (k + 1))) := by
        have := (Row.set_ (HL.out k hk).symm HR.out k k).1
        rw [HS.out k hlt] at this
        exact this
      generalize (M k).getD k 0 = t at q1
      have b1 : (0 : Int) ≤ (k : Int) := by omega
      have b2 : (k : Int) < (n : Int) := by omega
      clear hkl
      go_wp2
      go_roundw
      case rel => exact ⟨k + 1, by omega, by go_num, N1.out, HB.out.setCell (Nat.le_refl _) _⟩
      case measure => simp [intOf]; omega
    · obtain rfl : k = n := by omega
      have HRm : Hid (Row wr W.heap.size (.slice (some ⟨W.heap.size, 0, none⟩) k k) (marks 0 k)) := by rw [← HA.out]; exact HR.out
      have HC := Lib.hid (c_sortStable k W.heap.size k b0 cf W.heap.size wr hn h0 HRm.out (fun a b u ha hb hu => H.out a b u ha hb (HB.out.grown hu HB.out.size (fun j hj => by simp at hj; omega))))
      rw [HSN.out] at HC
      go_wp2_with fail
      refine HC.out.mono ?_
      rintro e w2 ⟨rfl, hr2, hg2⟩
      have HR2 := Lib.hid hr2
      have HB2 : Hid (Below W.heap.size W w2) := HB.out.grown hg2 HB.out.size (fun j hj => by simp at hj; omega)
      clear hr2 hg2
      go_wp2
      go_ret
      exact ⟨_, rfl, HR2.out, HB2.out⟩
end Go.Proofs.Ythlclieifcbkjab
