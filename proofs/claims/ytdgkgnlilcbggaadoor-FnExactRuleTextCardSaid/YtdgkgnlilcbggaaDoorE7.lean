/-
  Contracts: valid rules, in the program.
-/
import Derived.Test.YtdgkgnlilcbggaaDoorE5
import Derived.Test.YtdgkgnlilcbggaaDoorE6
import Derived.Test.YtdgkgnlilcbggaaDoorU3
namespace Go.Proofs.YtdgkgnlilcbggaaDoor
open Go.RowKit
set_option linter.unusedVariables false

/-- A list of parts that has a first one, as cells. -/
theorem seen_cells {w : World} {n : Nat} {xs : List Int} {v : Value} (h : SeenP w v n xs) (h0 : 0 < n) : ∃ b off c, v = .slice (some ⟨b, off, none⟩) n c ∧ b < w.heap.size ∧ ∀ u, Below w.heap.size w u → (∀ j : Nat, j < n → u.cell? ⟨b, off + j * 2, none⟩ = some (.int .i64 (xs.getD (j * 2) 0)) ∧ u.cell? ⟨b, off + j * 2 + 1, none⟩ = some (.int .i64 (xs.getD (j * 2 + 1) 0))) := by
  obtain ⟨A, c, rfl, _, _, hA⟩ := h
  obtain ⟨b, off, rfl, hb, hc⟩ := hA h0
  refine ⟨b, off, c, rfl, hb, fun u hu j hj => ⟨?_, ?_⟩⟩
  · rw [hu.cell (p := ⟨b, off + j * 2, none⟩) hb]; exact hc _ (by omega)
  · rw [hu.cell (p := ⟨b, off + j * 2 + 1, none⟩) hb]; exact hc (j * 2 + 1) (by omega)

set_option maxHeartbeats 4000000 in
set_option maxRecDepth 100000 in
theorem c_IsRule (n : Nat) (xs : List Int) (v : Value) (w : World) (hl : n ≤ 1048576) (h : SeenP w v n xs) (hcap : ∀ A m c, v = .slice A m c → m ≤ c) :
    Calls Tryd.prog 12 #[v] w fun e w' => e = .returned (.bool (ruleB n xs)) ∧ Below w.heap.size w w' := by
  by_cases hn : 1 ≤ n ∧ n ≤ 39
  · obtain ⟨n1, n2⟩ := hn
    obtain ⟨b, off, c, rfl, hb, hcell⟩ := seen_cells h (by omega)
    have hnc := hcap _ _ _ rfl
    have E1 := Lib.hid hcell
    have F1 : Hid (∀ k : Nat, k < n → parB (xs.getD (k * 2) 0) (xs.getD (k * 2 + 1) 0) = false → ruleB n xs = false) := fun k hk h => by unfold ruleB treeB; rw [parAll_false hk h]; simp
    have F2 : Hid (∀ z, ParTo xs n → LastIs (kdf xs) (n - 1) n z → z ≠ n → ruleB n xs = false) := fun z hp hz hne => by unfold ruleB; rw [tree_iff (by omega) hp hz, decide_eq_false hne]; simp
    have F3 : Hid (∀ z, ParTo xs n → LastIs (kdf xs) (n - 1) n z → z = n → ∃ t, At (kdf xs) t (n - 1) ∧ t.size = n ∧ ruleB n xs = decide ((t.depth : Int) ≤ 12)) := fun z hp hz e => by
      have ht := tree_iff (by omega) hp hz
      rw [decide_eq_true e] at ht
      obtain ⟨_, f, l⟩ := treeB_true ht
      obtain ⟨t, hA, hs, _, hd⟩ := tree_of f l
      exact ⟨t, hA, hs, by unfold ruleB; rw [ht, hd, decide_eq_true (p := 1 ≤ n ∧ n ≤ 39) ⟨n1, n2⟩]; simp⟩
    clear hcell hcap h
    generalize ruleB n xs = R at *
    have a1 : ¬ (n : Int) < 1 := by omega
    have a2 : ¬ 39 < (n : Int) := by omega
    go_enter Tryd.func12, Tryd.ntmps12
    go_wp2_with fail
    go_loopw [15] (fun i wr => ∃ k : Nat, k ≤ n ∧ i = .int .i64 k ∧ ParTo xs k ∧ Below w.heap.size w wr) (fun i _ => n - (intOf i).toNat)
    case atStart => exact ⟨0, Nat.zero_le _, rfl, ParTo.zero _, Below.refl _ _⟩
    case round =>
      obtain ⟨k, hk, rfl, hP, hbw⟩ := hrel
      have HP := Lib.hid hP
      have HB := Lib.hid hbw
      clear hP hbw
      by_cases hlt : k < n
      · obtain ⟨q0, q1⟩ := E1.out wr HB.out k hlt
        have HF1 := Lib.hid (F1.out k hlt)
        have g1 : Hid (parB (xs.getD (k * 2) 0) (xs.getD (k * 2 + 1) 0) = true → ParTo xs (k + 1)) := fun h => HP.out.succ h
        generalize xs.getD (k * 2) 0 = t at *
        generalize xs.getD (k * 2 + 1) 0 = m at *
        have b1 : (0 : Int) ≤ (k : Int) := by omega
        have b2 : (k : Int) < (n : Int) := by omega
        have HBa : Hid (Below w.heap.size w (wr.alloc (.cells #[.int .i64 t, .int .i64 m] 33))) := HB.out.alloc HB.out.size _
        go_wp2_with fail
        refine (c_isPart _ _ _).mono ?_
        rintro e w2 ⟨rfl, hb2⟩
        have HB2 : Hid (Below w.heap.size w w2) := HBa.out.trans (hb2.mono HBa.out.size)
        clear hb2
        cases hp : parB t m
        · have G := Lib.hid (HF1.out hp)
          clear hp
          go_wp2
          go_ret
          exact ⟨ret_bool G.out.symm, HB2.out⟩
        · have G := Lib.hid (g1.out hp)
          clear hp
          go_wp2
          go_roundw
          case rel => exact ⟨k + 1, by omega, by go_num, G.out, HB2.out⟩
          case measure => simp [intOf]; omega
      · obtain rfl : k = n := by omega
        obtain ⟨z, hz⟩ := lastIs_ex (kdf xs) (k - 1) k
        have HV : Hid (∀ j : Nat, j < k → 0 ≤ kdf xs (0 + j) ∧ kdf xs (0 + j) ≤ 8) := fun j hj => by rw [Nat.zero_add]; exact parB_kind (HP.out j hj)
        have HC : Hid (∀ j : Nat, j < k → wr.cell? ⟨b, off + j * 2, none⟩ = some (.int .i64 (kdf xs (0 + j)))) := fun j hj => by rw [Nat.zero_add]; exact (E1.out wr HB.out j hj).1
        have CL := Lib.hid (c_lastSize (kdf xs) b off 0 k c z wr hl (by omega) HV.out HC.out (by rw [Nat.zero_add]; exact hz))
        have hzk : z ≤ k := by rcases hz with ⟨rfl, _⟩ | ⟨_, h, _⟩ <;> omega
        by_cases e : z = k
        · obtain ⟨t, hA, hs, hr⟩ := F3.out z HP.out hz e
          have CD := Lib.hid (c_depthOf (kdf xs) b k t off 0 c (k - 1) wr (by omega) hA (by omega) (by omega) (by omega) (Nat.lt_of_lt_of_le hb HB.out.size) (by rw [hs]; exact HV.out) (by rw [hs]; exact HC.out))
          rw [hs] at CD
          have hdl := t.depth_le
          have HR := Lib.hid hr
          have HE := Lib.hid e
          have ez : ((z : Int) == (k : Int)) = true := by rw [e]; simp
          clear hA hs hr e hz
          go_wp2_with fail
          refine CL.out.mono ?_
          rintro e w2 ⟨rfl, rfl⟩
          go_wp2_with fail
          refine CD.out.mono ?_
          rintro e w3 ⟨rfl, hb3⟩
          have HB3 : Hid (Below w.heap.size w w3) := HB.out.trans (hb3.mono HB.out.size)
          clear hb3
          go_wp2
          go_ret
          exact ⟨ret_bool HR.out.symm, HB3.out⟩
        · have HR := Lib.hid (F2.out z HP.out hz e)
          have ez : ((z : Int) == (k : Int)) = false := by simp; omega
          clear e hz
          go_wp2_with fail
          refine CL.out.mono ?_
          rintro e w2 ⟨rfl, rfl⟩
          go_wp2
          go_ret
          exact ⟨ret_bool HR.out.symm, HB.out⟩
  · have hB : ruleB n xs = false := by unfold ruleB; rw [decide_eq_false hn]; rfl
    rw [hB]
    obtain ⟨A, c, rfl, _, _, _⟩ := h
    clear hB hcap
    by_cases n1 : (n : Int) < 1
    · go_enter Tryd.func12, Tryd.ntmps12
      go_wp2
      go_ret
      exact ⟨rfl, Below.refl _ _⟩
    · have n2 : 39 < (n : Int) := by omega
      go_enter Tryd.func12, Tryd.ntmps12
      go_wp2
      go_ret
      exact ⟨rfl, Below.refl _ _⟩
end Go.Proofs.YtdgkgnlilcbggaaDoor
