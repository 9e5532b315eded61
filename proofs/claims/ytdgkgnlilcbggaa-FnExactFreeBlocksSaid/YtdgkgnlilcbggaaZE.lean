/-
  Contracts: turned networks, in the program and in the model of it.
-/
import Derived.Test.YtdgkgnlilcbggaaZD
import Derived.Test.YtdgkgnlilcbggaaAP
import Derived.Deep.RegionHeld3
import Derived.Deep.DeepCutAuto
namespace Go.Proofs.Ytdgkgnlilcbggaa
open Go.RowKit
set_option linter.unusedVariables false

/-- The first k edges turned. -/
def turL (n : Int) (xs : List Int) : Nat → List Int
  | 0 => []
  | k + 1 => turL n xs k ++ [n - 1 - xs.getD (k * 3 + 1) 0, n - 1 - xs.getD (k * 3) 0, xs.getD (k * 3 + 2) 0]
theorem turL_len (n : Int) (xs : List Int) : ∀ k, (turL n xs k).length = k * 3
  | 0 => rfl
  | k + 1 => by unfold turL; rw [List.length_append, turL_len n xs k]; simp; omega
/-- The first k of m edges turned, room for the others. -/
def turM (n : Int) (xs : List Int) (m k : Nat) : List Int := turL n xs k ++ List.replicate (m * 3 - k * 3) 0
theorem turM_zero (n : Int) (xs : List Int) (m : Nat) : turM n xs m 0 = List.replicate (m * 3) 0 := by simp [turM, turL]
theorem turM_all (n : Int) (xs : List Int) (m : Nat) : turM n xs m m = turL n xs m := by simp [turM]
theorem set_three (P : List Int) (r q : Nat) (a b c : Int) (hq : P.length = q) : (((P ++ List.replicate (r + 3) 0).set q a).set (q + 1) b).set (q + 2) c = (P ++ [a, b, c]) ++ List.replicate r 0 := by
  subst hq
  simp [List.replicate_succ]
theorem turM_set (n : Int) (xs : List Int) (m k : Nat) (hk : k < m) : (((turM n xs m k).set (k * 3) (n - 1 - xs.getD (k * 3 + 1) 0)).set (k * 3 + 1) (n - 1 - xs.getD (k * 3) 0)).set (k * 3 + 2) (xs.getD (k * 3 + 2) 0) = turM n xs m (k + 1) := by
  unfold turM
  rw [show m * 3 - k * 3 = (m * 3 - (k + 1) * 3) + 3 by omega, set_three _ _ _ _ _ _ (turL_len n xs k)]
  rfl
def tuN (n : Int) (m : Nat) (xs : List Int) : Nat := if netB n m xs then m else 0
def tuL (n : Int) (m : Nat) (xs : List Int) : List Int := if netB n m xs then turL n xs m else []
theorem tuN_le (n : Int) (m : Nat) (xs : List Int) : tuN n m xs ≤ 1000000 := by
  unfold tuN
  split
  · rename_i h; have := net_true h; omega
  · omega
/-- A list of edges and a bool. -/
def GivesP2 (w : World) (n : Nat) (xs : List Int) (b : Bool) (e : Ending) (w' : World) : Prop := ∃ v, e = .returned (.tuple #[v, .bool b]) ∧ RowP w' w.heap.size v n xs ∧ Below w.heap.size w w'
theorem edgP_snoc {w : World} {B k : Nat} {v : Value} {P : List Int} {a b c : Int} (h : w.ownsRow B 54 3 v (k + 1) (ints P ++ [.int .i64 a, .int .i64 b, .int .i64 c])) : RowP w B v (k + 1) (P ++ [a, b, c]) := by
  unfold RowP
  rw [show ints (P ++ [a, b, c]) = ints P ++ [.int .i64 a, .int .i64 b, .int .i64 c] by simp [ints]]
  exact h
theorem RowP.nil (w : World) (B : Nat) : RowP w B (.slice none 0 0) 0 [] := World.ownsRow_nil _ _ _ _

set_option maxHeartbeats 4000000 in
theorem c_mfTurn (n : Int) (m : Nat) (xs : List Int) (v : Value) (w : World) (hl : m ≤ 1048576) (hn : netW n m xs = true) (h : SeenP w v m xs) :
    Calls Try.prog 39 #[.int .i64 n, v] w (GivesP w m (turL n xs m)) := by
  obtain ⟨i0, hi0, hz0, hz1, hz2⟩ := info_parts edge_info
  have HI := Lib.hid hi0
  clear hi0
  obtain ⟨A, c, rfl, hm, hx, hA⟩ := h
  obtain ⟨n1, n2, n3, hE⟩ := netW_true hn
  have E0 : Hid (∀ k : Nat, k < m → ∃ b off, A = some ⟨b, off, none⟩ ∧ b < w.heap.size ∧ ∀ j : Nat, j < m * 3 → w.cell? ⟨b, off + j, none⟩ = some (.int .i64 (xs.getD j 0))) := fun k hk => hA (by omega)
  have EB : Hid (∀ k : Nat, k < m → edgB n (xs.getD (k * 3) 0) (xs.getD (k * 3 + 1) 0) (xs.getD (k * 3 + 2) 0) = true) := fun k hk => edgAll_at hE hk
  have TL : Hid (∀ k : Nat, (turL n xs k).length = k * 3) := turL_len n xs
  have TS : Hid (∀ k : Nat, turL n xs (k + 1) = turL n xs k ++ [n - 1 - xs.getD (k * 3 + 1) 0, n - 1 - xs.getD (k * 3) 0, xs.getD (k * 3 + 2) 0]) := fun k => rfl
  have T0 : Hid (turL n xs 0 = []) := rfl
  clear hA hE hn hx hm
  generalize turL n xs = M at *
  go_enter Try.func39, Try.ntmps39
  go_wp2_with fail
  go_loopw [5, 10] (fun q i wr => ∃ k : Nat, k ≤ m ∧ i = .int .i64 k ∧ RowP wr w.heap.size q k (M k) ∧ Below w.heap.size w wr) (fun _ i _ => m - (intOf i).toNat)
  case atStart => exact ⟨0, Nat.zero_le _, rfl, by rw [T0.out]; exact RowP.nil _ _, Below.refl _ _⟩
  case round =>
    obtain ⟨k, hk, rfl, hr, hb⟩ := hrel
    have HR := Lib.hid hr
    have HB := Lib.hid hb
    clear hr hb
    by_cases hlt : k < m
    · obtain ⟨b, off, rfl, hbl, hc⟩ := E0.out k hlt
      have q0 : wr.cell? ⟨b, off + k * 3, none⟩ = some (.int .i64 (xs.getD (k * 3) 0)) := by rw [HB.out.cell (p := ⟨b, off + k * 3, none⟩) hbl]; exact hc _ (by omega)
      have q1 : wr.cell? ⟨b, off + k * 3 + 1, none⟩ = some (.int .i64 (xs.getD (k * 3 + 1) 0)) := by rw [HB.out.cell (p := ⟨b, off + k * 3 + 1, none⟩) hbl]; exact hc (k * 3 + 1) (by omega)
      have q2 : wr.cell? ⟨b, off + k * 3 + 2, none⟩ = some (.int .i64 (xs.getD (k * 3 + 2) 0)) := by rw [HB.out.cell (p := ⟨b, off + k * 3 + 2, none⟩) hbl]; exact hc (k * 3 + 2) (by omega)
      have TSk := Lib.hid (TS.out k)
      obtain ⟨f1, f2, f3, f4, f5, f6⟩ := edg_true (EB.out k hlt)
      clear hc hbl
      generalize xs.getD (k * 3) 0 = f at *
      generalize xs.getD (k * 3 + 1) 0 = t at *
      generalize xs.getD (k * 3 + 2) 0 = r at *
      have b1 : (0 : Int) ≤ (k : Int) := by omega
      have b2 : (k : Int) < (m : Int) := by omega
      have sw := HB.out.size
      go_wp2_with (at_builtin; refine wpList_append_own _ rfl _ _ 38 rfl (w.heap.size) 54 i0 (.agg #[.int .i64 0, .int .i64 0, .int .i64 0]) 3 24 Try.underlying38 HI.out hz0 hz1 hz2 rfl (by decide) _ _ _ rfl (World.ownsRow.alloc (World.ownsRow.alloc HR.out _) _) ⟨wr.heap.size + 1, 0, none⟩ 1 1 [.int .i64 (n - 1 - t), .int .i64 (n - 1 - f), .int .i64 r] rfl rfl ?c1 ?c2 ?c3 ?c4 ?c5 ?_)
      case c1 =>
        intro j u hj
        match j, hj with
        | 0, hj => simp at hj; subst hj; simp [Addr.add]
        | 1, hj => simp at hj; subst hj; simp [Addr.add]
        | 2, hj => simp at hj; subst hj; simp [Addr.add]
      case c2 => intro u hu; simp at hu; rcases hu with rfl | rfl | rfl <;> rfl
      case c3 => unfold maxLen; omega
      case c4 => omega
      case c5 => simp; omega
      intro v' w5 hown' hgrow _
      have R1 : Hid (RowP w5 w.heap.size v' (k + 1) (M (k + 1))) := by rw [TSk.out]; exact edgP_snoc hown'
      have R2 : Hid (Below w.heap.size w w5) := ((HB.out.alloc sw _).alloc (by simp; omega) _).grown hgrow (by simp; omega) (fun g hg => (World.ownsRow.lt HR.out g hg).1)
      clear hown' hgrow
      go_wp2
      go_roundw
      case rel => exact ⟨k + 1, by omega, by go_num, R1.out, R2.out⟩
      case measure => simp [intOf]; omega
    · obtain rfl : k = m := by omega
      go_wp2
      go_ret
      exact ⟨_, rfl, HR.out, HB.out⟩

set_option maxHeartbeats 4000000 in
set_option maxRecDepth 100000 in
theorem c_turnEdges (n : Int) (m : Nat) (xs : List Int) (v : Value) (w : World) (hl : m ≤ 1048576) (hn : netW n m xs = true) (h : SeenP w v m xs) :
    Calls Try.prog 53 #[.int .i64 n, v] w (GivesP w m (turL n xs m)) := by
  have HS := Lib.hid h
  obtain ⟨i0, hi0, hz0, hz1, hz2⟩ := info_parts edge_info
  obtain ⟨n1, n2, n3, hE⟩ := netW_true hn
  obtain ⟨A, c, rfl, hm, hx, hA⟩ := h
  clear hA
  have hmk : ∀ u : World, (Instr.makeSlice 38 (.int .i64 (m : Int)) (.int .i64 (m : Int))).run Try.prog u = .ok (.slice (some ⟨u.heap.size, 0, none⟩) m m) (u.alloc (.cells (madeCells #[.int .i64 0, .int .i64 0, .int .i64 0] (m * 3)) 54)) := fun u => by
    have := run_make (P := Try.prog) u 38 54 i0 (.agg #[.int .i64 0, .int .i64 0, .int .i64 0]) Try.underlying38 hi0 hz0 .i64 .i64 (m : Int) (m : Int) (by omega) (by omega) (by rw [hz2]; omega) (by omega)
    simpa [hz1, Value.cells] using this
  have EB : Hid (∀ k : Nat, k < m → edgB n (xs.getD (k * 3) 0) (xs.getD (k * 3 + 1) 0) (xs.getD (k * 3 + 2) 0) = true) := fun k hk => edgAll_at hE hk
  have T0 : Hid (turM n xs m 0 = List.replicate (m * 3) 0) := turM_zero n xs m
  have TA : Hid (turM n xs m m = turL n xs m) := turM_all n xs m
  have TS : Hid (∀ k : Nat, k < m → (((turM n xs m k).set (k * 3) (n - 1 - xs.getD (k * 3 + 1) 0)).set (k * 3 + 1) (n - 1 - xs.getD (k * 3) 0)).set (k * 3 + 2) (xs.getD (k * 3 + 2) 0) = turM n xs m (k + 1)) := turM_set n xs m
  clear hE hn hx hi0 hz0 hz1 hz2
  generalize turM n xs m = M at *
  go_enter Try.func53, Try.ntmps53
  have H0 : Hid (RowP (w.alloc (.cells (madeCells #[.int .i64 0, .int .i64 0, .int .i64 0] (m * 3)) 54)) w.heap.size (.slice (some ⟨w.heap.size, 0, none⟩) m m) m (M 0)) := by rw [T0.out]; exact rowP_zeros w _ hm
  clear hm
  have hmk1 := hmk w
  clear hmk
  go_wp2
  clear hmk1
  go_loopw [13] (fun i wr => ∃ k : Nat, k ≤ m ∧ i = .int .i64 k ∧ RowP wr w.heap.size (.slice (some ⟨w.heap.size, 0, none⟩) m m) m (M k) ∧ Below w.heap.size w wr ∧ w.heap.size < wr.heap.size) (fun i _ => m - (intOf i).toNat)
  case atStart => exact ⟨0, Nat.zero_le _, rfl, H0.out, (Below.refl _ _).alloc (Nat.le_refl _) _, by simp⟩
  case round =>
    obtain ⟨k, hk, rfl, hr, hb, hs⟩ := hrel
    have HR := Lib.hid hr
    have HB := Lib.hid hb
    clear hr hb
    by_cases hlt : k < m
    · obtain ⟨A2, c2, e2, _, _, hA⟩ := HS.out
      simp at e2
      obtain ⟨rfl, rfl⟩ := e2
      obtain ⟨b, off, rfl, hbl, hcc⟩ := hA (by omega)
      clear hA
      have q0 : wr.cell? ⟨b, off + k * 3, none⟩ = some (.int .i64 (xs.getD (k * 3) 0)) := by rw [HB.out.cell (p := ⟨b, off + k * 3, none⟩) hbl]; exact hcc _ (by omega)
      have q1 : wr.cell? ⟨b, off + k * 3 + 1, none⟩ = some (.int .i64 (xs.getD (k * 3 + 1) 0)) := by rw [HB.out.cell (p := ⟨b, off + k * 3 + 1, none⟩) hbl]; exact hcc (k * 3 + 1) (by omega)
      have q2 : wr.cell? ⟨b, off + k * 3 + 2, none⟩ = some (.int .i64 (xs.getD (k * 3 + 2) 0)) := by rw [HB.out.cell (p := ⟨b, off + k * 3 + 2, none⟩) hbl]; exact hcc (k * 3 + 2) (by omega)
      have TSk := Lib.hid (TS.out k hlt)
      obtain ⟨f1, f2, f3, f4, f5, f6⟩ := edg_true (EB.out k hlt)
      clear hcc hbl
      generalize xs.getD (k * 3) 0 = f at *
      generalize xs.getD (k * 3 + 1) 0 = t at *
      generalize xs.getD (k * 3 + 2) 0 = r at *
      have b1 : (0 : Int) ≤ (k : Int) := by omega
      have b2 : (k : Int) < (m : Int) := by omega
      have N1 := Lib.hid (HR.out.set_ (k * 3) (n - 1 - t)).1
      have N2 := Lib.hid (N1.out.set_ (k * 3 + 1) (n - 1 - f)).1
      have N3 := Lib.hid (N2.out.set_ (k * 3 + 2) r).1
      rw [TSk.out] at N3
      clear N1 N2
      have N4 : Hid (RowP ((((wr.setCell ⟨w.heap.size, k * 3, none⟩ (.int .i64 (n - 1 - t))).setCell ⟨w.heap.size, k * 3 + 1, none⟩ (.int .i64 (n - 1 - f))).setCell ⟨w.heap.size, k * 3 + 2, none⟩ (.int .i64 r)).alloc (.cells #[.int .i64 f, .int .i64 t, .int .i64 r] 54)) w.heap.size (.slice (some ⟨w.heap.size, 0, none⟩) m m) m (M (k + 1))) := World.ownsRow.alloc N3.out _
      have NB : Hid (Below w.heap.size w ((((wr.setCell ⟨w.heap.size, k * 3, none⟩ (.int .i64 (n - 1 - t))).setCell ⟨w.heap.size, k * 3 + 1, none⟩ (.int .i64 (n - 1 - f))).setCell ⟨w.heap.size, k * 3 + 2, none⟩ (.int .i64 r)).alloc (.cells #[.int .i64 f, .int .i64 t, .int .i64 r] 54))) := (((HB.out.setCell (Nat.le_refl _) _).setCell (Nat.le_refl _) _).setCell (Nat.le_refl _) _).alloc (by simp; omega) _
      have p0 := HR.out.cell (k * 3) (by omega)
      have p1 := HR.out.cell (k * 3 + 1) (by omega)
      have p2 := HR.out.cell (k * 3 + 2) (by omega)
      have f0 := HR.out.frozen (k * 3)
      have f1' := HR.out.frozen (k * 3 + 1)
      have f2' := HR.out.frozen (k * 3 + 2)
      generalize (M k).getD (k * 3) 0 = y0 at *
      generalize (M k).getD (k * 3 + 1) 0 = y1 at *
      generalize (M k).getD (k * 3 + 2) 0 = y2 at *
      go_wp2
      go_roundw
      case rel => exact ⟨k + 1, by omega, by go_num, N4.out, NB.out, by simpa using Nat.lt_succ_of_lt hs⟩
      case measure => simp [intOf]; omega
    · obtain rfl : k = m := by omega
      have G : Hid (RowP wr w.heap.size (.slice (some ⟨w.heap.size, 0, none⟩) k k) k (turL n xs k)) := by rw [← TA.out]; exact HR.out
      have GB : Hid (Below w.heap.size w wr) := HB.out
      go_wp2
      go_ret
      exact ⟨_, rfl, G.out, GB.out⟩

end Go.Proofs.Ytdgkgnlilcbggaa
