/-
  Contracts: the rules that the last part of a list needs, and how deep a rule is, in the program.
-/
import Derived.Test.YtdgkgnlilcbggaaDoorE3
import Derived.Test.YtdgkgnlilcbggaaDoorU2
import Derived.Test.YtdgkgnlilcbggaaDoorM1
namespace Go.Proofs.YtdgkgnlilcbggaaDoor
open Go.RowKit
set_option linter.unusedVariables false

/-- A list of m slices of one list of parts: slice j has the parts of tree j. -/
def GivesWins (w : World) (b o c m : Nat) (kd : Nat → Tr) (of : Nat → Nat) (e : Ending) (w' : World) : Prop :=
  ∃ g, e = .returned (.slice (some ⟨g, 0, none⟩) m m) ∧ w.heap.size ≤ g ∧ g < w'.heap.size ∧ Below w.heap.size w w' ∧ ∀ j, j < m → w'.cell? ⟨g, j, none⟩ = some (.slice (some ⟨b, o + of j * 2, none⟩) (kd j).size (c - of j))
def kz (j : Nat) : Int := (j : Int) - 1
theorem kz_zero : kz 0 = -1 := rfl
theorem kz_succ (i : Nat) : kz (i + 1) = (i : Int) := by unfold kz; omega
theorem parts_info : (Tryd.prog.info? 26).map (fun i => (i.zero, i.size, i.bytes)) = some (some (.slice none 0 0), 1, 24) := by kernel_rfl
/-- The slices from j on are stored, the others are nil. -/
def winsTo (b o c m : Nat) (kd : Nat → Tr) (of : Nat → Nat) (j : Nat) : List Value :=
  (List.range m).map fun q => if j ≤ q then .slice (some ⟨b, o + of q * 2, none⟩) (kd q).size (c - of q) else .slice none 0 0
theorem winsTo_set (b o c m : Nat) (kd : Nat → Tr) (of : Nat → Nat) (i : Nat) : (winsTo b o c m kd of (i + 1)).set i (.slice (some ⟨b, o + of i * 2, none⟩) (kd i).size (c - of i)) = winsTo b o c m kd of i := by
  apply List.ext_getElem
  · simp [winsTo]
  · intro t h1 h2
    simp only [List.length_set] at h1
    simp only [winsTo, List.getElem_set, List.getElem_map, List.getElem_range]
    by_cases e : i = t
    · subst e; simp
    · simp only [e, if_false]
      by_cases l : i ≤ t
      · rw [if_pos (by omega), if_pos l]
      · rw [if_neg (by omega), if_neg l]
theorem winsTo_all (b o c m : Nat) (kd : Nat → Tr) (of : Nat → Nat) : winsTo b o c m kd of m = List.replicate m (.slice none 0 0) := by
  apply List.ext_getElem
  · simp [winsTo]
  · intro t h1 h2
    simp [winsTo] at h1
    simp [winsTo]
    omega
theorem winsTo_get {b o c m : Nat} {kd : Nat → Tr} {of : Nat → Nat} {j : Nat} (h : j < m) : (winsTo b o c m kd of 0)[j]? = some (.slice (some ⟨b, o + of j * 2, none⟩) (kd j).size (c - of j)) := by
  simp [winsTo, h]
theorem wins_zeros (w : World) (m : Nat) (hn : m ≤ maxLen) : (w.alloc (.cells (madeCells #[.slice none 0 0] m) 26)).ownsRow w.heap.size 26 1 (.slice (some ⟨w.heap.size, 0, none⟩) m m) m (List.replicate m (.slice none 0 0)) := by
  have := World.ownsRow_lit (base := w.heap.size) (e := 26) (size := 1) w (madeCells #[.slice none 0 0] m) m (Nat.le_refl _) hn (by rw [size_madeCells]; simp)
  rw [toList_madeCells_one] at this
  exact this

set_option maxHeartbeats 4000000 in
set_option maxRecDepth 100000 in
theorem c_neededRules (ks : Nat → Int) (b o lo len c m : Nat) (kd : Nat → Tr) (of : Nat → Nat) (w : World) (S : Split ks lo len m kd of) (hm4 : m ≤ 4) (hl : len ≤ 1048576) (hcap : len ≤ c) (hb : b < w.heap.size)
    (hv : ∀ j : Nat, j < len → 0 ≤ ks (lo + j) ∧ ks (lo + j) ≤ 8) (hc : ∀ j : Nat, j < len → w.cell? ⟨b, o + j * 2, none⟩ = some (.int .i64 (ks (lo + j)))) :
    Calls Tryd.prog 33 #[.slice (some ⟨b, o, none⟩) len c] w (GivesWins w b o c m kd of) := by
  obtain ⟨i0, hi0, hz0, hz1, hz2⟩ := info_parts parts_info
  have hmk : (Instr.makeSlice 54 (.int .i64 (m : Int)) (.int .i64 (m : Int))).run Tryd.prog w = .ok (.slice (some ⟨w.heap.size, 0, none⟩) m m) (w.alloc (.cells (madeCells #[.slice none 0 0] m) 26)) := by
    have := run_make (P := Tryd.prog) w 54 26 i0 (.slice none 0 0) Tryd.underlying54 hi0 hz0 .i64 .i64 (m : Int) (m : Int) (by omega) (by omega) (by rw [hz2]; omega) (by omega)
    simpa [hz1, Value.cells] using this
  have H0 : Hid ((w.alloc (.cells (madeCells #[.slice none 0 0] m) 26)).ownsRow w.heap.size 26 1 (.slice (some ⟨w.heap.size, 0, none⟩) m m) m (winsTo b o c m kd of m)) := by rw [winsTo_all]; exact wins_zeros w m (by unfold maxLen; omega)
  have HS : Hid (∀ i : Nat, (winsTo b o c m kd of (i + 1)).set i (.slice (some ⟨b, o + of i * 2, none⟩) (kd i).size (c - of i)) = winsTo b o c m kd of i) := winsTo_set b o c m kd of
  have HG : Hid (∀ j : Nat, j < m → (winsTo b o c m kd of 0)[j]? = some (.slice (some ⟨b, o + of j * 2, none⟩) (kd j).size (c - of j))) := fun j hj => winsTo_get hj
  have HL : Hid (∀ i : Nat, (winsTo b o c m kd of i).length = m) := fun i => by simp [winsTo]
  have hnd := S.nd
  obtain rfl : len = of m + 1 := S.last.symm
  rw [show lo + (of m + 1) - 1 = lo + of m by omega] at hnd
  have HD : Hid (ndK (ks (lo + of m)) = m) := hnd
  have HV : Hid (∀ j : Nat, j < of m + 1 → 0 ≤ ks (lo + j) ∧ ks (lo + j) ≤ 8) := hv
  have HC : Hid (∀ j : Nat, j < of m + 1 → w.cell? ⟨b, o + j * 2, none⟩ = some (.int .i64 (ks (lo + j)))) := hc
  have HO := Lib.hid S
  obtain ⟨k0, k8⟩ := hv (of m) (by omega)
  have q0 := hc (of m) (by omega)
  have hz := Lib.hid S.zero
  clear hv hc hi0 hz0 hz1 hz2 hnd S
  have CN := Lib.hid (c_countNeeds (ks (lo + of m)) w k0 k8)
  rw [HD.out] at CN
  generalize winsTo b o c m kd of = V at *
  generalize ks (lo + of m) = kk at *
  go_enter Tryd.func33, Tryd.ntmps33
  go_wp2_with fail
  refine CN.out.mono ?_
  rintro e w1 ⟨rfl, rfl⟩
  go_wp2_with fail
  clear hmk
  go_loopw [3, 5] (fun bf k wr => ∃ j : Nat, j ≤ m ∧ k = .int .i64 (kz j) ∧ bf = .slice (some ⟨b, o, none⟩) (of j) c ∧ wr.ownsRow w.heap.size 26 1 (.slice (some ⟨w.heap.size, 0, none⟩) m m) m (V j) ∧ Below w.heap.size w wr) (fun _ k _ => (intOf k + 1).toNat)
  case atStart => exact ⟨m, Nat.le_refl _, rfl, rfl, H0.out, (Below.refl _ _).alloc (Nat.le_refl _) _⟩
  case round =>
    obtain ⟨j, hj, rfl, rfl, hr, hbw⟩ := hrel
    have HR := Lib.hid hr
    have HB := Lib.hid hbw
    clear hr hbw q0
    cases j with
    | zero =>
      rw [kz_zero]
      have G : Hid (GivesWins w b o c m kd of (.returned (.slice (some ⟨w.heap.size, 0, none⟩) m m)) wr) := ⟨w.heap.size, rfl, Nat.le_refl _, (World.ownsRow.lt HR.out _ rfl).2, HB.out, fun j hj => by rw [World.ownsRow.cellAt HR.out j (by omega)]; exact HG.out j hj⟩
      go_wp2
      go_ret
      exact G.out
    | succ i =>
      rw [kz_succ]
      have hN := HO.out.next i (by omega)
      have hu := HO.out.le (j := i + 1) hj
      have A1 := HO.out.at_ i (by omega)
      have zp := (kd i).size_pos
      have CL := Lib.hid (c_lastSize ks b o lo (of (i + 1)) c (kd i).size wr (by omega) (by omega) (fun j hj => HV.out j (by omega)) (fun j hj => by rw [HB.out.cell (p := ⟨b, o + j * 2, none⟩) hb]; exact HC.out j (by omega)) (A1.last (by omega)))
      have S1 := HS.out i
      have q1 : wr.cell? ⟨w.heap.size, i, none⟩ = some ((V (i + 1)).getD i undef) := by
        rw [World.ownsRow.cellAt HR.out i (by omega)]
        have : i < (V (i + 1)).length := by rw [HL.out]; omega
        simp [this]
      have q2 : wr.frozen? ⟨w.heap.size, i, none⟩ = false := World.ownsRow.frozenAt HR.out i
      have N1 := Lib.hid (World.ownsRow.stored HR.out i (.slice (some ⟨b, o + of i * 2, none⟩) (kd i).size (c - of i)))
      rw [S1] at N1
      clear S1 A1
      generalize (V (i + 1)).getD i undef = t at q1
      obtain ⟨p, hp⟩ : ∃ p, of i = p := ⟨_, rfl⟩
      obtain ⟨z, hz'⟩ : ∃ z, (kd i).size = z := ⟨_, rfl⟩
      rw [hp, hz'] at hN N1
      rw [hz'] at CL zp
      have hs : ((of (i + 1) : Int) - (z : Int)) = (p : Int) := by omega
      have hs2 : of (i + 1) - p = z := by omega
      have i1 : (0 : Int) ≤ (i : Int) := by omega
      have i2 : (i : Int) < (m : Int) := by omega
      have p1 : (0 : Int) ≤ (p : Int) := by omega
      have p2 : (p : Int) ≤ ((of (i + 1) : Nat) : Int) := by omega
      have p3 : (p : Int) ≤ (c : Int) := by omega
      have p4 : ¬ c = p := by omega
      have p5 : (p : Int) ≤ 1048576 := by omega
      have HP := Lib.hid hp
      clear hp hN hz' hu
      go_wp2_with fail
      refine CL.out.mono ?_
      rintro e w2 ⟨rfl, rfl⟩
      go_wp2
      go_roundw
      case rel => exact ⟨i, by omega, rfl, by rw [HP.out], N1.out.1, HB.out.setCell (Nat.le_refl _) _⟩
      case measure => simp [intOf]
end Go.Proofs.YtdgkgnlilcbggaaDoor
