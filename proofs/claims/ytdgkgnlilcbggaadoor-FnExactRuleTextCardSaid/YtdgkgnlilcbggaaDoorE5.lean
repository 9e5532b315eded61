/-
  Contracts: how deep a rule is, in the program.
-/
import Derived.Test.YtdgkgnlilcbggaaDoorE4
namespace Go.Proofs.YtdgkgnlilcbggaaDoor
open Go.RowKit
set_option linter.unusedVariables false

theorem Tr.depth_le : ∀ t : Tr, t.depth ≤ t.size
  | .leaf => by simp [Tr.depth, Tr.size]
  | .two a b => by have := Tr.depth_le a; have := Tr.depth_le b; have := a.size_pos; have := b.size_pos; simp only [Tr.depth, Tr.size]; omega
  | .four a b c d => by have := Tr.depth_le a; have := Tr.depth_le b; have := Tr.depth_le c; have := Tr.depth_le d; have := a.size_pos; simp only [Tr.depth, Tr.size]; omega
theorem mxd_le (kd : Nat → Tr) (K : Nat) : ∀ m, (∀ j, j < m → (kd j).size ≤ K) → mxd kd m ≤ K
  | 0, _ => Nat.zero_le _
  | m + 1, h => by
    have := mxd_le kd K m (fun j hj => h j (by omega))
    have := h m (by omega)
    have := (kd m).depth_le
    rw [mxd]; omega

set_option maxHeartbeats 4000000 in
set_option maxRecDepth 100000 in
theorem c_depthOf (ks : Nat → Int) (b K : Nat) : ∀ (t : Tr) (o lo c e : Nat) (w : World), t.size ≤ K → At ks t e → lo + t.size = e + 1 → t.size ≤ 1048576 → t.size ≤ c → b < w.heap.size →
    (∀ j : Nat, j < t.size → 0 ≤ ks (lo + j) ∧ ks (lo + j) ≤ 8) → (∀ j : Nat, j < t.size → w.cell? ⟨b, o + j * 2, none⟩ = some (.int .i64 (ks (lo + j)))) →
    Calls Tryd.prog 21 #[.slice (some ⟨b, o, none⟩) t.size c] w fun e w' => e = .returned (.int .i64 (t.depth : Int)) ∧ Below w.heap.size w w' := by
  induction K with
  | zero =>
    intro t o lo c e w hK
    have := t.size_pos
    omega
  | succ K IHK =>
    intro t o lo c e w hK hA hlo hl hc hb hv hcell
    obtain ⟨m, kd, of, S, hm4, hsm, hdep, hs5, hs6⟩ := split_ex hA hlo
    clear hs5 hs6
    have IH : Hid (∀ (j : Nat) (u : World), j < m → Below w.heap.size w u → Calls Tryd.prog 21 #[.slice (some ⟨b, o + of j * 2, none⟩) (kd j).size (c - of j)] u fun e w' => e = .returned (.int .i64 ((kd j).depth : Int)) ∧ Below u.heap.size u w') := fun j u hj hu => by
      have h1 := hsm j hj
      have h2 := S.next j hj
      have h3 := S.le (j := j + 1) (by omega)
      have h4 := (kd j).size_pos
      refine IHK (kd j) (o + of j * 2) (lo + of j) (c - of j) (lo + of (j + 1) - 1) u (by omega) (S.at_ j hj) (by omega) (by omega) (by omega) (Nat.lt_of_lt_of_le hb hu.size) (fun q hq => ?_) (fun q hq => ?_)
      · rw [Nat.add_assoc]; exact hv _ (by omega)
      · rw [hu.cell (p := ⟨b, o + of j * 2 + q * 2, none⟩) hb, show o + of j * 2 + q * 2 = o + (of j + q) * 2 by omega, Nat.add_assoc]
        exact hcell _ (by omega)
    have CN := Lib.hid (c_neededRules ks b o lo t.size c m kd of w S hm4 hl hc hb hv hcell)
    have HX : Hid (∀ j : Nat, j < m → mxd kd (j + 1) = max (mxd kd j) (kd j).depth) := fun j _ => rfl
    have HBx : Hid (∀ j : Nat, j ≤ m → mxd kd j ≤ 1048576) := fun j hj => mxd_le kd 1048576 j (fun q hq => by have := hsm q (by omega); omega)
    have HBd : Hid (∀ j : Nat, j < m → (kd j).depth ≤ 1048576) := fun j hj => by have := hsm j hj; have := (kd j).depth_le; omega
    have H0 : Hid (mxd kd 0 = 0) := rfl
    rw [hdep]
    clear hA hlo hv hcell hsm hdep S IHK
    generalize t.size = n at *
    generalize mxd kd = D at *
    go_enter Tryd.func21, Tryd.ntmps21
    go_wp2_with fail
    refine CN.out.mono ?_
    rintro e w1 ⟨g, rfl, hg0, hg1, hb1, hcs⟩
    have HB1 := Lib.hid hb1
    have HC1 := Lib.hid hcs
    clear hb1 hcs
    go_wp2_with fail
    go_loopw [3, 9] (fun q i wr => ∃ j : Nat, j ≤ m ∧ i = .int .i64 j ∧ q = .int .i64 (D j : Int) ∧ Below w1.heap.size w1 wr) (fun _ i _ => m - (intOf i).toNat)
    case atStart => exact ⟨0, Nat.zero_le _, rfl, by rw [H0.out]; rfl, Below.refl _ _⟩
    case round =>
      obtain ⟨j, hj, rfl, rfl, hbw⟩ := hrel
      have HB := Lib.hid hbw
      have HW : Hid (Below w.heap.size w wr) := HB1.out.trans (hbw.mono HB1.out.size)
      clear hbw
      by_cases hlt : j < m
      · have q0 : wr.cell? ⟨g, j, none⟩ = some (.slice (some ⟨b, o + of j * 2, none⟩) (kd j).size (c - of j)) := by rw [HB.out.cell (p := ⟨g, j, none⟩) hg1]; exact HC1.out j hlt
        have i1 : (0 : Int) ≤ (j : Int) := by omega
        have i2 : (j : Int) < (m : Int) := by omega
        have C := Lib.hid (IH.out j wr hlt HW.out)
        have X := Lib.hid (HX.out j hlt)
        have b1 := HBx.out j hj
        have b2 := HBd.out j hlt
        generalize (kd j).depth = d at *
        generalize (kd j).size = z at *
        generalize of j = p at *
        go_wp2_with fail
        refine C.out.mono ?_
        rintro e w2 ⟨rfl, hb2⟩
        have HB2 : Hid (Below w1.heap.size w1 w2) := HB.out.trans (hb2.mono HB.out.size)
        clear hb2
        by_cases hd : D j ≤ d
        · have X2 : Hid (D (j + 1) = d) := by rw [X.out]; exact Nat.max_eq_right hd
          have hd' : (D j : Int) ≤ (d : Int) := by omega
          clear hd
          go_wp2
          go_roundw
          case rel => exact ⟨j + 1, by omega, by go_num, by rw [X2.out]; congr 1; omega, HB2.out⟩
          case measure => simp [intOf]; omega
        · have X2 : Hid (D (j + 1) = D j) := by rw [X.out]; exact Nat.max_eq_left (by omega)
          have hd' : ¬ (D j : Int) ≤ (d : Int) := by omega
          clear hd
          go_wp2
          go_roundw
          case rel => exact ⟨j + 1, by omega, by go_num, by rw [X2.out]; congr 1; omega, HB2.out⟩
          case measure => simp [intOf]; omega
      · obtain rfl : j = m := by omega
        have bx := HBx.out j (Nat.le_refl _)
        go_wp2
        go_ret
        exact ⟨ret_int (by push_cast; rfl), HW.out⟩
end Go.Proofs.YtdgkgnlilcbggaaDoor
