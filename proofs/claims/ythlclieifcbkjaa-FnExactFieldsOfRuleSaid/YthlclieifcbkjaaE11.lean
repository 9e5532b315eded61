/-
  Contracts: DepthOfRule, in the program and in the model.
-/
import Derived.Test.YthlclieifcbkjaaE10
namespace Go.Proofs.Ythlclieifcbkjaa
open Go.RowKit
set_option linter.unusedVariables false

def depV (n : Nat) (xs : List Int) : Int := if ruleB n xs then (dps (kdf xs) n).getD (n - 1) 0 else 0
theorem rule_tree {n : Nat} {xs : List Int} (h : ruleB n xs = true) : ∃ t, At (kdf xs) t (n - 1) ∧ t.size = n ∧ 1 ≤ n ∧ n ≤ 39 ∧ ParTo xs n ∧ FullTo (kdf xs) n ∧ (dps (kdf xs) n).getD (n - 1) 0 = (t.depth : Int) := by
  obtain ⟨n1, n2, ht, _⟩ := rule_size h
  obtain ⟨hp, f, l⟩ := treeB_true ht
  obtain ⟨t, hA, hs, _, hd⟩ := tree_of f l
  exact ⟨t, hA, hs, n1, n2, hp, f, hd⟩
theorem rule_yes {n : Nat} {xs : List Int} (h : ruleB n xs = true) : treeB n xs = true ∧ (parAll n xs && fullB (kdf xs) n) = true := by
  obtain ⟨_, _, ht, _⟩ := rule_size h
  refine ⟨ht, ?_⟩
  unfold treeB at ht
  simp only [Bool.and_eq_true] at ht ⊢
  exact ht.1

set_option maxHeartbeats 4000000 in
set_option maxRecDepth 100000 in
theorem c_DepthOfRule (n : Nat) (xs : List Int) (v : Value) (w : World) (hl : n ≤ 1048576) (h : SeenC w v n xs) :
    Calls Try.prog 17 #[v] w fun e w' => e = .returned (.tuple #[.int .i64 (depV n xs), .bool (ruleB n xs)]) ∧ Below w.heap.size w w' := by
  have HS := Lib.hid h
  have C1 := Lib.hid (c_IsRule n xs v w hl h.1 h.2)
  unfold depV
  cases hr : ruleB n xs
  · rw [hr] at C1
    simp only [Bool.false_eq_true, if_false]
    obtain ⟨A, c, rfl, _, _, _⟩ := h.1
    clear hr h
    go_enter Try.func17, Try.ntmps17
    go_wp2_with fail
    refine C1.out.mono ?_
    rintro e w1 ⟨rfl, hb1⟩
    have HB1 := Lib.hid hb1
    clear hb1
    go_wp2
    go_ret2
    exact ⟨rfl, HB1.out⟩
  · rw [hr] at C1
    obtain ⟨t, hA, hs, n1, n2, hp, f, hd⟩ := rule_tree hr
    obtain ⟨b, off, c, rfl, hb, hcell⟩ := seen_cells h.1 (by omega)
    have hnc := h.2 _ _ _ rfl
    have CD : Hid (∀ u, Below w.heap.size w u → Calls Try.prog 41 #[.slice (some ⟨b, off, none⟩) n c] u fun e w' => e = .returned (.int .i64 (t.depth : Int)) ∧ Below u.heap.size u w') := fun u hu => by
      have := c_depthOf (kdf xs) b n t off 0 c (n - 1) u (by omega) hA (by omega) (by omega) (by omega) (Nat.lt_of_lt_of_le hb hu.size)
        (by rw [hs]; intro j hj; rw [Nat.zero_add]; exact parB_kind (hp j hj)) (by rw [hs]; intro j hj; rw [Nat.zero_add]; exact (hcell u hu j hj).1)
      rw [hs] at this
      exact this
    simp only [if_true]
    rw [hd]
    clear hA hs hp f hd hcell hr h hnc
    go_enter Try.func17, Try.ntmps17
    go_wp2_with fail
    refine C1.out.mono ?_
    rintro e w1 ⟨rfl, hb1⟩
    have HB1 := Lib.hid hb1
    clear hb1
    go_wp2_with fail
    refine (CD.out w1 HB1.out).mono ?_
    rintro e w2 ⟨rfl, hb2⟩
    have HB2 : Hid (Below w.heap.size w w2) := HB1.out.trans (hb2.mono HB1.out.size)
    clear hb2
    go_wp2
    go_ret2
    exact ⟨rfl, HB2.out⟩

set_option maxHeartbeats 4000000 in
set_option maxRecDepth 100000 in
theorem c_DepthOfRuleS (n : Nat) (xs : List Int) (v : Value) (w : World) (hl : n ≤ 1048576) (h : SeenC w v n xs) :
    Calls Try.prog 16 #[v] w fun e w' => e = .returned (.tuple #[.int .i64 (depV n xs), .bool (ruleB n xs)]) ∧ Below w.heap.size w w' := by
  have HS := Lib.hid h.1
  have C1 := Lib.hid (c_ruGood n xs v w hl h.1)
  unfold depV
  cases hr : ruleB n xs
  · rw [hr] at C1
    simp only [Bool.false_eq_true, if_false]
    obtain ⟨A, c, rfl, _, _, _⟩ := h.1
    clear hr h
    go_enter Try.func16, Try.ntmps16
    go_wp2_with fail
    refine C1.out.mono ?_
    rintro e w1 ⟨rfl, hb1⟩
    have HB1 := Lib.hid hb1
    clear hb1
    go_wp2
    go_ret2
    exact ⟨rfl, HB1.out⟩
  · rw [hr] at C1
    obtain ⟨n1, n2, _, _⟩ := rule_size hr
    obtain ⟨y1, y2⟩ := rule_yes hr
    have CT : Hid (∀ u, Below w.heap.size w u → Calls Try.prog 43 #[v] u (GivesTree u (kidsTo (kdf xs) n) true true)) := fun u hu => by
      have := c_ruTree n xs v u n2 (by omega) (HS.out.below hu)
      rw [y1, y2] at this
      exact this
    have CD : Hid (∀ (v : Value) (B : Nat) (u : World), Rows u B u.heap.size v (kidsTo (kdf xs) n) → Calls Try.prog 44 #[v] u (GivesRow u (dps (kdf xs) n))) := fun v B u hu => c_ruDepths (kdf xs) n _ _ v u n2 (by omega) hu
    have HL : Hid ((dps (kdf xs) n).length = n) := dps_len _ _
    obtain ⟨p, hp⟩ : ∃ p, n = p + 1 := ⟨n - 1, by omega⟩
    rw [show n - 1 = p by omega]
    have HP := Lib.hid hp
    obtain ⟨A, c, rfl, _, _, _⟩ := h.1
    simp only [if_true]
    clear hr y1 y2 hp h
    generalize dps (kdf xs) n = D at *
    generalize kidsTo (kdf xs) n = KT at *
    obtain ⟨dz, hdz⟩ : ∃ dz, D.getD p 0 = dz := ⟨_, rfl⟩
    have HDZ := Lib.hid hdz
    rw [hdz]
    clear hdz
    go_enter Try.func16, Try.ntmps16
    go_wp2_with fail
    refine C1.out.mono ?_
    rintro e w1 ⟨rfl, hb1⟩
    have HB1 := Lib.hid hb1
    clear hb1
    go_wp2_with fail
    refine (CT.out w1 HB1.out).mono ?_
    rintro e w2 ⟨tv, rfl, hrs, hb2⟩
    have CD2 := Lib.hid (CD.out tv _ w2 (hrs rfl))
    have HB2 : Hid (Below w.heap.size w w2) := HB1.out.trans (hb2.mono HB1.out.size)
    clear hrs hb2
    go_wp2_with fail
    refine CD2.out.mono ?_
    rintro e w3 ⟨dv, rfl, hr3, hb3⟩
    have HB3 : Hid (Below w.heap.size w w3) := HB2.out.trans (hb3.mono HB2.out.size)
    obtain ⟨g, gc, rfl, _, _⟩ := hr3.form (by rw [HL.out]; omega)
    have q0 : w3.cell? ⟨g, p, none⟩ = some (.int .i64 dz) := by rw [← HDZ.out]; exact hr3.cell p (by rw [HL.out, HP.out]; omega)
    clear hr3 hb3
    rw [HL.out]
    have hi : ((n : Int) - 1) = (p : Int) := by have := HP.out; omega
    have p1 : (0 : Int) ≤ (p : Int) := by omega
    have p2 : (p : Int) < (n : Int) := by have := HP.out; omega
    go_wp2
    go_ret2
    exact ⟨rfl, HB3.out⟩
end Go.Proofs.Ythlclieifcbkjaa
