/-
  Contracts: PutField, in the program and in the model.
-/
import Derived.Test.YthlclieifcbkjaaE10
namespace Go.Proofs.Ythlclieifcbkjaa
open Go.RowKit
set_option linter.unusedVariables false

/-- The numbers of the first k parts, field a replaced by another rule; how many parts they are. -/
def putTo (xs : List Int) (a : Int) (xs2 : List Int) : Nat → List Int
  | 0 => []
  | k + 1 => putTo xs a xs2 k ++ (if xs.getD (k * 2) 0 = 1 ∧ xs.getD (k * 2 + 1) 0 = a then xs2 else [xs.getD (k * 2) 0, xs.getD (k * 2 + 1) 0])
def cntTo (xs : List Int) (a : Int) (n2 : Nat) : Nat → Nat
  | 0 => 0
  | k + 1 => cntTo xs a n2 k + (if xs.getD (k * 2) 0 = 1 ∧ xs.getD (k * 2 + 1) 0 = a then n2 else 1)
theorem cntTo_le (xs : List Int) (a : Int) (n2 : Nat) (h0 : 1 ≤ n2) (h : n2 ≤ 39) : ∀ k, cntTo xs a n2 k ≤ 39 * k
  | 0 => Nat.le_refl _
  | k + 1 => by
    have := cntTo_le xs a n2 h0 h k
    rw [cntTo]
    split <;> omega
def putB (n : Nat) (xs : List Int) (a : Int) (n2 : Nat) (xs2 : List Int) : Bool := ruleB n xs && (decide (0 ≤ a ∧ a ≤ 4) && (ruleB n2 xs2 && ruleB (cntTo xs a n2 n) (putTo xs a xs2 n)))
def putN (n : Nat) (xs : List Int) (a : Int) (n2 : Nat) (xs2 : List Int) : Nat := if putB n xs a n2 xs2 then cntTo xs a n2 n else 0
def putL (n : Nat) (xs : List Int) (a : Int) (n2 : Nat) (xs2 : List Int) : List Int := if putB n xs a n2 xs2 then putTo xs a xs2 n else []
theorem putN_le (n : Nat) (xs : List Int) (a : Int) (n2 : Nat) (xs2 : List Int) : putN n xs a n2 xs2 ≤ 1000000 := by
  unfold putN
  split
  · rename_i h
    unfold putB at h
    simp only [Bool.and_eq_true] at h
    have := rule_size h.2.2.2
    omega
  · omega
theorem put_no {n : Nat} {xs : List Int} {a : Int} {n2 : Nat} {xs2 : List Int} (h : ruleB n xs = false ∨ ¬ (0 ≤ a ∧ a ≤ 4) ∨ ruleB n2 xs2 = false ∨ ruleB (cntTo xs a n2 n) (putTo xs a xs2 n) = false) : putB n xs a n2 xs2 = false ∧ putN n xs a n2 xs2 = 0 ∧ putL n xs a n2 xs2 = [] := by
  have : putB n xs a n2 xs2 = false := by
    unfold putB
    rcases h with h | h | h | h
    · rw [h]; rfl
    · rw [decide_eq_false h]; simp
    · rw [h]; simp
    · rw [h]; simp
  exact ⟨this, by unfold putN; rw [this]; rfl, by unfold putL; rw [this]; rfl⟩
theorem put_yes {n : Nat} {xs : List Int} {a : Int} {n2 : Nat} {xs2 : List Int} (h : ruleB n xs = true) (h1 : 0 ≤ a ∧ a ≤ 4) (h2 : ruleB n2 xs2 = true) (h3 : ruleB (cntTo xs a n2 n) (putTo xs a xs2 n) = true) : putB n xs a n2 xs2 = true ∧ putN n xs a n2 xs2 = cntTo xs a n2 n ∧ putL n xs a n2 xs2 = putTo xs a xs2 n := by
  have : putB n xs a n2 xs2 = true := by unfold putB; rw [h, decide_eq_true h1, h2, h3]; rfl
  exact ⟨this, by unfold putN; rw [this]; rfl, by unfold putL; rw [this]; rfl⟩
/-- A list of parts and a bool. -/
def GivesP2 (w : World) (n : Nat) (xs : List Int) (b : Bool) (e : Ending) (w' : World) : Prop := ∃ v, e = .returned (.tuple #[v, .bool b]) ∧ RowP w' w.heap.size v n xs ∧ Below w.heap.size w w'
theorem RowP.nil (w : World) (B : Nat) : RowP w B (.slice none 0 0) 0 [] := World.ownsRow_nil _ _ _ _
theorem rowP_app {w : World} {B n : Nat} {v : Value} {xs ys : List Int} (h : w.ownsRow B 53 2 v n (ints xs ++ ints ys)) : RowP w B v n (xs ++ ys) := by
  unfold RowP
  rw [show ints (xs ++ ys) = ints xs ++ ints ys by simp [ints]]
  exact h
theorem src_two {w : World} {b : Nat} {x y : Int} (h0 : w.cell? ⟨b, 0, none⟩ = some (.int .i64 x)) (h1 : w.cell? ⟨b, 1, none⟩ = some (.int .i64 y)) : Src w 2 (some ⟨b, 0, none⟩) 1 1 (ints [x, y]) :=
  src_cells 2 rfl (fun e => by cases e) (fun _ => ⟨b, 0, rfl, fun k hk => by
    rcases (show k = 0 ∨ k = 1 by simp at hk; omega) with rfl | rfl
    · exact h0
    · exact h1⟩)

set_option maxHeartbeats 4000000 in
set_option maxRecDepth 100000 in
theorem c_PutField (n : Nat) (xs : List Int) (v : Value) (a : Int) (n2 : Nat) (xs2 : List Int) (v2 : Value) (w : World) (hl : n ≤ 1048576) (hl2 : n2 ≤ 1048576) (h : SeenC w v n xs) (h2 : SeenC w v2 n2 xs2) :
    Calls Try.prog 27 #[v, .int .i64 a, v2] w (GivesP2 w (putN n xs a n2 xs2) (putL n xs a n2 xs2) (putB n xs a n2 xs2)) := by
  have C1 : Hid (Calls Try.prog 14 #[v] w fun e w' => e = .returned (.bool (ruleB n xs)) ∧ Below w.heap.size w w') := c_IsRule n xs v w hl (h).1 (h).2
  have C2 : Hid (∀ u, Below w.heap.size w u → Calls Try.prog 14 #[v2] u fun e w' => e = .returned (.bool (ruleB n2 xs2)) ∧ Below u.heap.size u w') := fun u hu => c_IsRule n2 xs2 v2 u hl2 (h2.below hu).1 (h2.below hu).2
  have C3 : Hid (∀ (m : Nat) (ys : List Int) (p : Value) (B : Nat) (u : World), m ≤ 1521 → RowP u B p m ys → Calls Try.prog 14 #[p] u fun e w' => e = .returned (.bool (ruleB m ys)) ∧ Below u.heap.size u w') := fun m ys p B u hm hu => c_IsRule m ys p u (by omega) (hu.seenC).1 (hu.seenC).2
  obtain ⟨i0, hi0, hz0, hz1, hz2⟩ := info_parts part_info
  have HI := Lib.hid hi0
  clear hi0
  by_cases r1 : ruleB n xs = true
  case neg =>
    have r1' : ruleB n xs = false := by simpa using r1
    obtain ⟨e1, e2, e3⟩ := put_no (a := a) (n2 := n2) (xs2 := xs2) (.inl r1')
    rw [e1, e2, e3]
    rw [r1'] at C1
    obtain ⟨A, c, rfl, _, _, _⟩ := h.1
    obtain ⟨A2, c2, rfl, _, _, _⟩ := h2.1
    clear r1 r1' e1 e2 e3 h h2
    go_enter Try.func27, Try.ntmps27
    go_wp2_with fail
    refine C1.out.mono ?_
    rintro e w1 ⟨rfl, hb1⟩
    have HB1 : Hid (Below w.heap.size w w1) := hb1
    clear hb1
    go_wp2
    go_ret2
    exact ⟨_, rfl, RowP.nil _ _, HB1.out⟩
  case pos =>
  rw [r1] at C1
  by_cases ra : 0 ≤ a ∧ a ≤ 4
  case neg =>
    obtain ⟨e1, e2, e3⟩ := put_no (n := n) (xs := xs) (n2 := n2) (xs2 := xs2) (.inr (.inl ra))
    rw [e1, e2, e3]
    have hd : decide (0 ≤ a ∧ a ≤ 4) = false := decide_eq_false ra
    obtain ⟨A, c, rfl, _, _, _⟩ := h.1
    obtain ⟨A2, c2, rfl, _, _, _⟩ := h2.1
    clear r1 ra e1 e2 e3 h h2
    go_enter Try.func27, Try.ntmps27
    go_wp2_with fail
    refine C1.out.mono ?_
    rintro e w1 ⟨rfl, hb1⟩
    have HB1 : Hid (Below w.heap.size w w1) := hb1
    clear hb1
    go_wp2_with fail
    refine (c_isField a w1).mono ?_
    rintro e w3 ⟨rfl, rfl⟩
    rw [hd]
    go_wp2
    go_ret2
    exact ⟨_, rfl, RowP.nil _ _, HB1.out⟩
  case pos =>
  have hd : decide (0 ≤ a ∧ a ≤ 4) = true := decide_eq_true ra
  by_cases r2 : ruleB n2 xs2 = true
  case neg =>
    have r2' : ruleB n2 xs2 = false := by simpa using r2
    obtain ⟨e1, e2, e3⟩ := put_no (n := n) (xs := xs) (a := a) (.inr (.inr (.inl r2')))
    rw [e1, e2, e3]
    rw [r2'] at C2
    obtain ⟨A, c, rfl, _, _, _⟩ := h.1
    obtain ⟨A2, c2, rfl, _, _, _⟩ := h2.1
    clear r1 r2 r2' ra e1 e2 e3 h h2
    go_enter Try.func27, Try.ntmps27
    go_wp2_with fail
    refine C1.out.mono ?_
    rintro e w1 ⟨rfl, hb1⟩
    have HB1 : Hid (Below w.heap.size w w1) := hb1
    clear hb1
    go_wp2_with fail
    refine (c_isField a w1).mono ?_
    rintro e w3 ⟨rfl, rfl⟩
    rw [hd]
    go_wp2_with fail
    refine (C2.out w1 HB1.out).mono ?_
    rintro e w2 ⟨rfl, hb2⟩
    have HB2 : Hid (Below w.heap.size w w2) := HB1.out.trans (hb2.mono HB1.out.size)
    clear hb2
    go_wp2
    go_ret2
    exact ⟨_, rfl, RowP.nil _ _, HB2.out⟩
  case pos =>
    rw [r2] at C2
    obtain ⟨n1, n39, _, _⟩ := rule_size r1
    obtain ⟨m1, m39, _, _⟩ := rule_size r2
    obtain ⟨b, off, c, rfl, hb, hcell⟩ := seen_cells h.1 (by omega)
    have hlen2 := h2.1
    obtain ⟨A2, c2, rfl, _, hx2, hA2⟩ := hlen2
    obtain ⟨b2, off2, rfl, hb2', hc2⟩ := hA2 (by omega)
    have E1 := Lib.hid hcell
    have E2 : Hid (∀ u, Below w.heap.size w u → Src u 2 (some ⟨b2, off2, none⟩) n2 c2 (ints xs2)) := fun u hu => src_cells 2 hx2 (fun e => by cases e) (fun _ => ⟨b2, off2, rfl, fun j hj => by rw [hu.cell (p := ⟨b2, off2 + j, none⟩) hb2']; exact hc2 j (by omega)⟩)
    have HY : Hid (ruleB (cntTo xs a n2 n) (putTo xs a xs2 n) = true → putB n xs a n2 xs2 = true ∧ putN n xs a n2 xs2 = cntTo xs a n2 n ∧ putL n xs a n2 xs2 = putTo xs a xs2 n) := fun h => put_yes r1 ra r2 h
    have HN : Hid (ruleB (cntTo xs a n2 n) (putTo xs a xs2 n) = false → putB n xs a n2 xs2 = false ∧ putN n xs a n2 xs2 = 0 ∧ putL n xs a n2 xs2 = []) := fun h => put_no (.inr (.inr (.inr h)))
    have KC : Hid (∀ k, cntTo xs a n2 k ≤ 39 * k) := cntTo_le xs a n2 m1 m39
    have KT : Hid (∀ k, xs.getD (k * 2) 0 = 1 ∧ xs.getD (k * 2 + 1) 0 = a → putTo xs a xs2 (k + 1) = putTo xs a xs2 k ++ xs2 ∧ cntTo xs a n2 (k + 1) = cntTo xs a n2 k + n2) := fun k h => ⟨by rw [putTo, if_pos h], by rw [cntTo, if_pos h]⟩
    have KF : Hid (∀ k, ¬ (xs.getD (k * 2) 0 = 1 ∧ xs.getD (k * 2 + 1) 0 = a) → putTo xs a xs2 (k + 1) = putTo xs a xs2 k ++ [xs.getD (k * 2) 0, xs.getD (k * 2 + 1) 0] ∧ cntTo xs a n2 (k + 1) = cntTo xs a n2 k + 1) := fun k h => ⟨by rw [putTo, if_neg h], by rw [cntTo, if_neg h]⟩
    have K0 : Hid (putTo xs a xs2 0 = [] ∧ cntTo xs a n2 0 = 0) := ⟨rfl, rfl⟩
    clear hcell h h2 hx2 hA2 hc2 r1 r2 ra
    generalize putN n xs a n2 xs2 = PN at *
    generalize putL n xs a n2 xs2 = PL at *
    generalize putB n xs a n2 xs2 = PB at *
    generalize putTo xs a xs2 = PT at *
    generalize cntTo xs a n2 = CT at *
    go_enter Try.func27, Try.ntmps27
    go_wp2_with fail
    refine C1.out.mono ?_
    rintro e w1 ⟨rfl, hb1⟩
    have HB1 : Hid (Below w.heap.size w w1) := hb1
    clear hb1
    go_wp2_with fail
    refine (c_isField a w1).mono ?_
    rintro e w3 ⟨rfl, rfl⟩
    rw [hd]
    go_wp2_with fail
    refine (C2.out w1 HB1.out).mono ?_
    rintro e w2 ⟨rfl, hb2⟩
    have HB2 : Hid (Below w.heap.size w w2) := HB1.out.trans (hb2.mono HB1.out.size)
    clear hb2
    go_wp2_with fail
    go_loopw [8, 26] (fun pv i wr => ∃ k : Nat, k ≤ n ∧ i = .int .i64 k ∧ RowP wr w.heap.size pv (CT k) (PT k) ∧ Below w.heap.size w wr) (fun _ i _ => n - (intOf i).toNat)
    case atStart => exact ⟨0, Nat.zero_le _, rfl, by rw [K0.out.1, K0.out.2]; exact RowP.nil _ _, HB2.out⟩
    case round =>
      obtain ⟨k, hk, rfl, hr, hbw⟩ := hrel
      have HR := Lib.hid hr
      have HB := Lib.hid hbw
      clear hr hbw
      by_cases hlt : k < n
      · obtain ⟨q0, q1⟩ := E1.out wr HB.out k hlt
        have KTk := Lib.hid (KT.out k)
        have KFk := Lib.hid (KF.out k)
        have KCk := KC.out k
        generalize xs.getD (k * 2) 0 = t at *
        generalize xs.getD (k * 2 + 1) 0 = m at *
        have k1 : (0 : Int) ≤ (k : Int) := by omega
        have k2 : (k : Int) < (n : Int) := by omega
        have sw := HB.out.size
        have hba : Below wr.heap.size wr (wr.alloc (.cells #[.int .i64 t, .int .i64 m] 53)) := (Below.refl _ _).alloc (Nat.le_refl _) _
        have HRa := Lib.hid (HR.out.below hba)
        have HBa : Hid (Below w.heap.size w (wr.alloc (.cells #[.int .i64 t, .int .i64 m] 53))) := HB.out.trans (hba.mono sw)
        have HSa := Lib.hid (E2.out _ HBa.out)
        clear hba
        by_cases ht : t = 1 ∧ m = a
        · obtain ⟨g1, g2⟩ := KTk.out ht
          have G1 := Lib.hid g1
          have G2 := Lib.hid g2
          obtain ⟨rfl, rfl⟩ := ht
          clear g1 g2 KTk KFk
          go_wp2_with (at_builtin; refine wpList_append_src rfl _ _ 25 rfl (base := w.heap.size) Try.underlying25 HI.out hz0 hz1 hz2 rfl (by decide) rfl HRa.out rfl HSa.out ints_ones ?c3 ?c4 ?c5 ?_)
          case c3 => unfold maxLen; omega
          case c4 => omega
          case c5 => first | omega | (simp; omega)
          intro v8 w8 hown8 hgrow8 _
          have R8 := Lib.hid (rowP_app hown8)
          rw [← G1.out, ← G2.out] at R8
          have B8 : Hid (Below w.heap.size w w8) := HBa.out.grown hgrow8 (by first | omega | (simp; omega)) (fun g hg => (World.ownsRow.lt HRa.out g hg).1)
          clear hown8 hgrow8
          go_wp2
          go_roundw
          case rel => exact ⟨k + 1, by omega, by go_num, R8.out, B8.out⟩
          case measure => simp [intOf]; omega
        · obtain ⟨g1, g2⟩ := KFk.out ht
          have G1 := Lib.hid g1
          have G2 := Lib.hid g2
          clear g1 g2 KTk KFk
          have hbb : Below (wr.alloc (.cells #[.int .i64 t, .int .i64 m] 53)).heap.size (wr.alloc (.cells #[.int .i64 t, .int .i64 m] 53)) ((wr.alloc (.cells #[.int .i64 t, .int .i64 m] 53)).alloc (.cells #[.int .i64 t, .int .i64 m] 53)) := (Below.refl _ _).alloc (Nat.le_refl _) _
          have HRb := Lib.hid (HRa.out.below hbb)
          have HBb : Hid (Below w.heap.size w ((wr.alloc (.cells #[.int .i64 t, .int .i64 m] 53)).alloc (.cells #[.int .i64 t, .int .i64 m] 53))) := HBa.out.trans (hbb.mono HBa.out.size)
          clear hbb
          have hcase : (t == 1) = false ∨ ((t == 1) = true ∧ (m == a) = false) := by
            by_cases e : t = 1
            · right; refine ⟨by simp [e], ?_⟩; simp; intro e'; exact ht ⟨e, e'⟩
            · left; simp [e]
          clear ht
          rcases hcase with ht1 | ⟨ht1, ht2⟩
          all_goals
            go_wp2_with (at_builtin; refine wpList_append_src rfl _ _ 25 rfl (base := w.heap.size) Try.underlying25 HI.out hz0 hz1 hz2 rfl (by decide) rfl HRb.out rfl (src_two (x := t) (y := m) (by simp) (by simp)) ints_ones ?c3 ?c4 ?c5 ?_)
            case c3 => unfold maxLen; omega
            case c4 => omega
            case c5 => first | omega | (simp; omega)
            intro v8 w8 hown8 hgrow8 _
            have R8 := Lib.hid (rowP_app (ys := [t, m]) hown8)
            rw [← G1.out, ← G2.out] at R8
            have B8 : Hid (Below w.heap.size w w8) := HBb.out.grown hgrow8 (by first | omega | (simp; omega)) (fun g hg => (World.ownsRow.lt HRb.out g hg).1)
            clear hown8 hgrow8
            go_wp2
            go_roundw
            case rel => exact ⟨k + 1, by omega, by go_num, R8.out, B8.out⟩
            case measure => simp [intOf]; omega
      · obtain rfl : k = n := by omega
        have CR := Lib.hid (C3.out (CT k) (PT k) _ _ wr (by have := KC.out k; omega) HR.out)
        cases hru : ruleB (CT k) (PT k)
        · obtain ⟨g1, g2, g3⟩ := HN.out hru
          have G1 := Lib.hid g1
          have G2 := Lib.hid g2
          have G3 := Lib.hid g3
          rw [hru] at CR
          clear g1 g2 g3 hru
          go_wp2_with fail
          refine CR.out.mono ?_
          rintro e w9 ⟨rfl, hb9⟩
          have HB9 : Hid (Below w.heap.size w w9) := HB.out.trans (hb9.mono HB.out.size)
          clear hb9
          go_wp2
          go_ret2
          exact ⟨.slice none 0 0, by rw [G1.out]; rfl, by rw [G2.out, G3.out]; exact RowP.nil _ _, HB9.out⟩
        · obtain ⟨g1, g2, g3⟩ := HY.out hru
          have G1 := Lib.hid g1
          have G2 := Lib.hid g2
          have G3 := Lib.hid g3
          rw [hru] at CR
          clear g1 g2 g3 hru
          go_wp2_with fail
          refine CR.out.mono ?_
          rintro e w9 ⟨rfl, hb9⟩
          have HB9 : Hid (Below w.heap.size w w9) := HB.out.trans (hb9.mono HB.out.size)
          have HR9 := Lib.hid (HR.out.below hb9)
          clear hb9
          go_wp2
          go_ret2
          exact ⟨u8, by rw [G1.out]; rfl, by rw [G2.out, G3.out]; exact HR9.out, HB9.out⟩

set_option maxHeartbeats 4000000 in
set_option maxRecDepth 100000 in
theorem c_PutFieldS (n : Nat) (xs : List Int) (v : Value) (a : Int) (n2 : Nat) (xs2 : List Int) (v2 : Value) (w : World) (hl : n ≤ 1048576) (hl2 : n2 ≤ 1048576) (h : SeenC w v n xs) (h2 : SeenC w v2 n2 xs2) :
    Calls Try.prog 26 #[v, .int .i64 a, v2] w (GivesP2 w (putN n xs a n2 xs2) (putL n xs a n2 xs2) (putB n xs a n2 xs2)) := by
  have C1 : Hid (Calls Try.prog 37 #[v] w fun e w' => e = .returned (.bool (ruleB n xs)) ∧ Below w.heap.size w w') := c_ruGood n xs v w hl (h).1
  have C2 : Hid (∀ u, Below w.heap.size w u → Calls Try.prog 37 #[v2] u fun e w' => e = .returned (.bool (ruleB n2 xs2)) ∧ Below u.heap.size u w') := fun u hu => c_ruGood n2 xs2 v2 u hl2 (h2.below hu).1
  have C3 : Hid (∀ (m : Nat) (ys : List Int) (p : Value) (B : Nat) (u : World), m ≤ 1521 → RowP u B p m ys → Calls Try.prog 37 #[p] u fun e w' => e = .returned (.bool (ruleB m ys)) ∧ Below u.heap.size u w') := fun m ys p B u hm hu => c_ruGood m ys p u (by omega) (hu.seenC).1
  obtain ⟨i0, hi0, hz0, hz1, hz2⟩ := info_parts part_info
  have HI := Lib.hid hi0
  clear hi0
  by_cases r1 : ruleB n xs = true
  case neg =>
    have r1' : ruleB n xs = false := by simpa using r1
    obtain ⟨e1, e2, e3⟩ := put_no (a := a) (n2 := n2) (xs2 := xs2) (.inl r1')
    rw [e1, e2, e3]
    rw [r1'] at C1
    obtain ⟨A, c, rfl, _, _, _⟩ := h.1
    obtain ⟨A2, c2, rfl, _, _, _⟩ := h2.1
    clear r1 r1' e1 e2 e3 h h2
    go_enter Try.func26, Try.ntmps26
    go_wp2_with fail
    refine C1.out.mono ?_
    rintro e w1 ⟨rfl, hb1⟩
    have HB1 : Hid (Below w.heap.size w w1) := hb1
    clear hb1
    go_wp2
    go_ret2
    exact ⟨_, rfl, RowP.nil _ _, HB1.out⟩
  case pos =>
  rw [r1] at C1
  by_cases ra : 0 ≤ a ∧ a ≤ 4
  case neg =>
    obtain ⟨e1, e2, e3⟩ := put_no (n := n) (xs := xs) (n2 := n2) (xs2 := xs2) (.inr (.inl ra))
    rw [e1, e2, e3]
    have hd : decide (0 ≤ a ∧ a ≤ 4) = false := decide_eq_false ra
    obtain ⟨A, c, rfl, _, _, _⟩ := h.1
    obtain ⟨A2, c2, rfl, _, _, _⟩ := h2.1
    clear r1 ra e1 e2 e3 h h2
    cases hr2 : ruleB n2 xs2
    · rw [hr2] at C2
      clear hr2
      go_enter Try.func26, Try.ntmps26
      go_wp2_with fail
      refine C1.out.mono ?_
      rintro e w1 ⟨rfl, hb1⟩
      have HB1 : Hid (Below w.heap.size w w1) := hb1
      clear hb1
      go_wp2_with fail
      refine (C2.out w1 HB1.out).mono ?_
      rintro e w2 ⟨rfl, hb2⟩
      have HB2 : Hid (Below w.heap.size w w2) := HB1.out.trans (hb2.mono HB1.out.size)
      clear hb2
      go_wp2
      go_ret2
      exact ⟨_, rfl, RowP.nil _ _, HB2.out⟩
    · rw [hr2] at C2
      clear hr2
      go_enter Try.func26, Try.ntmps26
      go_wp2_with fail
      refine C1.out.mono ?_
      rintro e w1 ⟨rfl, hb1⟩
      have HB1 : Hid (Below w.heap.size w w1) := hb1
      clear hb1
      go_wp2_with fail
      refine (C2.out w1 HB1.out).mono ?_
      rintro e w2 ⟨rfl, hb2⟩
      have HB2 : Hid (Below w.heap.size w w2) := HB1.out.trans (hb2.mono HB1.out.size)
      clear hb2
      go_wp2_with fail
      refine (c_l1In a 0 4 w2).mono ?_
      rintro e w3 ⟨rfl, rfl⟩
      rw [hd]
      go_wp2
      go_ret2
      exact ⟨_, rfl, RowP.nil _ _, HB2.out⟩
  case pos =>
  have hd : decide (0 ≤ a ∧ a ≤ 4) = true := decide_eq_true ra
  by_cases r2 : ruleB n2 xs2 = true
  case neg =>
    have r2' : ruleB n2 xs2 = false := by simpa using r2
    obtain ⟨e1, e2, e3⟩ := put_no (n := n) (xs := xs) (a := a) (.inr (.inr (.inl r2')))
    rw [e1, e2, e3]
    rw [r2'] at C2
    obtain ⟨A, c, rfl, _, _, _⟩ := h.1
    obtain ⟨A2, c2, rfl, _, _, _⟩ := h2.1
    clear r1 r2 r2' ra e1 e2 e3 h h2
    go_enter Try.func26, Try.ntmps26
    go_wp2_with fail
    refine C1.out.mono ?_
    rintro e w1 ⟨rfl, hb1⟩
    have HB1 : Hid (Below w.heap.size w w1) := hb1
    clear hb1
    go_wp2_with fail
    refine (C2.out w1 HB1.out).mono ?_
    rintro e w2 ⟨rfl, hb2⟩
    have HB2 : Hid (Below w.heap.size w w2) := HB1.out.trans (hb2.mono HB1.out.size)
    clear hb2
    go_wp2
    go_ret2
    exact ⟨_, rfl, RowP.nil _ _, HB2.out⟩
  case pos =>
    rw [r2] at C2
    obtain ⟨n1, n39, _, _⟩ := rule_size r1
    obtain ⟨m1, m39, _, _⟩ := rule_size r2
    obtain ⟨b, off, c, rfl, hb, hcell⟩ := seen_cells h.1 (by omega)
    have hlen2 := h2.1
    obtain ⟨A2, c2, rfl, _, hx2, hA2⟩ := hlen2
    obtain ⟨b2, off2, rfl, hb2', hc2⟩ := hA2 (by omega)
    have E1 := Lib.hid hcell
    have E2 : Hid (∀ u, Below w.heap.size w u → Src u 2 (some ⟨b2, off2, none⟩) n2 c2 (ints xs2)) := fun u hu => src_cells 2 hx2 (fun e => by cases e) (fun _ => ⟨b2, off2, rfl, fun j hj => by rw [hu.cell (p := ⟨b2, off2 + j, none⟩) hb2']; exact hc2 j (by omega)⟩)
    have HY : Hid (ruleB (cntTo xs a n2 n) (putTo xs a xs2 n) = true → putB n xs a n2 xs2 = true ∧ putN n xs a n2 xs2 = cntTo xs a n2 n ∧ putL n xs a n2 xs2 = putTo xs a xs2 n) := fun h => put_yes r1 ra r2 h
    have HN : Hid (ruleB (cntTo xs a n2 n) (putTo xs a xs2 n) = false → putB n xs a n2 xs2 = false ∧ putN n xs a n2 xs2 = 0 ∧ putL n xs a n2 xs2 = []) := fun h => put_no (.inr (.inr (.inr h)))
    have KC : Hid (∀ k, cntTo xs a n2 k ≤ 39 * k) := cntTo_le xs a n2 m1 m39
    have KT : Hid (∀ k, xs.getD (k * 2) 0 = 1 ∧ xs.getD (k * 2 + 1) 0 = a → putTo xs a xs2 (k + 1) = putTo xs a xs2 k ++ xs2 ∧ cntTo xs a n2 (k + 1) = cntTo xs a n2 k + n2) := fun k h => ⟨by rw [putTo, if_pos h], by rw [cntTo, if_pos h]⟩
    have KF : Hid (∀ k, ¬ (xs.getD (k * 2) 0 = 1 ∧ xs.getD (k * 2 + 1) 0 = a) → putTo xs a xs2 (k + 1) = putTo xs a xs2 k ++ [xs.getD (k * 2) 0, xs.getD (k * 2 + 1) 0] ∧ cntTo xs a n2 (k + 1) = cntTo xs a n2 k + 1) := fun k h => ⟨by rw [putTo, if_neg h], by rw [cntTo, if_neg h]⟩
    have K0 : Hid (putTo xs a xs2 0 = [] ∧ cntTo xs a n2 0 = 0) := ⟨rfl, rfl⟩
    clear hcell h h2 hx2 hA2 hc2 r1 r2 ra
    generalize putN n xs a n2 xs2 = PN at *
    generalize putL n xs a n2 xs2 = PL at *
    generalize putB n xs a n2 xs2 = PB at *
    generalize putTo xs a xs2 = PT at *
    generalize cntTo xs a n2 = CT at *
    go_enter Try.func26, Try.ntmps26
    go_wp2_with fail
    refine C1.out.mono ?_
    rintro e w1 ⟨rfl, hb1⟩
    have HB1 : Hid (Below w.heap.size w w1) := hb1
    clear hb1
    go_wp2_with fail
    refine (C2.out w1 HB1.out).mono ?_
    rintro e w2 ⟨rfl, hb2⟩
    have HB2 : Hid (Below w.heap.size w w2) := HB1.out.trans (hb2.mono HB1.out.size)
    clear hb2
    go_wp2_with fail
    refine (c_l1In a 0 4 w2).mono ?_
    rintro e w3 ⟨rfl, rfl⟩
    rw [hd]
    go_wp2_with fail
    go_loopw [8, 26] (fun pv i wr => ∃ k : Nat, k ≤ n ∧ i = .int .i64 k ∧ RowP wr w.heap.size pv (CT k) (PT k) ∧ Below w.heap.size w wr) (fun _ i _ => n - (intOf i).toNat)
    case atStart => exact ⟨0, Nat.zero_le _, rfl, by rw [K0.out.1, K0.out.2]; exact RowP.nil _ _, HB2.out⟩
    case round =>
      obtain ⟨k, hk, rfl, hr, hbw⟩ := hrel
      have HR := Lib.hid hr
      have HB := Lib.hid hbw
      clear hr hbw
      by_cases hlt : k < n
      · obtain ⟨q0, q1⟩ := E1.out wr HB.out k hlt
        have KTk := Lib.hid (KT.out k)
        have KFk := Lib.hid (KF.out k)
        have KCk := KC.out k
        generalize xs.getD (k * 2) 0 = t at *
        generalize xs.getD (k * 2 + 1) 0 = m at *
        have k1 : (0 : Int) ≤ (k : Int) := by omega
        have k2 : (k : Int) < (n : Int) := by omega
        have sw := HB.out.size
        have hba : Below wr.heap.size wr (wr.alloc (.cells #[.int .i64 t, .int .i64 m] 53)) := (Below.refl _ _).alloc (Nat.le_refl _) _
        have HRa := Lib.hid (HR.out.below hba)
        have HBa : Hid (Below w.heap.size w (wr.alloc (.cells #[.int .i64 t, .int .i64 m] 53))) := HB.out.trans (hba.mono sw)
        have HSa := Lib.hid (E2.out _ HBa.out)
        clear hba
        by_cases ht : t = 1 ∧ m = a
        · obtain ⟨g1, g2⟩ := KTk.out ht
          have G1 := Lib.hid g1
          have G2 := Lib.hid g2
          obtain ⟨rfl, rfl⟩ := ht
          clear g1 g2 KTk KFk
          go_wp2_with (at_builtin; refine wpList_append_src rfl _ _ 25 rfl (base := w.heap.size) Try.underlying25 HI.out hz0 hz1 hz2 rfl (by decide) rfl HRa.out rfl HSa.out ints_ones ?c3 ?c4 ?c5 ?_)
          case c3 => unfold maxLen; omega
          case c4 => omega
          case c5 => first | omega | (simp; omega)
          intro v8 w8 hown8 hgrow8 _
          have R8 := Lib.hid (rowP_app hown8)
          rw [← G1.out, ← G2.out] at R8
          have B8 : Hid (Below w.heap.size w w8) := HBa.out.grown hgrow8 (by first | omega | (simp; omega)) (fun g hg => (World.ownsRow.lt HRa.out g hg).1)
          clear hown8 hgrow8
          go_wp2
          go_roundw
          case rel => exact ⟨k + 1, by omega, by go_num, R8.out, B8.out⟩
          case measure => simp [intOf]; omega
        · obtain ⟨g1, g2⟩ := KFk.out ht
          have G1 := Lib.hid g1
          have G2 := Lib.hid g2
          clear g1 g2 KTk KFk
          have hbb : Below (wr.alloc (.cells #[.int .i64 t, .int .i64 m] 53)).heap.size (wr.alloc (.cells #[.int .i64 t, .int .i64 m] 53)) ((wr.alloc (.cells #[.int .i64 t, .int .i64 m] 53)).alloc (.cells #[.int .i64 t, .int .i64 m] 53)) := (Below.refl _ _).alloc (Nat.le_refl _) _
          have HRb := Lib.hid (HRa.out.below hbb)
          have HBb : Hid (Below w.heap.size w ((wr.alloc (.cells #[.int .i64 t, .int .i64 m] 53)).alloc (.cells #[.int .i64 t, .int .i64 m] 53))) := HBa.out.trans (hbb.mono HBa.out.size)
          clear hbb
          have hcase : (t == 1) = false ∨ ((t == 1) = true ∧ (m == a) = false) := by
            by_cases e : t = 1
            · right; refine ⟨by simp [e], ?_⟩; simp; intro e'; exact ht ⟨e, e'⟩
            · left; simp [e]
          clear ht
          rcases hcase with ht1 | ⟨ht1, ht2⟩
          all_goals
            go_wp2_with (at_builtin; refine wpList_append_src rfl _ _ 25 rfl (base := w.heap.size) Try.underlying25 HI.out hz0 hz1 hz2 rfl (by decide) rfl HRb.out rfl (src_two (x := t) (y := m) (by simp) (by simp)) ints_ones ?c3 ?c4 ?c5 ?_)
            case c3 => unfold maxLen; omega
            case c4 => omega
            case c5 => first | omega | (simp; omega)
            intro v8 w8 hown8 hgrow8 _
            have R8 := Lib.hid (rowP_app (ys := [t, m]) hown8)
            rw [← G1.out, ← G2.out] at R8
            have B8 : Hid (Below w.heap.size w w8) := HBb.out.grown hgrow8 (by first | omega | (simp; omega)) (fun g hg => (World.ownsRow.lt HRb.out g hg).1)
            clear hown8 hgrow8
            go_wp2
            go_roundw
            case rel => exact ⟨k + 1, by omega, by go_num, R8.out, B8.out⟩
            case measure => simp [intOf]; omega
      · obtain rfl : k = n := by omega
        have CR := Lib.hid (C3.out (CT k) (PT k) _ _ wr (by have := KC.out k; omega) HR.out)
        cases hru : ruleB (CT k) (PT k)
        · obtain ⟨g1, g2, g3⟩ := HN.out hru
          have G1 := Lib.hid g1
          have G2 := Lib.hid g2
          have G3 := Lib.hid g3
          rw [hru] at CR
          clear g1 g2 g3 hru
          go_wp2_with fail
          refine CR.out.mono ?_
          rintro e w9 ⟨rfl, hb9⟩
          have HB9 : Hid (Below w.heap.size w w9) := HB.out.trans (hb9.mono HB.out.size)
          clear hb9
          go_wp2
          go_ret2
          exact ⟨.slice none 0 0, by rw [G1.out]; rfl, by rw [G2.out, G3.out]; exact RowP.nil _ _, HB9.out⟩
        · obtain ⟨g1, g2, g3⟩ := HY.out hru
          have G1 := Lib.hid g1
          have G2 := Lib.hid g2
          have G3 := Lib.hid g3
          rw [hru] at CR
          clear g1 g2 g3 hru
          go_wp2_with fail
          refine CR.out.mono ?_
          rintro e w9 ⟨rfl, hb9⟩
          have HB9 : Hid (Below w.heap.size w w9) := HB.out.trans (hb9.mono HB.out.size)
          have HR9 := Lib.hid (HR.out.below hb9)
          clear hb9
          go_wp2
          go_ret2
          exact ⟨u8, by rw [G1.out]; rfl, by rw [G2.out, G3.out]; exact HR9.out, HB9.out⟩
end Go.Proofs.Ythlclieifcbkjaa
