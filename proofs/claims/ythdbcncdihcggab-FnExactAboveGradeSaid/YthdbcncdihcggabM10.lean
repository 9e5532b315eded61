/-
  Contracts: the places of a list whose numbers are wanted; AboveGrade, in the program and in the model; a model marked.
-/
import Derived.Test.YthdbcncdihcggabM6
namespace Go.Proofs.Ythdbcncdihcggab
open Go.RowKit
set_option linter.unusedVariables false

theorem row_more {w3 : World} {B : Nat} {v' : Value} {xs : List Int} {k : Int} (h : w3.ownsRow B 3 1 v' (xs.length + 1) (ints xs ++ [.int .i64 k])) : Row w3 B v' (xs ++ [k]) := by
  unfold Row
  rw [List.length_append, show ints (xs ++ [k]) = ints xs ++ [.int .i64 k] by simp [ints]]
  exact h
/-- A list and a bool. -/
def GivesRow2 (w : World) (xs : List Int) (b : Bool) (e : Ending) (w' : World) : Prop := ∃ v, e = .returned (.tuple #[v, .bool b]) ∧ Row w' w.heap.size v xs ∧ Below w.heap.size w w'
/-- Whether the number at place i is wanted. -/
def pAt (q : Int → Bool) (xs : List Int) : Int → Bool := fun i => q (xs.getD i.toNat 0)
theorem pAt_nat (q : Int → Bool) (xs : List Int) (k : Nat) : pAt q xs k = q (xs.getD k 0) := rfl

set_option maxHeartbeats 1000000 in
theorem c_whereAbove (xs : List Int) (v : Value) (b1 : Nat) (q : Int → Bool) (w : World) (hl : xs.length ≤ 4000000) (h : Seen w v xs)
    (H : Hid (∀ (k : Nat) (u : World), k < xs.length → Below w.heap.size w u → Calls Try.prog 26 #[.int .i64 (xs.getD k 0), .pointer (some ⟨b1, 0, none⟩)] u fun e u' => e = .returned (.bool (q (xs.getD k 0))) ∧ u = u')) :
    Calls Try.prog 25 #[v, .func (.func 26) #[] #[.pointer (some ⟨b1, 0, none⟩)]] w (GivesRow w (sel (pAt q xs) xs.length)) := by
  obtain ⟨i0, hi0, hz0, hz1, hz2⟩ := info_parts int_info
  have HI := Lib.hid hi0
  clear hi0
  obtain ⟨A, c, rfl, hm, hA⟩ := h
  clear hm
  have E1 : Hid (∀ k : Nat, k < xs.length → ∃ b off, A = some ⟨b, off, none⟩ ∧ b < w.heap.size ∧ w.cell? ⟨b, off + k, none⟩ = some (.int .i64 (xs.getD k 0))) := fun k hk => by
    obtain ⟨b, off, rfl, hb, hc⟩ := hA (by omega)
    exact ⟨b, off, rfl, hb, hc k hk⟩
  have HP : Hid (∀ k : Nat, pAt q xs k = q (xs.getD k 0)) := fun k => rfl
  clear hA
  generalize pAt q xs = p at *
  generalize hn : xs.length = n at *
  clear hn
  go_enter Try.func25, Try.ntmps25
  go_wp2_with fail
  go_loopw [5, 10] (fun v i wr => ∃ k : Nat, k ≤ n ∧ i = .int .i64 k ∧ Row wr w.heap.size v (sel p k) ∧ Below w.heap.size w wr) (fun _ i _ => n - (intOf i).toNat)
  case atStart => exact ⟨0, Nat.zero_le _, rfl, Row.nil _ _, Below.refl _ _⟩
  case round =>
    obtain ⟨k, hk, rfl, hr, hbw⟩ := hrel
    have HR := Lib.hid hr
    have HB := Lib.hid hbw
    clear hr hbw
    by_cases hlt : k < n
    · obtain ⟨b, off, rfl, hbl, hcc⟩ := E1.out k hlt
      have q1 : wr.cell? ⟨b, off + k, none⟩ = some (.int .i64 (xs.getD k 0)) := by rw [HB.out.cell (p := ⟨b, off + k, none⟩) hbl]; exact hcc
      have HC := Lib.hid (H.out k wr hlt HB.out)
      have hp : Hid (p k = q (xs.getD k 0)) := HP.out k
      clear hcc hbl
      generalize xs.getD k 0 = t at *
      have b1 : (0 : Int) ≤ (k : Int) := by omega
      have b2 : (k : Int) < (n : Int) := by omega
      have hlen := sel_len p k
      have sw := HB.out.size
      go_wp2_with fail
      refine HC.out.mono ?_
      rintro e w2 ⟨rfl, rfl⟩
      cases hq : q t
      · have HQ : Hid (p k = false) := hp.out.trans hq
        clear hq
        go_wp2
        go_roundw
        case rel => exact ⟨k + 1, by omega, by go_num, by rw [sel_miss HQ.out]; exact HR.out, HB.out⟩
        case measure => simp [intOf]; omega
      · have HQ : Hid (p k = true) := hp.out.trans hq
        clear hq
        go_wp2_with (at_builtin; refine wpList_append_own _ rfl _ _ 24 rfl (w.heap.size) 3 i0 (.int .i64 0) 1 8 Try.underlying24 HI.out hz0 hz1 hz2 rfl (by decide) _ _ _ rfl (World.ownsRow.alloc HR.out _) ⟨wr.heap.size, 0, none⟩ 1 1 [.int .i64 k] rfl rfl ?c1 ?c2 ?c3 ?c4 ?c5 ?_)
        case c1 =>
          intro j u hj
          match j, hj with
          | 0, hj => simp at hj; subst hj; simp [Addr.add]
        case c2 => intro u hu; simp at hu; subst hu; rfl
        case c3 => unfold maxLen; omega
        case c4 => omega
        case c5 => simp; omega
        intro v' w4 hown' hgrow _
        have R1 : Hid (Row w4 w.heap.size v' (sel p (k + 1))) := by rw [sel_hit HQ.out]; exact row_more hown'
        have R2 : Hid (Below w.heap.size w w4) := (HB.out.alloc sw _).grown hgrow (by simp; omega) (fun g hg => (World.ownsRow.lt HR.out g hg).1)
        clear hown' hgrow
        go_wp2
        go_roundw
        case rel => exact ⟨k + 1, by omega, by go_num, R1.out, R2.out⟩
        case measure => simp [intOf]; omega
    · obtain rfl : k = n := by omega
      go_wp2
      go_ret
      exact ⟨_, rfl, HR.out, HB.out⟩

set_option maxHeartbeats 1000000 in
theorem c_whereRock (xs : List Int) (v : Value) (b1 : Nat) (q : Int → Bool) (w : World) (hl : xs.length ≤ 4000000) (h : Seen w v xs)
    (H : Hid (∀ (k : Nat) (u : World), k < xs.length → Below w.heap.size w u → Calls Try.prog 28 #[.int .i64 (xs.getD k 0), .pointer (some ⟨b1, 0, none⟩)] u fun e u' => e = .returned (.bool (q (xs.getD k 0))) ∧ u = u')) :
    Calls Try.prog 25 #[v, .func (.func 28) #[] #[.pointer (some ⟨b1, 0, none⟩)]] w (GivesRow w (sel (pAt q xs) xs.length)) := by
  obtain ⟨i0, hi0, hz0, hz1, hz2⟩ := info_parts int_info
  have HI := Lib.hid hi0
  clear hi0
  obtain ⟨A, c, rfl, hm, hA⟩ := h
  clear hm
  have E1 : Hid (∀ k : Nat, k < xs.length → ∃ b off, A = some ⟨b, off, none⟩ ∧ b < w.heap.size ∧ w.cell? ⟨b, off + k, none⟩ = some (.int .i64 (xs.getD k 0))) := fun k hk => by
    obtain ⟨b, off, rfl, hb, hc⟩ := hA (by omega)
    exact ⟨b, off, rfl, hb, hc k hk⟩
  have HP : Hid (∀ k : Nat, pAt q xs k = q (xs.getD k 0)) := fun k => rfl
  clear hA
  generalize pAt q xs = p at *
  generalize hn : xs.length = n at *
  clear hn
  go_enter Try.func25, Try.ntmps25
  go_wp2_with fail
  go_loopw [5, 10] (fun v i wr => ∃ k : Nat, k ≤ n ∧ i = .int .i64 k ∧ Row wr w.heap.size v (sel p k) ∧ Below w.heap.size w wr) (fun _ i _ => n - (intOf i).toNat)
  case atStart => exact ⟨0, Nat.zero_le _, rfl, Row.nil _ _, Below.refl _ _⟩
  case round =>
    obtain ⟨k, hk, rfl, hr, hbw⟩ := hrel
    have HR := Lib.hid hr
    have HB := Lib.hid hbw
    clear hr hbw
    by_cases hlt : k < n
    · obtain ⟨b, off, rfl, hbl, hcc⟩ := E1.out k hlt
      have q1 : wr.cell? ⟨b, off + k, none⟩ = some (.int .i64 (xs.getD k 0)) := by rw [HB.out.cell (p := ⟨b, off + k, none⟩) hbl]; exact hcc
      have HC := Lib.hid (H.out k wr hlt HB.out)
      have hp : Hid (p k = q (xs.getD k 0)) := HP.out k
      clear hcc hbl
      generalize xs.getD k 0 = t at *
      have b1 : (0 : Int) ≤ (k : Int) := by omega
      have b2 : (k : Int) < (n : Int) := by omega
      have hlen := sel_len p k
      have sw := HB.out.size
      go_wp2_with fail
      refine HC.out.mono ?_
      rintro e w2 ⟨rfl, rfl⟩
      cases hq : q t
      · have HQ : Hid (p k = false) := hp.out.trans hq
        clear hq
        go_wp2
        go_roundw
        case rel => exact ⟨k + 1, by omega, by go_num, by rw [sel_miss HQ.out]; exact HR.out, HB.out⟩
        case measure => simp [intOf]; omega
      · have HQ : Hid (p k = true) := hp.out.trans hq
        clear hq
        go_wp2_with (at_builtin; refine wpList_append_own _ rfl _ _ 24 rfl (w.heap.size) 3 i0 (.int .i64 0) 1 8 Try.underlying24 HI.out hz0 hz1 hz2 rfl (by decide) _ _ _ rfl (World.ownsRow.alloc HR.out _) ⟨wr.heap.size, 0, none⟩ 1 1 [.int .i64 k] rfl rfl ?c1 ?c2 ?c3 ?c4 ?c5 ?_)
        case c1 =>
          intro j u hj
          match j, hj with
          | 0, hj => simp at hj; subst hj; simp [Addr.add]
        case c2 => intro u hu; simp at hu; subst hu; rfl
        case c3 => unfold maxLen; omega
        case c4 => omega
        case c5 => simp; omega
        intro v' w4 hown' hgrow _
        have R1 : Hid (Row w4 w.heap.size v' (sel p (k + 1))) := by rw [sel_hit HQ.out]; exact row_more hown'
        have R2 : Hid (Below w.heap.size w w4) := (HB.out.alloc sw _).grown hgrow (by simp; omega) (fun g hg => (World.ownsRow.lt HR.out g hg).1)
        clear hown' hgrow
        go_wp2
        go_roundw
        case rel => exact ⟨k + 1, by omega, by go_num, R1.out, R2.out⟩
        case measure => simp [intOf]; omega
    · obtain rfl : k = n := by omega
      go_wp2
      go_ret
      exact ⟨_, rfl, HR.out, HB.out⟩

set_option maxHeartbeats 400000 in
theorem c_fnAbove (g : Nat) (a t : Int) (w : World) (h : w.cell? ⟨g, 0, none⟩ = some (.int .i64 t)) :
    Calls Try.prog 26 #[.int .i64 a, .pointer (some ⟨g, 0, none⟩)] w fun e w' => e = .returned (.bool (decide (t ≤ a))) ∧ w = w' := by
  go_enter Try.func26, Try.ntmps26
  go_wp2
  go_ret
  exact ⟨rfl, rfl⟩
set_option maxHeartbeats 400000 in
theorem c_fnRock (g : Nat) (a t : Int) (w : World) (h : w.cell? ⟨g, 0, none⟩ = some (.int .i64 t)) :
    Calls Try.prog 28 #[.int .i64 a, .pointer (some ⟨g, 0, none⟩)] w fun e w' => e = .returned (.bool (a == t)) ∧ w = w' := by
  go_enter Try.func28, Try.ntmps28
  go_wp2
  go_ret
  exact ⟨rfl, rfl⟩

def abB (x y z : Int) (ts gs rs : List Int) (g : Int) : Bool := moB x y z ts gs rs && decide (0 ≤ g ∧ g ≤ 1001)
def abQ (g : Int) : Int → Bool := fun t => decide (g ≤ t)
def abL (x y z : Int) (ts gs rs : List Int) (g : Int) : List Int := if abB x y z ts gs rs g then sel (pAt (abQ g) gs) gs.length else []
theorem abQ_at (g t : Int) : abQ g t = decide (g ≤ t) := rfl

set_option maxHeartbeats 1000000 in
theorem c_AboveGrade (x y z : Int) (v1 v2 v3 : Value) (ts gs rs : List Int) (g : Int) (w : World) (l1 : ts.length ≤ 4000000) (l2 : gs.length ≤ 4000000) (l3 : rs.length ≤ 4000000) (h : Look w v1 v2 v3 ts gs rs) :
    Calls Try.prog 9 #[.agg #[.int .i64 x, .int .i64 y, .int .i64 z, v1, v2, v3], .int .i64 g] w (GivesRow2 w (abL x y z ts gs rs g) (abB x y z ts gs rs g)) := by
  have H := Lib.hid h
  obtain ⟨A1, c1, rfl⟩ := h.t.shape
  obtain ⟨A2, c2, rfl⟩ := h.g.shape
  obtain ⟨A3, c3, rfl⟩ := h.r.shape
  clear h
  have HX0 : Hid (Box6 ((w.alloc (.cells #[.int .i64 x, .int .i64 y, .int .i64 z, .slice A1 ts.length c1, .slice A2 gs.length c2, .slice A3 rs.length c3] 32)).alloc (.cells #[.int .i64 g] 3)) w.heap.size x y z (.slice A1 ts.length c1) (.slice A2 gs.length c2) (.slice A3 rs.length c3)) := (Box6.new _ _ _ _ _ _ _ _).below ((Below.refl _ _).alloc (Nat.le_refl _) _)
  have HB0 : Hid (Below w.heap.size w ((w.alloc (.cells #[.int .i64 x, .int .i64 y, .int .i64 z, .slice A1 ts.length c1, .slice A2 gs.length c2, .slice A3 rs.length c3] 32)).alloc (.cells #[.int .i64 g] 3))) := ((Below.refl _ _).alloc (Nat.le_refl _) _).alloc (by simp) _
  have HY0 : Hid (∀ u : World, Below (w.heap.size + 1 + 1) ((w.alloc (.cells #[.int .i64 x, .int .i64 y, .int .i64 z, .slice A1 ts.length c1, .slice A2 gs.length c2, .slice A3 rs.length c3] 32)).alloc (.cells #[.int .i64 g] 3)) u → u.cell? ⟨w.heap.size + 1, 0, none⟩ = some (.int .i64 g)) := fun u hu => by
    rw [hu.cell (p := ⟨w.heap.size + 1, 0, none⟩) (by show w.heap.size + 1 < _; omega)]
    simp
  have HZ0 : Hid (((w.alloc (.cells #[.int .i64 x, .int .i64 y, .int .i64 z, .slice A1 ts.length c1, .slice A2 gs.length c2, .slice A3 rs.length c3] 32)).alloc (.cells #[.int .i64 g] 3)).heap.size = w.heap.size + 1 + 1) := by simp [Hid]
  unfold abL
  cases hm : moB x y z ts gs rs
  · have HM := Lib.hid hm
    rw [show abB x y z ts gs rs g = false by unfold abB; rw [hm]; rfl]
    simp only [Bool.false_eq_true, if_false]
    clear hm
    go_enter Try.func9, Try.ntmps9
    go_wp2_with fail
    refine (c_IsModel x y z _ _ _ ts gs rs _ l1 l2 l3 (H.out.below HB0.out)).mono ?_
    rintro e w1 ⟨rfl, hb1⟩
    rw [HM.out]
    have HX1 := Lib.hid (HX0.out.below hb1)
    have HB1 : Hid (Below w.heap.size w w1) := HB0.out.trans (hb1.mono HB0.out.size)
    clear hb1
    go_wp2
    go_ret2
    exact ⟨_, rfl, Row.nil _ _, HB1.out⟩
  · have HM := Lib.hid hm
    by_cases hgr : 0 ≤ g ∧ g ≤ 1001
    · rw [show abB x y z ts gs rs g = true by unfold abB; rw [hm]; simpa using hgr]
      simp only [if_true]
      obtain ⟨g0, g1⟩ := hgr
      have HQ : Hid (∀ t, abQ g t = decide (g ≤ t)) := fun t => rfl
      generalize abQ g = q at *
      clear hm
      go_enter Try.func9, Try.ntmps9
      go_wp2_with fail
      refine (c_IsModel x y z _ _ _ ts gs rs _ l1 l2 l3 (H.out.below HB0.out)).mono ?_
      rintro e w1 ⟨rfl, hb1⟩
      rw [HM.out]
      have HX1 := Lib.hid (HX0.out.below hb1)
      have HB1 : Hid (Below w.heap.size w w1) := HB0.out.trans (hb1.mono HB0.out.size)
      rw [HZ0.out] at hb1
      have HV1 := Lib.hid hb1
      clear hb1
      have e1 := HY0.out w1 HV1.out
      have d4 := HX1.out.c4
      go_wp2_with fail
      refine (c_whereAbove gs _ (w.heap.size + 1) q _ l2 (H.out.g.below HB1.out) (fun k u hk hu => by
        have hs := HV1.out.size
        rw [HZ0.out] at hs
        rw [HQ.out]
        exact c_fnAbove _ _ g u (HY0.out u (HV1.out.trans (hu.mono hs))))).mono ?_
      rintro e w2 ⟨v, rfl, hr2, hb2⟩
      have HB2 : Hid (Below w.heap.size w w2) := HB1.out.trans (hb2.mono HB1.out.size)
      have HR2 : Hid (Row w2 w.heap.size v (sel (pAt q gs) gs.length)) := hr2.mono HB1.out.size
      clear hb2 hr2
      go_wp2
      go_ret2
      exact ⟨_, rfl, HR2.out, HB2.out⟩
    · rw [show abB x y z ts gs rs g = false by unfold abB; rw [hm]; simpa using hgr]
      simp only [Bool.false_eq_true, if_false]
      clear hm
      go_enter Try.func9, Try.ntmps9
      go_wp2_with fail
      refine (c_IsModel x y z _ _ _ ts gs rs _ l1 l2 l3 (H.out.below HB0.out)).mono ?_
      rintro e w1 ⟨rfl, hb1⟩
      rw [HM.out]
      have HX1 := Lib.hid (HX0.out.below hb1)
      have HB1 : Hid (Below w.heap.size w w1) := HB0.out.trans (hb1.mono HB0.out.size)
      rw [HZ0.out] at hb1
      have HV1 := Lib.hid hb1
      clear hb1
      have e1 := HY0.out w1 HV1.out
      by_cases g0 : g < 0
      · go_wp2
        go_ret2
        exact ⟨_, rfl, Row.nil _ _, HB1.out⟩
      · have g1 : 1001 < g := by omega
        go_wp2
        go_ret2
        exact ⟨_, rfl, Row.nil _ _, HB1.out⟩

set_option maxHeartbeats 1000000 in
theorem c_AboveGradeS (x y z : Int) (v1 v2 v3 : Value) (ts gs rs : List Int) (g : Int) (w : World) (l1 : ts.length ≤ 4000000) (l2 : gs.length ≤ 4000000) (l3 : rs.length ≤ 4000000) (h : Look w v1 v2 v3 ts gs rs) :
    Calls Try.prog 7 #[.agg #[.int .i64 x, .int .i64 y, .int .i64 z, v1, v2, v3], .int .i64 g] w (GivesRow2 w (abL x y z ts gs rs g) (abB x y z ts gs rs g)) := by
  obtain ⟨i0, hi0, hz0, hz1, hz2⟩ := info_parts int_info
  have HI := Lib.hid hi0
  clear hi0
  have HGA : Hid (∀ k : Nat, k < gs.length → ∃ b off c, v2 = .slice (some ⟨b, off, none⟩) gs.length c ∧ b < w.heap.size ∧ w.cell? ⟨b, off + k, none⟩ = some (.int .i64 (gs.getD k 0))) := fun k hk => h.g.at_ hk
  have H := Lib.hid h
  obtain ⟨A1, c1, rfl⟩ := h.t.shape
  obtain ⟨A2, c2, rfl⟩ := h.g.shape
  obtain ⟨A3, c3, rfl⟩ := h.r.shape
  clear h
  have HX0 : Hid (Box6 (w.alloc (.cells #[.int .i64 x, .int .i64 y, .int .i64 z, (.slice A1 ts.length c1), (.slice A2 gs.length c2), (.slice A3 rs.length c3)] 32)) w.heap.size x y z (.slice A1 ts.length c1) (.slice A2 gs.length c2) (.slice A3 rs.length c3)) := Box6.new _ _ _ _ _ _ _ _
  have HB0 : Hid (Below w.heap.size w (w.alloc (.cells #[.int .i64 x, .int .i64 y, .int .i64 z, (.slice A1 ts.length c1), (.slice A2 gs.length c2), (.slice A3 rs.length c3)] 32))) := (Below.refl _ _).alloc (Nat.le_refl _) _
  unfold abL
  cases hm : moB x y z ts gs rs
  · have HM := Lib.hid hm
    rw [show abB x y z ts gs rs g = false by unfold abB; rw [hm]; rfl]
    simp only [Bool.false_eq_true, if_false]
    clear hm
    go_enter Try.func7, Try.ntmps7
    go_wp2_with fail
    refine (c_moGood x y z _ _ _ ts gs rs _ l1 l2 l3 (H.out.below HB0.out)).mono ?_
    rintro e w1 ⟨rfl, hb1⟩
    rw [HM.out]
    have HX1 := Lib.hid (HX0.out.below hb1)
    have HB1 : Hid (Below w.heap.size w w1) := HB0.out.trans (hb1.mono HB0.out.size)
    clear hb1
    go_wp2
    go_ret2
    exact ⟨_, rfl, Row.nil _ _, HB1.out⟩
  · have HM := Lib.hid hm
    cases hgr : decide (0 ≤ g ∧ g ≤ 1001)
    · have HG := Lib.hid hgr
      rw [show abB x y z ts gs rs g = false by unfold abB; rw [hm, hgr]; rfl]
      simp only [Bool.false_eq_true, if_false]
      clear hm hgr
      go_enter Try.func7, Try.ntmps7
      go_wp2_with fail
      refine (c_moGood x y z _ _ _ ts gs rs _ l1 l2 l3 (H.out.below HB0.out)).mono ?_
      rintro e w1 ⟨rfl, hb1⟩
      rw [HM.out]
      have HX1 := Lib.hid (HX0.out.below hb1)
      have HB1 : Hid (Below w.heap.size w w1) := HB0.out.trans (hb1.mono HB0.out.size)
      clear hb1
      have d1_0 := HX1.out.c0
      have d1_1 := HX1.out.c1
      have d1_2 := HX1.out.c2
      have d1_3 := HX1.out.c3
      have d1_4 := HX1.out.c4
      have d1_5 := HX1.out.c5
      go_wp2_with fail
      refine (c_l1In _ _ _ _).mono ?_
      rintro e w1' ⟨rfl, rfl⟩
      rw [HG.out]
      go_wp2
      go_ret2
      exact ⟨_, rfl, Row.nil _ _, HB1.out⟩
    · have HG := Lib.hid hgr
      rw [show abB x y z ts gs rs g = true by unfold abB; rw [hm, hgr]; rfl]
      simp only [if_true]
      have HP : Hid (∀ k : Nat, pAt (abQ g) gs k = decide (g ≤ gs.getD k 0)) := fun k => rfl
      generalize pAt (abQ g) gs = p at *
      clear hm hgr
      go_enter Try.func7, Try.ntmps7
      go_wp2_with fail
      refine (c_moGood x y z _ _ _ ts gs rs _ l1 l2 l3 (H.out.below HB0.out)).mono ?_
      rintro e w1 ⟨rfl, hb1⟩
      rw [HM.out]
      have HX1 := Lib.hid (HX0.out.below hb1)
      have HB1 : Hid (Below w.heap.size w w1) := HB0.out.trans (hb1.mono HB0.out.size)
      clear hb1
      have d1_0 := HX1.out.c0
      have d1_1 := HX1.out.c1
      have d1_2 := HX1.out.c2
      have d1_3 := HX1.out.c3
      have d1_4 := HX1.out.c4
      have d1_5 := HX1.out.c5
      go_wp2_with fail
      refine (c_l1In _ _ _ _).mono ?_
      rintro e w1' ⟨rfl, rfl⟩
      rw [HG.out]
      go_wp2_with fail
      go_loopw [6, 20] (fun v i wr => ∃ k : Nat, k ≤ gs.length ∧ i = .int .i64 k ∧ Row wr w.heap.size v (sel p k) ∧ Below w.heap.size w wr) (fun _ i _ => gs.length - (intOf i).toNat)
      case atStart => exact ⟨0, Nat.zero_le _, rfl, Row.nil _ _, HB1.out⟩
      case round =>
        obtain ⟨k, hk, rfl, hr, hbw⟩ := hrel
        have HR := Lib.hid hr
        have HB := Lib.hid hbw
        clear hr hbw
        by_cases hlt : k < gs.length
        · obtain ⟨b, off, c', ee, hbl, hcc⟩ := HGA.out k hlt
          obtain ⟨rfl, rfl⟩ := (by simpa using ee : A2 = some ⟨b, off, none⟩ ∧ c2 = c')
          clear ee
          have q1 : wr.cell? ⟨b, off + k, none⟩ = some (.int .i64 (gs.getD k 0)) := by rw [HB.out.cell (p := ⟨b, off + k, none⟩) hbl]; exact hcc
          have hp : Hid (p k = decide (g ≤ gs.getD k 0)) := HP.out k
          clear hcc hbl
          generalize gs.getD k 0 = t at *
          have b1 : (0 : Int) ≤ (k : Int) := by omega
          have b2 : (k : Int) < (gs.length : Int) := by omega
          have hlen := sel_len p k
          have sw := HB.out.size
          by_cases hq : g ≤ t
          · have HQ : Hid (p k = true) := hp.out.trans (decide_eq_true hq)
            go_wp2_with (at_builtin; refine wpList_append_own _ rfl _ _ 24 rfl (w.heap.size) 3 i0 (.int .i64 0) 1 8 Try.underlying24 HI.out hz0 hz1 hz2 rfl (by decide) _ _ _ rfl (World.ownsRow.alloc HR.out _) ⟨wr.heap.size, 0, none⟩ 1 1 [.int .i64 k] rfl rfl ?c1 ?c2 ?c3 ?c4 ?c5 ?_)
            case c1 =>
              intro j u hj
              match j, hj with
              | 0, hj => simp at hj; subst hj; simp [Addr.add]
            case c2 => intro u hu; simp at hu; subst hu; rfl
            case c3 => unfold maxLen; omega
            case c4 => omega
            case c5 => simp; omega
            intro v' w4 hown' hgrow _
            have R1 : Hid (Row w4 w.heap.size v' (sel p (k + 1))) := by rw [sel_hit HQ.out]; exact row_more hown'
            have R2 : Hid (Below w.heap.size w w4) := (HB.out.alloc sw _).grown hgrow (by simp; omega) (fun g hg => (World.ownsRow.lt HR.out g hg).1)
            clear hown' hgrow
            go_wp2
            go_roundw
            case rel => exact ⟨k + 1, by omega, by go_num, R1.out, R2.out⟩
            case measure => simp [intOf]; omega
          · have HQ : Hid (p k = false) := hp.out.trans (decide_eq_false hq)
            go_wp2
            go_roundw
            case rel => exact ⟨k + 1, by omega, by go_num, by rw [sel_miss HQ.out]; exact HR.out, HB.out⟩
            case measure => simp [intOf]; omega
        · obtain rfl : k = gs.length := by omega
          go_wp2
          go_ret2
          exact ⟨_, rfl, HR.out, HB.out⟩
end Go.Proofs.Ythdbcncdihcggab
