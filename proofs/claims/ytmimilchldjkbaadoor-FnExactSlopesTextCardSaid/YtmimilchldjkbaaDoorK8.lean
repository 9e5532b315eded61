/-
  Contracts: valid slopes, in the program and in the model.
-/
import Derived.Test.YtmimilchldjkbaaDoorK6
import Derived.Test.YtmimilchldjkbaaDoorO3
import Derived.Test.YtmimilchldjkbaaDoorM3
namespace Go.Proofs.YtmimilchldjkbaaDoor
open Go.RowKit
set_option linter.unusedVariables false

def temK (tss : List (List Int)) (k : Nat) : Bool := temB ((tss.getD k []).length / 3) (tss.getD k [])
def temsAll (tss : List (List Int)) : Nat → Bool
  | 0 => true
  | k + 1 => temsAll tss k && temK tss k
theorem temsAll_no {tss : List (List Int)} : ∀ {n k : Nat}, k < n → temK tss k = false → temsAll tss n = false
  | n + 1, k, hk, h => by
    by_cases e : k = n
    · subst e; rw [temsAll, h, Bool.and_false]
    · rw [temsAll, temsAll_no (n := n) (by omega) h]; rfl
theorem temsAll_at {tss : List (List Int)} : ∀ {n k : Nat}, temsAll tss n = true → k < n → temK tss k = true
  | n + 1, k, h, hk => by
    rw [temsAll, Bool.and_eq_true] at h
    by_cases e : k = n
    · subst e; exact h.2
    · exact temsAll_at h.1 (by omega)
theorem temsAll_go {tss : List (List Int)} {k : Nat} (h : temsAll tss k = true) (h2 : temK tss k = true) : temsAll tss (k + 1) = true := by rw [temsAll, h, h2]; rfl
/-- One to four templates. -/
def tmsB (tss : List (List Int)) : Bool := decide (1 ≤ tss.length ∧ tss.length ≤ 4) && temsAll tss tss.length
/-- Valid slopes. -/
def sloB (x y : Int) (ss : List Int) (tss : List (List Int)) : Bool := tmsB tss && areB (x * y) ((tss.length : Int) - 1) ss

set_option maxHeartbeats 4000000 in
theorem c_areTemplates (tss : List (List Int)) (v : Value) (w : World) (hl : ShortT tss) (h : SeenT w v tss) :
    Calls Tryd.prog 102 #[v] w fun e w' => e = .returned (.bool (tmsB tss)) ∧ Below w.heap.size w w' := by
  obtain ⟨A, c, rfl, hm, hA⟩ := h
  obtain ⟨hl1, hl2⟩ := hl
  by_cases hn : 1 ≤ tss.length ∧ tss.length ≤ 4
  · obtain ⟨n1, n2⟩ := hn
    obtain ⟨b, off, rfl, hb, hc⟩ := hA (by omega)
    have E1 : Hid (∀ (k : Nat) (u : World), Below w.heap.size w u → k < tss.length → ∃ A' c', u.cell? ⟨b, off + k, none⟩ = some (.slice A' ((tss.getD k []).length / 3) c') ∧ Hid (∀ u', Below u.heap.size u u' → Calls Tryd.prog 135 #[.slice A' ((tss.getD k []).length / 3) c'] u' fun e w' => e = .returned (.bool (temK tss k)) ∧ Below u'.heap.size u' w')) := fun k u hu hk => by
      obtain ⟨x, hx, hs⟩ := hc k hk
      obtain ⟨A', c', rfl, _⟩ := hs.shape
      exact ⟨A', c', by rw [hu.cell (p := ⟨b, off + k, none⟩) hb]; exact hx, fun u' hu' => c_IsTemplate _ _ _ u' (hl2 k hk) ((hs.below hu).below hu')⟩
    have F1 : Hid (∀ k : Nat, k < tss.length → temK tss k = false → tmsB tss = false) := fun k hk h => by unfold tmsB; rw [temsAll_no hk h, Bool.and_false]
    have F2 : Hid (temsAll tss tss.length = true → tmsB tss = true) := fun h => by unfold tmsB; rw [h, decide_eq_true (p := 1 ≤ tss.length ∧ tss.length ≤ 4) ⟨n1, n2⟩]; rfl
    have F3 : Hid (∀ k : Nat, temsAll tss k = true → temK tss k = true → temsAll tss (k + 1) = true) := fun k h h2 => temsAll_go h h2
    have FZ : Hid (temsAll tss 0 = true) := rfl
    clear hA hc hl2 hm
    generalize tmsB tss = R at *
    generalize temsAll tss = TA at *
    generalize temK tss = TK at *
    have a1 : ¬ (tss.length : Int) < 1 := by omega
    have a2 : ¬ 4 < (tss.length : Int) := by omega
    go_enter Tryd.func102, Tryd.ntmps102
    go_wp2_with fail
    go_loopw [15] (fun i wr => ∃ k : Nat, k ≤ tss.length ∧ i = .int .i64 k ∧ TA k = true ∧ Below w.heap.size w wr) (fun i _ => tss.length - (intOf i).toNat)
    case atStart => exact ⟨0, Nat.zero_le _, rfl, FZ.out, Below.refl _ _⟩
    case round =>
      obtain ⟨k, hk, rfl, hP, hbw⟩ := hrel
      have HP := Lib.hid hP
      have HB := Lib.hid hbw
      clear hP hbw
      by_cases hlt : k < tss.length
      · obtain ⟨A', c', q0, HC⟩ := E1.out k wr HB.out hlt
        have F1k := Lib.hid (F1.out k hlt)
        have F3k := Lib.hid (F3.out k HP.out)
        have b1 : (0 : Int) ≤ (k : Int) := by omega
        have b2 : (k : Int) < (tss.length : Int) := by omega
        generalize (tss.getD k []).length / 3 = m at *
        go_wp2_with fail
        refine (HC.out _ (Below.refl _ _)).mono ?_
        rintro e w2 ⟨rfl, hb2⟩
        have HB2 : Hid (Below w.heap.size w w2) := HB.out.trans (hb2.mono HB.out.size)
        clear hb2
        cases hp : TK k
        · have G := Lib.hid (F1k.out hp)
          clear hp
          go_wp2
          go_ret
          exact ⟨ret_bool G.out.symm, HB2.out⟩
        · have G := Lib.hid (F3k.out hp)
          clear hp
          go_wp2
          go_roundw
          case rel => exact ⟨k + 1, by omega, by go_num, G.out, HB2.out⟩
          case measure => simp [intOf]; omega
      · obtain rfl : k = tss.length := by omega
        have G := Lib.hid (F2.out HP.out)
        go_wp2
        go_ret
        exact ⟨ret_bool G.out.symm, HB.out⟩
  · have hB : tmsB tss = false := by unfold tmsB; rw [decide_eq_false hn]; rfl
    rw [hB]
    clear hB hA
    by_cases n1 : (tss.length : Int) < 1
    · go_enter Tryd.func102, Tryd.ntmps102
      go_wp2
      go_ret
      exact ⟨rfl, Below.refl _ _⟩
    · have n2 : 4 < (tss.length : Int) := by omega
      go_enter Tryd.func102, Tryd.ntmps102
      go_wp2
      go_ret
      exact ⟨rfl, Below.refl _ _⟩

set_option maxHeartbeats 400000 in
theorem c_levelSize (x y z : Int) (w : World) (hg : goodB x y z = true) : Calls Tryd.prog 43 #[.agg #[.int .i64 x, .int .i64 y, .int .i64 z]] w fun e w' => e = .returned (.int .i64 (x * y)) ∧ Below w.heap.size w w' := by
  obtain ⟨x1, x2, y1, y2, z1, z2, p1, p2, q1, q2⟩ := good_box hg
  clear hg
  go_enter Tryd.func43, Tryd.ntmps43
  go_wp2
  go_ret
  exact ⟨rfl, by go_grown⟩

def sloV (x y z : Int) (ss : List Int) (tss : List (List Int)) : Bool := goodB x y z && sloB x y ss tss

set_option maxHeartbeats 4000000 in
theorem c_AreSlopes (x y z : Int) (v1 v2 : Value) (ss : List Int) (tss : List (List Int)) (w : World) (l1 : ss.length ≤ 4000000) (l2 : ShortT tss) (h : LookS w v1 v2 ss tss) :
    Calls Tryd.prog 59 #[.agg #[.int .i64 x, .int .i64 y, .int .i64 z], .agg #[v1, v2]] w fun e w' => e = .returned (.tuple #[.bool (sloV x y z ss tss), .bool (goodB x y z)]) ∧ Below w.heap.size w w' := by
  have H := Lib.hid h
  have hl1 := l2.1
  have L2 := Lib.hid l2
  obtain ⟨A1, c1, rfl, m1, _⟩ := h.s
  obtain ⟨A2, c2, rfl, m2⟩ := h.t.shape
  clear h m1 m2 l2
  have HX0 : Hid (Box3 ((w.alloc (.cells #[.int .i64 x, .int .i64 y, .int .i64 z] 30)).alloc (.cells #[.slice A1 ss.length c1, .slice A2 tss.length c2] 27)) w.heap.size x y z) := (Box3.new _ _ _ _ _).below ((Below.refl _ _).alloc (Nat.le_refl _) _)
  have HY0 : Hid (Mine2 ((w.alloc (.cells #[.int .i64 x, .int .i64 y, .int .i64 z] 30)).alloc (.cells #[.slice A1 ss.length c1, .slice A2 tss.length c2] 27)) (w.heap.size + 1) (.slice A1 ss.length c1) (.slice A2 tss.length c2)) := by
    have := Mine2.new (w.alloc (.cells #[.int .i64 x, .int .i64 y, .int .i64 z] 30)) (.slice A1 ss.length c1) (.slice A2 tss.length c2) 27
    simp at this
    exact this
  have HB0 : Hid (Below w.heap.size w ((w.alloc (.cells #[.int .i64 x, .int .i64 y, .int .i64 z] 30)).alloc (.cells #[.slice A1 ss.length c1, .slice A2 tss.length c2] 27))) := ((Below.refl _ _).alloc (Nat.le_refl _) _).alloc (by simp) _
  have CT : Hid (∀ u, Below w.heap.size w u → Calls Tryd.prog 102 #[.slice A2 tss.length c2] u fun e w' => e = .returned (.bool (tmsB tss)) ∧ Below u.heap.size u w') := fun u hu => c_areTemplates tss _ u L2.out (H.out.t.below hu)
  have CN : Hid (∀ (m hi : Int) (u : World), Below w.heap.size w u → Calls Tryd.prog 103 #[.slice A1 ss.length c1, .int .i64 m, .int .i64 hi] u fun e w' => e = .returned (.bool (areB m hi ss)) ∧ u = w') := fun m hi u hu => c_areNumbers ss _ m hi u l1 (H.out.s.below hu)
  have HV : Hid (sloV x y z ss tss = (goodB x y z && (tmsB tss && areB (x * y) ((tss.length : Int) - 1) ss))) := rfl
  generalize sloV x y z ss tss = RV at *
  cases hg : goodB x y z
  · have G : Hid (RV = false) := by have := HV.out; rw [hg] at this; exact this
    have C1 : Hid (∀ u, Calls Tryd.prog 42 #[.agg #[.int .i64 x, .int .i64 y, .int .i64 z]] u fun e w' => e = .returned (.bool false) ∧ Below u.heap.size u w') := fun u => by rw [← hg]; exact c_IsGrid x y z u
    clear hg HV
    go_enter Tryd.func59, Tryd.ntmps59
    go_wp2_with fail
    refine (C1.out _).mono ?_
    rintro e w1 ⟨rfl, hb1⟩
    have HB1 : Hid (Below w.heap.size w w1) := HB0.out.trans (hb1.mono HB0.out.size)
    clear hb1
    go_wp2
    go_ret2
    exact ⟨by rw [G.out]; rfl, HB1.out⟩
  · have C1 : Hid (∀ u, Calls Tryd.prog 42 #[.agg #[.int .i64 x, .int .i64 y, .int .i64 z]] u fun e w' => e = .returned (.bool true) ∧ Below u.heap.size u w') := fun u => by rw [← hg]; exact c_IsGrid x y z u
    have CL : Hid (∀ u, Calls Tryd.prog 43 #[.agg #[.int .i64 x, .int .i64 y, .int .i64 z]] u fun e w' => e = .returned (.int .i64 (x * y)) ∧ Below u.heap.size u w') := fun u => c_levelSize x y z u hg
    have HV2 : Hid (RV = (tmsB tss && areB (x * y) ((tss.length : Int) - 1) ss)) := by have := HV.out; rw [hg] at this; exact this
    clear HV hg
    go_enter Tryd.func59, Tryd.ntmps59
    go_wp2_with fail
    generalize ((w.alloc (.cells #[.int .i64 x, .int .i64 y, .int .i64 z] 30)).alloc (.cells #[.slice A1 ss.length c1, .slice A2 tss.length c2] 27)) = W at *
    refine (C1.out _).mono ?_
    rintro e w1 ⟨rfl, hb1⟩
    have HB1 : Hid (Below w.heap.size w w1) := HB0.out.trans (hb1.mono HB0.out.size)
    have HX1 := Lib.hid (HX0.out.below hb1)
    have HY1 := Lib.hid (HY0.out.below hb1)
    clear hb1
    have x0 := HX1.out.c0
    have x1 := HX1.out.c1
    have x2 := HX1.out.c2
    have x3 := HX1.out.lt
    have y0 := HY1.out.c0
    have y1 := HY1.out.c1
    have y3 := HY1.out.lt
    cases ht : tmsB tss
    · have G : Hid (RV = false) := by have := HV2.out; rw [ht] at this; exact this
      rw [ht] at CT
      have CT' : Hid (∀ u, Calls Tryd.prog 102 #[.slice A2 tss.length c2] (wOf w1 u) fun e w' => e = .returned (.bool false) ∧ Below (wOf w1 u).heap.size (wOf w1 u) w') := fun u => CT.out _ (HB1.out.trans ((wOf_below w1 u).mono HB1.out.size))
      clear HV2 ht
      go_wp2_with fail
      refine wp_region_grow (by kernel_rfl) (by kernel_rfl) ?_
      repeat (go_big_quiet_step ((go_at_call 102; exact grow_of (CT'.out _))))
      refine wpQuiet_nil ?_
      intro _ hw'
      obtain ⟨u, hw''⟩ := hw'
      subst hw''
      have hb2 := wOf_below w1 u
      generalize wOf w1 u = w2 at hb2 ⊢
      have HB2 : Hid (Below w.heap.size w w2) := HB1.out.trans (hb2.mono HB1.out.size)
      clear hb2
      go_wp2
      go_ret2
      exact ⟨by rw [G.out]; rfl, HB2.out⟩
    · have G : Hid (RV = areB (x * y) ((tss.length : Int) - 1) ss) := by have := HV2.out; rw [ht] at this; exact this
      rw [ht] at CT
      clear HV2 ht
      have KD : Hid (Below w1.heap.size w1 w1.drew) := (Below.refl _ _).drew
      have KE : Hid (∀ u, Below w1.heap.size w1 u → u.cell? ⟨w.heap.size, 0, none⟩ = some (.int .i64 x) ∧ u.cell? ⟨w.heap.size, 1, none⟩ = some (.int .i64 y) ∧ u.cell? ⟨w.heap.size, 2, none⟩ = some (.int .i64 z) ∧ u.cell? ⟨w.heap.size + 1, 0, none⟩ = some (.slice A1 ss.length c1) ∧ u.cell? ⟨w.heap.size + 1, 1, none⟩ = some (.slice A2 tss.length c2)) := fun u hu => by
        have h1 := HX1.out.below hu
        have h2 := HY1.out.below hu
        exact ⟨h1.c0, h1.c1, h1.c2, h2.c0, h2.c1⟩
      have KB : Hid (∀ u, Below w1.heap.size w1 u → Below w.heap.size w u) := fun u hu => HB1.out.trans (hu.mono HB1.out.size)
      have iw : IntKind.i64.wrap ((tss.length : Int) - 1) = (tss.length : Int) - 1 := IntWalk.i64_in _ (by omega)
      go_wp2_with fail
      go_region_held3 (fun u => u.cell? ⟨w.heap.size, 0, none⟩ = some (.int .i64 x) ∧ u.cell? ⟨w.heap.size, 1, none⟩ = some (.int .i64 y) ∧ u.cell? ⟨w.heap.size, 2, none⟩ = some (.int .i64 z) ∧ u.cell? ⟨w.heap.size + 1, 0, none⟩ = some (.slice A1 ss.length c1) ∧ u.cell? ⟨w.heap.size + 1, 1, none⟩ = some (.slice A2 tss.length c2)) (first | with_reducible exact KE.out _ KD.out | with_reducible exact KE.out _ U1.out | with_reducible exact KE.out _ U2.out)
        (first
          | (go_at_call 102; (with_reducible refine (CT.out _ (KB.out _ KD.out)).mono ?_); rintro e w2 ⟨rfl, hb2⟩; have U1 : Hid (Below w1.heap.size w1 w2) := KD.out.trans (hb2.mono KD.out.size); clear hb2)
          | (go_at_call 43; (with_reducible refine (CL.out _).mono ?_); rintro e w3 ⟨rfl, hb3⟩; have U2 : Hid (Below w1.heap.size w1 w3) := U1.out.trans (hb3.mono U1.out.size); clear hb3)
          | (go_at_call 103; (with_reducible refine (CN.out _ _ _ (KB.out _ U2.out)).mono ?_); rintro e w4 ⟨rfl, rfl⟩))
      have HB4 := Lib.hid (KB.out _ U2.out)
      go_wp2
      go_ret2
      exact ⟨by rw [G.out]; rfl, HB4.out⟩

theorem areB_eq (m hi : Int) (xs : List Int) : areB m hi xs = (((xs.length : Int) == m) && allB hi xs) := by
  unfold areB
  rw [Bool.eq_iff_iff]
  simp

set_option maxHeartbeats 4000000 in
theorem c_slGood (x y z : Int) (v1 v2 : Value) (ss : List Int) (tss : List (List Int)) (w : World) (hg : goodB x y z = true) (l1 : ss.length ≤ 4000000) (l2 : ShortT tss) (h : LookS w v1 v2 ss tss) :
    Calls Tryd.prog 98 #[.agg #[.int .i64 x, .int .i64 y, .int .i64 z], .agg #[v1, v2]] w fun e w' => e = .returned (.bool (sloB x y ss tss)) ∧ Below w.heap.size w w' := by
  have H := Lib.hid h
  have hl1 := l2.1
  have L2 := Lib.hid l2
  obtain ⟨x1', x2', y1', y2', z1', z2', p1', p2', q1', q2'⟩ := good_box hg
  obtain ⟨A1, c1, rfl, m1, _⟩ := h.s
  obtain ⟨A2, c2, rfl, m2, hA⟩ := h.t
  clear h m1 m2 l2 hg
  have HX0 : Hid (Box3 ((w.alloc (.cells #[.int .i64 x, .int .i64 y, .int .i64 z] 30)).alloc (.cells #[.slice A1 ss.length c1, .slice A2 tss.length c2] 27)) w.heap.size x y z) := (Box3.new _ _ _ _ _).below ((Below.refl _ _).alloc (Nat.le_refl _) _)
  have HY0 : Hid (Mine2 ((w.alloc (.cells #[.int .i64 x, .int .i64 y, .int .i64 z] 30)).alloc (.cells #[.slice A1 ss.length c1, .slice A2 tss.length c2] 27)) (w.heap.size + 1) (.slice A1 ss.length c1) (.slice A2 tss.length c2)) := by
    have := Mine2.new (w.alloc (.cells #[.int .i64 x, .int .i64 y, .int .i64 z] 30)) (.slice A1 ss.length c1) (.slice A2 tss.length c2) 27
    simp at this
    exact this
  have HB0 : Hid (Below w.heap.size w ((w.alloc (.cells #[.int .i64 x, .int .i64 y, .int .i64 z] 30)).alloc (.cells #[.slice A1 ss.length c1, .slice A2 tss.length c2] 27))) := ((Below.refl _ _).alloc (Nat.le_refl _) _).alloc (by simp) _
  have E1 : Hid (∀ (k : Nat) (u : World), Below w.heap.size w u → k < tss.length → ∃ b off A' c', A2 = some ⟨b, off, none⟩ ∧ u.cell? ⟨b, off + k, none⟩ = some (.slice A' ((tss.getD k []).length / 3) c') ∧ Hid (∀ u', Below u.heap.size u u' → Calls Tryd.prog 133 #[.slice A' ((tss.getD k []).length / 3) c'] u' fun e w' => e = .returned (.bool (temK tss k)) ∧ Below u'.heap.size u' w')) := fun k u hu hk => by
    obtain ⟨b, off, rfl, hb, hc⟩ := hA (by omega)
    obtain ⟨x, hx, hs⟩ := hc k hk
    obtain ⟨A', c', rfl, _⟩ := hs.shape
    exact ⟨b, off, A', c', rfl, by rw [hu.cell (p := ⟨b, off + k, none⟩) hb]; exact hx, fun u' hu' => c_slTemplate _ _ _ u' (L2.out.2 k hk) ((hs.below hu).below hu')⟩
  have CA : Hid (∀ (hi : Int) (u : World), Below w.heap.size w u → Calls Tryd.prog 106 #[.slice A1 ss.length c1, .int .i64 0, .int .i64 hi] u fun e w' => e = .returned (.bool (allB hi ss)) ∧ u = w') := fun hi u hu => c_l1All ss _ hi u l1 (H.out.s.below hu)
  have F1 : Hid (∀ k : Nat, k < tss.length → temK tss k = false → sloB x y ss tss = false) := fun k hk h => by unfold sloB tmsB; rw [temsAll_no hk h]; simp
  have F2 : Hid (temsAll tss tss.length = true → sloB x y ss tss = (decide (1 ≤ (tss.length : Int) ∧ (tss.length : Int) ≤ 4) && (((ss.length : Int) == x * y) && allB ((tss.length : Int) - 1) ss))) := fun h => by
    unfold sloB tmsB
    rw [h, Bool.and_true, areB_eq]
    congr 1
    exact decide_eq_decide.2 (by omega)
  have F3 : Hid (∀ k : Nat, temsAll tss k = true → temK tss k = true → temsAll tss (k + 1) = true) := fun k h h2 => temsAll_go h h2
  have FZ : Hid (temsAll tss 0 = true) := rfl
  clear hA
  generalize sloB x y ss tss = R at *
  generalize temsAll tss = TA at *
  generalize temK tss = TK at *
  have iw : IntKind.i64.wrap ((tss.length : Int) - 1) = (tss.length : Int) - 1 := IntWalk.i64_in _ (by omega)
  go_enter Tryd.func98, Tryd.ntmps98
  go_wp2_with fail
  generalize ((w.alloc (.cells #[.int .i64 x, .int .i64 y, .int .i64 z] 30)).alloc (.cells #[.slice A1 ss.length c1, .slice A2 tss.length c2] 27)) = W at *
  go_loopw [10] (fun i wr => ∃ k : Nat, k ≤ tss.length ∧ i = .int .i64 k ∧ TA k = true ∧ Below W.heap.size W wr) (fun i _ => tss.length - (intOf i).toNat)
  case atStart => exact ⟨0, Nat.zero_le _, rfl, FZ.out, Below.refl _ _⟩
  case round =>
    obtain ⟨k, hk, rfl, hP, hbw⟩ := hrel
    have HP := Lib.hid hP
    have HB := Lib.hid hbw
    clear hP hbw
    have HW : Hid (Below w.heap.size w wr) := HB0.out.trans (HB.out.mono HB0.out.size)
    by_cases hlt : k < tss.length
    · obtain ⟨b, off, A', c', rfl, q0, HC⟩ := E1.out k wr HW.out hlt
      have F1k := Lib.hid (F1.out k hlt)
      have F3k := Lib.hid (F3.out k HP.out)
      have b1 : (0 : Int) ≤ (k : Int) := by omega
      have b2 : (k : Int) < (tss.length : Int) := by omega
      generalize (tss.getD k []).length / 3 = m at *
      go_wp2_with fail
      refine (HC.out _ (Below.refl _ _)).mono ?_
      rintro e w2 ⟨rfl, hb2⟩
      have HB2 : Hid (Below W.heap.size W w2) := HB.out.trans (hb2.mono HB.out.size)
      have HW2 : Hid (Below w.heap.size w w2) := HW.out.trans (hb2.mono HW.out.size)
      clear hb2
      cases hp : TK k
      · have G := Lib.hid (F1k.out hp)
        clear hp
        go_wp2
        go_ret
        exact ⟨ret_bool G.out.symm, HW2.out⟩
      · have G := Lib.hid (F3k.out hp)
        clear hp
        go_wp2
        go_roundw
        case rel => exact ⟨k + 1, by omega, by go_num, G.out, HB2.out⟩
        case measure => simp [intOf]; omega
    · obtain rfl : k = tss.length := by omega
      have G := Lib.hid (F2.out HP.out)
      have HX1 := Lib.hid (HX0.out.below HB.out)
      have HY1 := Lib.hid (HY0.out.below HB.out)
      have x0 := HX1.out.c0
      have x1 := HX1.out.c1
      have x2 := HX1.out.c2
      have y0 := HY1.out.c0
      have y1 := HY1.out.c1
      by_cases hn : 1 ≤ (tss.length : Int) ∧ (tss.length : Int) ≤ 4
      · rw [decide_eq_true hn, Bool.true_and] at G
        have dn : insB (tss.length : Int) 1 4 = true := decide_eq_true hn
        cases he : ((ss.length : Int) == x * y)
        · rw [he, Bool.false_and] at G
          go_wp2_with fail
          refine (c_insB _ _ _ _).mono ?_
          rintro e w2 ⟨rfl, rfl⟩
          go_wp2
          go_ret
          exact ⟨ret_bool G.out.symm, HW.out⟩
        · rw [he, Bool.true_and] at G
          go_wp2_with fail
          refine (c_insB _ _ _ _).mono ?_
          rintro e w2 ⟨rfl, rfl⟩
          go_wp2_with fail
          refine (CA.out _ _ HW.out).mono ?_
          rintro e w2 ⟨rfl, rfl⟩
          go_wp2
          go_ret
          exact ⟨ret_bool G.out.symm, HW.out⟩
      · rw [decide_eq_false hn, Bool.false_and] at G
        have dn : insB (tss.length : Int) 1 4 = false := decide_eq_false hn
        go_wp2_with fail
        refine (c_insB _ _ _ _).mono ?_
        rintro e w2 ⟨rfl, rfl⟩
        go_wp2
        go_ret
        exact ⟨ret_bool G.out.symm, HW.out⟩

end Go.Proofs.YtmimilchldjkbaaDoor
