/-
  Contracts: the blocks of a level, by a function value in the program, by the model's LevelBlocks.
-/
import Derived.Test.YtglcdgonbmdhoaaM10
namespace Go.Proofs.Ytglcdgonbmdhoaa
open Go.RowKit
set_option linter.unusedVariables false

def nB (x y z : Int) : Nat := (x * y * z).toNat
theorem nB_eq {x y z : Int} (h : goodB x y z = true) : x * y * z = (nB x y z : Int) := by
  have := good_box h
  unfold nB
  omega
def lvB (x y z a : Int) : Bool := goodB x y z && inB x y z 0 0 a
def lvL (x y z a : Int) : List Int := if lvB x y z a then sel (fun k => k / x / y == a) (nB x y z) else []
def lvS (c : Int) (n : Nat) : List Int := (List.range n).map fun (t : Nat) => c + t
theorem lvS_len (c : Int) (n : Nat) : (lvS c n).length = n := by simp [lvS]
theorem lvS_succ (c : Int) (n : Nat) : lvS c (n + 1) = lvS c n ++ [c + n] := by simp [lvS, List.range_succ]
def lvChk : Bool := (List.range 9).all fun X => (List.range 7).all fun Y => (List.range 6).all fun Z => (List.range Z).all fun C =>
  !decide (X * Y * Z ≤ 120 ∧ 0 < X ∧ 0 < Y) || sel (fun k => k / (X : Int) / (Y : Int) == (C : Int)) (X * Y * Z) == lvS ((C : Int) * X * Y) (X * Y)
theorem lvChk_ok : lvChk = true := by decide +kernel
theorem lv_nat {X Y Z C : Nat} (hx : X < 9) (hy : Y < 7) (hz : Z < 6) (h : X * Y * Z ≤ 120) (hx0 : 0 < X) (hy0 : 0 < Y) (hc : C < Z) : sel (fun k => k / (X : Int) / (Y : Int) == (C : Int)) (X * Y * Z) = lvS ((C : Int) * X * Y) (X * Y) := by
  have h0 := lvChk_ok
  simp only [lvChk, List.all_eq_true, List.mem_range] at h0
  have h1 := h0 X hx Y hy Z hz C hc
  rw [decide_eq_true ⟨h, hx0, hy0⟩] at h1
  simpa using h1
theorem lv_same {x y z a : Int} (h : lvB x y z a = true) : lvL x y z a = lvS (a * x * y) (x * y).toNat := by
  unfold lvL
  rw [if_pos h]
  unfold lvB at h
  simp only [Bool.and_eq_true] at h
  obtain ⟨h1, h2⟩ := h
  obtain ⟨x1, x2, y1, y2, z1, z2, p1, p2, q1, q2⟩ := good_box h1
  obtain ⟨_, _, a1, a2⟩ := of_decide_eq_true h2
  clear h1 h2
  obtain ⟨X, rfl⟩ := Int.eq_ofNat_of_zero_le (show 0 ≤ x by omega)
  obtain ⟨Y, rfl⟩ := Int.eq_ofNat_of_zero_le (show 0 ≤ y by omega)
  obtain ⟨Z, rfl⟩ := Int.eq_ofNat_of_zero_le (show 0 ≤ z by omega)
  obtain ⟨C, rfl⟩ := Int.eq_ofNat_of_zero_le a1
  have e1 : nB (X : Int) Y Z = X * Y * Z := by unfold nB; rw [← Int.natCast_mul, ← Int.natCast_mul]; exact Int.toNat_natCast _
  have e2 : ((X : Int) * Y).toNat = X * Y := by rw [← Int.natCast_mul]; exact Int.toNat_natCast _
  rw [e1, e2]
  exact lv_nat (by omega) (by omega) (by omega) (by rw [← Int.natCast_mul, ← Int.natCast_mul] at q2; omega) (by omega) (by omega) (by omega)

set_option maxHeartbeats 1000000 in
theorem c_where_LevelSums (x y z : Int) (b0 : Nat) (p : Int → Bool) (w : World) (hg : goodB x y z = true) (N : Nat) (hN : x * y * z = N)
    (H : Hid (∀ (k : Int) (w' : World), 0 ≤ k → k < N → Below w.heap.size w w' → Calls Try.prog 63 #[.agg #[.int .i64 (k % x), .int .i64 (k / x % y), .int .i64 (k / x / y)], .pointer (some ⟨b0, 0, none⟩)] w' fun e w'' => e = .returned (.bool (p k)) ∧ Below w'.heap.size w' w'')) :
    Calls Try.prog 62 #[.agg #[.int .i64 x, .int .i64 y, .int .i64 z], .func (.func 63) #[] #[.pointer (some ⟨b0, 0, none⟩)]] w (GivesRow w (sel p N)) := by
  obtain ⟨i0, hi0, hz0, hz1, hz2⟩ := info_parts int_info
  have HI := Lib.hid hi0
  clear hi0
  obtain ⟨x1, x2, y1, y2, z1, z2, p1, p2, q1, q2⟩ := good_box hg
  clear hg
  have HN := Lib.hid hN
  rw [hN] at q1 q2
  clear hN
  go_enter Try.func62, Try.ntmps62
  go_wp2_with fail
  refine (c_countBlocks _ _ _ _ (by omega) x2 (by omega) y2 (by omega) z2).mono ?_
  rintro e w1 ⟨rfl, hb1⟩
  rw [HN.out]
  obtain ⟨hc1, hf1⟩ := bcell hb1
  have s1 := hb1.size
  simp at s1
  have hb0 : Below w.heap.size w w1 := ((Below.refl _ _).alloc (Nat.le_refl _) _).trans (hb1.mono (by simp))
  go_wp2_with fail
  go_loopw [5, 9] (fun v i wr => ∃ k : Nat, k ≤ N ∧ i = .int .i64 k ∧ Row wr (w.heap.size + 1) v (sel p k) ∧ Below (w.heap.size + 1) w1 wr) (fun _ i _ => N - (intOf i).toNat)
  case atStart => exact ⟨0, Nat.zero_le _, rfl, Row.nil _ _, Below.refl _ _⟩
  case round =>
    obtain ⟨k, hk, rfl, hr, hb⟩ := hrel
    have HR := Lib.hid hr
    clear hr
    have sr := hb.size
    by_cases hlt : k < N
    · have c0 : wr.cell? ⟨w.heap.size, 0, none⟩ = some (.int .i64 x) := by rw [hb.cell (p := ⟨w.heap.size, 0, none⟩) (by simp), hc1 _ _ (by simp)]; simp
      have c1 : wr.cell? ⟨w.heap.size, 1, none⟩ = some (.int .i64 y) := by rw [hb.cell (p := ⟨w.heap.size, 1, none⟩) (by simp), hc1 _ _ (by simp)]; simp
      have c2 : wr.cell? ⟨w.heap.size, 2, none⟩ = some (.int .i64 z) := by rw [hb.cell (p := ⟨w.heap.size, 2, none⟩) (by simp), hc1 _ _ (by simp)]; simp
      clear hc1 hf1
      go_wp2_with fail
      refine (c_findPlace _ _ _ _ _ x1 x2 y1 y2 (by omega) (by omega)).mono ?_
      rintro e w2 ⟨rfl, hb2⟩
      go_wp2_with fail
      refine (H.out k w2 (by omega) (by omega) (hb0.trans ((hb.mono (by omega)).trans (hb2.mono (by omega))))).mono ?_
      rintro e w3 ⟨rfl, hb3⟩
      have hb23 : Below wr.heap.size wr w3 := hb2.trans (hb3.mono hb2.size)
      have s3 := hb23.size
      have HR3 : Hid (Row w3 (w.heap.size + 1) u5 (sel p k)) := HR.out.below hb23
      have hlen := sel_len p k
      cases hp : p k
      · have HP := Lib.hid hp
        clear hp
        go_wp2
        go_roundw
        case rel => exact ⟨k + 1, by omega, by go_num, by rw [sel_miss HP.out]; exact HR3.out, hb.trans (hb23.mono (by omega))⟩
        case measure => simp [intOf]; omega
      · have HP := Lib.hid hp
        clear hp
        go_wp2_with (at_builtin; refine wpList_append_own _ rfl _ _ 24 rfl (w.heap.size + 1) 3 i0 (.int .i64 0) 1 8 Try.underlying24 HI.out hz0 hz1 hz2 rfl (by decide) _ _ _ rfl (World.ownsRow.alloc HR3.out _) ⟨w3.heap.size, 0, none⟩ 1 1 [.int .i64 k] rfl rfl ?c1 ?c2 ?c3 ?c4 ?c5 ?_)
        case c1 =>
          intro j u hj
          match j, hj with
          | 0, hj => simp at hj; subst hj; simp [Addr.add]
        case c2 => intro u hu; simp at hu; subst hu; rfl
        case c3 => unfold maxLen; omega
        case c4 => omega
        case c5 => simp; omega
        intro v' w4 hown' hgrow _
        have R1 : Hid (Row w4 (w.heap.size + 1) v' (sel p (k + 1))) := by rw [sel_hit HP.out]; exact row_more hown'
        have R2 : Hid (Below (w.heap.size + 1) w1 w4) :=
          (((hb.trans (hb23.mono (by omega))).alloc (by omega) _).grown hgrow (by simp; omega) (fun g hg => (World.ownsRow.lt HR3.out g hg).1))
        clear hown' hgrow
        go_wp2
        go_roundw
        case rel => exact ⟨k + 1, by omega, by go_num, R1.out, R2.out⟩
        case measure => simp [intOf]; omega
    · obtain rfl : k = N := by omega
      go_wp2
      go_ret
      exact ⟨_, rfl, HR.out.mono (by omega), hb0.trans (hb.mono (by omega))⟩

set_option maxHeartbeats 400000 in
theorem c_fnLevel (g : Nat) (a b c t : Int) (w : World) (hg : g < w.heap.size) (h : w.cell? ⟨g, 0, none⟩ = some (.int .i64 t)) :
    Calls Try.prog 63 #[.agg #[.int .i64 a, .int .i64 b, .int .i64 c], .pointer (some ⟨g, 0, none⟩)] w fun e w' => e = .returned (.bool (c == t)) ∧ Below w.heap.size w w' := by
  have h' : ∀ o, (w.alloc o).cell? ⟨g, 0, none⟩ = some (.int .i64 t) := fun o => by rw [World.cell?_alloc_lt _ _ _ hg]; exact h
  clear h
  go_enter Try.func63, Try.ntmps63
  go_wp2
  go_ret
  exact ⟨rfl, by go_grown⟩

set_option maxHeartbeats 1000000 in
theorem c_LevelBlocksS (x y z a : Int) (w : World) : Calls Try.prog 61 #[.agg #[.int .i64 x, .int .i64 y, .int .i64 z], .int .i64 a] w (GivesRow2 w (lvL x y z a) (lvB x y z a)) := by
  obtain ⟨i0, hi0, hz0, hz1, hz2⟩ := info_parts int_info
  have HI := Lib.hid hi0
  clear hi0
  cases hg : goodB x y z
  · have hB : lvB x y z a = false := by unfold lvB; rw [hg]; rfl
    rw [show lvL x y z a = [] from if_neg (by rw [hB]; simp), hB]
    clear hB
    go_enter Try.func61, Try.ntmps61
    go_wp2_with (go_at_call 74; refine (c_grGood _ _ _ _).mono ?_; rintro e w1 ⟨rfl, hb1⟩)
    go_ret2
    exact ⟨_, rfl, Row.nil _ _, ((Below.refl _ _).alloc (Nat.le_refl _) _).trans (hb1.mono (by simp))⟩
  · obtain ⟨x1, x2, y1, y2, z1, z2, p1, p2, q1, q2⟩ := good_box hg
    cases hi : decide (0 ≤ a ∧ a ≤ z - 1)
    · have hi' := of_decide_eq_false hi
      have hB : lvB x y z a = false := by unfold lvB inB; rw [hg, Bool.true_and]; exact decide_eq_false (by omega)
      rw [show lvL x y z a = [] from if_neg (by rw [hB]; simp), hB]
      clear hB hi'
      go_enter Try.func61, Try.ntmps61
      go_wp2_with fail
      refine (c_grGood _ _ _ _).mono ?_
      rintro e w1 ⟨rfl, hb1⟩
      obtain ⟨hc1, hf1⟩ := bcell hb1
      have s1 := hb1.size
      simp at s1
      go_wp2_with fail
      refine (c_l1In _ _ _ _).mono ?_
      rintro e w2 ⟨rfl, rfl⟩
      rw [hi]
      go_wp2
      go_ret2
      exact ⟨_, rfl, Row.nil _ _, ((Below.refl _ _).alloc (Nat.le_refl _) _).trans (hb1.mono (by simp))⟩
    · have hi' := of_decide_eq_true hi
      have hB : lvB x y z a = true := by unfold lvB inB; rw [hg, Bool.true_and]; exact decide_eq_true (by omega)
      rw [lv_same hB, hB]
      clear hB
      obtain ⟨a1, a2⟩ := hi'
      obtain ⟨m1, m2⟩ := mul_box (a := a) (b := x) (m := 5) (n := 8) a1 (by omega) (by omega) x2
      obtain ⟨n1, n2⟩ := mul_box (a := a * x) (b := y) (m := 40) (n := 6) m1 m2 (by omega) y2
      have HN : Hid (x * y = ((x * y).toNat : Int)) := by unfold Hid; omega
      generalize (x * y).toNat = n at HN ⊢
      have HL : Hid (∀ k, (lvS (a * x * y) k).length = k) := lvS_len _
      have HS : Hid (∀ k : Nat, lvS (a * x * y) (k + 1) = lvS (a * x * y) k ++ [a * x * y + k]) := lvS_succ _
      have H0 : Hid (lvS (a * x * y) 0 = []) := rfl
      generalize lvS (a * x * y) = L at HL HS H0 ⊢
      go_enter Try.func61, Try.ntmps61
      go_wp2_with fail
      refine (c_grGood _ _ _ _).mono ?_
      rintro e w1 ⟨rfl, hb1⟩
      obtain ⟨hc1, hf1⟩ := bcell hb1
      have s1 := hb1.size
      simp at s1
      have hb0 : Below w.heap.size w w1 := ((Below.refl _ _).alloc (Nat.le_refl _) _).trans (hb1.mono (by simp))
      go_wp2_with fail
      refine (c_l1In _ _ _ _).mono ?_
      rintro e w2 ⟨rfl, rfl⟩
      rw [hi]
      go_wp2_with fail
      go_loopw [6, 7] (fun v i wr => ∃ k : Nat, k ≤ n ∧ i = .int .i64 k ∧ Row wr (w.heap.size + 1) v (L k) ∧ Below (w.heap.size + 1) w1 wr) (fun _ i _ => n - (intOf i).toNat)
      case atStart => exact ⟨0, Nat.zero_le _, rfl, by rw [H0.out]; exact Row.nil _ _, Below.refl _ _⟩
      case round =>
        obtain ⟨k, hk, rfl, hr, hb⟩ := hrel
        have HR := Lib.hid hr
        clear hr
        have sr := hb.size
        have c0 : wr.cell? ⟨w.heap.size, 0, none⟩ = some (.int .i64 x) := by rw [hb.cell (p := ⟨w.heap.size, 0, none⟩) (by simp), hc1 _ _ (by simp)]; simp
        have c1 : wr.cell? ⟨w.heap.size, 1, none⟩ = some (.int .i64 y) := by rw [hb.cell (p := ⟨w.heap.size, 1, none⟩) (by simp), hc1 _ _ (by simp)]; simp
        clear hc1 hf1
        have nn := HN.out
        by_cases hlt : k < n
        · have hlt' : (k : Int) < x * y := by omega
          have hlen : (L k).length ≤ 48 := by rw [HL.out]; omega
          clear nn
          go_wp2_with (at_builtin; refine wpList_append_own _ rfl _ _ 24 rfl (w.heap.size + 1) 3 i0 (.int .i64 0) 1 8 Try.underlying24 HI.out hz0 hz1 hz2 rfl (by decide) _ _ _ rfl (World.ownsRow.alloc HR.out _) ⟨wr.heap.size, 0, none⟩ 1 1 [.int .i64 (a * x * y + k)] rfl rfl ?c1 ?c2 ?c3 ?c4 ?c5 ?_)
          case c1 =>
            intro j u hj
            match j, hj with
            | 0, hj => simp at hj; subst hj; simp [Addr.add]
          case c2 => intro u hu; simp at hu; subst hu; rfl
          case c3 => unfold maxLen; omega
          case c4 => omega
          case c5 => simp; omega
          intro v' w4 hown' hgrow _
          have R1 : Hid (Row w4 (w.heap.size + 1) v' (L (k + 1))) := by rw [HS.out]; exact row_more hown'
          have R2 : Hid (Below (w.heap.size + 1) w1 w4) :=
            ((hb.alloc (by omega) _).grown hgrow (by simp; omega) (fun g hg => (World.ownsRow.lt HR.out g hg).1))
          clear hown' hgrow
          go_wp2
          go_roundw
          case rel => exact ⟨k + 1, by omega, by go_num, R1.out, R2.out⟩
          case measure => simp [intOf]; omega
        · have hlt' : ¬ (k : Int) < x * y := by omega
          obtain rfl : k = n := by omega
          clear nn
          go_wp2
          go_ret2
          exact ⟨_, rfl, HR.out.mono (by omega), hb0.trans (hb.mono (by omega))⟩

end Go.Proofs.Ytglcdgonbmdhoaa
