/-
  Contracts: the blocks for which a function value answers true; the four lists of chapter 1, in the program and in the model.
-/
import Derived.Test.YtpbkobkakedegaaC6
import Derived.Test.YtpbkobkakedegaaC5
namespace Go.Proofs.Ytpbkobkakedegaa
open Go.RowKit

def GivesRow (w : World) (xs : List Int) (e : Ending) (w' : World) : Prop := ∃ v, e = .returned v ∧ Row w' w.heap.size v xs ∧ Below w.heap.size w w'
theorem int_info : (Try.prog.info? 3).map (fun i => (i.zero, i.size, i.bytes)) = some (some (.int .i64 0), 1, 8) := by kernel_rfl

theorem row_more {w3 : World} {B : Nat} {v' : Value} {xs : List Int} {k : Int} (h : w3.ownsRow B 3 1 v' (xs.length + 1) (ints xs ++ [.int .i64 k])) : Row w3 B v' (xs ++ [k]) := by
  unfold Row
  rw [List.length_append, show ints (xs ++ [k]) = ints xs ++ [.int .i64 k] by simp [ints]]
  exact h

set_option maxHeartbeats 1000000 in
theorem c_where_LevelBlocks (x y z : Int) (b0 : Nat) (p : Int → Bool) (w : World) (hg : goodB x y z = true) (N : Nat) (hN : x * y * z = N)
    (H : Hid (∀ (k : Int) (w' : World), 0 ≤ k → k < N → Below w.heap.size w w' → Calls Try.prog 51 #[.agg #[.int .i64 (k % x), .int .i64 (k / x % y), .int .i64 (k / x / y)], .pointer (some ⟨b0, 0, none⟩)] w' fun e w'' => e = .returned (.bool (p k)) ∧ Below w'.heap.size w' w'')) :
    Calls Try.prog 50 #[.agg #[.int .i64 x, .int .i64 y, .int .i64 z], .func (.func 51) #[] #[.pointer (some ⟨b0, 0, none⟩)]] w (GivesRow w (sel p N)) := by
  obtain ⟨i0, hi0, hz0, hz1, hz2⟩ := info_parts int_info
  have HI := Lib.hid hi0
  clear hi0
  obtain ⟨x1, x2, y1, y2, z1, z2, p1, p2, q1, q2⟩ := good_box hg
  clear hg
  have HN := Lib.hid hN
  rw [hN] at q1 q2
  clear hN
  go_enter Try.func50, Try.ntmps50
  go_wp2_with fail
  refine (c_countBlocks _ _ _ _ (by omega) x2 (by omega) y2 (by omega) z2).mono ?_
  rintro e w1 ⟨rfl, hb1⟩
  rw [HN.out]
  obtain ⟨hc1, hf1⟩ := bcell hb1
  have s1 := hb1.size
  simp at s1
  have hb0 : Below w.heap.size w w1 := ((Below.refl _ _).alloc (Nat.le_refl _) _).trans (hb1.mono (by simp))
  go_wp2_with fail
  go_loopw [5, 9] (fun v i wr => ∃ k : Nat, k ≤ N ∧ i = .int .i64 k ∧ Row wr (w.heap.size + 1) v (sel p k) ∧ Below (w.heap.size + 1) w1 wr) (fun _ i _ => N - (intOf i).toNat)
  case atStart => exact ⟨0, Nat.zero_le _, rfl, Row.nil _ _, Below.refl _ _⟩
  case round =>
    obtain ⟨k, hk, rfl, hr, hb⟩ := hrel
    have HR := Lib.hid hr
    clear hr
    have sr := hb.size
    by_cases hlt : k < N
    · have c0 : wr.cell? ⟨w.heap.size, 0, none⟩ = some (.int .i64 x) := by rw [hb.cell (p := ⟨w.heap.size, 0, none⟩) (by simp), hc1 _ _ (by simp)]; simp
      have c1 : wr.cell? ⟨w.heap.size, 1, none⟩ = some (.int .i64 y) := by rw [hb.cell (p := ⟨w.heap.size, 1, none⟩) (by simp), hc1 _ _ (by simp)]; simp
      have c2 : wr.cell? ⟨w.heap.size, 2, none⟩ = some (.int .i64 z) := by rw [hb.cell (p := ⟨w.heap.size, 2, none⟩) (by simp), hc1 _ _ (by simp)]; simp
      clear hc1 hf1
      go_wp2_with fail
      refine (c_findPlace _ _ _ _ _ x1 x2 y1 y2 (by omega) (by omega)).mono ?_
      rintro e w2 ⟨rfl, hb2⟩
      go_wp2_with fail
      refine (H.out k w2 (by omega) (by omega) (hb0.trans ((hb.mono (by omega)).trans (hb2.mono (by omega))))).mono ?_
      rintro e w3 ⟨rfl, hb3⟩
      have hb23 : Below wr.heap.size wr w3 := hb2.trans (hb3.mono hb2.size)
      have s3 := hb23.size
      have HR3 : Hid (Row w3 (w.heap.size + 1) u5 (sel p k)) := HR.out.below hb23
      have hlen := sel_len p k
      cases hp : p k
      · have HP := Lib.hid hp
        clear hp
        go_wp2
        go_roundw
        case rel => exact ⟨k + 1, by omega, by go_num, by rw [sel_miss HP.out]; exact HR3.out, hb.trans (hb23.mono (by omega))⟩
        case measure => simp [intOf]; omega
      · have HP := Lib.hid hp
        clear hp
        go_wp2_with (at_builtin; refine wpList_append_own _ rfl _ _ 35 rfl (w.heap.size + 1) 3 i0 (.int .i64 0) 1 8 Try.underlying35 HI.out hz0 hz1 hz2 rfl (by decide) _ _ _ rfl (World.ownsRow.alloc HR3.out _) ⟨w3.heap.size, 0, none⟩ 1 1 [.int .i64 k] rfl rfl ?c1 ?c2 ?c3 ?c4 ?c5 ?_)
        case c1 =>
          intro j u hj
          match j, hj with
          | 0, hj => simp at hj; subst hj; simp [Addr.add]
        case c2 => intro u hu; simp at hu; subst hu; rfl
        case c3 => unfold maxLen; omega
        case c4 => omega
        case c5 => simp; omega
        intro v' w4 hown' hgrow _
        have R1 : Hid (Row w4 (w.heap.size + 1) v' (sel p (k + 1))) := by rw [sel_hit HP.out]; exact row_more hown'
        have R2 : Hid (Below (w.heap.size + 1) w1 w4) :=
          (((hb.trans (hb23.mono (by omega))).alloc (by omega) _).grown hgrow (by simp; omega) (fun g hg => (World.ownsRow.lt HR3.out g hg).1))
        clear hown' hgrow
        go_wp2
        go_roundw
        case rel => exact ⟨k + 1, by omega, by go_num, R1.out, R2.out⟩
        case measure => simp [intOf]; omega
    · obtain rfl : k = N := by omega
      go_wp2
      go_ret
      exact ⟨_, rfl, HR.out.mono (by omega), hb0.trans (hb.mono (by omega))⟩

set_option maxHeartbeats 1000000 in
theorem c_where_ColumnBlocks (x y z : Int) (b0 b1 : Nat) (p : Int → Bool) (w : World) (hg : goodB x y z = true) (N : Nat) (hN : x * y * z = N)
    (H : Hid (∀ (k : Int) (w' : World), 0 ≤ k → k < N → Below w.heap.size w w' → Calls Try.prog 52 #[.agg #[.int .i64 (k % x), .int .i64 (k / x % y), .int .i64 (k / x / y)], .pointer (some ⟨b0, 0, none⟩), .pointer (some ⟨b1, 0, none⟩)] w' fun e w'' => e = .returned (.bool (p k)) ∧ Below w'.heap.size w' w'')) :
    Calls Try.prog 50 #[.agg #[.int .i64 x, .int .i64 y, .int .i64 z], .func (.func 52) #[] #[.pointer (some ⟨b0, 0, none⟩), .pointer (some ⟨b1, 0, none⟩)]] w (GivesRow w (sel p N)) := by
  obtain ⟨i0, hi0, hz0, hz1, hz2⟩ := info_parts int_info
  have HI := Lib.hid hi0
  clear hi0
  obtain ⟨x1, x2, y1, y2, z1, z2, p1, p2, q1, q2⟩ := good_box hg
  clear hg
  have HN := Lib.hid hN
  rw [hN] at q1 q2
  clear hN
  go_enter Try.func50, Try.ntmps50
  go_wp2_with fail
  refine (c_countBlocks _ _ _ _ (by omega) x2 (by omega) y2 (by omega) z2).mono ?_
  rintro e w1 ⟨rfl, hb1⟩
  rw [HN.out]
  obtain ⟨hc1, hf1⟩ := bcell hb1
  have s1 := hb1.size
  simp at s1
  have hb0 : Below w.heap.size w w1 := ((Below.refl _ _).alloc (Nat.le_refl _) _).trans (hb1.mono (by simp))
  go_wp2_with fail
  go_loopw [5, 9] (fun v i wr => ∃ k : Nat, k ≤ N ∧ i = .int .i64 k ∧ Row wr (w.heap.size + 1) v (sel p k) ∧ Below (w.heap.size + 1) w1 wr) (fun _ i _ => N - (intOf i).toNat)
  case atStart => exact ⟨0, Nat.zero_le _, rfl, Row.nil _ _, Below.refl _ _⟩
  case round =>
    obtain ⟨k, hk, rfl, hr, hb⟩ := hrel
    have HR := Lib.hid hr
    clear hr
    have sr := hb.size
    by_cases hlt : k < N
    · have c0 : wr.cell? ⟨w.heap.size, 0, none⟩ = some (.int .i64 x) := by rw [hb.cell (p := ⟨w.heap.size, 0, none⟩) (by simp), hc1 _ _ (by simp)]; simp
      have c1 : wr.cell? ⟨w.heap.size, 1, none⟩ = some (.int .i64 y) := by rw [hb.cell (p := ⟨w.heap.size, 1, none⟩) (by simp), hc1 _ _ (by simp)]; simp
      have c2 : wr.cell? ⟨w.heap.size, 2, none⟩ = some (.int .i64 z) := by rw [hb.cell (p := ⟨w.heap.size, 2, none⟩) (by simp), hc1 _ _ (by simp)]; simp
      clear hc1 hf1
      go_wp2_with fail
      refine (c_findPlace _ _ _ _ _ x1 x2 y1 y2 (by omega) (by omega)).mono ?_
      rintro e w2 ⟨rfl, hb2⟩
      go_wp2_with fail
      refine (H.out k w2 (by omega) (by omega) (hb0.trans ((hb.mono (by omega)).trans (hb2.mono (by omega))))).mono ?_
      rintro e w3 ⟨rfl, hb3⟩
      have hb23 : Below wr.heap.size wr w3 := hb2.trans (hb3.mono hb2.size)
      have s3 := hb23.size
      have HR3 : Hid (Row w3 (w.heap.size + 1) u5 (sel p k)) := HR.out.below hb23
      have hlen := sel_len p k
      cases hp : p k
      · have HP := Lib.hid hp
        clear hp
        go_wp2
        go_roundw
        case rel => exact ⟨k + 1, by omega, by go_num, by rw [sel_miss HP.out]; exact HR3.out, hb.trans (hb23.mono (by omega))⟩
        case measure => simp [intOf]; omega
      · have HP := Lib.hid hp
        clear hp
        go_wp2_with (at_builtin; refine wpList_append_own _ rfl _ _ 35 rfl (w.heap.size + 1) 3 i0 (.int .i64 0) 1 8 Try.underlying35 HI.out hz0 hz1 hz2 rfl (by decide) _ _ _ rfl (World.ownsRow.alloc HR3.out _) ⟨w3.heap.size, 0, none⟩ 1 1 [.int .i64 k] rfl rfl ?c1 ?c2 ?c3 ?c4 ?c5 ?_)
        case c1 =>
          intro j u hj
          match j, hj with
          | 0, hj => simp at hj; subst hj; simp [Addr.add]
        case c2 => intro u hu; simp at hu; subst hu; rfl
        case c3 => unfold maxLen; omega
        case c4 => omega
        case c5 => simp; omega
        intro v' w4 hown' hgrow _
        have R1 : Hid (Row w4 (w.heap.size + 1) v' (sel p (k + 1))) := by rw [sel_hit HP.out]; exact row_more hown'
        have R2 : Hid (Below (w.heap.size + 1) w1 w4) :=
          (((hb.trans (hb23.mono (by omega))).alloc (by omega) _).grown hgrow (by simp; omega) (fun g hg => (World.ownsRow.lt HR3.out g hg).1))
        clear hown' hgrow
        go_wp2
        go_roundw
        case rel => exact ⟨k + 1, by omega, by go_num, R1.out, R2.out⟩
        case measure => simp [intOf]; omega
    · obtain rfl : k = N := by omega
      go_wp2
      go_ret
      exact ⟨_, rfl, HR.out.mono (by omega), hb0.trans (hb.mono (by omega))⟩

set_option maxHeartbeats 1000000 in
theorem c_where_NeighboursOf (x y z : Int) (b0 : Nat) (p : Int → Bool) (w : World) (hg : goodB x y z = true) (N : Nat) (hN : x * y * z = N)
    (H : Hid (∀ (k : Int) (w' : World), 0 ≤ k → k < N → Below w.heap.size w w' → Calls Try.prog 54 #[.agg #[.int .i64 (k % x), .int .i64 (k / x % y), .int .i64 (k / x / y)], .pointer (some ⟨b0, 0, none⟩)] w' fun e w'' => e = .returned (.bool (p k)) ∧ Below w'.heap.size w' w'')) :
    Calls Try.prog 50 #[.agg #[.int .i64 x, .int .i64 y, .int .i64 z], .func (.func 54) #[] #[.pointer (some ⟨b0, 0, none⟩)]] w (GivesRow w (sel p N)) := by
  obtain ⟨i0, hi0, hz0, hz1, hz2⟩ := info_parts int_info
  have HI := Lib.hid hi0
  clear hi0
  obtain ⟨x1, x2, y1, y2, z1, z2, p1, p2, q1, q2⟩ := good_box hg
  clear hg
  have HN := Lib.hid hN
  rw [hN] at q1 q2
  clear hN
  go_enter Try.func50, Try.ntmps50
  go_wp2_with fail
  refine (c_countBlocks _ _ _ _ (by omega) x2 (by omega) y2 (by omega) z2).mono ?_
  rintro e w1 ⟨rfl, hb1⟩
  rw [HN.out]
  obtain ⟨hc1, hf1⟩ := bcell hb1
  have s1 := hb1.size
  simp at s1
  have hb0 : Below w.heap.size w w1 := ((Below.refl _ _).alloc (Nat.le_refl _) _).trans (hb1.mono (by simp))
  go_wp2_with fail
  go_loopw [5, 9] (fun v i wr => ∃ k : Nat, k ≤ N ∧ i = .int .i64 k ∧ Row wr (w.heap.size + 1) v (sel p k) ∧ Below (w.heap.size + 1) w1 wr) (fun _ i _ => N - (intOf i).toNat)
  case atStart => exact ⟨0, Nat.zero_le _, rfl, Row.nil _ _, Below.refl _ _⟩
  case round =>
    obtain ⟨k, hk, rfl, hr, hb⟩ := hrel
    have HR := Lib.hid hr
    clear hr
    have sr := hb.size
    by_cases hlt : k < N
    · have c0 : wr.cell? ⟨w.heap.size, 0, none⟩ = some (.int .i64 x) := by rw [hb.cell (p := ⟨w.heap.size, 0, none⟩) (by simp), hc1 _ _ (by simp)]; simp
      have c1 : wr.cell? ⟨w.heap.size, 1, none⟩ = some (.int .i64 y) := by rw [hb.cell (p := ⟨w.heap.size, 1, none⟩) (by simp), hc1 _ _ (by simp)]; simp
      have c2 : wr.cell? ⟨w.heap.size, 2, none⟩ = some (.int .i64 z) := by rw [hb.cell (p := ⟨w.heap.size, 2, none⟩) (by simp), hc1 _ _ (by simp)]; simp
      clear hc1 hf1
      go_wp2_with fail
      refine (c_findPlace _ _ _ _ _ x1 x2 y1 y2 (by omega) (by omega)).mono ?_
      rintro e w2 ⟨rfl, hb2⟩
      go_wp2_with fail
      refine (H.out k w2 (by omega) (by omega) (hb0.trans ((hb.mono (by omega)).trans (hb2.mono (by omega))))).mono ?_
      rintro e w3 ⟨rfl, hb3⟩
      have hb23 : Below wr.heap.size wr w3 := hb2.trans (hb3.mono hb2.size)
      have s3 := hb23.size
      have HR3 : Hid (Row w3 (w.heap.size + 1) u5 (sel p k)) := HR.out.below hb23
      have hlen := sel_len p k
      cases hp : p k
      · have HP := Lib.hid hp
        clear hp
        go_wp2
        go_roundw
        case rel => exact ⟨k + 1, by omega, by go_num, by rw [sel_miss HP.out]; exact HR3.out, hb.trans (hb23.mono (by omega))⟩
        case measure => simp [intOf]; omega
      · have HP := Lib.hid hp
        clear hp
        go_wp2_with (at_builtin; refine wpList_append_own _ rfl _ _ 35 rfl (w.heap.size + 1) 3 i0 (.int .i64 0) 1 8 Try.underlying35 HI.out hz0 hz1 hz2 rfl (by decide) _ _ _ rfl (World.ownsRow.alloc HR3.out _) ⟨w3.heap.size, 0, none⟩ 1 1 [.int .i64 k] rfl rfl ?c1 ?c2 ?c3 ?c4 ?c5 ?_)
        case c1 =>
          intro j u hj
          match j, hj with
          | 0, hj => simp at hj; subst hj; simp [Addr.add]
        case c2 => intro u hu; simp at hu; subst hu; rfl
        case c3 => unfold maxLen; omega
        case c4 => omega
        case c5 => simp; omega
        intro v' w4 hown' hgrow _
        have R1 : Hid (Row w4 (w.heap.size + 1) v' (sel p (k + 1))) := by rw [sel_hit HP.out]; exact row_more hown'
        have R2 : Hid (Below (w.heap.size + 1) w1 w4) :=
          (((hb.trans (hb23.mono (by omega))).alloc (by omega) _).grown hgrow (by simp; omega) (fun g hg => (World.ownsRow.lt HR3.out g hg).1))
        clear hown' hgrow
        go_wp2
        go_roundw
        case rel => exact ⟨k + 1, by omega, by go_num, R1.out, R2.out⟩
        case measure => simp [intOf]; omega
    · obtain rfl : k = N := by omega
      go_wp2
      go_ret
      exact ⟨_, rfl, HR.out.mono (by omega), hb0.trans (hb.mono (by omega))⟩

set_option maxHeartbeats 1000000 in
theorem c_where_BoxOf (x y z : Int) (b0 b1 : Nat) (p : Int → Bool) (w : World) (hg : goodB x y z = true) (N : Nat) (hN : x * y * z = N)
    (H : Hid (∀ (k : Int) (w' : World), 0 ≤ k → k < N → Below w.heap.size w w' → Calls Try.prog 57 #[.agg #[.int .i64 (k % x), .int .i64 (k / x % y), .int .i64 (k / x / y)], .pointer (some ⟨b0, 0, none⟩), .pointer (some ⟨b1, 0, none⟩)] w' fun e w'' => e = .returned (.bool (p k)) ∧ Below w'.heap.size w' w'')) :
    Calls Try.prog 50 #[.agg #[.int .i64 x, .int .i64 y, .int .i64 z], .func (.func 57) #[] #[.pointer (some ⟨b0, 0, none⟩), .pointer (some ⟨b1, 0, none⟩)]] w (GivesRow w (sel p N)) := by
  obtain ⟨i0, hi0, hz0, hz1, hz2⟩ := info_parts int_info
  have HI := Lib.hid hi0
  clear hi0
  obtain ⟨x1, x2, y1, y2, z1, z2, p1, p2, q1, q2⟩ := good_box hg
  clear hg
  have HN := Lib.hid hN
  rw [hN] at q1 q2
  clear hN
  go_enter Try.func50, Try.ntmps50
  go_wp2_with fail
  refine (c_countBlocks _ _ _ _ (by omega) x2 (by omega) y2 (by omega) z2).mono ?_
  rintro e w1 ⟨rfl, hb1⟩
  rw [HN.out]
  obtain ⟨hc1, hf1⟩ := bcell hb1
  have s1 := hb1.size
  simp at s1
  have hb0 : Below w.heap.size w w1 := ((Below.refl _ _).alloc (Nat.le_refl _) _).trans (hb1.mono (by simp))
  go_wp2_with fail
  go_loopw [5, 9] (fun v i wr => ∃ k : Nat, k ≤ N ∧ i = .int .i64 k ∧ Row wr (w.heap.size + 1) v (sel p k) ∧ Below (w.heap.size + 1) w1 wr) (fun _ i _ => N - (intOf i).toNat)
  case atStart => exact ⟨0, Nat.zero_le _, rfl, Row.nil _ _, Below.refl _ _⟩
  case round =>
    obtain ⟨k, hk, rfl, hr, hb⟩ := hrel
    have HR := Lib.hid hr
    clear hr
    have sr := hb.size
    by_cases hlt : k < N
    · have c0 : wr.cell? ⟨w.heap.size, 0, none⟩ = some (.int .i64 x) := by rw [hb.cell (p := ⟨w.heap.size, 0, none⟩) (by simp), hc1 _ _ (by simp)]; simp
      have c1 : wr.cell? ⟨w.heap.size, 1, none⟩ = some (.int .i64 y) := by rw [hb.cell (p := ⟨w.heap.size, 1, none⟩) (by simp), hc1 _ _ (by simp)]; simp
      have c2 : wr.cell? ⟨w.heap.size, 2, none⟩ = some (.int .i64 z) := by rw [hb.cell (p := ⟨w.heap.size, 2, none⟩) (by simp), hc1 _ _ (by simp)]; simp
      clear hc1 hf1
      go_wp2_with fail
      refine (c_findPlace _ _ _ _ _ x1 x2 y1 y2 (by omega) (by omega)).mono ?_
      rintro e w2 ⟨rfl, hb2⟩
      go_wp2_with fail
      refine (H.out k w2 (by omega) (by omega) (hb0.trans ((hb.mono (by omega)).trans (hb2.mono (by omega))))).mono ?_
      rintro e w3 ⟨rfl, hb3⟩
      have hb23 : Below wr.heap.size wr w3 := hb2.trans (hb3.mono hb2.size)
      have s3 := hb23.size
      have HR3 : Hid (Row w3 (w.heap.size + 1) u5 (sel p k)) := HR.out.below hb23
      have hlen := sel_len p k
      cases hp : p k
      · have HP := Lib.hid hp
        clear hp
        go_wp2
        go_roundw
        case rel => exact ⟨k + 1, by omega, by go_num, by rw [sel_miss HP.out]; exact HR3.out, hb.trans (hb23.mono (by omega))⟩
        case measure => simp [intOf]; omega
      · have HP := Lib.hid hp
        clear hp
        go_wp2_with (at_builtin; refine wpList_append_own _ rfl _ _ 35 rfl (w.heap.size + 1) 3 i0 (.int .i64 0) 1 8 Try.underlying35 HI.out hz0 hz1 hz2 rfl (by decide) _ _ _ rfl (World.ownsRow.alloc HR3.out _) ⟨w3.heap.size, 0, none⟩ 1 1 [.int .i64 k] rfl rfl ?c1 ?c2 ?c3 ?c4 ?c5 ?_)
        case c1 =>
          intro j u hj
          match j, hj with
          | 0, hj => simp at hj; subst hj; simp [Addr.add]
        case c2 => intro u hu; simp at hu; subst hu; rfl
        case c3 => unfold maxLen; omega
        case c4 => omega
        case c5 => simp; omega
        intro v' w4 hown' hgrow _
        have R1 : Hid (Row w4 (w.heap.size + 1) v' (sel p (k + 1))) := by rw [sel_hit HP.out]; exact row_more hown'
        have R2 : Hid (Below (w.heap.size + 1) w1 w4) :=
          (((hb.trans (hb23.mono (by omega))).alloc (by omega) _).grown hgrow (by simp; omega) (fun g hg => (World.ownsRow.lt HR3.out g hg).1))
        clear hown' hgrow
        go_wp2
        go_roundw
        case rel => exact ⟨k + 1, by omega, by go_num, R1.out, R2.out⟩
        case measure => simp [intOf]; omega
    · obtain rfl : k = N := by omega
      go_wp2
      go_ret
      exact ⟨_, rfl, HR.out.mono (by omega), hb0.trans (hb.mono (by omega))⟩

/-! ### The four function values -/
set_option maxHeartbeats 400000 in
theorem c_fnLevel (g : Nat) (a b c t : Int) (w : World) (hg : g < w.heap.size) (h : w.cell? ⟨g, 0, none⟩ = some (.int .i64 t)) :
    Calls Try.prog 51 #[.agg #[.int .i64 a, .int .i64 b, .int .i64 c], .pointer (some ⟨g, 0, none⟩)] w fun e w' => e = .returned (.bool (c == t)) ∧ Below w.heap.size w w' := by
  have h' : ∀ o, (w.alloc o).cell? ⟨g, 0, none⟩ = some (.int .i64 t) := fun o => by rw [World.cell?_alloc_lt _ _ _ hg]; exact h
  clear h
  go_enter Try.func51, Try.ntmps51
  go_wp2
  go_ret
  exact ⟨rfl, by go_grown⟩

set_option maxHeartbeats 400000 in
theorem c_fnColumn (g1 g2 : Nat) (a b c s t : Int) (w : World) (hg1 : g1 < w.heap.size) (hg2 : g2 < w.heap.size) (h1 : w.cell? ⟨g1, 0, none⟩ = some (.int .i64 s)) (h2 : w.cell? ⟨g2, 0, none⟩ = some (.int .i64 t)) :
    Calls Try.prog 52 #[.agg #[.int .i64 a, .int .i64 b, .int .i64 c], .pointer (some ⟨g1, 0, none⟩), .pointer (some ⟨g2, 0, none⟩)] w fun e w' => e = .returned (.bool (a == s && b == t)) ∧ Below w.heap.size w w' := by
  have h1' : ∀ o, (w.alloc o).cell? ⟨g1, 0, none⟩ = some (.int .i64 s) := fun o => by rw [World.cell?_alloc_lt _ _ _ hg1]; exact h1
  have h2' : ∀ o, (w.alloc o).cell? ⟨g2, 0, none⟩ = some (.int .i64 t) := fun o => by rw [World.cell?_alloc_lt _ _ _ hg2]; exact h2
  clear h1 h2
  cases e1 : a == s
  all_goals
    go_enter Try.func52, Try.ntmps52
    go_wp2
    go_ret
    exact ⟨ret_bool (by simp), by go_grown⟩

set_option maxHeartbeats 400000 in
theorem c_fnNeighbours (g : Nat) (a b c p q r : Int) (w : World) (hg : g < w.heap.size) (h0 : w.cell? ⟨g, 0, none⟩ = some (.int .i64 p)) (h1 : w.cell? ⟨g, 1, none⟩ = some (.int .i64 q)) (h2 : w.cell? ⟨g, 2, none⟩ = some (.int .i64 r))
    (a1 : 0 ≤ a) (a2 : a ≤ 1000) (b1 : 0 ≤ b) (b2 : b ≤ 1000) (c1 : 0 ≤ c) (c2 : c ≤ 1000) (p1 : 0 ≤ p) (p2 : p ≤ 1000) (q1 : 0 ≤ q) (q2 : q ≤ 1000) (r1 : 0 ≤ r) (r2 : r ≤ 1000) :
    Calls Try.prog 54 #[.agg #[.int .i64 a, .int .i64 b, .int .i64 c], .pointer (some ⟨g, 0, none⟩)] w fun e w' => e = .returned (.bool (((p - a).natAbs : Int) + ((q - b).natAbs : Int) + ((r - c).natAbs : Int) == 1)) ∧ Below w.heap.size w w' := by
  have h0' : ∀ o, (w.alloc o).cell? ⟨g, 0, none⟩ = some (.int .i64 p) := fun o => by rw [World.cell?_alloc_lt _ _ _ hg]; exact h0
  have h1' : ∀ o, (w.alloc o).cell? ⟨g, 1, none⟩ = some (.int .i64 q) := fun o => by rw [World.cell?_alloc_lt _ _ _ hg]; exact h1
  have h2' : ∀ o, (w.alloc o).cell? ⟨g, 2, none⟩ = some (.int .i64 r) := fun o => by rw [World.cell?_alloc_lt _ _ _ hg]; exact h2
  clear h0 h1 h2
  go_enter Try.func54, Try.ntmps54
  go_wp2_with fail
  refine (c_countSteps _ _ _ _ _ _ _ p1 p2 q1 q2 r1 r2 a1 a2 b1 b2 c1 c2).mono ?_
  rintro e w1 ⟨rfl, hb1⟩
  go_wp2
  go_ret
  exact ⟨rfl, ((Below.refl _ _).alloc (Nat.le_refl _) _).trans (hb1.mono (by simp))⟩

set_option maxHeartbeats 400000 in
theorem c_fnBox (g k : Nat) (a b c p q r d : Int) (w : World) (hg : g < w.heap.size) (hk : k < w.heap.size) (h0 : w.cell? ⟨g, 0, none⟩ = some (.int .i64 p)) (h1 : w.cell? ⟨g, 1, none⟩ = some (.int .i64 q)) (h2 : w.cell? ⟨g, 2, none⟩ = some (.int .i64 r)) (h3 : w.cell? ⟨k, 0, none⟩ = some (.int .i64 d))
    (a1 : 0 ≤ a) (a2 : a ≤ 1000) (b1 : 0 ≤ b) (b2 : b ≤ 1000) (c1 : 0 ≤ c) (c2 : c ≤ 1000) (p1 : 0 ≤ p) (p2 : p ≤ 1000) (q1 : 0 ≤ q) (q2 : q ≤ 1000) (r1 : 0 ≤ r) (r2 : r ≤ 1000) :
    Calls Try.prog 57 #[.agg #[.int .i64 a, .int .i64 b, .int .i64 c], .pointer (some ⟨g, 0, none⟩), .pointer (some ⟨k, 0, none⟩)] w fun e w' => e = .returned (.bool (nearB p q r a b c d)) ∧ Below w.heap.size w w' := by
  have h0' : ∀ o, (w.alloc o).cell? ⟨g, 0, none⟩ = some (.int .i64 p) := fun o => by rw [World.cell?_alloc_lt _ _ _ hg]; exact h0
  have h1' : ∀ o, (w.alloc o).cell? ⟨g, 1, none⟩ = some (.int .i64 q) := fun o => by rw [World.cell?_alloc_lt _ _ _ hg]; exact h1
  have h2' : ∀ o, (w.alloc o).cell? ⟨g, 2, none⟩ = some (.int .i64 r) := fun o => by rw [World.cell?_alloc_lt _ _ _ hg]; exact h2
  have h3' : ∀ o, (w.alloc o).cell? ⟨k, 0, none⟩ = some (.int .i64 d) := fun o => by rw [World.cell?_alloc_lt _ _ _ hk]; exact h3
  clear h0 h1 h2 h3
  go_enter Try.func57, Try.ntmps57
  go_wp2_with fail
  refine (c_isWithin _ _ _ _ _ _ _ _ p1 p2 q1 q2 r1 r2 a1 a2 b1 b2 c1 c2).mono ?_
  rintro e w1 ⟨rfl, hb1⟩
  go_wp2
  go_ret
  exact ⟨rfl, ((Below.refl _ _).alloc (Nat.le_refl _) _).trans (hb1.mono (by simp))⟩
end Go.Proofs.Ytpbkobkakedegaa
