/-
  Contracts: IsSteeper, in the program and in the model.
-/
import Derived.Test.YthdbcncdihcggaaO3
import Derived.Laws.StructEq
namespace Go.Proofs.Ythdbcncdihcggaa
open Go.RowKit
set_option linter.unusedVariables false

/-- The offset t, m, r stands at place k. -/
def isAt (xs : List Int) (t m r : Int) (k : Nat) : Bool := decide (t = xs.getD (k * 3) 0 ∧ m = xs.getD (k * 3 + 1) 0 ∧ r = xs.getD (k * 3 + 2) 0)
/-- It stands at one of the first n places. -/
def hasO (xs : List Int) (t m r : Int) : Nat → Bool
  | 0 => false
  | k + 1 => hasO xs t m r k || isAt xs t m r k
theorem hasO_miss {xs : List Int} {t m r : Int} {k : Nat} (h : hasO xs t m r k = false) (h2 : isAt xs t m r k = false) : hasO xs t m r (k + 1) = false := by
  rw [hasO, h, h2]; rfl
theorem hasO_mono {xs : List Int} {t m r : Int} {k : Nat} (h : hasO xs t m r k = true) : ∀ {n : Nat}, k ≤ n → hasO xs t m r n = true
  | 0, hk => by obtain rfl : k = 0 := by omega
                exact h
  | n + 1, hk => by
    by_cases e : k = n + 1
    · rw [← e]; exact h
    · rw [hasO, hasO_mono h (n := n) (by omega)]; rfl
theorem hasO_hit {xs : List Int} {t m r : Int} {k n : Nat} (h : isAt xs t m r k = true) (hk : k < n) : hasO xs t m r n = true :=
  hasO_mono (k := k + 1) (by rw [hasO, h, Bool.or_true]) (by omega)

theorem part0 (a b c : Int) (w : World) : (part 3 #[.int .i64 a, .int .i64 b, .int .i64 c] 0).run Try.prog w = .ok (.int .i64 a) w := by kernel_rfl
theorem part1 (a b c : Int) (w : World) : (part 3 #[.int .i64 a, .int .i64 b, .int .i64 c] 1).run Try.prog w = .ok (.int .i64 b) w := by kernel_rfl
theorem part2 (a b c : Int) (w : World) : (part 3 #[.int .i64 a, .int .i64 b, .int .i64 c] 2).run Try.prog w = .ok (.int .i64 c) w := by kernel_rfl
theorem run_eqO (t m r t' m' r' : Int) (w : World) : (binOp .eql 64 (.agg #[.int .i64 t, .int .i64 m, .int .i64 r]) (.agg #[.int .i64 t', .int .i64 m', .int .i64 r'])).run Try.prog w = .ok (.bool (t == t' && m == m' && r == r')) w := by
  have hi := Try.underlying3
  rw [run_eql_struct, run_equalIn_agg (ht := by kernel_rfl) (hp := by kernel_rfl)]
  simp only [Program.fieldsOf, Try.underlying64, Op.eqFields]
  have he : ∀ (a b : Int) (w : World), (Op.equalIn 9999 3 (.int .i64 a) (.int .i64 b)).run Try.prog w = .ok (a == b) w := fun a b w => run_equalIn_int w 9998 _ .i64 .i64 a b hi
  simp [he, part0, part1, part2]
  cases h1 : (t == t') <;> cases h2 : (m == m') <;> cases h3 : (r == r') <;> simp_all

set_option maxHeartbeats 4000000 in
theorem c_IndexO (n : Nat) (xs : List Int) (v : Value) (t m r : Int) (w : World) (hl : n ≤ 1048576) (h : SeenP w v n xs) :
    Calls Try.prog 75 #[v, .agg #[.int .i64 t, .int .i64 m, .int .i64 r]] w fun e w' => (∃ i : Int, e = .returned (.int .i64 i) ∧ decide (0 ≤ i) = hasO xs t m r n) ∧ Below w.heap.size w w' := by
  obtain ⟨A, c, rfl, hm, hx, hA⟩ := h
  clear hm
  have E0 : Hid (∀ k : Nat, k < n → ∃ b off, A = some ⟨b, off, none⟩ ∧ b < w.heap.size ∧ ∀ j : Nat, j < n * 3 → w.cell? ⟨b, off + j, none⟩ = some (.int .i64 (xs.getD j 0))) := fun k hk => hA (by omega)
  have F1 : Hid (∀ k : Nat, k < n → isAt xs t m r k = true → hasO xs t m r n = true) := fun k hk h => hasO_hit h hk
  have F2 : Hid (∀ k : Nat, hasO xs t m r k = false → isAt xs t m r k = false → hasO xs t m r (k + 1) = false) := fun k h h2 => hasO_miss h h2
  have HX : Hid (Box3 (w.alloc (.cells #[.int .i64 t, .int .i64 m, .int .i64 r] 64)) w.heap.size t m r) := Box3.new _ _ _ _ _
  have HB0 : Hid (Below w.heap.size w (w.alloc (.cells #[.int .i64 t, .int .i64 m, .int .i64 r] 64))) := (Below.refl _ _).alloc (Nat.le_refl _) _
  have HA : Hid (∀ k : Nat, isAt xs t m r k = decide (t = xs.getD (k * 3) 0 ∧ m = xs.getD (k * 3 + 1) 0 ∧ r = xs.getD (k * 3 + 2) 0)) := fun k => rfl
  have HZ : Hid (hasO xs t m r 0 = false) := rfl
  clear hA
  generalize hasO xs t m r = R at *
  generalize isAt xs t m r = I at *
  go_enter Try.func75, Try.ntmps75
  go_wp2_with fail
  generalize (w.alloc (.cells #[.int .i64 t, .int .i64 m, .int .i64 r] 64)) = W at *
  go_loopw [8] (fun i wr => ∃ k : Nat, k ≤ n ∧ i = .int .i64 k ∧ R k = false ∧ Below W.heap.size W wr) (fun i _ => n - (intOf i).toNat)
  case atStart => exact ⟨0, Nat.zero_le _, rfl, HZ.out, Below.refl _ _⟩
  case round =>
    obtain ⟨k, hk, rfl, hP, hbw⟩ := hrel
    have HP := Lib.hid hP
    have HB := Lib.hid hbw
    clear hP hbw
    have HW : Hid (Below w.heap.size w wr) := HB0.out.trans (HB.out.mono HB0.out.size)
    by_cases hlt : k < n
    · obtain ⟨b, off, rfl, hb, hc⟩ := E0.out k hlt
      have E1 : Hid (∀ j : Nat, j < n * 3 → wr.cell? ⟨b, off + j, none⟩ = some (.int .i64 (xs.getD j 0))) := fun j hj => by rw [HW.out.cell (p := ⟨b, off + j, none⟩) hb]; exact hc j hj
      clear hc E0
      have q0 := E1.out (k * 3) (by omega)
      have q1 := E1.out (k * 3 + 1) (by omega)
      have q2 := E1.out (k * 3 + 2) (by omega)
      rw [← Nat.add_assoc] at q1 q2
      have x0 := (HX.out.below HB.out).c0
      have x1 := (HX.out.below HB.out).c1
      have x2 := (HX.out.below HB.out).c2
      have F1k := Lib.hid (F1.out k hlt)
      have F2k := Lib.hid (F2.out k HP.out)
      have HAk := Lib.hid (HA.out k)
      have b1 : (0 : Int) ≤ (k : Int) := by omega
      have b2 : (k : Int) < (n : Int) := by omega
      generalize xs.getD (k * 3) 0 = t' at *
      generalize xs.getD (k * 3 + 1) 0 = m' at *
      generalize xs.getD (k * 3 + 2) 0 = r' at *
      by_cases he : t = t' ∧ m = m' ∧ r = r'
      · have G := Lib.hid (F1k.out (by rw [HAk.out]; exact decide_eq_true he))
        obtain ⟨rfl, rfl, rfl⟩ := he
        clear F1k F2k HAk
        have hop : ∀ w, (binOp .eql 64 (.agg #[.int .i64 t, .int .i64 m, .int .i64 r]) (.agg #[.int .i64 t, .int .i64 m, .int .i64 r])).run Try.prog w = .ok (.bool true) w := fun w => by rw [run_eqO]; simp
        go_wp2_with fail
        go_region
        all_goals go_wp2_with fail
        all_goals
          go_ret
          exact ⟨⟨k, rfl, by rw [G.out]; exact decide_eq_true (by omega)⟩, HW.out.drew⟩
      · have G := Lib.hid (F2k.out (by rw [HAk.out]; exact decide_eq_false he))
        have hop : ∀ w, (binOp .eql 64 (.agg #[.int .i64 t, .int .i64 m, .int .i64 r]) (.agg #[.int .i64 t', .int .i64 m', .int .i64 r'])).run Try.prog w = .ok (.bool false) w := fun w => by
          rw [run_eqO]
          congr 2
          rw [Bool.eq_false_iff]
          intro h
          simp at h
          exact he ⟨h.1.1, h.1.2, h.2⟩
        clear F1k F2k HAk he
        go_wp2_with fail
        go_region
        all_goals go_wp2_with fail
        all_goals go_roundw
        case rel => exact ⟨k + 1, by omega, by go_num, G.out, HB.out.drew⟩
        case measure => simp [intOf]; omega
    · obtain rfl : k = n := by omega
      go_wp2
      go_ret
      exact ⟨⟨-1, rfl, by rw [HP.out]; rfl⟩, HW.out⟩

set_option maxHeartbeats 1000000 in
theorem c_ContainsO (n : Nat) (xs : List Int) (v : Value) (t m r : Int) (w : World) (hl : n ≤ 1048576) (h : SeenP w v n xs) :
    Calls Try.prog 56 #[v, .agg #[.int .i64 t, .int .i64 m, .int .i64 r]] w fun e w' => e = .returned (.bool (hasO xs t m r n)) ∧ Below w.heap.size w w' := by
  have hba : Below w.heap.size w (w.alloc (.cells #[.int .i64 t, .int .i64 m, .int .i64 r] 64)) := (Below.refl _ _).alloc (Nat.le_refl _) _
  have HC := Lib.hid (c_IndexO n xs v t m r _ hl (h.below hba))
  have HB0 := Lib.hid hba
  obtain ⟨A, c, rfl, _, _, _⟩ := h
  generalize hasO xs t m r n = R at *
  clear hba
  have HX : Hid (Box3 (w.alloc (.cells #[.int .i64 t, .int .i64 m, .int .i64 r] 64)) w.heap.size t m r) := Box3.new _ _ _ _ _
  go_enter Try.func56, Try.ntmps56
  go_wp2_with fail
  refine HC.out.mono ?_
  rintro e w2 ⟨⟨i, rfl, hi⟩, hb⟩
  have HI := Lib.hid hi
  have HB : Hid (Below w.heap.size w w2) := HB0.out.trans (hb.mono HB0.out.size)
  clear hb hi
  go_wp2
  go_ret
  exact ⟨ret_bool HI.out, HB.out⟩

/-- The first k offsets of one list are all in the other. -/
def allO (xs : List Int) (n2 : Nat) (xs2 : List Int) : Nat → Bool
  | 0 => true
  | k + 1 => allO xs n2 xs2 k && hasO xs2 (xs.getD (k * 3) 0) (xs.getD (k * 3 + 1) 0) (xs.getD (k * 3 + 2) 0) n2
theorem allO_no {xs : List Int} {n2 : Nat} {xs2 : List Int} : ∀ {n k : Nat}, k < n → hasO xs2 (xs.getD (k * 3) 0) (xs.getD (k * 3 + 1) 0) (xs.getD (k * 3 + 2) 0) n2 = false → allO xs n2 xs2 n = false
  | n + 1, k, hk, h => by
    by_cases e : k = n
    · subst e; rw [allO, h, Bool.and_false]
    · rw [allO, allO_no (n := n) (by omega) h]; rfl
theorem allO_go {xs : List Int} {n2 : Nat} {xs2 : List Int} {k : Nat} (h : allO xs n2 xs2 k = true) (h2 : hasO xs2 (xs.getD (k * 3) 0) (xs.getD (k * 3 + 1) 0) (xs.getD (k * 3 + 2) 0) n2 = true) : allO xs n2 xs2 (k + 1) = true := by rw [allO, h, h2]; rfl
def steB (n : Nat) (xs : List Int) (n2 : Nat) (xs2 : List Int) : Bool := temB n xs && temB n2 xs2
def steV (n : Nat) (xs : List Int) (n2 : Nat) (xs2 : List Int) : Bool := steB n xs n2 xs2 && allO xs n2 xs2 n

set_option maxHeartbeats 4000000 in
theorem c_IsSteeper (n : Nat) (xs : List Int) (v : Value) (n2 : Nat) (xs2 : List Int) (v2 : Value) (w : World) (hl : n ≤ 1048576) (hl2 : n2 ≤ 1048576) (h : SeenP w v n xs) (h2 : SeenP w v2 n2 xs2) :
    Calls Try.prog 22 #[v, v2] w fun e w' => e = .returned (.tuple #[.bool (steV n xs n2 xs2), .bool (steB n xs n2 xs2)]) ∧ Below w.heap.size w w' := by
  have C1 := Lib.hid (c_IsTemplate n xs v w hl h)
  have C2 := Lib.hid (fun (u : World) (hu : Below w.heap.size w u) => c_IsTemplate n2 xs2 v2 u hl2 (h2.below hu))
  have C3 := Lib.hid (fun (u : World) (hu : Below w.heap.size w u) (t m r : Int) => c_ContainsO n2 xs2 v2 t m r u hl2 (h2.below hu))
  obtain ⟨A, c, rfl, hm, hx, hA⟩ := h
  obtain ⟨A2, c2, rfl, hm2, hx2, hA2⟩ := h2
  have E0 : Hid (∀ k : Nat, k < n → ∃ b off, A = some ⟨b, off, none⟩ ∧ b < w.heap.size ∧ ∀ j : Nat, j < n * 3 → w.cell? ⟨b, off + j, none⟩ = some (.int .i64 (xs.getD j 0))) := fun k hk => hA (by omega)
  have D0 : Hid (∀ k : Nat, k < n2 → ∃ b off, A2 = some ⟨b, off, none⟩ ∧ b < w.heap.size ∧ ∀ j : Nat, j < n2 * 3 → w.cell? ⟨b, off + j, none⟩ = some (.int .i64 (xs2.getD j 0))) := fun k hk => hA2 (by omega)
  have hV : steV n xs n2 xs2 = (steB n xs n2 xs2 && allO xs n2 xs2 n) := rfl
  have hB : steB n xs n2 xs2 = (temB n xs && temB n2 xs2) := rfl
  have FN : Hid (∀ k : Nat, k < n → hasO xs2 (xs.getD (k * 3) 0) (xs.getD (k * 3 + 1) 0) (xs.getD (k * 3 + 2) 0) n2 = false → allO xs n2 xs2 n = false) := fun k hk h => allO_no hk h
  have FG : Hid (∀ k : Nat, allO xs n2 xs2 k = true → hasO xs2 (xs.getD (k * 3) 0) (xs.getD (k * 3 + 1) 0) (xs.getD (k * 3 + 2) 0) n2 = true → allO xs n2 xs2 (k + 1) = true) := fun k h h2 => allO_go h h2
  have FZ : Hid (allO xs n2 xs2 0 = true) := rfl
  have HV := Lib.hid hV
  have HBB := Lib.hid hB
  clear hA hA2 hV hB hm hm2
  generalize steV n xs n2 xs2 = RV at *
  generalize steB n xs n2 xs2 = RB at *
  generalize allO xs n2 xs2 = AL at *
  cases t1 : temB n xs
  · have G1 : Hid (RB = false) := by have := HBB.out; rw [t1] at this; exact this
    have G2 : Hid (RV = false) := by have := HV.out; rw [G1.out] at this; exact this
    have C1' := C1
    rw [t1] at C1'
    clear C1 HV HBB t1
    go_enter Try.func22, Try.ntmps22
    go_wp2_with fail
    refine C1'.out.mono ?_
    rintro e w1 ⟨rfl, hb⟩
    have HB := Lib.hid hb
    clear hb
    go_wp2
    go_ret2
    exact ⟨by rw [G1.out, G2.out]; rfl, HB.out⟩
  · rw [t1] at C1
    cases t2 : temB n2 xs2
    · have G1 : Hid (RB = false) := by have := HBB.out; rw [t1, t2] at this; exact this
      have G2 : Hid (RV = false) := by have := HV.out; rw [G1.out] at this; exact this
      rw [t2] at C2
      clear HV HBB t1 t2
      go_enter Try.func22, Try.ntmps22
      go_wp2_with fail
      refine C1.out.mono ?_
      rintro e w1 ⟨rfl, hb⟩
      have HB1 := Lib.hid hb
      clear hb
      go_wp2_with fail
      refine (C2.out _ HB1.out).mono ?_
      rintro e w2 ⟨rfl, hb⟩
      have HB := Lib.hid (HB1.out.trans (hb.mono HB1.out.size))
      clear hb
      go_wp2
      go_ret2
      exact ⟨by rw [G1.out, G2.out]; rfl, HB.out⟩
    · have G1 : Hid (RB = true) := by have := HBB.out; rw [t1, t2] at this; exact this
      have G2 : Hid (RV = AL n) := by have := HV.out; rw [G1.out] at this; exact this
      rw [t2] at C2
      clear HV HBB t1 t2
      go_enter Try.func22, Try.ntmps22
      go_wp2_with fail
      refine C1.out.mono ?_
      rintro e w1 ⟨rfl, hb⟩
      have HB1 := Lib.hid hb
      clear hb
      go_wp2_with fail
      refine (C2.out _ HB1.out).mono ?_
      rintro e w2 ⟨rfl, hb⟩
      have HB2 := Lib.hid (HB1.out.trans (hb.mono HB1.out.size))
      clear hb
      go_wp2_with fail
      go_loopw [18] (fun i wr => ∃ k : Nat, k ≤ n ∧ i = .int .i64 k ∧ AL k = true ∧ Below w.heap.size w wr) (fun i _ => n - (intOf i).toNat)
      case atStart => exact ⟨0, Nat.zero_le _, rfl, FZ.out, HB2.out⟩
      case round =>
        obtain ⟨k, hk, rfl, hP, hbw⟩ := hrel
        have HP := Lib.hid hP
        have HB := Lib.hid hbw
        clear hP hbw
        by_cases hlt : k < n
        · obtain ⟨b, off, rfl, hb, hc⟩ := E0.out k hlt
          have E1 : Hid (∀ (u : World), Below w.heap.size w u → ∀ j : Nat, j < n * 3 → u.cell? ⟨b, off + j, none⟩ = some (.int .i64 (xs.getD j 0))) := fun u hu j hj => by rw [hu.cell (p := ⟨b, off + j, none⟩) hb]; exact hc j hj
          clear hc E0
          have q0 := E1.out wr HB.out (k * 3) (by omega)
          have q1 := E1.out wr HB.out (k * 3 + 1) (by omega)
          have q2 := E1.out wr HB.out (k * 3 + 2) (by omega)
          rw [← Nat.add_assoc] at q1 q2
          have FNk := Lib.hid (FN.out k hlt)
          have FGk := Lib.hid (FG.out k HP.out)
          have b1 : (0 : Int) ≤ (k : Int) := by omega
          have b2 : (k : Int) < (n : Int) := by omega
          generalize xs.getD (k * 3) 0 = t at *
          generalize xs.getD (k * 3 + 1) 0 = m at *
          generalize xs.getD (k * 3 + 2) 0 = r at *
          have HBa : Hid (Below w.heap.size w (wr.alloc (.cells #[.int .i64 t, .int .i64 m, .int .i64 r] 64))) := HB.out.alloc HB.out.size _
          go_wp2_with fail
          refine (C3.out _ HBa.out _ _ _).mono ?_
          rintro e w3 ⟨rfl, hb3⟩
          have HB3 := Lib.hid (HBa.out.trans (hb3.mono HBa.out.size))
          clear hb3
          cases hh : hasO xs2 t m r n2
          · have G3 := Lib.hid (FNk.out hh)
            clear FNk FGk hh
            go_wp2
            go_ret2
            exact ⟨by rw [G1.out, G2.out, G3.out]; rfl, HB3.out⟩
          · have G3 := Lib.hid (FGk.out hh)
            clear FNk FGk hh
            go_wp2
            go_roundw
            case rel => exact ⟨k + 1, by omega, by go_num, G3.out, HB3.out⟩
            case measure => simp [intOf]; omega
        · obtain rfl : k = n := by omega
          go_wp2
          go_ret2
          exact ⟨by rw [G1.out, G2.out, HP.out]; rfl, HB.out⟩

set_option maxHeartbeats 4000000 in
theorem c_IsSteeperS (n : Nat) (xs : List Int) (v : Value) (n2 : Nat) (xs2 : List Int) (v2 : Value) (w : World) (hl : n ≤ 1048576) (hl2 : n2 ≤ 1048576) (h : SeenP w v n xs) (h2 : SeenP w v2 n2 xs2) :
    Calls Try.prog 21 #[v, v2] w fun e w' => e = .returned (.tuple #[.bool (steV n xs n2 xs2), .bool (steB n xs n2 xs2)]) ∧ Below w.heap.size w w' := by
  have C1 := Lib.hid (c_slTemplate n xs v w hl h)
  have C2 := Lib.hid (fun (u : World) (hu : Below w.heap.size w u) => c_slTemplate n2 xs2 v2 u hl2 (h2.below hu))
  have C3 := Lib.hid (fun (u : World) (hu : Below w.heap.size w u) (t m r : Int) => c_ContainsO n2 xs2 v2 t m r u hl2 (h2.below hu))
  obtain ⟨A, c, rfl, hm, hx, hA⟩ := h
  obtain ⟨A2, c2, rfl, hm2, hx2, hA2⟩ := h2
  have E0 : Hid (∀ k : Nat, k < n → ∃ b off, A = some ⟨b, off, none⟩ ∧ b < w.heap.size ∧ ∀ j : Nat, j < n * 3 → w.cell? ⟨b, off + j, none⟩ = some (.int .i64 (xs.getD j 0))) := fun k hk => hA (by omega)
  have D0 : Hid (∀ k : Nat, k < n2 → ∃ b off, A2 = some ⟨b, off, none⟩ ∧ b < w.heap.size ∧ ∀ j : Nat, j < n2 * 3 → w.cell? ⟨b, off + j, none⟩ = some (.int .i64 (xs2.getD j 0))) := fun k hk => hA2 (by omega)
  have hV : steV n xs n2 xs2 = (steB n xs n2 xs2 && allO xs n2 xs2 n) := rfl
  have hB : steB n xs n2 xs2 = (temB n xs && temB n2 xs2) := rfl
  have FN : Hid (∀ k : Nat, k < n → hasO xs2 (xs.getD (k * 3) 0) (xs.getD (k * 3 + 1) 0) (xs.getD (k * 3 + 2) 0) n2 = false → allO xs n2 xs2 n = false) := fun k hk h => allO_no hk h
  have FG : Hid (∀ k : Nat, allO xs n2 xs2 k = true → hasO xs2 (xs.getD (k * 3) 0) (xs.getD (k * 3 + 1) 0) (xs.getD (k * 3 + 2) 0) n2 = true → allO xs n2 xs2 (k + 1) = true) := fun k h h2 => allO_go h h2
  have FZ : Hid (allO xs n2 xs2 0 = true) := rfl
  have HV := Lib.hid hV
  have HBB := Lib.hid hB
  clear hA hA2 hV hB hm hm2
  generalize steV n xs n2 xs2 = RV at *
  generalize steB n xs n2 xs2 = RB at *
  generalize allO xs n2 xs2 = AL at *
  cases t1 : temB n xs
  · have G1 : Hid (RB = false) := by have := HBB.out; rw [t1] at this; exact this
    have G2 : Hid (RV = false) := by have := HV.out; rw [G1.out] at this; exact this
    have C1' := C1
    rw [t1] at C1'
    clear C1 HV HBB t1
    go_enter Try.func21, Try.ntmps21
    go_wp2_with fail
    refine C1'.out.mono ?_
    rintro e w1 ⟨rfl, hb⟩
    have HB := Lib.hid hb
    clear hb
    go_wp2
    go_ret2
    exact ⟨by rw [G1.out, G2.out]; rfl, HB.out⟩
  · rw [t1] at C1
    cases t2 : temB n2 xs2
    · have G1 : Hid (RB = false) := by have := HBB.out; rw [t1, t2] at this; exact this
      have G2 : Hid (RV = false) := by have := HV.out; rw [G1.out] at this; exact this
      rw [t2] at C2
      clear HV HBB t1 t2
      go_enter Try.func21, Try.ntmps21
      go_wp2_with fail
      refine C1.out.mono ?_
      rintro e w1 ⟨rfl, hb⟩
      have HB1 := Lib.hid hb
      clear hb
      go_wp2_with fail
      refine (C2.out _ HB1.out).mono ?_
      rintro e w2 ⟨rfl, hb⟩
      have HB := Lib.hid (HB1.out.trans (hb.mono HB1.out.size))
      clear hb
      go_wp2
      go_ret2
      exact ⟨by rw [G1.out, G2.out]; rfl, HB.out⟩
    · have G1 : Hid (RB = true) := by have := HBB.out; rw [t1, t2] at this; exact this
      have G2 : Hid (RV = AL n) := by have := HV.out; rw [G1.out] at this; exact this
      rw [t2] at C2
      clear HV HBB t1 t2
      go_enter Try.func21, Try.ntmps21
      go_wp2_with fail
      refine C1.out.mono ?_
      rintro e w1 ⟨rfl, hb⟩
      have HB1 := Lib.hid hb
      clear hb
      go_wp2_with fail
      refine (C2.out _ HB1.out).mono ?_
      rintro e w2 ⟨rfl, hb⟩
      have HB2 := Lib.hid (HB1.out.trans (hb.mono HB1.out.size))
      clear hb
      go_wp2_with fail
      go_loopw [21] (fun i wr => ∃ k : Nat, k ≤ n ∧ i = .int .i64 k ∧ AL k = true ∧ Below w.heap.size w wr) (fun i _ => n - (intOf i).toNat)
      case atStart => exact ⟨0, Nat.zero_le _, rfl, FZ.out, HB2.out⟩
      case round =>
        obtain ⟨k, hk, rfl, hP, hbw⟩ := hrel
        have HP := Lib.hid hP
        have HB := Lib.hid hbw
        clear hP hbw
        by_cases hlt : k < n
        · obtain ⟨b, off, rfl, hb, hc⟩ := E0.out k hlt
          have E1 : Hid (∀ (u : World), Below w.heap.size w u → ∀ j : Nat, j < n * 3 → u.cell? ⟨b, off + j, none⟩ = some (.int .i64 (xs.getD j 0))) := fun u hu j hj => by rw [hu.cell (p := ⟨b, off + j, none⟩) hb]; exact hc j hj
          clear hc E0
          have q0 := E1.out wr HB.out (k * 3) (by omega)
          have q1 := E1.out wr HB.out (k * 3 + 1) (by omega)
          have q2 := E1.out wr HB.out (k * 3 + 2) (by omega)
          rw [← Nat.add_assoc] at q1 q2
          have FNk := Lib.hid (FN.out k hlt)
          have FGk := Lib.hid (FG.out k HP.out)
          have b1 : (0 : Int) ≤ (k : Int) := by omega
          have b2 : (k : Int) < (n : Int) := by omega
          generalize xs.getD (k * 3) 0 = t at *
          generalize xs.getD (k * 3 + 1) 0 = m at *
          generalize xs.getD (k * 3 + 2) 0 = r at *
          have HBa : Hid (Below w.heap.size w (wr.alloc (.cells #[.int .i64 t, .int .i64 m, .int .i64 r] 64))) := HB.out.alloc HB.out.size _
          have HX : Hid (Box3 (wr.alloc (.cells #[.int .i64 t, .int .i64 m, .int .i64 r] 64)) wr.heap.size t m r) := Box3.new _ _ _ _ _
          have F2 : Hid (∀ k : Nat, hasO xs2 t m r (k + 1) = (hasO xs2 t m r k || isAt xs2 t m r k)) := fun k => rfl
          have HZ : Hid (hasO xs2 t m r 0 = false) := rfl
          have HAt : Hid (∀ k : Nat, isAt xs2 t m r k = (t == xs2.getD (k * 3) 0 && m == xs2.getD (k * 3 + 1) 0 && r == xs2.getD (k * 3 + 2) 0)) := fun k => by
            unfold isAt
            rw [Bool.eq_iff_iff]
            simp [and_assoc]
          generalize hasO xs2 t m r = HO at *
          generalize isAt xs2 t m r = IA at *
          go_wp2_with fail
          generalize (wr.alloc (.cells #[.int .i64 t, .int .i64 m, .int .i64 r] 64)) = W at *
          go_loopw [8, 27] (fun q i wr => ∃ j : Nat, j ≤ n2 ∧ i = .int .i64 j ∧ q = .bool (HO j) ∧ Below W.heap.size W wr) (fun _ i _ => n2 - (intOf i).toNat)
          case atStart => exact ⟨0, Nat.zero_le _, rfl, by rw [HZ.out], Below.refl _ _⟩
          case round =>
            obtain ⟨j, hj, rfl, rfl, hbq⟩ := hrel
            have HQ := Lib.hid hbq
            clear hbq
            have HW : Hid (Below w.heap.size w wr) := HBa.out.trans (HQ.out.mono HBa.out.size)
            by_cases hlj : j < n2
            · obtain ⟨b', off', rfl, hb', hc'⟩ := D0.out j hlj
              have p0 : wr.cell? ⟨b', off' + j * 3, none⟩ = some (.int .i64 (xs2.getD (j * 3) 0)) := by rw [HW.out.cell (p := ⟨b', off' + j * 3, none⟩) hb']; exact hc' _ (by omega)
              have p1 : wr.cell? ⟨b', off' + j * 3 + 1, none⟩ = some (.int .i64 (xs2.getD (j * 3 + 1) 0)) := by rw [HW.out.cell (p := ⟨b', off' + j * 3 + 1, none⟩) hb']; exact hc' (j * 3 + 1) (by omega)
              have p2 : wr.cell? ⟨b', off' + j * 3 + 2, none⟩ = some (.int .i64 (xs2.getD (j * 3 + 2) 0)) := by rw [HW.out.cell (p := ⟨b', off' + j * 3 + 2, none⟩) hb']; exact hc' (j * 3 + 2) (by omega)
              have F2j := Lib.hid (F2.out j)
              have HAj := Lib.hid (HAt.out j)
              have b3 : (0 : Int) ≤ (j : Int) := by omega
              have b4 : (j : Int) < (n2 : Int) := by omega
              clear hc'
              generalize xs2.getD (j * 3) 0 = t' at *
              generalize xs2.getD (j * 3 + 1) 0 = m' at *
              generalize xs2.getD (j * 3 + 2) 0 = r' at *
              have hop : ∀ w, (binOp .eql 64 (.agg #[.int .i64 t, .int .i64 m, .int .i64 r]) (.agg #[.int .i64 t', .int .i64 m', .int .i64 r'])).run Try.prog w = .ok (.bool (IA j)) w := fun w => by rw [run_eqO, HAj.out]
              have x0 := (HX.out.below HQ.out).c0
              have x1 := (HX.out.below HQ.out).c1
              have x2 := (HX.out.below HQ.out).c2
              have x3 := (HX.out.below HQ.out).lt
              have hba : Below W.heap.size W (wr.alloc (.cells #[.int .i64 t', .int .i64 m', .int .i64 r'] 64)) := HQ.out.alloc HQ.out.size _
              have HQa := Lib.hid hba
              clear hba HAj
              cases hh : HO j
              · have G3 : Hid (HO (j + 1) = IA j) := by have := F2j.out; rw [hh] at this; exact this
                clear hh F2j
                generalize IA j = iaj at *
                go_wp2_with fail
                go_roundw
                case rel => exact ⟨j + 1, by omega, by go_num, by rw [G3.out], HQa.out⟩
                case measure => simp [intOf]; omega
              · have G3 : Hid (HO (j + 1) = true) := by have := F2j.out; rw [hh] at this; exact this
                clear hh F2j
                go_wp2_with fail
                go_roundw
                case rel => exact ⟨j + 1, by omega, by go_num, by rw [G3.out], HQa.out⟩
                case measure => simp [intOf]; omega
            · obtain rfl : j = n2 := by omega
              cases hh : HO j
              · have G3 := Lib.hid (FNk.out hh)
                clear FNk FGk hh
                go_wp2
                go_ret2
                exact ⟨by rw [G1.out, G2.out, G3.out]; rfl, HW.out⟩
              · have G3 := Lib.hid (FGk.out hh)
                clear FNk FGk hh
                go_wp2
                go_roundw
                case rel => exact ⟨k + 1, by omega, by go_num, G3.out, HW.out⟩
                case measure => simp [intOf]; omega
        · obtain rfl : k = n := by omega
          go_wp2
          go_ret2
          exact ⟨by rw [G1.out, G2.out, HP.out]; rfl, HB.out⟩
end Go.Proofs.Ythdbcncdihcggaa
