/-
  Contracts: the library's sort over a list of at most twelve offsets of the call's own; TurnTemplate of the program.
-/
import Derived.Test.YthdbcncdihcggaaO7
namespace Go.Proofs.Ythdbcncdihcggaa
open Go.RowKit
set_option linter.unusedVariables false

set_option maxHeartbeats 1000000 in
set_option maxRecDepth 100000 in
theorem c_Len64 (n : Nat) (w : World) (h1 : 1 ≤ n) (h2 : n ≤ 12) : Calls Try.prog 96 #[.int .u64 n] w fun e w' => (∃ k : Int, e = .returned (.int .i64 k)) ∧ w = w' := by
  have h : n = 1 ∨ n = 2 ∨ n = 3 ∨ n = 4 ∨ n = 5 ∨ n = 6 ∨ n = 7 ∨ n = 8 ∨ n = 9 ∨ n = 10 ∨ n = 11 ∨ n = 12 := by omega
  clear h1 h2
  rcases h with rfl | rfl | rfl | rfl | rfl | rfl | rfl | rfl | rfl | rfl | rfl | rfl
  all_goals
    go_enter Try.func96, Try.ntmps96
    go_wp2
    go_ret
    exact ⟨⟨_, rfl⟩, rfl⟩

set_option maxHeartbeats 1000000 in
theorem c_Len (n : Nat) (w : World) (h1 : 1 ≤ n) (h2 : n ≤ 12) : Calls Try.prog 77 #[.int .u64 n] w fun e w' => (∃ k : Int, e = .returned (.int .i64 k)) ∧ w = w' := by
  have HC := Lib.hid (fun u => c_Len64 n u h1 h2)
  go_enter Try.func77, Try.ntmps77
  go_wp2_with fail
  refine (HC.out _).mono ?_
  rintro e w1 ⟨⟨k, rfl⟩, rfl⟩
  go_wp2
  go_ret
  exact ⟨⟨_, rfl⟩, rfl⟩

set_option maxHeartbeats 4000000 in
theorem c_pdqO (n g c : Nat) (lim : Int) (f : Int → Int × Int × Int) (cf : Int → Int → Int) (hcf : ∀ a b : Nat, cf a b = cmpO (f a).1 (f a).2.1 (f a).2.2 (f b).1 (f b).2.1 (f b).2.2) (B : Nat) (W : World) (hn : n ≤ 12) (h0 : 0 < n) (hr : RowP W B (.slice (some ⟨g, 0, none⟩) n c) n (triL f (marks 0 n))) :
    Calls Try.prog 76 #[.slice (some ⟨g, 0, none⟩) n c, .int .i64 0, .int .i64 n, .int .i64 lim, .func (.func 43) #[] #[]] W fun e w' => e = .returned (.tuple #[]) ∧ RowP w' B (.slice (some ⟨g, 0, none⟩) n c) n (triL f (sortN (fun a b => decide (cf a b < 0)) n)) ∧ W.grownBy w' (some g) := by
  have HC := Lib.hid (c_insSortO n g c f cf hcf B W (by omega) h0 hr)
  clear hr hcf
  generalize triL f (sortN (fun a b => decide (cf a b < 0)) n) = SN at *
  have a1 : (n : Int) ≤ 12 := by omega
  have iz : IntKind.i64.wrap (n : Int) = (n : Int) := IntWalk.i64_in _ (by omega)
  have iy : IntKind.i64.wrap ((n : Int) - 0) = (n : Int) := by rw [Int.sub_zero]; exact iz
  go_enter Try.func76, Try.ntmps76
  go_wp2_with fail
  go_loopw [1, 2, 10] (fun q1 q2 p wr => q1 = .int .i64 0 ∧ q2 = .int .i64 n ∧ wr = W) (fun _ _ _ _ => 0)
  case atStart => exact ⟨rfl, rfl, rfl⟩
  case round =>
    obtain ⟨rfl, rfl, rfl⟩ := hrel
    go_wp2_with fail
    refine HC.out.mono ?_
    rintro e w1 ⟨rfl, hr1, hg1⟩
    have HR1 := Lib.hid hr1
    have HG1 := Lib.hid hg1
    clear hr1 hg1
    go_wp2
    refine bodyPost_ret (v := .tuple #[]) (by simp [results, Try.results76, go_sem]) rfl ?_
    exact ⟨rfl, HR1.out, HG1.out⟩

set_option maxHeartbeats 1000000 in
theorem c_SortFuncO (n g c : Nat) (f : Int → Int × Int × Int) (cf : Int → Int → Int) (hcf : ∀ a b : Nat, cf a b = cmpO (f a).1 (f a).2.1 (f a).2.2 (f b).1 (f b).2.1 (f b).2.2) (B : Nat) (W : World) (hn : n ≤ 12) (h0 : 0 < n) (hr : RowP W B (.slice (some ⟨g, 0, none⟩) n c) n (triL f (marks 0 n))) :
    Calls Try.prog 58 #[.slice (some ⟨g, 0, none⟩) n c, .func (.func 43) #[] #[]] W fun e w' => e = .returned (.tuple #[]) ∧ RowP w' B (.slice (some ⟨g, 0, none⟩) n c) n (triL f (sortN (fun a b => decide (cf a b < 0)) n)) ∧ W.grownBy w' (some g) := by
  have HC := Lib.hid (fun lim => c_pdqO n g c lim f cf hcf B W hn h0 hr)
  have HL := Lib.hid (fun u => c_Len n u h0 hn)
  clear hr hcf
  generalize triL f (sortN (fun a b => decide (cf a b < 0)) n) = SN at *
  have iu : IntKind.u64.wrap (n : Int) = (n : Int) := IntWalk.u64_in _ (by omega)
  go_enter Try.func58, Try.ntmps58
  go_wp2_with fail
  refine (HL.out _).mono ?_
  rintro e w1 ⟨⟨k, rfl⟩, rfl⟩
  go_wp2_with fail
  refine (HC.out _).mono ?_
  rintro e w1 ⟨rfl, hr1, hg1⟩
  have HR1 := Lib.hid hr1
  have HG1 := Lib.hid hg1
  clear hr1 hg1
  go_wp2
  refine bodyPost_end (v := .tuple #[]) (by simp [results, Try.results58, go_sem]) rfl ?_
  exact ⟨rfl, HR1.out, HG1.out⟩

/-- A list of offsets and a bool. -/
def GivesP2 (w : World) (n : Nat) (xs : List Int) (b : Bool) (e : Ending) (w' : World) : Prop := ∃ v, e = .returned (.tuple #[v, .bool b]) ∧ RowP w' w.heap.size v n xs ∧ Below w.heap.size w w'
theorem RowP.nil (w : World) (B : Nat) : RowP w B (.slice none 0 0) 0 [] := World.ownsRow_nil _ _ _ _

set_option maxHeartbeats 4000000 in
theorem c_TurnTemplate (n : Nat) (xs : List Int) (v : Value) (w : World) (hl : n ≤ 1048576) (h : SeenP w v n xs) :
    Calls Try.prog 24 #[v] w (GivesP2 w (tuN n xs) (tuL n xs) (temB n xs)) := by
  have C1 := Lib.hid (c_IsTemplate n xs v w hl h)
  obtain ⟨A, c, rfl, hm, hx, hA⟩ := h
  cases hp : temB n xs
  · rw [hp] at C1
    obtain ⟨e1, e2⟩ := tu_no hp
    rw [e1, e2]
    clear e1 e2 hp hA hm
    go_enter Try.func24, Try.ntmps24
    go_wp2_with fail
    refine C1.out.mono ?_
    rintro e w1 ⟨rfl, hb⟩
    have HB := Lib.hid hb
    clear hb
    go_wp2
    go_ret2
    exact ⟨_, rfl, RowP.nil _ _, HB.out⟩
  · rw [hp] at C1
    obtain ⟨e1, e2⟩ := tu_yes hp
    rw [e1, e2]
    obtain ⟨n1, n2, _⟩ := tem_true hp
    obtain ⟨b, off, rfl, hb, hc⟩ := hA (by omega)
    have E1 : Hid (∀ (u : World), Below w.heap.size w u → ∀ j : Nat, j < n * 3 → u.cell? ⟨b, off + j, none⟩ = some (.int .i64 (xs.getD j 0))) := fun u hu j hj => by rw [hu.cell (p := ⟨b, off + j, none⟩) hb]; exact hc j hj
    have HO : Hid (∀ k : Nat, k < n → -2 ≤ xs.getD (k * 3) 0 ∧ xs.getD (k * 3) 0 ≤ 2 ∧ -2 ≤ xs.getD (k * 3 + 1) 0 ∧ xs.getD (k * 3 + 1) 0 ≤ 2 ∧ 1 ≤ xs.getD (k * 3 + 2) 0 ∧ xs.getD (k * 3 + 2) 0 ≤ 2) := fun k hk => tem_off hp hk
    have hY : (triL (tuF xs) (marks 0 n)).length = n * 3 := by rw [triL_len, marks_len]
    have HY : Hid (∀ k : Nat, k < n → (triL (tuF xs) (marks 0 n)).getD (k * 3) 0 = - xs.getD (k * 3 + 1) 0 ∧ (triL (tuF xs) (marks 0 n)).getD (k * 3 + 1) 0 = xs.getD (k * 3) 0 ∧ (triL (tuF xs) (marks 0 n)).getD (k * 3 + 2) 0 = xs.getD (k * 3 + 2) 0) := fun k hk => by
      have := triL_at (tuF xs) (marks 0 n) (k := k) (by rw [marks_len]; exact hk)
      rw [marks_getD 0 n k hk, Int.zero_add, tuF_nat] at this
      exact this
    have HS : Hid (∀ j, j < n * 3 → (half (triL (tuF xs) (marks 0 n)) j).set j ((triL (tuF xs) (marks 0 n)).getD j 0) = half (triL (tuF xs) (marks 0 n)) (j + 1)) := fun j hj => half_set _ j (by omega)
    have HZ : Hid (half (triL (tuF xs) (marks 0 n)) 0 = List.replicate (n * 3) 0) := by rw [half_zero, hY]; rfl
    have HA : Hid (half (triL (tuF xs) (marks 0 n)) (n * 3) = triL (tuF xs) (marks 0 n)) := by rw [← hY]; exact half_all _
    have CS : Hid (∀ (g c B : Nat) (u : World), RowP u B (.slice (some ⟨g, 0, none⟩) n c) n (triL (tuF xs) (marks 0 n)) → Calls Try.prog 58 #[.slice (some ⟨g, 0, none⟩) n c, .func (.func 43) #[] #[]] u fun e w' => e = .returned (.tuple #[]) ∧ RowP w' B (.slice (some ⟨g, 0, none⟩) n c) n (triL (tuF xs) (sortN (fun a b => decide (tuC xs a b < 0)) n)) ∧ u.grownBy w' (some g)) := fun g c B u hr => c_SortFuncO n g c (tuF xs) (tuC xs) (fun a b => rfl) B u n2 n1 hr
    clear hA hc hY hp e1 e2 hm
    generalize triL (tuF xs) (sortN (fun a b => decide (tuC xs a b < 0)) n) = SN at *
    generalize half (triL (tuF xs) (marks 0 n)) = M at *
    generalize triL (tuF xs) (marks 0 n) = Y at *
    go_enter Try.func24, Try.ntmps24
    go_wp2_with fail
    refine C1.out.mono ?_
    rintro e w1 ⟨rfl, hb1⟩
    have HB1 := Lib.hid hb1
    clear hb1
    obtain ⟨i0, hi0, hz0, hz1, hz2⟩ := info_parts offset_info
    have hmk : (Instr.makeSlice 25 (.int .i64 (n : Int)) (.int .i64 (n : Int))).run Try.prog w1 = .ok (.slice (some ⟨w1.heap.size, 0, none⟩) n n) (w1.alloc (.cells (madeCells #[.int .i64 0, .int .i64 0, .int .i64 0] (n * 3)) 64)) := by
      have := run_make (P := Try.prog) w1 25 64 i0 (.agg #[.int .i64 0, .int .i64 0, .int .i64 0]) Try.underlying25 hi0 hz0 .i64 .i64 (n : Int) (n : Int) (by omega) (by omega) (by rw [hz2]; omega) (by omega)
      simpa [hz1, Value.cells] using this
    have H0 : Hid (RowP (w1.alloc (.cells (madeCells #[.int .i64 0, .int .i64 0, .int .i64 0] (n * 3)) 64)) w1.heap.size (.slice (some ⟨w1.heap.size, 0, none⟩) n n) n (M 0)) := by rw [HZ.out]; exact rowP_zeros w1 _ (by unfold maxLen; omega)
    clear hi0 hz0 hz1 hz2
    go_wp2_with fail
    clear hmk
    go_loopw [15] (fun i wr => ∃ k : Nat, k ≤ n ∧ i = .int .i64 k ∧ RowP wr w1.heap.size (.slice (some ⟨w1.heap.size, 0, none⟩) n n) n (M (k * 3)) ∧ Below w1.heap.size w1 wr ∧ w1.heap.size < wr.heap.size) (fun i _ => n - (intOf i).toNat)
    case atStart => exact ⟨0, Nat.zero_le _, rfl, by simpa using H0.out, (Below.refl _ _).alloc (Nat.le_refl _) _, by simp⟩
    case round =>
      obtain ⟨k, hk, rfl, hr, hbw, hs⟩ := hrel
      have HR := Lib.hid hr
      have HB := Lib.hid hbw
      clear hr hbw
      have HW : Hid (Below w.heap.size w wr) := HB1.out.trans (HB.out.mono HB1.out.size)
      by_cases hlt : k < n
      · have q0 := E1.out wr HW.out (k * 3) (by omega)
        have q1 := E1.out wr HW.out (k * 3 + 1) (by omega)
        have q2 := E1.out wr HW.out (k * 3 + 2) (by omega)
        rw [← Nat.add_assoc] at q1 q2
        obtain ⟨y0, y1, y2⟩ := HY.out k hlt
        obtain ⟨l0, l1, l2, l3, l4, l5⟩ := HO.out k hlt
        have S1 := HS.out (k * 3) (by omega)
        have S2 := HS.out (k * 3 + 1) (by omega)
        have S3 := HS.out (k * 3 + 2) (by omega)
        rw [y0] at S1
        rw [y1] at S2
        rw [y2, show k * 3 + 2 + 1 = (k + 1) * 3 by omega] at S3
        have HS1 := Lib.hid S1
        have HS2 := Lib.hid S2
        have HS3 := Lib.hid S3
        clear S1 S2 S3 y0 y1 y2
        have b1 : (0 : Int) ≤ (k : Int) := by omega
        have b2 : (k : Int) < (n : Int) := by omega
        generalize xs.getD (k * 3) 0 = t at *
        generalize xs.getD (k * 3 + 1) 0 = m at *
        generalize xs.getD (k * 3 + 2) 0 = r at *
        have iw : IntKind.i64.wrap (-m) = -m := IntWalk.i64_in _ (by omega)
        have HX : Hid (Box3 (wr.alloc (.cells #[.int .i64 t, .int .i64 m, .int .i64 r] 64)) wr.heap.size t m r) := Box3.new _ _ _ _ _
        have p0 := HR.out.cell (k * 3) (by omega)
        have p1 := HR.out.cell (k * 3 + 1) (by omega)
        have p2 := HR.out.cell (k * 3 + 2) (by omega)
        have f0 := HR.out.frozen (k * 3)
        have f1 := HR.out.frozen (k * 3 + 1)
        have f2 := HR.out.frozen (k * 3 + 2)
        have N1 := Lib.hid (HR.out.set_ (k * 3) (-m)).1
        rw [HS1.out] at N1
        have N2 := Lib.hid (N1.out.set_ (k * 3 + 1) t).1
        rw [HS2.out] at N2
        have N3 := Lib.hid (N2.out.set_ (k * 3 + 2) r).1
        rw [show k * 3 + 1 + 1 = k * 3 + 2 from rfl, HS3.out] at N3
        have NB : Hid (Below w1.heap.size w1 (((wr.setCell ⟨w1.heap.size, k * 3, none⟩ (.int .i64 (-m))).setCell ⟨w1.heap.size, k * 3 + 1, none⟩ (.int .i64 t)).setCell ⟨w1.heap.size, k * 3 + 2, none⟩ (.int .i64 r))) := ((HB.out.setCell (Nat.le_refl _) _).setCell (Nat.le_refl _) _).setCell (Nat.le_refl _) _
        generalize (M (k * 3)).getD (k * 3) 0 = z0 at *
        generalize (M (k * 3)).getD (k * 3 + 1) 0 = z1 at *
        generalize (M (k * 3)).getD (k * 3 + 2) 0 = z2 at *
        go_wp2_with fail
        go_roundw
        case rel => exact ⟨k + 1, by omega, by go_num, N3.out.below ((Below.refl _ _).alloc (Nat.le_refl _) _), NB.out.alloc NB.out.size _, by simp; omega⟩
        case measure => simp [intOf]; omega
      · obtain rfl : k = n := by omega
        have HRk : Hid (RowP wr w1.heap.size (.slice (some ⟨w1.heap.size, 0, none⟩) k k) k Y) := by rw [← HA.out]; exact HR.out
        go_wp2_with fail
        refine (CS.out _ _ _ _ HRk.out).mono ?_
        rintro e w2 ⟨rfl, hr2, hg2⟩
        have HR2 := Lib.hid (hr2.mono HB1.out.size)
        have HB2 : Hid (Below w1.heap.size w1 w2) := HB.out.grown hg2 HB.out.size (fun j hj => by simp at hj; omega)
        have HW2 : Hid (Below w.heap.size w w2) := HB1.out.trans (HB2.out.mono HB1.out.size)
        clear hr2 hg2
        go_wp2
        go_ret2
        exact ⟨_, rfl, HR2.out, HW2.out⟩
end Go.Proofs.Ythdbcncdihcggaa
