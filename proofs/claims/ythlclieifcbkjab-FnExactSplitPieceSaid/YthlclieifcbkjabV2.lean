/-
  Contracts: the library's stable sort, and orderOf, with the comparison of the program's shares.
-/
import Derived.Test.YthlclieifcbkjabT5
namespace Go.Proofs.Ythlclieifcbkjab
open Go.RowKit
set_option linter.unusedVariables false

set_option maxHeartbeats 4000000 in
theorem c_insSortW (n g c ba bb bc : Nat) (cf : Int → Int → Int) (B : Nat) (W : World) (hn : n ≤ 20) (h0 : 0 < n) (hr : Row W B (.slice (some ⟨g, 0, none⟩) n c) (marks 0 n))
    (H : Hid (∀ (a b : Nat) (u : World), a < n → b < n → W.grownBy u (some g) → Calls Try.prog 50 #[.int .i64 a, .int .i64 b, .pointer (some ⟨ba, 0, none⟩), .pointer (some ⟨bb, 0, none⟩), .pointer (some ⟨bc, 0, none⟩)] u fun e u' => e = .returned (.int .i64 (cf a b)) ∧ Below u.heap.size u u')) :
    Calls Try.prog 64 #[.slice (some ⟨g, 0, none⟩) n c, .int .i64 0, .int .i64 n, .func (.func 50) #[] #[.pointer (some ⟨ba, 0, none⟩), .pointer (some ⟨bb, 0, none⟩), .pointer (some ⟨bc, 0, none⟩)]] W fun e w' => e = .returned (.tuple #[]) ∧ Row w' B (.slice (some ⟨g, 0, none⟩) n c) (sortN (fun a b => decide (cf a b < 0)) n) ∧ W.grownBy w' (some g) := by
  have H0 : Hid (Row W B (.slice (some ⟨g, 0, none⟩) n c) (srtO (fun a b => decide (cf a b < 0)) n 1)) := by rw [srtO_one _ n h0]; exact hr
  have EA : Hid (srtO (fun a b => decide (cf a b < 0)) n n = sortN (fun a b => decide (cf a b < 0)) n) := srtO_all _ n
  have EL : Hid (∀ i j : Nat, i < n → j ≤ i → (srt (fun a b => decide (cf a b < 0)) n i j).length = n) := srt_len _ n
  have ES : Hid (∀ i : Nat, i < n → srtO (fun a b => decide (cf a b < 0)) n i = srt (fun a b => decide (cf a b < 0)) n i i) := srt_start _ n
  have EX : Hid (∀ i j : Nat, posR (fun a b => decide (cf a b < 0)) i (sortN (fun a b => decide (cf a b < 0)) i) i = j → srt (fun a b => decide (cf a b < 0)) n i j = srtO (fun a b => decide (cf a b < 0)) n (i + 1)) := srt_end _ n
  have E1 : Hid (∀ i j : Nat, i < n → j ≤ i → (srt (fun a b => decide (cf a b < 0)) n i j).getD j 0 = (i : Int)) := srt_at _ n
  have E2 : Hid (∀ i j : Nat, i < n → j + 1 ≤ i → ∃ b : Nat, b < n ∧ (srt (fun a b => decide (cf a b < 0)) n i (j + 1)).getD j 0 = (b : Int) ∧ ((srt (fun a b => decide (cf a b < 0)) n i (j + 1)).set (j + 1) (b : Int)).set j (i : Int) = srt (fun a b => decide (cf a b < 0)) n i j ∧
      (cf i b < 0 → posR (fun a b => decide (cf a b < 0)) i (sortN (fun a b => decide (cf a b < 0)) i) (j + 1) = posR (fun a b => decide (cf a b < 0)) i (sortN (fun a b => decide (cf a b < 0)) i) j) ∧ (0 ≤ cf i b → posR (fun a b => decide (cf a b < 0)) i (sortN (fun a b => decide (cf a b < 0)) i) (j + 1) = j + 1)) := fun i j hi hj => by
    obtain ⟨b, e, hb⟩ := sortN_at (fun a b => decide (cf a b < 0)) i (j := j) (by omega)
    refine ⟨b, by omega, by rw [srt_prev _ n i j hi hj, e], by rw [← e]; exact srt_swap _ n i j hi hj, fun h => ?_, fun h => ?_⟩
    · rw [posR, e, if_pos (by simpa using h)]
    · rw [posR, e, if_neg (by simpa using h)]
  have E0 : Hid (∀ i : Nat, posR (fun a b => decide (cf a b < 0)) i (sortN (fun a b => decide (cf a b < 0)) i) 0 = 0) := fun i => rfl
  have HW := Lib.hid (World.grownBy.refl W (some g))
  clear hr
  generalize sortN (fun a b => decide (cf a b < 0)) n = SN at *
  generalize srtO (fun a b => decide (cf a b < 0)) n = O at *
  generalize srt (fun a b => decide (cf a b < 0)) n = D at *
  obtain ⟨PR, hPR⟩ : ∃ PR : Nat → Nat → Nat, PR = fun (i j : Nat) => posR (fun a b => decide (cf a b < 0)) i (sortN (fun a b => decide (cf a b < 0)) i) j := ⟨_, rfl⟩
  have EX' : Hid (∀ i j : Nat, PR i i = j → D i j = O (i + 1)) := by rw [hPR]; exact EX.out
  have E2' : Hid (∀ i j : Nat, i < n → j + 1 ≤ i → ∃ b : Nat, b < n ∧ (D i (j + 1)).getD j 0 = (b : Int) ∧ ((D i (j + 1)).set (j + 1) (b : Int)).set j (i : Int) = D i j ∧ (cf i b < 0 → PR i (j + 1) = PR i j) ∧ (0 ≤ cf i b → PR i (j + 1) = j + 1)) := by rw [hPR]; exact E2.out
  have E0' : Hid (∀ i : Nat, PR i 0 = 0) := by rw [hPR]; exact E0.out
  clear EX E2 E0 hPR
  go_enter Try.func64, Try.ntmps64
  go_wp2_with fail
  go_loopw [8] (fun i wr => ∃ k : Nat, k ≤ n ∧ i = .int .i64 k ∧ Row wr B (.slice (some ⟨g, 0, none⟩) n c) (O k) ∧ W.grownBy wr (some g)) (fun i _ => n - (intOf i).toNat)
  case atStart => exact ⟨1, h0, rfl, H0.out, HW.out⟩
  case round =>
    obtain ⟨k, hk, rfl, hro, hgo⟩ := hrel
    have HR := Lib.hid hro
    have HG := Lib.hid hgo
    clear hro hgo
    by_cases hlt : k < n
    · have HR0 : Hid (Row wr B (.slice (some ⟨g, 0, none⟩) n c) (D k k)) := by rw [← ES.out k hlt]; exact HR.out
      have b1 : (0 : Int) ≤ (k : Int) := by omega
      have b2 : (k : Int) < (n : Int) := by omega
      go_wp2_with fail
      go_loopw [9] (fun j wr => ∃ m : Nat, m ≤ k ∧ j = .int .i64 m ∧ Row wr B (.slice (some ⟨g, 0, none⟩) n c) (D k m) ∧ W.grownBy wr (some g) ∧ PR k k = PR k m) (fun j _ => (intOf j).toNat)
      case atStart => exact ⟨k, Nat.le_refl _, rfl, HR0.out, HG.out, rfl⟩
      case round =>
        obtain ⟨m, hm, rfl, hrd, hgd, hpr⟩ := hrel
        have HD := Lib.hid hrd
        have HGd := Lib.hid hgd
        have HP := Lib.hid hpr
        clear hrd hgd hpr
        cases m with
        | zero =>
          have N1 : Hid (Row wr B (.slice (some ⟨g, 0, none⟩) n c) (O (k + 1))) := by rw [← EX'.out k 0 (by rw [HP.out, E0'.out])]; exact HD.out
          go_wp2_with fail
          go_quiet (fail)
          go_wp2
          go_roundw
          case rel => exact ⟨k + 1, by omega, by go_num, N1.out, grown_draws HGd.out _⟩
          case measure => simp [intOf]; omega
        | succ m =>
          obtain ⟨b, hb, eb, es, el, eg⟩ := E2'.out k m hlt hm
          have em := E1.out k (m + 1) hlt hm
          have hl := EL.out k (m + 1) hlt hm
          have ES' := Lib.hid es
          have EL' := Lib.hid el
          have EG' := Lib.hid eg
          have p1 : wr.cell? ⟨g, m + 1, none⟩ = some (.int .i64 k) := by
            have := HD.out
            rw [← hl] at this
            rw [this.cell (m + 1) (by omega), em]
          have p0 : wr.cell? ⟨g, m, none⟩ = some (.int .i64 b) := by
            have := HD.out
            rw [← hl] at this
            rw [this.cell m (by omega), eb]
          have f1 : wr.frozen? ⟨g, m + 1, none⟩ = false := by
            have := HD.out
            rw [← hl] at this
            exact this.frozen (m + 1)
          have f0 : wr.frozen? ⟨g, m, none⟩ = false := by
            have := HD.out
            rw [← hl] at this
            exact this.frozen m
          have gw : Hid (g < wr.heap.size) := by
            obtain ⟨g', c', e, _, hg2⟩ := HD.out.form (by rw [hl]; omega)
            simp at e
            rw [← e.1] at hg2
            exact hg2
          have HL := Lib.hid hl
          clear es el eg em eb hl
          have HC := Lib.hid (fun (u : World) (hu : Below wr.heap.size wr u) => H.out k b u hlt hb (HGd.out.trans (grow_below hu (some g))))
          have gw' := gw.out
          have i1 : (0 : Int) ≤ ((m + 1 : Nat) : Int) := by omega
          have i2 : ((m + 1 : Nat) : Int) < (n : Int) := by omega
          have i3 : (0 : Int) < ((m + 1 : Nat) : Int) := by omega
          have i4 : (0 : Int) ≤ (m : Int) := by omega
          have i5 : (m : Int) < (n : Int) := by omega
          have iw : IntKind.i64.wrap (((m : Nat) : Int) + 1 - 1) = (m : Int) := by rw [show ((m : Int) + 1 - 1) = (m : Int) by omega]; exact IntWalk.i64_in _ (by omega)
          go_wp2_with fail
          refine wp_region_grow (by kernel_rfl) (by kernel_rfl) ?_
          repeat (go_big_quiet_step ((go_at_call 50; exact grow_of (HC.out _ (wOf_below _ _)))))
          refine wpQuiet_nil ?_
          intro _ hw'
          obtain ⟨u, hw''⟩ := hw'
          subst hw''
          have hb2 := wOf_below wr u
          generalize wOf wr u = w2 at hb2 ⊢
          have HD2 := Lib.hid (HD.out.below hb2)
          have HG2 : Hid (W.grownBy w2 (some g)) := HGd.out.trans (grow_below hb2 (some g))
          have gw2 : g < w2.heap.size := Nat.lt_of_lt_of_le gw.out hb2.size
          have r1 : w2.cell? ⟨g, m + 1, none⟩ = some (.int .i64 k) := by rw [hb2.cell (p := ⟨g, m + 1, none⟩) gw.out]; exact p1
          have r0 : w2.cell? ⟨g, m, none⟩ = some (.int .i64 b) := by rw [hb2.cell (p := ⟨g, m, none⟩) gw.out]; exact p0
          have s1 : w2.frozen? ⟨g, m + 1, none⟩ = false := by rw [hb2.frozen (p := ⟨g, m + 1, none⟩) gw.out]; exact f1
          have s0 : w2.frozen? ⟨g, m, none⟩ = false := by rw [hb2.frozen (p := ⟨g, m, none⟩) gw.out]; exact f0
          clear hb2 p1 p0 f1 f0 gw'
          by_cases hc : cf k b < 0
          · have hp : Hid (PR k k = PR k m) := HP.out.trans (EL'.out hc)
            have N1 := Lib.hid ((Row.set_ HL.out.symm HD2.out (m + 1) b).1)
            have N2 := Lib.hid ((Row.set_ (by rw [List.length_set]; exact HL.out.symm) N1.out m k).1)
            rw [ES'.out] at N2
            have N3 : Hid (W.grownBy ((w2.setCell ⟨g, m + 1, none⟩ (.int .i64 b)).setCell ⟨g, m, none⟩ (.int .i64 k)) (some g)) := (HG2.out.trans (Row.set_ HL.out.symm HD2.out (m + 1) b).2).trans (Row.set_ (by rw [List.length_set]; exact HL.out.symm) N1.out m k).2
            go_wp2_with fail
            go_region
            go_wp2
            go_roundw
            case rel => exact ⟨m, by omega, rfl, N2.out, grown_draws N3.out 1, hp.out⟩
            case measure => simp [intOf]
          · have hp : Hid (PR k k = m + 1) := HP.out.trans (EG'.out (by omega))
            have N1 : Hid (Row w2 B (.slice (some ⟨g, 0, none⟩) n c) (O (k + 1))) := by rw [← EX'.out k (m + 1) hp.out]; exact HD2.out
            go_wp2
            go_roundw
            case rel => exact ⟨k + 1, by omega, by go_num, N1.out, HG2.out⟩
            case measure => simp [intOf]; omega
    · obtain rfl : k = n := by omega
      go_wp2
      refine bodyPost_end (v := .tuple #[]) (by simp [results, Try.results64, go_sem]) rfl ?_
      exact ⟨rfl, by rw [← EA.out]; exact HR.out, HG.out⟩


set_option maxHeartbeats 1000000 in
theorem c_insNoneW (n g c ba bb bc : Nat) (a : Int) (W : World) (ha : 0 ≤ a) (ha2 : a ≤ 100) (hn : (n : Int) ≤ a) :
    Calls Try.prog 64 #[.slice (some ⟨g, 0, none⟩) n c, .int .i64 a, .int .i64 n, .func (.func 50) #[] #[.pointer (some ⟨ba, 0, none⟩), .pointer (some ⟨bb, 0, none⟩), .pointer (some ⟨bc, 0, none⟩)]] W fun e w' => e = .returned (.tuple #[]) ∧ W = w' := by
  go_enter Try.func64, Try.ntmps64
  go_wp2
  go_rounds 1
  refine bodyPost_end (v := .tuple #[]) (by simp [results, Try.results64, go_sem]) rfl ?_
  exact ⟨rfl, rfl⟩

/-- Before the sort, or behind its first twenty. -/
inductive StRelW (W : World) (g c n B : Nat) (SN : List Int) : Nat → World → Prop where
  | first : StRelW W g c n B SN 0 W
  | done {w' : World} (h : n = 20) (r : Row w' B (.slice (some ⟨g, 0, none⟩) n c) SN) (k : W.grownBy w' (some g)) : StRelW W g c n B SN 1 w'

set_option maxHeartbeats 4000000 in
theorem c_stableW (n g c ba bb bc : Nat) (cf : Int → Int → Int) (B : Nat) (W : World) (hn : n ≤ 20) (h0 : 0 < n) (hr : Row W B (.slice (some ⟨g, 0, none⟩) n c) (marks 0 n))
    (H : Hid (∀ (a b : Nat) (u : World), a < n → b < n → W.grownBy u (some g) → Calls Try.prog 50 #[.int .i64 a, .int .i64 b, .pointer (some ⟨ba, 0, none⟩), .pointer (some ⟨bb, 0, none⟩), .pointer (some ⟨bc, 0, none⟩)] u fun e u' => e = .returned (.int .i64 (cf a b)) ∧ Below u.heap.size u u')) :
    Calls Try.prog 51 #[.slice (some ⟨g, 0, none⟩) n c, .int .i64 n, .func (.func 50) #[] #[.pointer (some ⟨ba, 0, none⟩), .pointer (some ⟨bb, 0, none⟩), .pointer (some ⟨bc, 0, none⟩)]] W fun e w' => e = .returned (.tuple #[]) ∧ Row w' B (.slice (some ⟨g, 0, none⟩) n c) (sortN (fun a b => decide (cf a b < 0)) n) ∧ W.grownBy w' (some g) := by
  have HC := Lib.hid (c_insSortW n g c ba bb bc cf B W hn h0 hr H)
  clear hr
  generalize sortN (fun a b => decide (cf a b < 0)) n = SN at *
  go_enter Try.func51, Try.ntmps51
  go_wp2_with fail
  go_loopw [7, 8] (fun p q wr => ∃ t : Nat, p = .int .i64 (20 * (t : Int)) ∧ q = .int .i64 (20 + 20 * (t : Int)) ∧ StRelW W g c n B SN t wr) (fun p _ _ => 1 - (intOf p).toNat)
  case atStart => exact ⟨0, by simp, by simp, StRelW.first⟩
  case round =>
    obtain ⟨t, rfl, rfl, hs⟩ := hrel
    rcases hs with _ | ⟨h, r, k⟩
    · simp only [Int.natCast_zero, Int.mul_zero, Int.add_zero]
      by_cases h20 : n = 20
      · have e20 : (n : Int) = 20 := by omega
        have HC20 := Lib.hid (by have := HC.out; rw [e20] at this; exact this)
        have l20 : (20 : Int) ≤ (n : Int) := by omega
        have HE := Lib.hid h20
        clear e20 h20
        go_wp2_with fail
        refine HC20.out.mono ?_
        rintro e w1 ⟨rfl, hr1, hg1⟩
        have HR1 := Lib.hid hr1
        have HG1 := Lib.hid hg1
        clear hr1 hg1
        go_wp2
        go_roundw
        case rel => exact ⟨1, by simp, by simp, StRelW.done HE.out HR1.out HG1.out⟩
        case measure => simp [intOf]
      · have hlt : (n : Int) < 20 := by omega
        go_wp2_with fail
        refine HC.out.mono ?_
        rintro e w1 ⟨rfl, hr1, hg1⟩
        have HR1 := Lib.hid hr1
        have HG1 := Lib.hid hg1
        clear hr1 hg1
        go_wp2_with fail
        go_rounds 1
        refine bodyPost_end (v := .tuple #[]) (by simp [results, Try.results51, go_sem]) rfl ?_
        exact ⟨rfl, HR1.out, HG1.out⟩
    · have l20 : (n : Int) < 40 := by omega
      have l21 : (n : Int) ≤ 20 := by omega
      clear h
      have HR1 := Lib.hid r
      have HG1 := Lib.hid k
      clear r k
      simp only [Int.natCast_one, Int.mul_one]
      go_wp2_with fail
      refine (c_insNoneW n g c ba bb bc 20 _ (by omega) (by omega) (by omega)).mono ?_
      rintro e w1 ⟨rfl, rfl⟩
      go_wp2_with fail
      go_rounds 1
      refine bodyPost_end (v := .tuple #[]) (by simp [results, Try.results51, go_sem]) rfl ?_
      exact ⟨rfl, HR1.out, HG1.out⟩


set_option maxHeartbeats 1000000 in
theorem c_sortStableW (n g c ba bb bc : Nat) (cf : Int → Int → Int) (B : Nat) (W : World) (hn : n ≤ 20) (h0 : 0 < n) (hr : Row W B (.slice (some ⟨g, 0, none⟩) n c) (marks 0 n))
    (H : Hid (∀ (a b : Nat) (u : World), a < n → b < n → W.grownBy u (some g) → Calls Try.prog 50 #[.int .i64 a, .int .i64 b, .pointer (some ⟨ba, 0, none⟩), .pointer (some ⟨bb, 0, none⟩), .pointer (some ⟨bc, 0, none⟩)] u fun e u' => e = .returned (.int .i64 (cf a b)) ∧ Below u.heap.size u u')) :
    Calls Try.prog 41 #[.slice (some ⟨g, 0, none⟩) n c, .func (.func 50) #[] #[.pointer (some ⟨ba, 0, none⟩), .pointer (some ⟨bb, 0, none⟩), .pointer (some ⟨bc, 0, none⟩)]] W fun e w' => e = .returned (.tuple #[]) ∧ Row w' B (.slice (some ⟨g, 0, none⟩) n c) (sortN (fun a b => decide (cf a b < 0)) n) ∧ W.grownBy w' (some g) := by
  have HC := Lib.hid (c_stableW n g c ba bb bc cf B W hn h0 hr H)
  clear hr
  generalize sortN (fun a b => decide (cf a b < 0)) n = SN at *
  go_enter Try.func41, Try.ntmps41
  go_wp2_with fail
  refine HC.out.mono ?_
  rintro e w1 ⟨rfl, hr1, hg1⟩
  have HR1 := Lib.hid hr1
  have HG1 := Lib.hid hg1
  clear hr1 hg1
  go_wp2
  refine bodyPost_end (v := .tuple #[]) (by simp [results, Try.results41, go_sem]) rfl ?_
  exact ⟨rfl, HR1.out, HG1.out⟩

set_option maxHeartbeats 4000000 in
theorem c_orderOfW (n ba bb bc : Nat) (cf : Int → Int → Int) (W : World) (hn : n ≤ 20) (h0 : 0 < n)
    (H : Hid (∀ (a b : Nat) (u : World), a < n → b < n → Below W.heap.size W u → Calls Try.prog 50 #[.int .i64 a, .int .i64 b, .pointer (some ⟨ba, 0, none⟩), .pointer (some ⟨bb, 0, none⟩), .pointer (some ⟨bc, 0, none⟩)] u fun e u' => e = .returned (.int .i64 (cf a b)) ∧ Below u.heap.size u u')) :
    Calls Try.prog 25 #[.int .i64 n, .func (.func 50) #[] #[.pointer (some ⟨ba, 0, none⟩), .pointer (some ⟨bb, 0, none⟩), .pointer (some ⟨bc, 0, none⟩)]] W (GivesRow W (sortN (fun a b => decide (cf a b < 0)) n)) := by
  obtain ⟨i0, hi0, hz0, hz1, hz2⟩ := info_parts int_info
  have hmk : (Instr.makeSlice 24 (.int .i64 (n : Int)) (.int .i64 (n : Int))).run Try.prog W = .ok (.slice (some ⟨W.heap.size, 0, none⟩) n n) (W.alloc (.cells (madeCells #[.int .i64 0] n) 3)) := by
    have := run_make (P := Try.prog) W 24 3 i0 (.int .i64 0) Try.underlying24 hi0 hz0 .i64 .i64 (n : Int) (n : Int) (by omega) (by omega) (by rw [hz2]; omega) (by omega)
    simpa [hz1, Value.cells] using this
  have H0 : Hid (Row (W.alloc (.cells (madeCells #[.int .i64 0] n) 3)) W.heap.size (.slice (some ⟨W.heap.size, 0, none⟩) n n) (marked 0 (List.replicate n 0) 0)) := by rw [marked_zero]; exact row_zeros W n (by unfold maxLen; omega)
  have HL : Hid (∀ j, j ≤ n → (marked 0 (List.replicate n 0) j).length = n) := fun j hj => by rw [marked_len _ _ _ (by simpa using hj)]; simp
  have HS : Hid (∀ j : Nat, j < n → (marked 0 (List.replicate n 0) j).set j (j : Int) = marked 0 (List.replicate n 0) (j + 1)) := fun j hj => by
    have := marked_set 0 (List.replicate n 0) j (by simpa using hj)
    rwa [Int.zero_add] at this
  have HA : Hid (marked 0 (List.replicate n 0) n = marks 0 n) := by have := marked_all 0 (List.replicate n 0); rw [List.length_replicate] at this; exact this
  clear hi0 hz0 hz1 hz2
  generalize marked 0 (List.replicate n 0) = M at *
  have HSN : Hid (∃ SN, sortN (fun a b => decide (cf a b < 0)) n = SN) := ⟨_, rfl⟩
  obtain ⟨SN, hSN⟩ := HSN
  have HSN := Lib.hid hSN
  rw [hSN]
  clear hSN
  go_enter Try.func25, Try.ntmps25
  go_wp2
  clear hmk
  go_loopw [11] (fun i wr => ∃ k : Nat, k ≤ n ∧ i = .int .i64 k ∧ Row wr W.heap.size (.slice (some ⟨W.heap.size, 0, none⟩) n n) (M k) ∧ Below W.heap.size W wr) (fun i _ => n - (intOf i).toNat)
  case atStart => exact ⟨0, Nat.zero_le _, rfl, H0.out, (Below.refl _ _).alloc (Nat.le_refl _) _⟩
  case round =>
    obtain ⟨k, hk, rfl, hr, hb⟩ := hrel
    have HR := Lib.hid hr
    have HB := Lib.hid hb
    clear hr hb
    by_cases hlt : k < n
    · have hkl : k < (M k).length := by rw [HL.out k hk]; exact hlt
      have q1 : wr.cell? ⟨W.heap.size, k, none⟩ = some (.int .i64 ((M k).getD k 0)) := by
        have hr := HR.out
        rw [← HL.out k hk] at hr
        exact hr.cell k hkl
      have q2 : wr.frozen? ⟨W.heap.size, k, none⟩ = false := by
        have hr := HR.out
        rw [← HL.out k hk] at hr
        exact hr.frozen k
      have N1 : Hid (Row (wr.setCell ⟨W.heap.size, k, none⟩ (.int .i64 k)) W.heap.size (.slice (some ⟨W.heap.size, 0, none⟩) n n) (M (k + 1))) := by
        have := (Row.set_ (HL.out k hk).symm HR.out k k).1
        rw [HS.out k hlt] at this
        exact this
      generalize (M k).getD k 0 = t at q1
      have b1 : (0 : Int) ≤ (k : Int) := by omega
      have b2 : (k : Int) < (n : Int) := by omega
      clear hkl
      go_wp2
      go_roundw
      case rel => exact ⟨k + 1, by omega, by go_num, N1.out, HB.out.setCell (Nat.le_refl _) _⟩
      case measure => simp [intOf]; omega
    · obtain rfl : k = n := by omega
      have HRm : Hid (Row wr W.heap.size (.slice (some ⟨W.heap.size, 0, none⟩) k k) (marks 0 k)) := by rw [← HA.out]; exact HR.out
      have HC := Lib.hid (c_sortStableW k W.heap.size k ba bb bc cf W.heap.size wr hn h0 HRm.out (fun a b u ha hb hu => H.out a b u ha hb (HB.out.grown hu HB.out.size (fun j hj => by simp at hj; omega))))
      rw [HSN.out] at HC
      go_wp2_with fail
      refine HC.out.mono ?_
      rintro e w2 ⟨rfl, hr2, hg2⟩
      have HR2 := Lib.hid hr2
      have HB2 : Hid (Below W.heap.size W w2) := HB.out.grown hg2 HB.out.size (fun j hj => by simp at hj; omega)
      clear hr2 hg2
      go_wp2
      go_ret
      exact ⟨_, rfl, HR2.out, HB2.out⟩
end Go.Proofs.Ythlclieifcbkjab
