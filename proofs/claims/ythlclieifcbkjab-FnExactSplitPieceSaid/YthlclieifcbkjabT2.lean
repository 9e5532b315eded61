/-
  Contracts: the library's insertion sort over a list of the call's own, with the comparison of SortPieces.
-/
import Derived.Test.YthlclieifcbkjabT1
import Derived.Test.YthlclieifcbkjabBX
import Derived.Test.YthlclieifcbkjabGrow
import Derived.BigRegion
import Derived.IntWalk
namespace Go.Proofs.Ythlclieifcbkjab
open Go.RowKit
set_option linter.unusedVariables false

theorem grown_draws {a w : World} {r : Option Nat} (h : a.grownBy w r) (n : Nat) : a.grownBy (w.drewN n) r := ⟨h.os, h.tape, h.output, h.size, h.block⟩
theorem sortN_at (lt : Int → Int → Bool) : ∀ (i : Nat) {j : Nat}, j < i → ∃ b : Nat, (sortN lt i).getD j 0 = (b : Int) ∧ b < i
  | i + 1, j, h => by
    have hl := sortN_len lt i
    have hp := posR_le lt i (sortN lt i) i
    rw [List.getD_eq_getElem?_getD, sortN, insAt_get _ _ _ _ (by omega)]
    by_cases h1 : j < posR lt i (sortN lt i) i
    · rw [if_pos h1, ← List.getD_eq_getElem?_getD]
      obtain ⟨b, e, hb⟩ := sortN_at lt i (j := j) (by omega)
      exact ⟨b, e, by omega⟩
    · rw [if_neg h1]
      by_cases h2 : j = posR lt i (sortN lt i) i
      · rw [if_pos h2]; exact ⟨i, rfl, by omega⟩
      · rw [if_neg h2, ← List.getD_eq_getElem?_getD]
        obtain ⟨b, e, hb⟩ := sortN_at lt i (j := j - 1) (by omega)
        exact ⟨b, e, by omega⟩

set_option maxHeartbeats 4000000 in
theorem c_insSort (n g c b0 : Nat) (cf : Int → Int → Int) (B : Nat) (W : World) (hn : n ≤ 20) (h0 : 0 < n) (hr : Row W B (.slice (some ⟨g, 0, none⟩) n c) (marks 0 n))
    (H : Hid (∀ (a b : Nat) (u : World), a < n → b < n → W.grownBy u (some g) → Calls Try.prog 26 #[.int .i64 a, .int .i64 b, .pointer (some ⟨b0, 0, none⟩)] u fun e u' => e = .returned (.int .i64 (cf a b)) ∧ Below u.heap.size u u')) :
    Calls Try.prog 64 #[.slice (some ⟨g, 0, none⟩) n c, .int .i64 0, .int .i64 n, .func (.func 26) #[] #[.pointer (some ⟨b0, 0, none⟩)]] W fun e w' => e = .returned (.tuple #[]) ∧ Row w' B (.slice (some ⟨g, 0, none⟩) n c) (sortN (fun a b => decide (cf a b < 0)) n) ∧ W.grownBy w' (some g) := by
  have H0 : Hid (Row W B (.slice (some ⟨g, 0, none⟩) n c) (srtO (fun a b => decide (cf a b < 0)) n 1)) := by rw [srtO_one _ n h0]; exact hr
  have EA : Hid (srtO (fun a b => decide (cf a b < 0)) n n = sortN (fun a b => decide (cf a b < 0)) n) := srtO_all _ n
  have EL : Hid (∀ i j : Nat, i < n → j ≤ i → (srt (fun a b => decide (cf a b < 0)) n i j).length = n) := srt_len _ n
  have ES : Hid (∀ i : Nat, i < n → srtO (fun a b => decide (cf a b < 0)) n i = srt (fun a b => decide (cf a b < 0)) n i i) := srt_start _ n
  have EX : Hid (∀ i j : Nat, posR (fun a b => decide (cf a b < 0)) i (sortN (fun a b => decide (cf a b < 0)) i) i = j → srt (fun a b => decide (cf a b < 0)) n i j = srtO (fun a b => decide (cf a b < 0)) n (i + 1)) := srt_end _ n
  have E1 : Hid (∀ i j : Nat, i < n → j ≤ i → (srt (fun a b => decide (cf a b < 0)) n i j).getD j 0 = (i : Int)) := srt_at _ n
  have E2 : Hid (∀ i j : Nat, i < n → j + 1 ≤ i → ∃ b : Nat, b < n ∧ (srt (fun a b => decide (cf a b < 0)) n i (j + 1)).getD j 0 = (b : Int) ∧ ((srt (fun a b => decide (cf a b < 0)) n i (j + 1)).set (j + 1) (b : Int)).set j (i : Int) = srt (fun a b => decide (cf a b < 0)) n i j ∧
      (cf i b < 0 → posR (fun a b => decide (cf a b < 0)) i (sortN (fun a b => decide (cf a b < 0)) i) (j + 1) = posR (fun a b => decide (cf a b < 0)) i (sortN (fun a b => decide (cf a b < 0)) i) j) ∧ (0 ≤ cf i b → posR (fun a b => decide (cf a b < 0)) i (sortN (fun a b => decide (cf a b < 0)) i) (j + 1) = j + 1)) := fun i j hi hj => by
    obtain ⟨b, e, hb⟩ := sortN_at (fun a b => decide (cf a b < 0)) i (j := j) (by omega)
    refine ⟨b, by omega, by rw [srt_prev _ n i j hi hj, e], by rw [← e]; exact srt_swap _ n i j hi hj, fun h => ?_, fun h => ?_⟩
    · rw [posR, e, if_pos (by simpa using h)]
    · rw [posR, e, if_neg (by simpa using h)]
  have E0 : Hid (∀ i : Nat, posR (fun a b => decide (cf a b < 0)) i (sortN (fun a b => decide (cf a b < 0)) i) 0 = 0) := fun i => rfl
  have HW := Lib.hid (World.grownBy.refl W (some g))
  clear hr
  generalize sortN (fun a b => decide (cf a b < 0)) n = SN at *
  generalize srtO (fun a b => decide (cf a b < 0)) n = O at *
  generalize srt (fun a b => decide (cf a b < 0)) n = D at *
  obtain ⟨PR, hPR⟩ : ∃ PR : Nat → Nat → Nat, PR = fun (i j : Nat) => posR (fun a b => decide (cf a b < 0)) i (sortN (fun a b => decide (cf a b < 0)) i) j := ⟨_, rfl⟩
  have EX' : Hid (∀ i j : Nat, PR i i = j → D i j = O (i + 1)) := by rw [hPR]; exact EX.out
  have E2' : Hid (∀ i j : Nat, i < n → j + 1 ≤ i → ∃ b : Nat, b < n ∧ (D i (j + 1)).getD j 0 = (b : Int) ∧ ((D i (j + 1)).set (j + 1) (b : Int)).set j (i : Int) = D i j ∧ (cf i b < 0 → PR i (j + 1) = PR i j) ∧ (0 ≤ cf i b → PR i (j + 1) = j + 1)) := by rw [hPR]; exact E2.out
  have E0' : Hid (∀ i : Nat, PR i 0 = 0) := by rw [hPR]; exact E0.out
  clear EX E2 E0 hPR
  go_enter Try.func64, Try.ntmps64
  go_wp2_with fail
  go_loopw [8] (fun i wr => ∃ k : Nat, k ≤ n ∧ i = .int .i64 k ∧ Row wr B (.slice (some ⟨g, 0, none⟩) n c) (O k) ∧ W.grownBy wr (some g)) (fun i _ => n - (intOf i).toNat)
  case atStart => exact ⟨1, h0, rfl, H0.out, HW.out⟩
  case round =>
    obtain ⟨k, hk, rfl, hro, hgo⟩ := hrel
    have HR := Lib.hid hro
    have HG := Lib.hid hgo
    clear hro hgo
    by_cases hlt : k < n
    · have HR0 : Hid (Row wr B (.slice (some ⟨g, 0, none⟩) n c) (D k k)) := by rw [← ES.out k hlt]; exact HR.out
      have b1 : (0 : Int) ≤ (k : Int) := by omega
      have b2 : (k : Int) < (n : Int) := by omega
      go_wp2_with fail
      go_loopw [9] (fun j wr => ∃ m : Nat, m ≤ k ∧ j = .int .i64 m ∧ Row wr B (.slice (some ⟨g, 0, none⟩) n c) (D k m) ∧ W.grownBy wr (some g) ∧ PR k k = PR k m) (fun j _ => (intOf j).toNat)
      case atStart => exact ⟨k, Nat.le_refl _, rfl, HR0.out, HG.out, rfl⟩
      case round =>
        obtain ⟨m, hm, rfl, hrd, hgd, hpr⟩ := hrel
        have HD := Lib.hid hrd
        have HGd := Lib.hid hgd
        have HP := Lib.hid hpr
        clear hrd hgd hpr
        cases m with
        | zero =>
          have N1 : Hid (Row wr B (.slice (some ⟨g, 0, none⟩) n c) (O (k + 1))) := by rw [← EX'.out k 0 (by rw [HP.out, E0'.out])]; exact HD.out
          go_wp2_with fail
          go_quiet (fail)
          go_wp2
          go_roundw
          case rel => exact ⟨k + 1, by omega, by go_num, N1.out, grown_draws HGd.out _⟩
          case measure => simp [intOf]; omega
        | succ m =>
          obtain ⟨b, hb, eb, es, el, eg⟩ := E2'.out k m hlt hm
          have em := E1.out k (m + 1) hlt hm
          have hl := EL.out k (m + 1) hlt hm
          have ES' := Lib.hid es
          have EL' := Lib.hid el
          have EG' := Lib.hid eg
          have p1 : wr.cell? ⟨g, m + 1, none⟩ = some (.int .i64 k) := by
            have := HD.out
            rw [← hl] at this
            rw [this.cell (m + 1) (by omega), em]
          have p0 : wr.cell? ⟨g, m, none⟩ = some (.int .i64 b) := by
            have := HD.out
            rw [← hl] at this
            rw [this.cell m (by omega), eb]
          have f1 : wr.frozen? ⟨g, m + 1, none⟩ = false := by
            have := HD.out
            rw [← hl] at this
            exact this.frozen (m + 1)
          have f0 : wr.frozen? ⟨g, m, none⟩ = false := by
            have := HD.out
            rw [← hl] at this
            exact this.frozen m
          have gw : Hid (g < wr.heap.size) := by
            obtain ⟨g', c', e, _, hg2⟩ := HD.out.form (by rw [hl]; omega)
            simp at e
            rw [← e.1] at hg2
            exact hg2
          have HL := Lib.hid hl
          clear es el eg em eb hl
          have HC := Lib.hid (fun (u : World) (hu : Below wr.heap.size wr u) => H.out k b u hlt hb (HGd.out.trans (grow_below hu (some g))))
          have gw' := gw.out
          have i1 : (0 : Int) ≤ ((m + 1 : Nat) : Int) := by omega
          have i2 : ((m + 1 : Nat) : Int) < (n : Int) := by omega
          have i3 : (0 : Int) < ((m + 1 : Nat) : Int) := by omega
          have i4 : (0 : Int) ≤ (m : Int) := by omega
          have i5 : (m : Int) < (n : Int) := by omega
          have iw : IntKind.i64.wrap (((m : Nat) : Int) + 1 - 1) = (m : Int) := by rw [show ((m : Int) + 1 - 1) = (m : Int) by omega]; exact IntWalk.i64_in _ (by omega)
          go_wp2_with fail
          refine wp_region_grow (by kernel_rfl) (by kernel_rfl) ?_
          repeat (go_big_quiet_step ((go_at_call 26; exact grow_of (HC.out _ (wOf_below _ _)))))
          refine wpQuiet_nil ?_
          intro _ hw'
          obtain ⟨u, hw''⟩ := hw'
          subst hw''
          have hb2 := wOf_below wr u
          generalize wOf wr u = w2 at hb2 ⊢
          have HD2 := Lib.hid (HD.out.below hb2)
          have HG2 : Hid (W.grownBy w2 (some g)) := HGd.out.trans (grow_below hb2 (some g))
          have gw2 : g < w2.heap.size := Nat.lt_of_lt_of_le gw.out hb2.size
          have r1 : w2.cell? ⟨g, m + 1, none⟩ = some (.int .i64 k) := by rw [hb2.cell (p := ⟨g, m + 1, none⟩) gw.out]; exact p1
          have r0 : w2.cell? ⟨g, m, none⟩ = some (.int .i64 b) := by rw [hb2.cell (p := ⟨g, m, none⟩) gw.out]; exact p0
          have s1 : w2.frozen? ⟨g, m + 1, none⟩ = false := by rw [hb2.frozen (p := ⟨g, m + 1, none⟩) gw.out]; exact f1
          have s0 : w2.frozen? ⟨g, m, none⟩ = false := by rw [hb2.frozen (p := ⟨g, m, none⟩) gw.out]; exact f0
          clear hb2 p1 p0 f1 f0 gw'
          by_cases hc : cf k b < 0
          · have hp : Hid (PR k k = PR k m) := HP.out.trans (EL'.out hc)
            have N1 := Lib.hid ((Row.set_ HL.out.symm HD2.out (m + 1) b).1)
            have N2 := Lib.hid ((Row.set_ (by rw [List.length_set]; exact HL.out.symm) N1.out m k).1)
            rw [ES'.out] at N2
            have N3 : Hid (W.grownBy ((w2.setCell ⟨g, m + 1, none⟩ (.int .i64 b)).setCell ⟨g, m, none⟩ (.int .i64 k)) (some g)) := (HG2.out.trans (Row.set_ HL.out.symm HD2.out (m + 1) b).2).trans (Row.set_ (by rw [List.length_set]; exact HL.out.symm) N1.out m k).2
            go_wp2_with fail
            go_region
            go_wp2
            go_roundw
            case rel => exact ⟨m, by omega, rfl, N2.out, grown_draws N3.out 1, hp.out⟩
            case measure => simp [intOf]
          · have hp : Hid (PR k k = m + 1) := HP.out.trans (EG'.out (by omega))
            have N1 : Hid (Row w2 B (.slice (some ⟨g, 0, none⟩) n c) (O (k + 1))) := by rw [← EX'.out k (m + 1) hp.out]; exact HD2.out
            go_wp2
            go_roundw
            case rel => exact ⟨k + 1, by omega, by go_num, N1.out, HG2.out⟩
            case measure => simp [intOf]; omega
    · obtain rfl : k = n := by omega
      go_wp2
      refine bodyPost_end (v := .tuple #[]) (by simp [results, Try.results64, go_sem]) rfl ?_
      exact ⟨rfl, by rw [← EA.out]; exact HR.out, HG.out⟩
end Go.Proofs.Ythlclieifcbkjab
