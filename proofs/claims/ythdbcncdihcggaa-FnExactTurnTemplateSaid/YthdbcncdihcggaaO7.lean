/-
  Contracts: the library's insertion sort over a list of offsets of the call's own.
-/
import Derived.Test.YthdbcncdihcggaaO5
import Derived.BigRegion
import Derived.IntWalk
namespace Go.Proofs.Ythdbcncdihcggaa
open Go.RowKit
set_option linter.unusedVariables false

set_option maxHeartbeats 4000000 in
theorem c_insSortO (n g c : Nat) (f : Int → Int × Int × Int) (cf : Int → Int → Int) (hcf : ∀ a b : Nat, cf a b = cmpO (f a).1 (f a).2.1 (f a).2.2 (f b).1 (f b).2.1 (f b).2.2) (B : Nat) (W : World) (hn : n ≤ 20) (h0 : 0 < n) (hr : RowP W B (.slice (some ⟨g, 0, none⟩) n c) n (triL f (marks 0 n))) :
    Calls Try.prog 87 #[.slice (some ⟨g, 0, none⟩) n c, .int .i64 0, .int .i64 n, .func (.func 43) #[] #[]] W fun e w' => e = .returned (.tuple #[]) ∧ RowP w' B (.slice (some ⟨g, 0, none⟩) n c) n (triL f (sortN (fun a b => decide (cf a b < 0)) n)) ∧ W.grownBy w' (some g) := by
  have HCF := Lib.hid hcf
  clear hcf
  have H0 : Hid (RowP W B (.slice (some ⟨g, 0, none⟩) n c) n (triL f (srtO (fun a b => decide (cf a b < 0)) n 1))) := by rw [srtO_one _ n h0]; exact hr
  have EA : Hid (srtO (fun a b => decide (cf a b < 0)) n n = sortN (fun a b => decide (cf a b < 0)) n) := srtO_all _ n
  have EL : Hid (∀ i j : Nat, i < n → j ≤ i → (srt (fun a b => decide (cf a b < 0)) n i j).length = n) := srt_len _ n
  have ES : Hid (∀ i : Nat, i < n → srtO (fun a b => decide (cf a b < 0)) n i = srt (fun a b => decide (cf a b < 0)) n i i) := srt_start _ n
  have EX : Hid (∀ i j : Nat, posR (fun a b => decide (cf a b < 0)) i (sortN (fun a b => decide (cf a b < 0)) i) i = j → srt (fun a b => decide (cf a b < 0)) n i j = srtO (fun a b => decide (cf a b < 0)) n (i + 1)) := srt_end _ n
  have E1 : Hid (∀ i j : Nat, i < n → j ≤ i → (srt (fun a b => decide (cf a b < 0)) n i j).getD j 0 = (i : Int)) := srt_at _ n
  have E2 : Hid (∀ i j : Nat, i < n → j + 1 ≤ i → ∃ b : Nat, b < n ∧ (srt (fun a b => decide (cf a b < 0)) n i (j + 1)).getD j 0 = (b : Int) ∧ ((srt (fun a b => decide (cf a b < 0)) n i (j + 1)).set (j + 1) (b : Int)).set j (i : Int) = srt (fun a b => decide (cf a b < 0)) n i j ∧
      (cf i b < 0 → posR (fun a b => decide (cf a b < 0)) i (sortN (fun a b => decide (cf a b < 0)) i) (j + 1) = posR (fun a b => decide (cf a b < 0)) i (sortN (fun a b => decide (cf a b < 0)) i) j) ∧ (0 ≤ cf i b → posR (fun a b => decide (cf a b < 0)) i (sortN (fun a b => decide (cf a b < 0)) i) (j + 1) = j + 1)) := fun i j hi hj => by
    obtain ⟨b, e, hb⟩ := sortN_at (fun a b => decide (cf a b < 0)) i (j := j) (by omega)
    refine ⟨b, by omega, by rw [srt_prev _ n i j hi hj, e], by rw [← e]; exact srt_swap _ n i j hi hj, fun h => ?_, fun h => ?_⟩
    · rw [posR, e, if_pos (by simpa using h)]
    · rw [posR, e, if_neg (by simpa using h)]
  have E0 : Hid (∀ i : Nat, posR (fun a b => decide (cf a b < 0)) i (sortN (fun a b => decide (cf a b < 0)) i) 0 = 0) := fun i => rfl
  have HW := Lib.hid (World.grownBy.refl W (some g))
  clear hr
  generalize sortN (fun a b => decide (cf a b < 0)) n = SN at *
  generalize srtO (fun a b => decide (cf a b < 0)) n = O at *
  generalize srt (fun a b => decide (cf a b < 0)) n = D at *
  obtain ⟨PR, hPR⟩ : ∃ PR : Nat → Nat → Nat, PR = fun (i j : Nat) => posR (fun a b => decide (cf a b < 0)) i (sortN (fun a b => decide (cf a b < 0)) i) j := ⟨_, rfl⟩
  have EX' : Hid (∀ i j : Nat, PR i i = j → D i j = O (i + 1)) := by rw [hPR]; exact EX.out
  have E2' : Hid (∀ i j : Nat, i < n → j + 1 ≤ i → ∃ b : Nat, b < n ∧ (D i (j + 1)).getD j 0 = (b : Int) ∧ ((D i (j + 1)).set (j + 1) (b : Int)).set j (i : Int) = D i j ∧ (cf i b < 0 → PR i (j + 1) = PR i j) ∧ (0 ≤ cf i b → PR i (j + 1) = j + 1)) := by rw [hPR]; exact E2.out
  have E0' : Hid (∀ i : Nat, PR i 0 = 0) := by rw [hPR]; exact E0.out
  clear EX E2 E0 hPR
  go_enter Try.func87, Try.ntmps87
  go_wp2_with fail
  go_loopw [8] (fun i wr => ∃ k : Nat, k ≤ n ∧ i = .int .i64 k ∧ RowP wr B (.slice (some ⟨g, 0, none⟩) n c) n (triL f (O k)) ∧ W.grownBy wr (some g)) (fun i _ => n - (intOf i).toNat)
  case atStart => exact ⟨1, h0, rfl, H0.out, HW.out⟩
  case round =>
    obtain ⟨k, hk, rfl, hro, hgo⟩ := hrel
    have HR := Lib.hid hro
    have HG := Lib.hid hgo
    clear hro hgo
    by_cases hlt : k < n
    · have HR0 : Hid (RowP wr B (.slice (some ⟨g, 0, none⟩) n c) n (triL f (D k k))) := by rw [← ES.out k hlt]; exact HR.out
      have b1 : (0 : Int) ≤ (k : Int) := by omega
      have b2 : (k : Int) < (n : Int) := by omega
      go_wp2_with fail
      go_loopw [9] (fun j wr => ∃ m : Nat, m ≤ k ∧ j = .int .i64 m ∧ RowP wr B (.slice (some ⟨g, 0, none⟩) n c) n (triL f (D k m)) ∧ W.grownBy wr (some g) ∧ PR k k = PR k m) (fun j _ => (intOf j).toNat)
      case atStart => exact ⟨k, Nat.le_refl _, rfl, HR0.out, HG.out, rfl⟩
      case round =>
        obtain ⟨m, hm, rfl, hrd, hgd, hpr⟩ := hrel
        have HD := Lib.hid hrd
        have HGd := Lib.hid hgd
        have HP := Lib.hid hpr
        clear hrd hgd hpr
        cases m with
        | zero =>
          have N1 : Hid (RowP wr B (.slice (some ⟨g, 0, none⟩) n c) n (triL f (O (k + 1)))) := by rw [← EX'.out k 0 (by rw [HP.out, E0'.out])]; exact HD.out
          go_wp2_with fail
          go_quiet (fail)
          go_wp2
          go_roundw
          case rel => exact ⟨k + 1, by omega, by go_num, N1.out, grown_draws HGd.out _⟩
          case measure => simp [intOf]; omega
        | succ m =>
          obtain ⟨b, hb, eb, es, el, eg⟩ := E2'.out k m hlt hm
          have em := E1.out k (m + 1) hlt hm
          have hl := EL.out k (m + 1) hlt hm
          have ES' := Lib.hid es
          have EL' := Lib.hid el
          have EG' := Lib.hid eg
          have T1 := triL_at f (D k (m + 1)) (k := m + 1) (by omega)
          have T0 := triL_at f (D k (m + 1)) (k := m) (by omega)
          rw [em] at T1
          rw [eb] at T0
          obtain ⟨y0, y1, y2⟩ := T1
          obtain ⟨z0, z1, z2⟩ := T0
          have p0 := HD.out.cell ((m + 1) * 3) (by omega)
          have p1 := HD.out.cell ((m + 1) * 3 + 1) (by omega)
          have p2 := HD.out.cell ((m + 1) * 3 + 2) (by omega)
          have o0 := HD.out.cell (m * 3) (by omega)
          have o1 := HD.out.cell (m * 3 + 1) (by omega)
          have o2 := HD.out.cell (m * 3 + 2) (by omega)
          rw [y0] at p0
          rw [y1] at p1
          rw [y2] at p2
          rw [z0] at o0
          rw [z1] at o1
          rw [z2] at o2
          have gw : Hid (g < wr.heap.size) := by
            obtain ⟨g', c', e, _, hg2⟩ := HD.out.form (by omega)
            simp at e
            rw [← e.1] at hg2
            exact hg2
          have SA : Hid ((((triL f (D k (m + 1))).set ((m + 1) * 3) (f b).1).set ((m + 1) * 3 + 1) (f b).2.1).set ((m + 1) * 3 + 2) (f b).2.2 = triL f ((D k (m + 1)).set (m + 1) b)) := triL_set f b _ (by omega)
          have SB : Hid ((((triL f ((D k (m + 1)).set (m + 1) b)).set (m * 3) (f k).1).set (m * 3 + 1) (f k).2.1).set (m * 3 + 2) (f k).2.2 = triL f (D k m)) := by
            have := triL_set f k ((D k (m + 1)).set (m + 1) b) (j := m) (by rw [List.length_set]; omega)
            rw [ES'.out] at this
            exact this
          have hc0 := HCF.out k b
          clear es el eg em eb hl y0 y1 y2 z0 z1 z2
          generalize f k = fk at *
          generalize f b = fb at *
          obtain ⟨k0, k1, k2⟩ := fk
          obtain ⟨b0, b1', b2'⟩ := fb
          simp only at p0 p1 p2 o0 o1 o2 SA SB hc0
          have HXe : Hid (triL f (D k (m + 1)) = triL f (D k (m + 1))) := rfl
          generalize hXg : triL f (D k (m + 1)) = X at *
          have HXq : Hid (triL f (D k (m + 1)) = X) := hXg
          clear HXe hXg
          generalize triL f ((D k (m + 1)).set (m + 1) b) = Y at *
          have HC : Hid (∀ u, Calls Try.prog 43 #[.agg #[.int .i64 k0, .int .i64 k1, .int .i64 k2], .agg #[.int .i64 b0, .int .i64 b1', .int .i64 b2']] u fun e w' => e = .returned (.int .i64 (cf k b)) ∧ Below u.heap.size u w') := fun u => by rw [hc0]; exact c_compareOffsets _ _ _ _ _ _ u
          clear hc0
          have gw' := gw.out
          have i1 : (0 : Int) ≤ ((m + 1 : Nat) : Int) := by omega
          have i2 : ((m + 1 : Nat) : Int) < (n : Int) := by omega
          have i3 : (0 : Int) < ((m + 1 : Nat) : Int) := by omega
          have i4 : (0 : Int) ≤ (m : Int) := by omega
          have i5 : (m : Int) < (n : Int) := by omega
          have iw : IntKind.i64.wrap (((m : Nat) : Int) + 1 - 1) = (m : Int) := by rw [show ((m : Int) + 1 - 1) = (m : Int) by omega]; exact IntWalk.i64_in _ (by omega)
          go_wp2_with fail
          refine wp_region_grow (by kernel_rfl) (by kernel_rfl) ?_
          repeat (go_big_quiet_step ((go_at_call 43; exact grow_of (HC.out _))))
          refine wpQuiet_nil ?_
          intro _ hw'
          obtain ⟨u, hw''⟩ := hw'
          subst hw''
          have hb2 := wOf_below wr u
          generalize wOf wr u = w2 at hb2 ⊢
          have HD2 := Lib.hid (HD.out.below hb2)
          have HG2 : Hid (W.grownBy w2 (some g)) := HGd.out.trans (grow_below hb2 (some g))
          have gw2 : g < w2.heap.size := Nat.lt_of_lt_of_le gw.out hb2.size
          have KC : Hid (∀ (o : Nat) (v : Value), wr.cell? ⟨g, o, none⟩ = some v → w2.cell? ⟨g, o, none⟩ = some v) := fun o v h => by rw [hb2.cell (p := ⟨g, o, none⟩) gw.out]; exact h
          have r0 := KC.out _ _ p0
          have r1 := KC.out _ _ p1
          have r2 := KC.out _ _ p2
          have q0 := KC.out _ _ o0
          have q1 := KC.out _ _ o1
          have q2 := KC.out _ _ o2
          have KF : Hid (∀ o : Nat, w2.frozen? ⟨g, o, none⟩ = false) := fun o => HD2.out.frozen o
          have s0 := KF.out ((m + 1) * 3)
          have s1 := KF.out ((m + 1) * 3 + 1)
          have s2 := KF.out ((m + 1) * 3 + 2)
          have t0 := KF.out (m * 3)
          have t1 := KF.out (m * 3 + 1)
          have t2 := KF.out (m * 3 + 2)
          clear hb2 p0 p1 p2 o0 o1 o2 gw' KC KF
          by_cases hc : cf k b < 0
          · have hp : Hid (PR k k = PR k m) := HP.out.trans (EL'.out hc)
            have N1 := Lib.hid (HD2.out.set_ ((m + 1) * 3) b0)
            have N2 := Lib.hid (N1.out.1.set_ ((m + 1) * 3 + 1) b1')
            have N3 := Lib.hid (N2.out.1.set_ ((m + 1) * 3 + 2) b2')
            rw [SA.out] at N3
            have N4 := Lib.hid (N3.out.1.set_ (m * 3) k0)
            have N5 := Lib.hid (N4.out.1.set_ (m * 3 + 1) k1)
            have N6 := Lib.hid (N5.out.1.set_ (m * 3 + 2) k2)
            rw [SB.out] at N6
            have NG : Hid (W.grownBy ((((((w2.setCell ⟨g, (m + 1) * 3, none⟩ (.int .i64 b0)).setCell ⟨g, (m + 1) * 3 + 1, none⟩ (.int .i64 b1')).setCell ⟨g, (m + 1) * 3 + 2, none⟩ (.int .i64 b2')).setCell ⟨g, m * 3, none⟩ (.int .i64 k0)).setCell ⟨g, m * 3 + 1, none⟩ (.int .i64 k1)).setCell ⟨g, m * 3 + 2, none⟩ (.int .i64 k2)) (some g)) := (((((HG2.out.trans N1.out.2).trans N2.out.2).trans N3.out.2).trans N4.out.2).trans N5.out.2).trans N6.out.2
            go_wp2_with fail
            go_region
            have NR : Hid (RowP ((((((w2.setCell ⟨g, (m + 1) * 3, none⟩ (.int .i64 b0)).setCell ⟨g, (m + 1) * 3 + 1, none⟩ (.int .i64 b1')).setCell ⟨g, (m + 1) * 3 + 2, none⟩ (.int .i64 b2')).setCell ⟨g, m * 3, none⟩ (.int .i64 k0)).setCell ⟨g, m * 3 + 1, none⟩ (.int .i64 k1)).setCell ⟨g, m * 3 + 2, none⟩ (.int .i64 k2)) B (.slice (some ⟨g, 0, none⟩) n c) n (triL f (D k m))) := N6.out.1
            clear N1 N2 N3 N4 N5 N6 SA SB
            generalize ((((((w2.setCell ⟨g, (m + 1) * 3, none⟩ (.int .i64 b0)).setCell ⟨g, (m + 1) * 3 + 1, none⟩ (.int .i64 b1')).setCell ⟨g, (m + 1) * 3 + 2, none⟩ (.int .i64 b2')).setCell ⟨g, m * 3, none⟩ (.int .i64 k0)).setCell ⟨g, m * 3 + 1, none⟩ (.int .i64 k1)).setCell ⟨g, m * 3 + 2, none⟩ (.int .i64 k2)) = w9 at NR NG ⊢
            go_wp2
            go_roundw
            case rel => exact ⟨m, by omega, rfl, NR.out.draws 1, grown_draws NG.out 1, hp.out⟩
            case measure => simp [intOf]
          · have hp : Hid (PR k k = m + 1) := HP.out.trans (EG'.out (by omega))
            have N1 : Hid (RowP w2 B (.slice (some ⟨g, 0, none⟩) n c) n (triL f (O (k + 1)))) := by rw [← EX'.out k (m + 1) hp.out, HXq.out]; exact HD2.out
            go_wp2
            go_roundw
            case rel => exact ⟨k + 1, by omega, by go_num, N1.out, HG2.out⟩
            case measure => simp [intOf]; omega
    · obtain rfl : k = n := by omega
      go_wp2
      refine bodyPost_end (v := .tuple #[]) (by simp [results, Try.results87, go_sem]) rfl ?_
      exact ⟨rfl, by rw [← EA.out]; exact HR.out, HG.out⟩
end Go.Proofs.Ythdbcncdihcggaa
