/-
  Contracts: the model's shares of a number by weights.
-/
import Derived.Test.YthlclieifcbkjabV5
import Derived.Test.YthlclieifcbkjabT9
namespace Go.Proofs.Ythlclieifcbkjab
open Go.RowKit
set_option linter.unusedVariables false

def hasI (ys : List Int) (x : Int) : Bool := decide (x ∈ ys)
theorem hasI_hit {ys : List Int} {k : Nat} (hk : k < ys.length) : hasI ys (ys.getD k 0) = true := by
  unfold hasI
  rw [List.getD_eq_getElem?_getD, List.getElem?_eq_getElem hk]
  exact decide_eq_true (List.getElem_mem hk)
theorem hasI_miss {ys : List Int} {x : Int} (h : ∀ k, k < ys.length → ys.getD k 0 ≠ x) : hasI ys x = false := by
  unfold hasI
  refine decide_eq_false (fun hm => ?_)
  obtain ⟨k, hk, e⟩ := List.getElem_of_mem hm
  exact h k hk (by rw [List.getD_eq_getElem?_getD, List.getElem?_eq_getElem hk]; exact e)

set_option maxHeartbeats 2000000 in
theorem c_l1Has (ys : List Int) (x : Int) (v : Value) (w : World) (hl : ys.length ≤ 4000000) (h : Seen w v ys) :
    Calls Try.prog 45 #[v, .int .i64 x] w fun e w' => e = .returned (.bool (hasI ys x)) ∧ w = w' := by
  obtain ⟨A, c, rfl, _, hA⟩ := h
  have E1 : Hid (∀ k : Nat, k < ys.length → ∃ b off, A = some ⟨b, off, none⟩ ∧ w.cell? ⟨b, off + k, none⟩ = some (.int .i64 (ys.getD k 0))) := fun k hk => by
    obtain ⟨b, off, rfl, _, hc⟩ := hA (by omega)
    exact ⟨b, off, rfl, hc k hk⟩
  have H1 : Hid (∀ k, k < ys.length → ys.getD k 0 = x → hasI ys x = true) := fun k hk e => by rw [← e]; exact hasI_hit hk
  have H2 : Hid ((∀ k, k < ys.length → ys.getD k 0 ≠ x) → hasI ys x = false) := hasI_miss
  clear hA
  generalize hasI ys x = R at *
  generalize ys.length = n at *
  go_enter Try.func45, Try.ntmps45
  go_wp2_with fail
  go_loop [9] (fun i => ∃ k : Nat, k ≤ n ∧ i = .int .i64 k ∧ ∀ j, j < k → ys.getD j 0 ≠ x) (fun i => n - (intOf i).toNat)
  case atStart => exact ⟨0, Nat.zero_le _, rfl, fun j hj => by omega⟩
  case round =>
    obtain ⟨k, hk, rfl, hm⟩ := hrel
    have HM := Lib.hid hm
    clear hm
    by_cases hlt : k < n
    · obtain ⟨b, off, rfl, q0⟩ := E1.out k hlt
      have b1 : (0 : Int) ≤ (k : Int) := by omega
      have b2 : (k : Int) < (n : Int) := by omega
      by_cases he : ys.getD k 0 = x
      · have G := Lib.hid (H1.out k hlt he)
        rw [he] at q0
        clear he
        go_wp2
        go_ret
        exact ⟨ret_bool G.out.symm, rfl⟩
      · have HM2 : Hid (∀ j, j < k + 1 → ys.getD j 0 ≠ x) := fun j hj => by
          by_cases e : j = k
          · rw [e]; exact he
          · exact HM.out j (by omega)
        have he' : (ys.getD k 0 == x) = false := beq_eq_false_iff_ne.2 he
        clear he
        generalize ys.getD k 0 = y at *
        go_wp2
        go_round
        case rel => exact ⟨k + 1, by omega, by go_num, HM2.out⟩
        case measure => simp [intOf]; omega
    · obtain rfl : k = n := by omega
      have G := Lib.hid (H2.out HM.out)
      go_wp2
      go_ret
      exact ⟨ret_bool G.out.symm, rfl⟩

set_option maxHeartbeats 8000000 in
set_option maxRecDepth 100000 in
theorem c_sbShares (N : Int) (ws : List Int) (v : Value) (w : World) (hl : ws.length ≤ 20) (h0 : 0 < ws.length) (hm : Mild ws 10000) (N0 : 0 ≤ N) (N1 : N ≤ 10000000) (W0 : 0 < sumTo ws ws.length) (h : Seen w v ws) :
    Calls Try.prog 35 #[.int .i64 N, v] w (GivesRow w (shaL N ws)) := by
  obtain ⟨i0, hi0, hz0, hz1, hz2⟩ := info_parts int_info
  have HI := Lib.hid hi0
  have W1 : sumTo ws ws.length ≤ 200000 := by have := sumTo_box hm ws.length (Nat.le_refl _); omega
  obtain ⟨wb, off, c, rfl, hwb, hcell⟩ := seen_at h h0
  have E1 := Lib.hid hcell
  obtain ⟨lf0, lf1⟩ := left_box (N := N) W0 rfl
  obtain ⟨L, hL⟩ : ∃ L : Nat, lefS N (sumTo ws ws.length) ws ws.length = (L : Int) := ⟨(lefS N (sumTo ws ws.length) ws ws.length).toNat, by omega⟩
  have HL := Lib.hid hL
  have hLn : L ≤ ws.length := by omega
  have HSH : Hid (shaL N ws = incA (basS N (sumTo ws ws.length) ws ws.length) ((ordA N (sumTo ws ws.length) ws ws.length).take L)) := by show _ = _; unfold shaL; rw [hL, Int.toNat_natCast]
  have HF : Hid (∀ k, k < ws.length → lefS N (sumTo ws ws.length) ws (k + 1) = lefS N (sumTo ws ws.length) ws k - qoA N (sumTo ws ws.length) ws k) := fun k _ => rfl
  have HF0 : Hid (lefS N (sumTo ws ws.length) ws 0 = N) := rfl
  have HFb : Hid (∀ k, k ≤ ws.length → -2000000000000 ≤ lefS N (sumTo ws ws.length) ws k ∧ lefS N (sumTo ws ws.length) ws k ≤ 10000000) := fun k hk => by have := lefS_box N0 N1 W0 hm k hk; omega
  have HQ : Hid (∀ k, k < ws.length → 0 ≤ N * ws.getD k 0 ∧ N * ws.getD k 0 ≤ 100000000000 ∧ qoA N (sumTo ws ws.length) ws k = N * ws.getD k 0 / sumTo ws ws.length ∧ 0 ≤ qoA N (sumTo ws ws.length) ws k ∧ qoA N (sumTo ws ws.length) ws k ≤ 100000000000) := fun k hk => by
    have a := mul_box N0 N1 (hm k hk).1 (hm k hk).2
    have b := qoA_box (k := k) N0 N1 W0 (hm k hk)
    exact ⟨a.1, by omega, rfl, b.1, b.2⟩
  have HQ2 : Hid (∀ k, k < ws.length → 0 ≤ N * ws.getD k 0 ∧ N * ws.getD k 0 ≤ 100000000000) := fun k hk => ⟨(HQ.out k hk).1, (HQ.out k hk).2.1⟩
  have HBs : Hid (∀ k, basS N (sumTo ws ws.length) ws (k + 1) = basS N (sumTo ws ws.length) ws k ++ [qoA N (sumTo ws ws.length) ws k]) := basS_succ N _ ws
  have HBl : Hid (∀ k, (basS N (sumTo ws ws.length) ws k).length = k) := basS_len N _ ws
  have HSum := Lib.hid (c_sbSum ws _ w hl hm h)
  have HOl : Hid ((ordA N (sumTo ws ws.length) ws ws.length).length = ws.length) := sortN_len _ _
  have HOat : Hid (∀ k, k < ws.length → ∃ b : Nat, (ordA N (sumTo ws ws.length) ws ws.length).getD k 0 = (b : Int) ∧ b < ws.length) := fun k hk => sortN_at _ _ hk
  have HNx : Hid (∀ t, t < ws.length → bstF (rmA N (sumTo ws ws.length) ws) ((ordA N (sumTo ws ws.length) ws ws.length).take t) ws.length = (ordA N (sumTo ws ws.length) ws ws.length).getD t 0) := fun t ht => bst_next _ _ _ ht
  have HTs : Hid (∀ t, t < ws.length → (ordA N (sumTo ws ws.length) ws ws.length).take (t + 1) = (ordA N (sumTo ws ws.length) ws ws.length).take t ++ [(ordA N (sumTo ws ws.length) ws ws.length).getD t 0]) := fun t ht => take_snoc (by rw [HOl.out]; exact ht)
  have HIs : Hid (∀ (j b : Nat), j < ws.length → (ordA N (sumTo ws ws.length) ws ws.length).getD j 0 = (b : Int) → incA (basS N (sumTo ws ws.length) ws ws.length) ((ordA N (sumTo ws ws.length) ws ws.length).take (j + 1)) = (incA (basS N (sumTo ws ws.length) ws ws.length) ((ordA N (sumTo ws ws.length) ws ws.length).take j)).set b ((incA (basS N (sumTo ws ws.length) ws ws.length) ((ordA N (sumTo ws ws.length) ws ws.length).take j)).getD b 0 + 1)) := fun j b hj e => by
    rw [take_snoc (by rw [HOl.out]; exact hj), incA_snoc, e, Int.toNat_natCast]
  have HIx : Hid (∀ j, j ≤ ws.length → ∀ i, 0 ≤ (incA (basS N (sumTo ws ws.length) ws ws.length) ((ordA N (sumTo ws ws.length) ws ws.length).take j)).getD i 0 ∧ (incA (basS N (sumTo ws ws.length) ws ws.length) ((ordA N (sumTo ws ws.length) ws ws.length).take j)).getD i 0 ≤ 200000000000) := fun j hj i => by
    have := incA_box ((ordA N (sumTo ws ws.length) ws ws.length).take j) (basS N (sumTo ws ws.length) ws ws.length) 100000000000 (fun i => by
      by_cases hi : i < ws.length
      · have := qoA_box (k := i) N0 N1 W0 (hm i hi)
        simpa [basS, List.getD_eq_getElem?_getD, hi] using this
      · have : (basS N (sumTo ws ws.length) ws ws.length).getD i 0 = 0 := by rw [List.getD_eq_getElem?_getD, List.getElem?_eq_none (by rw [basS_len]; omega)]; rfl
        rw [this]; omega) i
    rw [List.length_take] at this
    omega
  have HIb : Hid (∀ l : List Int, (incA (basS N (sumTo ws ws.length) ws ws.length) l).length = ws.length) := fun l => by rw [incA_len, basS_len]
  -- the best of the first k
  have HB1 : Hid (∀ (met : List Int) (k : Nat), hasI met k = true → bstF (rmA N (sumTo ws ws.length) ws) met (k + 1) = bstF (rmA N (sumTo ws ws.length) ws) met k) := fun met k h => by rw [bstF, if_pos (of_decide_eq_true h)]
  have HB2 : Hid (∀ (met : List Int) (k : Nat), hasI met k = false → bstF (rmA N (sumTo ws ws.length) ws) met k < 0 → bstF (rmA N (sumTo ws ws.length) ws) met (k + 1) = (k : Int)) := fun met k h h' => by rw [bstF, if_neg (of_decide_eq_false h), if_pos (.inl h')]
  have HB3 : Hid (∀ (met : List Int) (k b : Nat), hasI met k = false → bstF (rmA N (sumTo ws ws.length) ws) met k = (b : Int) → (N * ws.getD b 0 % sumTo ws ws.length < N * ws.getD k 0 % sumTo ws ws.length → bstF (rmA N (sumTo ws ws.length) ws) met (k + 1) = (k : Int)) ∧ (¬ N * ws.getD b 0 % sumTo ws ws.length < N * ws.getD k 0 % sumTo ws ws.length → bstF (rmA N (sumTo ws ws.length) ws) met (k + 1) = (b : Int))) := fun met k b h h' => by
    rw [bstF, if_neg (of_decide_eq_false h), h', rmA_nat, rmA_nat]
    refine ⟨fun h2 => by rw [if_pos (.inr h2)], fun h2 => by rw [if_neg (by intro h3; rcases h3 with h3 | h3; omega; exact h2 h3)]⟩
  have HB4 : Hid (∀ (met : List Int) (k : Nat), k ≤ ws.length → bstF (rmA N (sumTo ws ws.length) ws) met k = -1 ∨ ∃ b : Nat, bstF (rmA N (sumTo ws ws.length) ws) met k = (b : Int) ∧ b < ws.length) := fun met k hk => by
    rcases bstF_is (rmA N (sumTo ws ws.length) ws) met k with ⟨e, _⟩ | ⟨b, e, hb, _⟩
    · exact .inl e
    · exact .inr ⟨b, e, by omega⟩
  have HB0 : Hid (∀ met : List Int, bstF (rmA N (sumTo ws ws.length) ws) met 0 = -1) := fun met => rfl
  rw [HSH.out]
  clear hcell h hm hi0 lf0 lf1 hL HSH
  generalize bstF (rmA N (sumTo ws ws.length) ws) = BST at *
  generalize lefS N (sumTo ws ws.length) ws = F at *
  generalize qoA N (sumTo ws ws.length) ws = Q at *
  generalize basS N (sumTo ws ws.length) ws = BS at *
  generalize ordA N (sumTo ws ws.length) ws ws.length = OD at *
  generalize sumTo ws ws.length = W at *
  generalize ws.length = n at *
  have z3 : (W == 0) = false := beq_eq_false_iff_ne.2 (by omega)
  go_enter Try.func35, Try.ntmps35
  go_wp2_with fail
  refine HSum.out.mono ?_
  rintro e w1 ⟨rfl, rfl⟩
  go_wp2_with fail
  go_loopw [6, 7, 19] (fun o q i wr => ∃ k : Nat, k ≤ n ∧ i = .int .i64 k ∧ q = .int .i64 (F k) ∧ Row wr w.heap.size o (BS k) ∧ Below w.heap.size w wr) (fun _ _ i _ => n - (intOf i).toNat)
  case atStart => exact ⟨0, Nat.zero_le _, rfl, by rw [HF0.out], by have := HBl.out 0; rw [List.eq_nil_of_length_eq_zero this]; exact Row.nil _ _, Below.refl _ _⟩
  case round =>
    obtain ⟨k, hk, rfl, rfl, hr, hbw⟩ := hrel
    have HR := Lib.hid hr
    have HB := Lib.hid hbw
    clear hr hbw
    obtain ⟨f0, f1⟩ := HFb.out k hk
    have sw := HB.out.size
    by_cases hlt : k < n
    · have q0 := E1.out wr HB.out k hlt
      obtain ⟨x0, x1, eq, y0, y1⟩ := HQ.out k hlt
      have HFk := Lib.hid (HF.out k hlt)
      have HEq := Lib.hid eq
      obtain ⟨g0, g1⟩ := HFb.out (k + 1) (by omega)
      rw [HFk.out] at g0 g1
      rw [eq] at y0 y1 g0 g1
      have HBk := Lib.hid (HBs.out k)
      rw [eq] at HBk
      have hbl := HBl.out k
      have HBLk := Lib.hid hbl
      clear eq hbl
      generalize ws.getD k 0 = t at *
      have dx : (N * t).tdiv W = N * t / W := Int.tdiv_eq_ediv_of_nonneg x0
      have b1 : (0 : Int) ≤ (k : Int) := by omega
      have b2 : (k : Int) < (n : Int) := by omega
      go_wp2_with (at_builtin; refine wpList_append_src rfl _ _ 24 rfl (base := w.heap.size) Try.underlying24 HI.out hz0 hz1 hz2 rfl (by decide) rfl (World.ownsRow.alloc HR.out _) rfl (src_one (x := N * t / W) (by simp)) ints_ones (by rw [HBLk.out]; unfold maxLen; omega) (by rw [HBLk.out]; omega) (by first | omega | (simp; omega)) ?_)
      intro v3 w3 hown3 hgrow3 _
      have R3 := Lib.hid (row_of2 (X := BS k) (Y := [N * t / W]) hown3)
      rw [← HBk.out] at R3
      have B3 : Hid (Below w.heap.size w w3) := (HB.out.alloc sw _).grown hgrow3 (by first | omega | (simp; omega)) (fun g hg => (World.ownsRow.lt HR.out g hg).1)
      clear hown3 hgrow3
      go_wp2
      go_roundw
      case rel => exact ⟨k + 1, by omega, by go_num, by rw [HFk.out, HEq.out], R3.out, B3.out⟩
      case measure => simp [intOf]; omega
    · obtain rfl : k = n := by omega
      obtain ⟨g, oc, hov, _, hgl⟩ := HR.out.form (by rw [HBl.out]; exact h0)
      rw [HBl.out] at hov
      subst hov
      have eL := HL.out
      rw [eL]
      clear eL
      obtain ⟨J, hJ⟩ : ∃ J : Nat → List Int, (fun j => incA (BS k) (OD.take j)) = J := ⟨_, rfl⟩
      have hJ' : ∀ j, incA (BS k) (OD.take j) = J j := fun j => by rw [← hJ]
      have HJa : Hid (∀ j, incA (BS k) (OD.take j) = J j) := hJ'
      have HJ0 : Hid (J 0 = BS k) := by show _ = _; rw [← hJ' 0, List.take_zero]; rfl
      have HJl : Hid (∀ j, (J j).length = k) := fun j => by rw [← hJ' j]; exact HIb.out _
      simp only [hJ'] at HIs HIx
      clear hJ hJ' HQ HF HFb HBs f0 f1
      have HGL := Lib.hid hgl
      clear hgl
      obtain ⟨B2, hB2⟩ : ∃ B2, wr.heap.size = B2 := ⟨_, rfl⟩
      have HB2s := Lib.hid hB2
      have hgB : g < B2 := by rw [← hB2]; exact HGL.out
      have hwB : w.heap.size ≤ B2 := by rw [← hB2]; exact sw
      have hBr : B2 ≤ wr.heap.size := by omega
      clear hB2
      go_wp2_with fail
      go_loopw [7, 10] (fun q mv wr => ∃ t : Nat, t ≤ L ∧ q = .int .i64 ((L : Int) - (t : Int)) ∧ Row wr B2 mv (OD.take t) ∧ Row wr w.heap.size (.slice (some ⟨g, 0, none⟩) k oc) (J t) ∧ Below w.heap.size w wr ∧ B2 ≤ wr.heap.size) (fun q _ _ => (intOf q).toNat)
      case atStart => exact ⟨0, Nat.zero_le _, by simp, by rw [List.take_zero]; exact Row.nil _ _, by rw [HJ0.out]; exact HR.out, HB.out, hBr⟩
      case round =>
        obtain ⟨t, ht, rfl, hmt, hot, hbt, hsz⟩ := hrel
        have HM := Lib.hid hmt
        have HO := Lib.hid hot
        have HBt := Lib.hid hbt
        clear hmt hot hbt
        by_cases htL : t < L
        · obtain ⟨b', eb, hb'⟩ := HOat.out t (by omega)
          have HNt := Lib.hid (HNx.out t (by omega))
          have HTt := Lib.hid (HTs.out t (by omega))
          rw [eb] at HNt HTt
          have HIt := Lib.hid (HIs.out t b' (by omega) eb)
          have hml : (OD.take t).length = t := by rw [List.length_take, HOl.out]; omega
          have HML := Lib.hid hml
          clear hml eb
          generalize OD.take t = MET at *
          obtain ⟨MA, MC, hmv⟩ := HM.out.shape
          subst hmv
          have HSe := Lib.hid HM.out.seen
          have q1 : ¬ (L : Int) - (t : Int) ≤ 0 := by omega
          have q2 : 0 < (L : Int) - (t : Int) := by omega
          go_wp2_with fail
          go_loopw [11, 45] (fun bq i wx => ∃ j : Nat, j ≤ k ∧ i = .int .i64 j ∧ bq = .int .i64 (BST MET j) ∧ Below wr.heap.size wr wx) (fun _ i _ => k - (intOf i).toNat)
          case atStart => exact ⟨0, Nat.zero_le _, rfl, by rw [HB0.out], Below.refl _ _⟩
          case round =>
            obtain ⟨j, hj, rfl, rfl, hbx⟩ := hrel
            have HX := Lib.hid hbx
            clear hbx
            by_cases hjk : j < k
            · have HWx : Hid (Below w.heap.size w wr) := HBt.out.trans (HX.out.mono HBt.out.size)
              have q0 := E1.out wr HWx.out j hjk
              have lw : wb < wr.heap.size := Nat.lt_of_lt_of_le hwb HWx.out.size
              have CH : Hid (∀ u, Below wr.heap.size wr u → Calls Try.prog 45 #[.slice MA MET.length MC, .int .i64 (j : Int)] u fun e w' => e = .returned (.bool (hasI MET j)) ∧ u = w') := fun u hu => c_l1Has MET j _ u (by have := HML.out; omega) ((HSe.out.below HX.out).below hu)
              have j1 : (0 : Int) ≤ (j : Int) := by omega
              have j2 : (j : Int) < (k : Int) := by omega
              cases hh : hasI MET j
              · rw [hh] at CH
                rcases HB4.out MET j (by omega) with hb1 | ⟨p, hb1, hp⟩
                · have G := Lib.hid (HB2.out MET j hh (by rw [hb1]; decide))
                  rw [hb1]
                  clear hh hb1
                  generalize ws.getD j 0 = x at *
                  go_wp2_with fail
                  refine wp_region_grow (by kernel_rfl) (by kernel_rfl) ?_
                  repeat (go_big_quiet_step ((go_at_call 45; exact grow_same (CH.out _ (wOf_below _ _)))))
                  refine wpQuiet_nil ?_
                  intro _ hw'
                  obtain ⟨v, hw''⟩ := hw'
                  subst hw''
                  have hb2 := wOf_below wr v
                  generalize wOf wr v = w2 at hb2 ⊢
                  have HX2 := Lib.hid (HX.out.trans (hb2.mono HX.out.size))
                  clear hb2
                  go_wp2
                  go_roundw
                  case rel => exact ⟨j + 1, by omega, by go_num, by rw [G.out], HX2.out⟩
                  case measure => simp [intOf]; omega
                · obtain ⟨G3, G4⟩ := HB3.out MET j p hh hb1
                  have qp := E1.out wr HWx.out p hp
                  obtain ⟨x0, x1⟩ := HQ2.out j hjk
                  obtain ⟨y0, y1⟩ := HQ2.out p hp
                  have HG3 := Lib.hid G3
                  have HG4 := Lib.hid G4
                  rw [hb1]
                  clear hh hb1 G3 G4
                  generalize ws.getD j 0 = x at *
                  generalize ws.getD p 0 = y at *
                  have wx : IntKind.i64.wrap (N * x) = N * x := IntWalk.i64_in _ (by omega)
                  have wy : IntKind.i64.wrap (N * y) = N * y := IntWalk.i64_in _ (by omega)
                  have mx : (N * x).tmod W = N * x % W := Int.tmod_eq_emod_of_nonneg x0
                  have my : (N * y).tmod W = N * y % W := Int.tmod_eq_emod_of_nonneg y0
                  have rx0 := Int.emod_nonneg (N * x) (show W ≠ 0 by omega)
                  have rx1 := Int.emod_lt_of_pos (N * x) W0
                  have ry0 := Int.emod_nonneg (N * y) (show W ≠ 0 by omega)
                  have ry1 := Int.emod_lt_of_pos (N * y) W0
                  have wrx : IntKind.i64.wrap (N * x % W) = N * x % W := IntWalk.i64_in _ (by omega)
                  have wry : IntKind.i64.wrap (N * y % W) = N * y % W := IntWalk.i64_in _ (by omega)
                  have p1 : (0 : Int) ≤ (p : Int) := by omega
                  have p2 : (p : Int) < (k : Int) := by omega
                  have p3 : ¬ (p : Int) < 0 := by omega
                  have p4 : decide ((p : Int) < 0) = false := decide_eq_false p3
                  have z4 : ¬ W = 0 := by omega
                  by_cases hlt2 : N * y % W < N * x % W
                  · have G := Lib.hid (HG3.out hlt2)
                    go_wp2_with fail
                    refine wp_region_grow (by kernel_rfl) (by kernel_rfl) ?_
                    repeat (go_big_quiet_step ((go_at_call 45; exact grow_same (CH.out _ (wOf_below _ _)))))
                    refine wpQuiet_nil ?_
                    intro _ hw'
                    obtain ⟨v, hw''⟩ := hw'
                    subst hw''
                    have hb2 := wOf_below wr v
                    generalize wOf wr v = w2 at hb2 ⊢
                    have HX2 := Lib.hid (HX.out.trans (hb2.mono HX.out.size))
                    clear hb2 wx wy mx my wrx wry
                    go_wp2
                    go_roundw
                    case rel => exact ⟨j + 1, by omega, by go_num, by rw [G.out], HX2.out⟩
                    case measure => simp [intOf]; omega
                  · have G := Lib.hid (HG4.out (by omega))
                    have hge : N * x % W ≤ N * y % W := by omega
                    go_wp2_with fail
                    refine wp_region_grow (by kernel_rfl) (by kernel_rfl) ?_
                    repeat (go_big_quiet_step ((go_at_call 45; exact grow_same (CH.out _ (wOf_below _ _)))))
                    refine wpQuiet_nil ?_
                    intro _ hw'
                    obtain ⟨v, hw''⟩ := hw'
                    subst hw''
                    have hb2 := wOf_below wr v
                    generalize wOf wr v = w2 at hb2 ⊢
                    have HX2 := Lib.hid (HX.out.trans (hb2.mono HX.out.size))
                    clear hb2 wx wy mx my wrx wry
                    go_wp2
                    go_roundw
                    case rel => exact ⟨j + 1, by omega, by go_num, by rw [G.out], HX2.out⟩
                    case measure => simp [intOf]; omega
              · rw [hh] at CH
                have G := Lib.hid (HB1.out MET j hh)
                clear hh
                generalize BST MET j = bq at *
                generalize ws.getD j 0 = x at *
                go_wp2_with fail
                refine wp_region_grow (by kernel_rfl) (by kernel_rfl) ?_
                repeat (go_big_quiet_step ((go_at_call 45; exact grow_same (CH.out _ (wOf_below _ _)))))
                refine wpQuiet_nil ?_
                intro _ hw'
                obtain ⟨v, hw''⟩ := hw'
                subst hw''
                have hb2 := wOf_below wr v
                generalize wOf wr v = w2 at hb2 ⊢
                have HX2 := Lib.hid (HX.out.trans (hb2.mono HX.out.size))
                clear hb2
                go_wp2
                go_roundw
                case rel => exact ⟨j + 1, by omega, by go_num, by rw [G.out], HX2.out⟩
                case measure => simp [intOf]; omega
            · obtain rfl : j = k := by omega
              rw [HNt.out]
              have HMx := Lib.hid (HM.out.below HX.out)
              have HOx := Lib.hid (HO.out.below HX.out)
              have HWx : Hid (Below w.heap.size w wr) := HBt.out.trans (HX.out.mono HBt.out.size)
              have szx : B2 ≤ wr.heap.size := Nat.le_trans hsz HX.out.size
              have hgne : ∀ {w' : World} {v' : Value} {zs : List Int}, Row w' B2 v' zs → v'.ownBlock ≠ some g := fun hr e => by have := (World.ownsRow.lt hr g e).1; omega
              have HGn := Lib.hid (hgne HMx.out)
              obtain ⟨v0, v1⟩ := HIx.out t (by omega) b'
              have hba : Below wr.heap.size wr (wr.alloc (.cells #[.int .i64 (b' : Int)] 3)) := (Below.refl _ _).alloc (Nat.le_refl _) _
              have HMa := Lib.hid (HMx.out.below hba)
              have HOa := Lib.hid (HOx.out.below hba)
              have HWa : Hid (Below w.heap.size w (wr.alloc (.cells #[.int .i64 (b' : Int)] 3))) := HWx.out.trans (hba.mono HWx.out.size)
              have sza : B2 ≤ (wr.alloc (.cells #[.int .i64 (b' : Int)] 3)).heap.size := Nat.le_trans szx hba.size
              clear hba
              have b3 : (0 : Int) ≤ (b' : Int) := by omega
              have b4 : (b' : Int) < (j : Int) := by omega
              go_wp2_with (at_builtin; refine wpList_append_src rfl _ _ 24 rfl (base := B2) Try.underlying24 HI.out hz0 hz1 hz2 rfl (by decide) rfl HMa.out rfl (src_one (x := b') (by simp)) ints_ones (by rw [HML.out]; unfold maxLen; omega) (by rw [HML.out]; omega) sza ?_)
              intro v3 w3 hown3 hgrow3 _
              have M3 := Lib.hid (row_of2 (X := MET) (Y := [(b' : Int)]) hown3)
              rw [← HTt.out] at M3
              have O3 : Hid (Row w3 w.heap.size (.slice (some ⟨g, 0, none⟩) j oc) (J t)) := World.ownsRow.kept HOa.out hgrow3 (.inr (fun e => HGn.out (by simpa [Value.ownBlock] using e.symm)))
              have B3 : Hid (Below w.heap.size w w3) := HWa.out.grown hgrow3 HWa.out.size (fun g hg => Nat.le_trans hwB (World.ownsRow.lt HMa.out g hg).1)
              have sz3 : B2 ≤ w3.heap.size := Nat.le_trans sza hgrow3.size
              clear hown3 hgrow3
              have hr' : Row w3 w.heap.size (.slice (some ⟨g, 0, none⟩) (J t).length oc) (J t) := by rw [HJl.out]; exact O3.out
              have s1 := hr'.cell b' (by rw [HJl.out]; exact hb')
              have s2 := hr'.frozen b'
              have N2 := Row.set_ (HJl.out t).symm O3.out b' ((J t).getD b' 0 + 1)
              have N2r := Lib.hid N2.1
              rw [← HIt.out] at N2r
              have N2m := Lib.hid (World.ownsRow.kept M3.out N2.2 (.inr (hgne M3.out)))
              have B4 : Hid (Below w.heap.size w (w3.setCell ⟨g, b', none⟩ (.int .i64 ((J t).getD b' 0 + 1)))) := B3.out.grown N2.2 B3.out.size (fun k hk => by injection hk with hk; subst hk; exact (World.ownsRow.lt O3.out _ rfl).1)
              have sz4 : B2 ≤ (w3.setCell ⟨g, b', none⟩ (.int .i64 ((J t).getD b' 0 + 1))).heap.size := Nat.le_trans sz3 N2.2.size
              have HQe : Hid ((L : Int) - (t : Int) - 1 = (L : Int) - ((t + 1 : Nat) : Int)) := by show _ = _; omega
              clear hr' N2 hgne
              generalize (J t).getD b' 0 = old at *
              go_wp2
              go_roundw
              case rel => exact ⟨t + 1, by omega, by rw [HQe.out], N2m.out, N2r.out, B4.out, sz4⟩
              case measure => simp [intOf]; omega
        · obtain rfl : t = L := by omega
          have q1 : ¬ 0 < (t : Int) - (t : Int) := by omega
          go_wp2
          go_ret
          exact ⟨.slice (some ⟨g, 0, none⟩) k oc, rfl, by rw [HJa.out]; exact HO.out, HBt.out⟩
end Go.Proofs.Ythlclieifcbkjab
