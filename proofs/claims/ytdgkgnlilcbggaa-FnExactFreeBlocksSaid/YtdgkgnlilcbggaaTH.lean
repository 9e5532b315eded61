/-
Contracts: BestValue and IsBestPit, in the program and in the model.
Contracts: IsBestPit, in the program and in the model.
Contracts: FreeBlocks, in the program and in the model.
-/
import Derived.Test.YtdgkgnlilcbggaaTD
namespace Go.Proofs.Ytdgkgnlilcbggaa
open Go.RowKit
set_option linter.unusedVariables false

theorem bpL_ris (xss : List (List Int)) (vs : List Int) : risB (xss.length : Int) (bpL xss vs) = true := sel_risB _ rfl
theorem bpL_short (xss : List (List Int)) (vs : List Int) (h : arcB xss = true) : (bpL xss vs).length ≤ 120 := by
  have h1 := arc_len h
  have h2 := sel_len (fun i => lcP (xss.length + 2) (pN xss vs xss.length) (pE xss vs xss.length) (i + 1)) xss.length
  unfold bpL
  omega
/-- The value of a best pit. -/
noncomputable def bvV (xss : List (List Int)) (vs : List Int) : Int := sumN (valF vs (bpL xss vs)) (bpL xss vs).length
noncomputable def bvA (xss : List (List Int)) (vs : List Int) : Int := if pgB xss vs then bvV xss vs else 0
theorem sumv_at_pg {xss : List (List Int)} {vs bs : List Int} (h : pgB xss vs = true) : sumvB vs bs = risB (xss.length : Int) bs := by
  have hv := (pg_true h).2
  have e := (val_yes hv).1
  unfold sumvB
  rw [e, hv]
  rfl

end Go.Proofs.Ytdgkgnlilcbggaa


namespace Go.Proofs.Ytdgkgnlilcbggaa
open Go.RowKit
set_option linter.unusedVariables false

theorem beq_dec (x y : Int) : (y == x) = decide (y = x) := by
  by_cases h : y = x
  · subst h; simp
  · rw [decide_eq_false h, beq_eq_false_iff_ne.2 h]
noncomputable def ibA (xss : List (List Int)) (vs bs : List Int) : Bool := if ptB xss vs bs then decide (sumN (valF vs bs) bs.length = bvV xss vs) else false

end Go.Proofs.Ytdgkgnlilcbggaa


namespace Go.Proofs.Ytdgkgnlilcbggaa
open Go.RowKit
set_option linter.unusedVariables false

/-- The blocks of the largest pit that are not in the least one. -/
noncomputable def fbL (xss : List (List Int)) (vs : List Int) : List Int := (lpL xss vs).filter fun y => !inL (bpL xss vs) y
noncomputable def fbA (xss : List (List Int)) (vs : List Int) : List Int := if pgB xss vs then fbL xss vs else []
theorem sel_filter (q r : Int → Bool) : ∀ N : Nat, (sel q N).filter r = sel (fun y => q y && r y) N
  | 0 => rfl
  | N + 1 => by
    have ih := sel_filter q r N
    cases hq : q (N : Int)
    · rw [sel_miss hq, ih, sel_miss (by show (q N && r N) = false; rw [hq]; rfl)]
    · rw [sel_hit hq, List.filter_append, ih]
      cases hr : r (N : Int)
      · rw [sel_miss (by show (q N && r N) = false; rw [hq, hr]; rfl)]
        simp [hr]
      · rw [sel_hit (by show (q N && r N) = true; rw [hq, hr]; rfl)]
        simp [hr]
theorem inL_sel {q : Int → Bool} {N k : Nat} (hk : k < N) : inL (sel q N) (k : Int) = q (k : Int) := by
  rw [Bool.eq_iff_iff, inL_iff, mem_sel]
  unfold inr
  rw [decide_eq_true (show 0 ≤ (k : Int) ∧ (k : Int) < (N : Int) by omega), Bool.true_and]
theorem take_has {X : List Int} {k : Nat} (hk : k < X.length) (y : Int) : (X.take (k + 1)).contains y = ((X.take k).contains y || (y == X.getD k 0)) := by
  have e : X.take (k + 1) = X.take k ++ [X.getD k 0] := by
    rw [List.take_add_one, List.getElem?_eq_getElem hk, List.getD_eq_getElem?_getD, List.getElem?_eq_getElem hk]
    rfl
  rw [e, Bool.eq_iff_iff]
  simp
theorem lpL_ris (xss : List (List Int)) (vs : List Int) : risB (xss.length : Int) (lpL xss vs) = true := sel_risB _ rfl
theorem fbL_sel (xss : List (List Int)) (vs : List Int) : fbL xss vs = sel (fun y => inL (lpL xss vs) y && !inL (bpL xss vs) y) xss.length := by
  unfold fbL
  show (sel _ _).filter _ = _
  rw [sel_filter]
  refine sel_congr fun k hk => ?_
  show _ = (inL (sel _ _) (k : Int) && _)
  rw [inL_sel hk]
theorem fbA_len (xss : List (List Int)) (vs : List Int) : (fbA xss vs).length ≤ 4000000 := by
  unfold fbA
  split
  · rename_i h
    have h1 := arc_len (pg_true h).1
    have h2 := sel_len (fun y => inL (lpL xss vs) y && !inL (bpL xss vs) y) xss.length
    rw [fbL_sel]
    omega
  · simp
theorem lpL_short (xss : List (List Int)) (vs : List Int) (h : arcB xss = true) : (lpL xss vs).length ≤ 120 := by
  have h1 := arc_len h
  have h2 := sel_len (fun i => gtP (xss.length + 2) (pN xss vs xss.length) (pE xss vs xss.length) (i + 1)) xss.length
  unfold lpL
  omega

set_option maxHeartbeats 4000000 in
theorem c_blocksOutside (N : Nat) (Y X : List Int) (v u : Value) (w : World) (hN : N ≤ 1000) (hY : InN N Y) (hX : InN N X) (l1 : Y.length ≤ 4000000) (l2 : X.length ≤ 4000000) (h : Seen w v Y) (hu : Seen w u X) :
    Calls Try.prog 21 #[v, u] w (GivesRow w (sel (fun y => inL Y y && !inL X y) N)) := by
  have EC : Hid (∀ k, k < X.length → 0 ≤ X.getD k 0 ∧ X.getD k 0 < (N : Int)) := fun k hk => hX _ (getD_memN hk)
  obtain ⟨P, hP⟩ : ∃ P : Nat → Int → Bool, P = fun k y => inL Y y && !(X.take k).contains y := ⟨_, rfl⟩
  have P0 : Hid (P 0 = inL Y) := by rw [hP]; funext y; simp
  have PS : Hid (∀ k, k < X.length → (fun y => !(y == X.getD k 0) && P k y) = P (k + 1)) := fun k hk => by
    rw [hP]
    funext y
    show (!(y == X.getD k 0) && (inL Y y && !(X.take k).contains y)) = (inL Y y && !(X.take (k + 1)).contains y)
    rw [take_has hk]
    cases inL Y y <;> cases (X.take k).contains y <;> cases (y == X.getD k 0) <;> rfl
  have PE : Hid (P X.length = fun y => inL Y y && !inL X y) := by rw [hP]; funext y; show (inL Y y && !(X.take X.length).contains y) = _; rw [List.take_length]; rfl
  have CM := Lib.hid (c_marksOf N Y v w l1 hN h hY)
  have HXs := Lib.hid hu
  obtain ⟨A, c, rfl⟩ := h.shape
  obtain ⟨A2, c2, rfl⟩ := hu.shape
  clear hP hY hX h hu
  rw [← PE.out]
  go_enter Try.func21, Try.ntmps21
  go_wp2_with fail
  refine CM.out.mono ?_
  rintro e w3 ⟨rfl, hm3, hb⟩
  rw [← P0.out] at hm3
  have HM := Lib.hid hm3
  have HB3 : Hid (Below w.heap.size w w3) := hb
  have hw3 : w.heap.size < w3.heap.size := hm3.lt
  clear hm3 hb
  go_wp2_with fail
  go_loopw [12] (fun i wr => ∃ k : Nat, k ≤ X.length ∧ i = .int .i64 k ∧ SetM wr w.heap.size N (P k) ∧ Below w.heap.size w wr) (fun i _ => X.length - (RowKit.intOf i).toNat)
  case atStart => exact ⟨0, Nat.zero_le _, rfl, HM.out, HB3.out⟩
  case round =>
    obtain ⟨k, hk, rfl, hm, hb⟩ := hrel
    have HMr := Lib.hid hm
    have HBr := Lib.hid hb
    clear hm hb
    by_cases hlt : k < X.length
    · obtain ⟨bX, oX, rfl, _, q0⟩ := (HXs.out.below HBr.out).at2 hlt
      obtain ⟨s0, s1⟩ := EC.out k hlt
      have G := Lib.hid (PS.out k hlt)
      have b1 : (0 : Int) ≤ (k : Int) := by omega
      have b2 : (k : Int) < (X.length : Int) := by omega
      generalize X.getD k 0 = x at *
      obtain ⟨w5, hrun, hm5, hg5⟩ := HMr.out.del x s0 s1 hN 0
      rw [G.out] at hm5
      have HM5 := Lib.hid hm5
      have HB5 : Hid (Below w.heap.size w w5) := HBr.out.grown hg5 HBr.out.size (fun k hk => by cases hk; exact Nat.le_refl _)
      clear hm5 hg5
      go_wp2
      go_roundw
      case rel => exact ⟨k + 1, by omega, by go_num, HM5.out, HB5.out⟩
      case measure => simp [RowKit.intOf]; omega
    · obtain rfl : k = X.length := by omega
      go_wp2_with fail
      refine (c_markedBlocks w.heap.size N (P X.length) _ hN HMr.out).mono ?_
      rintro e w6 ⟨q, rfl, hq, hb2⟩
      have HBx : Hid (Below w.heap.size w w6) := HBr.out.trans (hb2.mono HBr.out.size)
      have HQ := Lib.hid (hq.mono HBr.out.size)
      obtain ⟨A6, c6, rfl⟩ := hq.shape
      clear hq hb2
      go_wp2
      go_ret
      exact ⟨_, rfl, HQ.out, HBx.out⟩

set_option maxHeartbeats 4000000 in
theorem c_FreeBlocks (xss : List (List Int)) (vs : List Int) (v u : Value) (w : World) (hs : ShortL xss) (hl : vs.length ≤ 4000000) (h : SeenL w v xss) (hu : Seen w u vs) :
    Calls Try.prog 8 #[v, u] w (GivesRow2 w (fbA xss vs) (pgB xss vs)) := by
  have C0 := Lib.hid (c_LargestPit xss vs v u w hs hl h hu)
  have CB : Hid (∀ w1 : World, Below w.heap.size w w1 → Calls Try.prog 20 #[v, u] w1 (GivesRow2 w1 (bpA xss vs) (pgB xss vs))) := fun w1 hb => c_BestPit xss vs v u w1 hs hl (h.below hb) (hu.below hb)
  obtain ⟨A, c, rfl, hm⟩ := h.shape
  obtain ⟨A2, c2, rfl⟩ := hu.shape
  unfold fbA
  clear h hu hs hl
  cases hp : pgB xss vs
  · rw [hp] at C0 CB
    rw [if_neg (by simp)]
    clear hp
    generalize bpA xss vs = X at *
    generalize lpA xss vs = Y at *
    go_enter Try.func8, Try.ntmps8
    go_wp2_with fail
    refine C0.out.mono ?_
    rintro e w1 ⟨v1, rfl, hr, hb⟩
    have HB := Lib.hid hb
    obtain ⟨A3, c3, rfl⟩ := hr.shape
    clear hr hb
    go_wp2_with fail
    refine (CB.out _ HB.out).mono ?_
    rintro e w2 ⟨v2, rfl, hr, hb⟩
    have HB2 : Hid (Below w.heap.size w w2) := HB.out.trans (hb.mono HB.out.size)
    obtain ⟨A4, c4, rfl⟩ := hr.shape
    clear hr hb
    go_wp2
    go_ret2
    exact ⟨_, rfl, Row.nil _ _, HB2.out⟩
  · have HA : bpA xss vs = bpL xss vs := by unfold bpA; rw [hp]; rfl
    have HA2 : lpA xss vs = lpL xss vs := by unfold lpA; rw [hp]; rfl
    rw [hp, HA2] at C0
    rw [hp, HA] at CB
    rw [if_pos rfl, fbL_sel]
    have ha := (pg_true hp).1
    have hN := arc_len ha
    have h1 := lpL_short xss vs ha
    have h2 := bpL_short xss vs ha
    have HR1 := Lib.hid (InN.ris (lpL_ris xss vs))
    have HR2 := Lib.hid (InN.ris (bpL_ris xss vs))
    clear hp HA HA2 ha
    generalize bpL xss vs = X at *
    generalize lpL xss vs = Y at *
    have CO : Hid (∀ (q q2 : Value) (w1 : World), Seen w1 q Y → Seen w1 q2 X → Calls Try.prog 21 #[q, q2] w1 (GivesRow w1 (sel (fun y => inL Y y && !inL X y) xss.length))) := fun q q2 w1 g1 g2 => c_blocksOutside xss.length Y X q q2 w1 (by omega) HR1.out HR2.out (by omega) (by omega) g1 g2
    generalize sel (fun y => inL Y y && !inL X y) xss.length = Z at *
    go_enter Try.func8, Try.ntmps8
    go_wp2_with fail
    refine C0.out.mono ?_
    rintro e w1 ⟨v1, rfl, hr1, hb⟩
    have HB := Lib.hid hb
    have HY := Lib.hid hr1.seen
    obtain ⟨A3, c3, rfl⟩ := hr1.shape
    clear hr1 hb
    go_wp2_with fail
    refine (CB.out _ HB.out).mono ?_
    rintro e w2 ⟨v2, rfl, hr2, hb⟩
    have HB2 : Hid (Below w.heap.size w w2) := HB.out.trans (hb.mono HB.out.size)
    have HCO := Lib.hid (CO.out _ _ w2 (HY.out.below hb) hr2.seen)
    obtain ⟨A4, c4, rfl⟩ := hr2.shape
    clear hr2 hb
    go_wp2_with fail
    refine HCO.out.mono ?_
    rintro e w6 ⟨q, rfl, hq, hb2⟩
    have HBx : Hid (Below w.heap.size w w6) := HB2.out.trans (hb2.mono HB2.out.size)
    have HQ := Lib.hid (hq.mono HB2.out.size)
    obtain ⟨A6, c6, rfl⟩ := hq.shape
    clear hq hb2
    go_wp2
    go_ret2
    exact ⟨_, rfl, HQ.out, HBx.out⟩

set_option maxHeartbeats 4000000 in
theorem c_FreeBlocksS (xss : List (List Int)) (vs : List Int) (v u : Value) (w : World) (hs : ShortL xss) (hl : vs.length ≤ 4000000) (h : SeenL w v xss) (hu : Seen w u vs) :
    Calls Try.prog 5 #[v, u] w (GivesRow2 w (fbA xss vs) (pgB xss vs)) := by
  obtain ⟨i0, hi0, hz0, hz1, hz2⟩ := info_parts int_info
  have HI := Lib.hid hi0
  have C0 := Lib.hid (c_paGood xss vs v u w hs hl h hu)
  have HS := Lib.hid h
  have HU := Lib.hid hu
  obtain ⟨A, c, rfl, hm⟩ := h.shape
  obtain ⟨A2, c2, rfl⟩ := hu.shape
  unfold fbA
  clear h hu hs hl hi0
  cases hp : pgB xss vs
  · rw [hp] at C0
    rw [if_neg (by simp)]
    clear hp
    go_enter Try.func5, Try.ntmps5
    go_wp2_with fail
    refine C0.out.mono ?_
    rintro e w1 ⟨rfl, rfl⟩
    go_wp2
    go_ret2
    exact ⟨_, rfl, Row.nil _ _, Below.refl _ _⟩
  · rw [hp] at C0
    have ha := (pg_true hp).1
    have hk := PitOk.of hp
    have C1 := Lib.hid (c_paFind xss vs _ _ w hk HS.out HU.out)
    have C2 : Hid (∀ w1 : World, Below w.heap.size w w1 → Calls Try.prog 17 #[.slice A xss.length c, .slice A2 vs.length c2] w1 (GivesRow w1 (lpL xss vs))) := fun w1 hb => c_paMost xss vs _ _ w1 hk (HS.out.below hb) (HU.out.below hb)
    have h1 := lpL_short xss vs ha
    have h2 := bpL_short xss vs ha
    rw [if_pos rfl]
    have HF : Hid (fbL xss vs = (lpL xss vs).filter fun y => !inL (bpL xss vs) y) := rfl
    rw [HF.out]
    clear hp ha hk HF
    generalize bpL xss vs = X at *
    generalize lpL xss vs = Y at *
    obtain ⟨F, hF⟩ : ∃ F : Nat → List Int, F = fun t => (Y.take t).filter fun y => !inL X y := ⟨_, rfl⟩
    have F0 : Hid (F 0 = []) := by rw [hF]; rfl
    have FS : Hid (∀ t, t < Y.length → F (t + 1) = F t ++ (if hasI X (Y.getD t 0) then [] else [Y.getD t 0])) := fun t ht => by
      rw [hF]
      show (Y.take (t + 1)).filter _ = (Y.take t).filter _ ++ _
      have e : Y.take (t + 1) = Y.take t ++ [Y.getD t 0] := by
        rw [List.take_add_one, List.getElem?_eq_getElem ht, List.getD_eq_getElem?_getD, List.getElem?_eq_getElem ht]
        rfl
      rw [e, List.filter_append, hasI_inL]
      generalize Y.getD t 0 = z
      cases hx : inL X z <;> simp [hx]
    have FE : Hid (F Y.length = Y.filter fun y => !inL X y) := by rw [hF]; show (Y.take Y.length).filter _ = _; rw [List.take_length]
    have FL : Hid (∀ t, t ≤ Y.length → (F t).length ≤ t) := fun t ht => by
      rw [hF]
      refine Nat.le_trans (List.length_filter_le _ _) ?_
      rw [List.length_take]; omega
    clear hF
    rw [← FE.out]
    go_enter Try.func5, Try.ntmps5
    go_wp2_with fail
    refine C0.out.mono ?_
    rintro e w1 ⟨rfl, rfl⟩
    go_wp2_with fail
    refine C1.out.mono ?_
    rintro e w1 ⟨v1, rfl, hr1, hb⟩
    have HB := Lib.hid hb
    have HX := Lib.hid hr1.seen
    obtain ⟨A3, c3, rfl⟩ := hr1.shape
    clear hr1 hb
    go_wp2_with fail
    refine (C2.out _ HB.out).mono ?_
    rintro e w2 ⟨v2, rfl, hr2, hb⟩
    have HB2 : Hid (Below w.heap.size w w2) := HB.out.trans (hb.mono HB.out.size)
    have HY := Lib.hid hr2.seen
    have HX2 := Lib.hid (HX.out.below hb)
    obtain ⟨A4, c4, rfl⟩ := hr2.shape
    clear hr2 hb
    go_wp2_with fail
    go_loopw [7, 21] (fun q i wr => ∃ t : Nat, t ≤ Y.length ∧ i = .int .i64 t ∧ Row wr w2.heap.size q (F t) ∧ Below w2.heap.size w2 wr) (fun _ i _ => Y.length - (RowKit.intOf i).toNat)
    case atStart => exact ⟨0, Nat.zero_le _, rfl, by rw [F0.out]; exact Row.nil _ _, Below.refl _ _⟩
    case round =>
      obtain ⟨t, ht, rfl, hr, hb⟩ := hrel
      have HR := Lib.hid hr
      have HBr := Lib.hid hb
      clear hr hb
      by_cases htl : t < Y.length
      · obtain ⟨bY, oY, rfl, _, q0⟩ := (HY.out.below HBr.out).at2 htl
        have FSt := Lib.hid (FS.out t htl)
        have hfl := FL.out t (by omega)
        have CH := Lib.hid (c_l1Has X (Y.getD t 0) _ wr (by omega) (HX2.out.below HBr.out))
        have b1 : (0 : Int) ≤ (t : Int) := by omega
        have b2 : (t : Int) < (Y.length : Int) := by omega
        have sw := HBr.out.size
        generalize Y.getD t 0 = y at *
        cases hh : hasI X y
        · rw [hh] at CH FSt
          have FSu : Hid (F (t + 1) = F t ++ [y]) := FSt.out
          clear hh FSt
          go_wp2_with fail
          refine CH.out.mono ?_
          rintro e w3 ⟨rfl, rfl⟩
          go_wp2_with (at_builtin; refine wpList_append_own _ rfl _ _ 23 rfl (w2.heap.size) 3 i0 (.int .i64 0) 1 8 Try.underlying23 HI.out hz0 hz1 hz2 rfl (by decide) _ _ _ rfl (World.ownsRow.alloc HR.out _) ⟨wr.heap.size, 0, none⟩ 1 1 [.int .i64 y] rfl rfl (news_one (by simp)) (ones_one _) ?c3 ?c4 ?c5 ?_)
          case c3 => unfold maxLen; omega
          case c4 => omega
          case c5 => first | omega | (simp; omega)
          intro v' w5 hown' hgrow _
          have R1 : Hid (Row w5 w2.heap.size v' (F (t + 1))) := by rw [FSu.out]; exact row_more hown'
          have R2 : Hid (Below w2.heap.size w2 w5) := (HBr.out.alloc sw _).grown hgrow (by simp; omega) (fun g hg => (World.ownsRow.lt HR.out g hg).1)
          clear hown' hgrow
          go_wp2
          go_roundw
          case rel => exact ⟨t + 1, by omega, by go_num, R1.out, R2.out⟩
          case measure => simp [RowKit.intOf]; omega
        · rw [hh] at CH FSt
          have FSu : Hid (F (t + 1) = F t) := FSt.out.trans (by simp)
          clear hh FSt
          go_wp2_with fail
          refine CH.out.mono ?_
          rintro e w3 ⟨rfl, rfl⟩
          go_wp2
          go_roundw
          case rel => exact ⟨t + 1, by omega, by go_num, by rw [FSu.out]; exact HR.out, HBr.out⟩
          case measure => simp [RowKit.intOf]; omega
      · obtain rfl : t = Y.length := by omega
        have G := Lib.hid (HR.out.mono HB2.out.size)
        have GB : Hid (Below w.heap.size w wr) := HB2.out.trans (HBr.out.mono HB2.out.size)
        go_wp2
        go_ret2
        exact ⟨_, rfl, G.out, GB.out⟩
end Go.Proofs.Ytdgkgnlilcbggaa
