/-
  Contracts: depths fitted to each other, in the model.
-/
import Derived.Test.YtmkbjkmpincogaaSI
import Derived.Deep.RegionWith
namespace Go.Proofs.Ytmkbjkmpincogaa
open Go.RowKit
set_option linter.unusedVariables false

set_option maxHeartbeats 4000000 in
set_option maxRecDepth 20000 in
theorem c_LeastProfileS (xss : List (List Int)) (p : List Int) (v u : Value) (w : World) (hl : ShortL xss) (hl2 : p.length ≤ 4000000) (h : SeenL w v xss) (hp : Seen w u p) :
    Calls Try.prog 32 #[v, u] w (GivesRow2 w (lpL fMax xss p) (sdB xss p)) := by
  have H1 := Lib.hid (c_seGood xss v w hl h)
  have H2 : Hid (secB xss = true → Calls Try.prog 55 #[v, u] w fun e w' => e = .returned (.bool (sdB xss p)) ∧ w = w') := fun hs => by
    have S := sec_yes hs
    unfold sdB
    rw [hs, Bool.true_and]
    exact c_seDepths xss p v u w (by have := S.n1; omega) hl2 h hp
  have H4 : Hid (secB xss = false → sdB xss p = false) := fun h => by unfold sdB; rw [h]; rfl
  unfold lpL
  cases hz : secB xss
  · rw [hz] at H1
    rw [H4.out hz]
    obtain ⟨A', c', rfl, _⟩ := h.shape
    obtain ⟨A, c, rfl⟩ := hp.shape
    clear H2 hz H4 h hp
    go_enter Try.func32, Try.ntmps32
    go_wp2_with fail
    refine H1.out.mono ?_
    rintro e w1 ⟨rfl, rfl⟩
    go_wp2
    go_ret2
    exact ⟨_, rfl, Row.nil _ _, Below.refl _ _⟩
  rw [hz] at H1
  have H5 := Lib.hid (H2.out hz)
  cases hs : sdB xss p
  · rw [hs] at H5
    obtain ⟨A', c', rfl, _⟩ := h.shape
    obtain ⟨A, c, rfl⟩ := hp.shape
    clear H2 hz H4 h hp
    go_enter Try.func32, Try.ntmps32
    go_wp2_with fail
    refine H1.out.mono ?_
    rintro e w1 ⟨rfl, rfl⟩
    go_wp2_with fail
    refine H5.out.mono ?_
    rintro e w2 ⟨rfl, rfl⟩
    go_wp2
    go_ret2
    exact ⟨_, rfl, Row.nil _ _, Below.refl _ _⟩
  rw [hs] at H5
  rw [if_pos rfl]
  have S := sec_yes hz
  have P : Pro p xss.length (depD xss) := by
    unfold sdB at hs
    rw [hz, Bool.true_and] at hs
    exact are_yes hs
  have h6 : In0 6 p := fun i hi => by
    have := P.box i (by have := P.len; omega)
    have := S.d2
    omega
  have n1 : 1 ≤ p.length := by have := P.len; have := S.n1; omega
  have n2 : p.length ≤ 8 := by have := P.len; have := S.n2; omega
  have HC := Lib.hid (c_l1Own p u w hl2 (by omega) hp)
  have HF : Hid (∀ k, k + 1 ≤ p.length → In0 6 (fwL fMax p k)) := fun k hk => fw_in fits_max h6 k hk
  have HFl : Hid (∀ k, (fwL fMax p k).length = p.length) := fw_len _ _
  have HFs : Hid (∀ k, (fwL fMax p k).set (k + 1) (fMax ((fwL fMax p k).getD (k + 1) 0) ((fwL fMax p k).getD k 0)) = fwL fMax p (k + 1)) := fun k => rfl
  have HF0 : Hid (fwL fMax p 0 = p) := rfl
  have HG : Hid (∀ k, k + 1 ≤ p.length → In0 6 (bwL fMax (fwL fMax p (p.length - 1)) k)) := fun k hk => bw_in fits_max (fw_in fits_max h6 _ (by omega)) k (by rw [fw_len]; exact hk)
  have HGl : Hid (∀ k, (bwL fMax (fwL fMax p (p.length - 1)) k).length = p.length) := fun k => by rw [bw_len, fw_len]
  have HGs : Hid (∀ k, (bwL fMax (fwL fMax p (p.length - 1)) k).set (p.length - 2 - k) (fMax ((bwL fMax (fwL fMax p (p.length - 1)) k).getD (p.length - 2 - k) 0) ((bwL fMax (fwL fMax p (p.length - 1)) k).getD (p.length - 2 - k + 1) 0)) = bwL fMax (fwL fMax p (p.length - 1)) (k + 1)) := fun k => by rw [bwL, fw_len]
  have HG0 : Hid (bwL fMax (fwL fMax p (p.length - 1)) 0 = fwL fMax p (p.length - 1)) := rfl
  have HE : Hid (fitL fMax p = bwL fMax (fwL fMax p (p.length - 1)) (p.length - 1)) := rfl
  obtain ⟨A', c', rfl, _⟩ := h.shape
  obtain ⟨A, c, rfl⟩ := hp.shape
  clear H2 hz H4 h hp S P h6 hs hl hl2
  rw [HE.out]
  clear HE
  generalize bwL fMax (fwL fMax p (p.length - 1)) = GG at *
  generalize fwL fMax p = FF at *
  generalize p.length = n at *
  go_enter Try.func32, Try.ntmps32
  go_wp2_with fail
  refine H1.out.mono ?_
  rintro e w1 ⟨rfl, rfl⟩
  go_wp2_with fail
  refine H5.out.mono ?_
  rintro e w2 ⟨rfl, rfl⟩
  go_wp2_with fail
  refine HC.out.mono ?_
  rintro e w3 ⟨q, rfl, hr, hb⟩
  rw [← HF0.out] at hr
  obtain ⟨g, cg, rfl, hg, _⟩ := hr.form (by rw [HFl.out]; exact n1)
  rw [HFl.out] at hr ⊢
  have HR3 := Lib.hid hr
  have HB3 := Lib.hid hb
  clear hr hb HC H1 H5
  go_wp2_with fail
  go_loopw [7] (fun i wr => ∃ k : Nat, k + 1 ≤ n ∧ i = .int .i64 ((k : Int) + 1) ∧ Row wr w.heap.size (.slice (some ⟨g, 0, none⟩) n cg) (FF k) ∧ Below w.heap.size w wr) (fun i _ => n - (intOf i).toNat)
  case atStart => exact ⟨0, by omega, by go_num, HR3.out, HB3.out⟩
  case round =>
    obtain ⟨k, hk, rfl, hr, hb⟩ := hrel
    have HR := Lib.hid hr
    have HB := Lib.hid hb
    clear hr hb
    by_cases hlt : k + 1 < n
    · obtain ⟨q1, f1, gl, t1, t2⟩ := fit_state (HFl.out k).symm HR.out (HF.out k hk) hlt
      obtain ⟨q2, _, _, s1, s2⟩ := fit_state (HFl.out k).symm HR.out (HF.out k hk) (show k < n by omega)
      have HS := Lib.hid (HFs.out k)
      have hst := Row.set_ (HFl.out k).symm HR.out (k + 1) (fMax ((FF k).getD (k + 1) 0) ((FF k).getD k 0))
      rw [HS.out] at hst
      generalize (FF k).getD (k + 1) 0 = t at *
      generalize (FF k).getD k 0 = s at *
      have HST := Lib.hid hst
      clear hst HS
      have b1 : (0 : Int) ≤ (k : Int) + 1 := by omega
      have b2 : (k : Int) + 1 < (n : Int) := by omega
      have b3 : (0 : Int) ≤ (k : Int) := by omega
      have b4 : (k : Int) < (n : Int) := by omega
      have b5 : ((k : Int) + 1).toNat = k + 1 := by omega
      have e1 : IntKind.i64.wrap (k : Int) = (k : Int) := IntWalk.i64_in _ (by omega)
      have HN : Hid (Below w.heap.size w (wr.setCell ⟨g, k + 1, none⟩ (.int .i64 (fMax t s))).drew) := (HB.out.setCell hg _).drew
      go_wp2_with fail
      go_region_with (go_at_call 60
                      refine (c_l1MostE _ _ _).mono ?_
                      rintro e w4 ⟨rfl, rfl⟩)
      all_goals
        go_wp2
        go_roundw
        case rel => exact ⟨k + 1, by omega, by go_num, HST.out.1.draws 1, HN.out⟩
        case measure => simp [intOf]; omega
    · obtain rfl : k = n - 1 := by omega
      have R0 : Hid (FF (n - 1) = GG 0) := HG0.out.symm
      have HR2 := HR
      rw [R0.out] at HR2
      clear HR HF HFl HFs HF0 HG0 R0
      have nn : ((n : Int) - 2) = ((n : Int) - 2) := rfl
      go_wp2_with fail
      go_loopw [8] (fun i wr => ∃ k : Nat, k + 1 ≤ n ∧ i = .int .i64 ((n : Int) - 2 - (k : Int)) ∧ Row wr w.heap.size (.slice (some ⟨g, 0, none⟩) n cg) (GG k) ∧ Below w.heap.size w wr) (fun i _ => (intOf i + 1).toNat)
      case atStart => exact ⟨0, by omega, by go_num, HR2.out, HB.out⟩
      case round =>
        obtain ⟨k, hk, rfl, hr, hb⟩ := hrel
        have HR := Lib.hid hr
        have HB := Lib.hid hb
        clear hr hb
        by_cases hlt : k + 2 ≤ n
        · obtain ⟨c, hc⟩ : ∃ c : Nat, c = n - 2 - k := ⟨_, rfl⟩
          have hci : (n : Int) - 2 - (k : Int) = (c : Int) := by omega
          rw [hci]
          obtain ⟨q1, f1, gl, t1, t2⟩ := fit_state (HGl.out k).symm HR.out (HG.out k hk) (show c < n by omega)
          obtain ⟨q2, _, _, s1, s2⟩ := fit_state (HGl.out k).symm HR.out (HG.out k hk) (show c + 1 < n by omega)
          have HS := Lib.hid (HGs.out k)
          rw [← hc] at HS
          have hst := Row.set_ (HGl.out k).symm HR.out c (fMax ((GG k).getD c 0) ((GG k).getD (c + 1) 0))
          rw [HS.out] at hst
          generalize (GG k).getD c 0 = t at *
          generalize (GG k).getD (c + 1) 0 = s at *
          have HST := Lib.hid hst
          clear hst HS
          have b1 : (0 : Int) ≤ (c : Int) := by omega
          have b2 : (c : Int) < (n : Int) := by omega
          have b3 : (0 : Int) ≤ (c : Int) + 1 := by omega
          have b4 : (c : Int) + 1 < (n : Int) := by omega
          have b5 : ((c : Int) + 1).toNat = c + 1 := by omega
          have e1 : IntKind.i64.wrap ((c : Int) + 1) = (c : Int) + 1 := IntWalk.i64_in _ (by omega)
          have HCI := Lib.hid hci
          clear hc hci
          have HN : Hid (Below w.heap.size w (wr.setCell ⟨g, c, none⟩ (.int .i64 (fMax t s))).drew) := (HB.out.setCell hg _).drew
          go_wp2_with fail
          go_region_with (go_at_call 60
                          refine (c_l1MostE _ _ _).mono ?_
                          rintro e w4 ⟨rfl, rfl⟩)
          all_goals
            go_wp2
            go_roundw
            case rel => exact ⟨k + 1, by omega, by rw [show (n : Int) - 2 - ((k + 1 : Nat) : Int) = (c : Int) - 1 by have := HCI.out; omega], HST.out.1.draws 1, HN.out⟩
            case measure => simp [intOf]
        · have R0 : k = n - 1 := by omega
          subst R0
          have hneg : ¬ ((n : Int) - 2 - ((n - 1 : Nat) : Int) ≥ 0) := by omega
          go_wp2
          go_ret2
          exact ⟨_, rfl, HR.out, HB.out⟩

set_option maxHeartbeats 4000000 in
set_option maxRecDepth 20000 in
theorem c_seLower (p : List Int) (u : Value) (w : World) (n1 : 1 ≤ p.length) (n2 : p.length ≤ 8) (h6 : In0 6 p) (hp : Seen w u p) :
    Calls Try.prog 56 #[u] w (GivesRow w (fitL fMin p)) := by
  have HC := Lib.hid (c_l1Own p u w (by omega) (by omega) hp)
  have HF : Hid (∀ k, k + 1 ≤ p.length → In0 6 (fwL fMin p k)) := fun k hk => fw_in fits_min h6 k hk
  have HFl : Hid (∀ k, (fwL fMin p k).length = p.length) := fw_len _ _
  have HFs : Hid (∀ k, (fwL fMin p k).set (k + 1) (fMin ((fwL fMin p k).getD (k + 1) 0) ((fwL fMin p k).getD k 0)) = fwL fMin p (k + 1)) := fun k => rfl
  have HF0 : Hid (fwL fMin p 0 = p) := rfl
  have HG : Hid (∀ k, k + 1 ≤ p.length → In0 6 (bwL fMin (fwL fMin p (p.length - 1)) k)) := fun k hk => bw_in fits_min (fw_in fits_min h6 _ (by omega)) k (by rw [fw_len]; exact hk)
  have HGl : Hid (∀ k, (bwL fMin (fwL fMin p (p.length - 1)) k).length = p.length) := fun k => by rw [bw_len, fw_len]
  have HGs : Hid (∀ k, (bwL fMin (fwL fMin p (p.length - 1)) k).set (p.length - 2 - k) (fMin ((bwL fMin (fwL fMin p (p.length - 1)) k).getD (p.length - 2 - k) 0) ((bwL fMin (fwL fMin p (p.length - 1)) k).getD (p.length - 2 - k + 1) 0)) = bwL fMin (fwL fMin p (p.length - 1)) (k + 1)) := fun k => by rw [bwL, fw_len]
  have HG0 : Hid (bwL fMin (fwL fMin p (p.length - 1)) 0 = fwL fMin p (p.length - 1)) := rfl
  have HE : Hid (fitL fMin p = bwL fMin (fwL fMin p (p.length - 1)) (p.length - 1)) := rfl
  obtain ⟨A, c, rfl⟩ := hp.shape
  clear hp h6
  rw [HE.out]
  clear HE
  generalize bwL fMin (fwL fMin p (p.length - 1)) = GG at *
  generalize fwL fMin p = FF at *
  generalize p.length = n at *
  go_enter Try.func56, Try.ntmps56
  go_wp2_with fail
  refine HC.out.mono ?_
  rintro e w3 ⟨q, rfl, hr, hb⟩
  rw [← HF0.out] at hr
  obtain ⟨g, cg, rfl, hg, _⟩ := hr.form (by rw [HFl.out]; exact n1)
  rw [HFl.out] at hr ⊢
  have HR3 := Lib.hid hr
  have HB3 := Lib.hid hb
  clear hr hb HC
  go_wp2_with fail
  go_loopw [4] (fun i wr => ∃ k : Nat, k + 1 ≤ n ∧ i = .int .i64 ((k : Int) + 1) ∧ Row wr w.heap.size (.slice (some ⟨g, 0, none⟩) n cg) (FF k) ∧ Below w.heap.size w wr) (fun i _ => n - (intOf i).toNat)
  case atStart => exact ⟨0, by omega, by go_num, HR3.out, HB3.out⟩
  case round =>
    obtain ⟨k, hk, rfl, hr, hb⟩ := hrel
    have HR := Lib.hid hr
    have HB := Lib.hid hb
    clear hr hb
    by_cases hlt : k + 1 < n
    · obtain ⟨q1, f1, gl, t1, t2⟩ := fit_state (HFl.out k).symm HR.out (HF.out k hk) hlt
      obtain ⟨q2, _, _, s1, s2⟩ := fit_state (HFl.out k).symm HR.out (HF.out k hk) (show k < n by omega)
      have HS := Lib.hid (HFs.out k)
      have hst := Row.set_ (HFl.out k).symm HR.out (k + 1) (fMin ((FF k).getD (k + 1) 0) ((FF k).getD k 0))
      rw [HS.out] at hst
      generalize (FF k).getD (k + 1) 0 = t at *
      generalize (FF k).getD k 0 = s at *
      have HST := Lib.hid hst
      clear hst HS
      have b1 : (0 : Int) ≤ (k : Int) + 1 := by omega
      have b2 : (k : Int) + 1 < (n : Int) := by omega
      have b3 : (0 : Int) ≤ (k : Int) := by omega
      have b4 : (k : Int) < (n : Int) := by omega
      have b5 : ((k : Int) + 1).toNat = k + 1 := by omega
      have e1 : IntKind.i64.wrap (k : Int) = (k : Int) := IntWalk.i64_in _ (by omega)
      have HN : Hid (Below w.heap.size w (wr.setCell ⟨g, k + 1, none⟩ (.int .i64 (fMin t s))).drew) := (HB.out.setCell hg _).drew
      go_wp2_with fail
      go_region_with (go_at_call 65
                      refine (c_l1LeastE _ _ _).mono ?_
                      rintro e w4 ⟨rfl, rfl⟩)
      all_goals
        go_wp2
        go_roundw
        case rel => exact ⟨k + 1, by omega, by go_num, HST.out.1.draws 1, HN.out⟩
        case measure => simp [intOf]; omega
    · obtain rfl : k = n - 1 := by omega
      have R0 : Hid (FF (n - 1) = GG 0) := HG0.out.symm
      have HR2 := HR
      rw [R0.out] at HR2
      clear HR HF HFl HFs HF0 HG0 R0
      have nn : ((n : Int) - 2) = ((n : Int) - 2) := rfl
      go_wp2_with fail
      go_loopw [5] (fun i wr => ∃ k : Nat, k + 1 ≤ n ∧ i = .int .i64 ((n : Int) - 2 - (k : Int)) ∧ Row wr w.heap.size (.slice (some ⟨g, 0, none⟩) n cg) (GG k) ∧ Below w.heap.size w wr) (fun i _ => (intOf i + 1).toNat)
      case atStart => exact ⟨0, by omega, by go_num, HR2.out, HB.out⟩
      case round =>
        obtain ⟨k, hk, rfl, hr, hb⟩ := hrel
        have HR := Lib.hid hr
        have HB := Lib.hid hb
        clear hr hb
        by_cases hlt : k + 2 ≤ n
        · obtain ⟨c, hc⟩ : ∃ c : Nat, c = n - 2 - k := ⟨_, rfl⟩
          have hci : (n : Int) - 2 - (k : Int) = (c : Int) := by omega
          rw [hci]
          obtain ⟨q1, f1, gl, t1, t2⟩ := fit_state (HGl.out k).symm HR.out (HG.out k hk) (show c < n by omega)
          obtain ⟨q2, _, _, s1, s2⟩ := fit_state (HGl.out k).symm HR.out (HG.out k hk) (show c + 1 < n by omega)
          have HS := Lib.hid (HGs.out k)
          rw [← hc] at HS
          have hst := Row.set_ (HGl.out k).symm HR.out c (fMin ((GG k).getD c 0) ((GG k).getD (c + 1) 0))
          rw [HS.out] at hst
          generalize (GG k).getD c 0 = t at *
          generalize (GG k).getD (c + 1) 0 = s at *
          have HST := Lib.hid hst
          clear hst HS
          have b1 : (0 : Int) ≤ (c : Int) := by omega
          have b2 : (c : Int) < (n : Int) := by omega
          have b3 : (0 : Int) ≤ (c : Int) + 1 := by omega
          have b4 : (c : Int) + 1 < (n : Int) := by omega
          have b5 : ((c : Int) + 1).toNat = c + 1 := by omega
          have e1 : IntKind.i64.wrap ((c : Int) + 1) = (c : Int) + 1 := IntWalk.i64_in _ (by omega)
          have HCI := Lib.hid hci
          clear hc hci
          have HN : Hid (Below w.heap.size w (wr.setCell ⟨g, c, none⟩ (.int .i64 (fMin t s))).drew) := (HB.out.setCell hg _).drew
          go_wp2_with fail
          go_region_with (go_at_call 65
                          refine (c_l1LeastE _ _ _).mono ?_
                          rintro e w4 ⟨rfl, rfl⟩)
          all_goals
            go_wp2
            go_roundw
            case rel => exact ⟨k + 1, by omega, by rw [show (n : Int) - 2 - ((k + 1 : Nat) : Int) = (c : Int) - 1 by have := HCI.out; omega], HST.out.1.draws 1, HN.out⟩
            case measure => simp [intOf]
        · have R0 : k = n - 1 := by omega
          subst R0
          have hneg : ¬ ((n : Int) - 2 - ((n - 1 : Nat) : Int) ≥ 0) := by omega
          go_wp2
          go_ret
          exact ⟨_, rfl, HR.out, HB.out⟩

end Go.Proofs.Ytmkbjkmpincogaa
