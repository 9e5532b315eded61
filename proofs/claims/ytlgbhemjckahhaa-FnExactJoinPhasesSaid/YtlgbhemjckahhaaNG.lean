/-
  Contracts: the model's answers on closures.
-/
import Derived.Test.YtlgbhemjckahhaaNF
import Derived.Test.YtlgbhemjckahhaaNC
namespace Go.Proofs.Ytlgbhemjckahhaa
open Go.RowKit
set_option linter.unusedVariables false

set_option maxHeartbeats 1000000 in
theorem c_clGood (xss : List (List Int)) (l : List Int) (v u : Value) (w : World) (hs : ShortL xss) (hl : l.length ≤ 4000000) (h : SeenL w v xss) (hu : Seen w u l) :
    Calls Try.prog 80 #[v, u] w fun e w' => e = .returned (.bool (gB xss l)) ∧ Below w.heap.size w w' := by
  have C0 := Lib.hid (c_clBlocks xss l v u w hs hl h hu)
  have HG : Hid (gB xss l = (vB xss l && closB xss l)) := rfl
  cases hv : vB xss l
  · rw [hv] at C0 HG
    obtain ⟨A, c, rfl, _⟩ := h.shape
    obtain ⟨A2, c2, rfl⟩ := hu.shape
    clear h hu hs hv
    generalize gB xss l = g at *
    go_enter Try.func80, Try.ntmps80
    go_wp2_with fail
    refine C0.out.mono ?_
    rintro e w1 ⟨rfl, rfl⟩
    go_wp2
    go_ret
    exact ⟨ret_bool (by rw [HG.out]; rfl), Below.refl _ _⟩
  · rw [hv] at C0 HG
    obtain ⟨ha, hr⟩ := vB_iff.1 hv
    have C1 := Lib.hid (c_clIs xss l v u w ha (InN.ris hr) hl h hu)
    obtain ⟨A, c, rfl, _⟩ := h.shape
    obtain ⟨A2, c2, rfl⟩ := hu.shape
    clear h hu hs hv ha hr
    generalize gB xss l = g at *
    generalize closB xss l = g2 at *
    go_enter Try.func80, Try.ntmps80
    go_wp2_with fail
    refine C0.out.mono ?_
    rintro e w1 ⟨rfl, rfl⟩
    go_wp2_with fail
    refine C1.out.mono ?_
    rintro e w1 ⟨rfl, hb⟩
    have HB := Lib.hid hb
    clear hb
    go_wp2
    go_ret
    exact ⟨ret_bool (by rw [HG.out]; simp), HB.out⟩

set_option maxHeartbeats 4000000 in
set_option maxRecDepth 100000 in
theorem c_clInside (xss : List (List Int)) (l : List Int) (v u : Value) (w : World) (ha : arcB xss = true) (hr : InN xss.length l) (hl : l.length ≤ 4000000) (h : SeenL w v xss) (hs : Seen w u l) :
    Calls Try.prog 63 #[v, u] w (GivesRow w (sel (insS xss (inL l) xss.length) xss.length)) := by
  have hN := arc_len ha
  have C1 := Lib.hid (c_clMarks xss.length l u w (by omega) (by omega) hl hr hs)
  obtain ⟨A, c, rfl, _⟩ := h.shape
  obtain ⟨A2, c2, rfl⟩ := hs.shape
  have ER : Hid (∀ k, k < xss.length → ∃ b off A' c', A = some ⟨b, off, none⟩ ∧ ∀ u, Below w.heap.size w u → u.cell? ⟨b, off + k, none⟩ = some (.slice A' (xss.getD k []).length c') ∧ Seen u (.slice A' (xss.getD k []).length c') (xss.getD k [])) := fun k hk => h.row2 hk
  have EI : Hid (∀ i, i < xss.length → ∀ t, t < (xss.getD i []).length → 0 ≤ (xss.getD i []).getD t 0 ∧ (xss.getD i []).getD t 0 < (i : Int)) := fun i hi t ht => arc_mem ha hi (getD_memN ht)
  have EL : Hid (∀ i, i < xss.length → (xss.getD i []).length ≤ 120) := fun i hi => arc_slen ha hi
  have E0 : Hid (insS xss (inL l) 0 = inL l) := rfl
  have T0 : Hid (∀ k, inT (insS xss (inL l) k) k (xss.getD k []) 0 = insS xss (inL l) k) := fun k => inT_zero _ _ _
  have TE : Hid (∀ k, inT (insS xss (inL l) k) k (xss.getD k []) (xss.getD k []).length = insS xss (inL l) (k + 1)) := fun k => inT_all _ _ _
  clear h hs hr ha
  generalize insS xss (inL l) = S at *
  generalize hn : xss.length = N at *
  clear hn
  go_enter Try.func63, Try.ntmps63
  go_wp2_with fail
  refine C1.out.mono ?_
  rintro e w1 ⟨rfl, hm, hb⟩
  rw [← E0.out] at hm
  have HM := Lib.hid hm
  have HB := Lib.hid hb
  have hw1 : w.heap.size < w1.heap.size := hm.lt (by omega)
  clear hm hb
  go_wp2_with fail
  go_loopw [15] (fun i wr => ∃ k : Nat, k ≤ N ∧ i = .int .i64 k ∧ MarkB wr w.heap.size N (S k) ∧ Below w.heap.size w wr) (fun i _ => N - (RowKit.intOf i).toNat)
  case atStart => exact ⟨0, Nat.zero_le _, rfl, HM.out, HB.out⟩
  case round =>
    obtain ⟨k, hk, rfl, hm, hb⟩ := hrel
    obtain ⟨wo, ewo⟩ : ∃ u, u = wr := ⟨_, rfl⟩
    subst ewo
    have HM := Lib.hid hm
    have HB := Lib.hid hb
    clear hm hb
    by_cases hlt : k < N
    · obtain ⟨b, off, A', c', rfl, hE⟩ := ER.out k hlt
      have HE := Lib.hid hE
      obtain ⟨q1, _⟩ := hE wo HB.out
      have EIk := Lib.hid (EI.out k hlt)
      have ELk := EL.out k hlt
      have T0k := Lib.hid (T0.out k)
      have TEk := Lib.hid (TE.out k)
      have b1 : (0 : Int) ≤ (k : Int) := by omega
      have b2 : (k : Int) < (N : Int) := by omega
      clear hE
      generalize xss.getD k [] = ys at *
      have MP : Hid (∀ t : Nat, t < ys.length → ∀ j : Nat, inT (S k) k ys (t + 1) j = if j = k then (inT (S k) k ys t k && S k (ys.getD t 0)) else inT (S k) k ys t j) := fun t ht => inT_put _ ht
      have MO : Hid (∀ t x : Nat, x < k → inT (S k) k ys t x = S k x) := fun t x hx => inT_other _ hx
      generalize inT (S k) k ys = M at *
      go_wp2_with fail
      go_loopw [23] (fun x wz => ∃ t : Nat, t ≤ ys.length ∧ x = .int .i64 t ∧ MarkB wz w.heap.size N (M t) ∧ Below w.heap.size w wz) (fun x _ => ys.length - (RowKit.intOf x).toNat)
      case atStart => exact ⟨0, Nat.zero_le _, rfl, by rw [T0k.out]; exact HM.out, HB.out⟩
      case round =>
        obtain ⟨t, ht, rfl, hmz, hbz⟩ := hrel
        have HMz := Lib.hid hmz
        have HBz := Lib.hid hbz
        clear hmz hbz
        by_cases htl : t < ys.length
        · obtain ⟨bY, oY, rfl, _, q2⟩ := (HE.out _ HBz.out).2.at2 htl
          obtain ⟨s0, s1⟩ := EIk.out t htl
          have MPt := Lib.hid (MP.out t htl)
          generalize ys.getD t 0 = x at *
          obtain ⟨i, rfl⟩ := Int.eq_ofNat_of_zero_le s0
          have hiN : i < N := by omega
          have q3 := HMz.out.cell k hlt
          have q4 := HMz.out.cell i hiN
          rw [MO.out t i (by omega)] at q4
          have q5 := HMz.out.frozen k
          have c1 : (0 : Int) ≤ (t : Int) := by omega
          have c2 : (t : Int) < (ys.length : Int) := by omega
          have c3 : (0 : Int) ≤ (i : Int) := by omega
          have c4 : (i : Int) < (N : Int) := by omega
          have N1 := Lib.hid (HMz.out.put (b := M t k && S k i) hlt (fun j _ => MPt.out j))
          have NB : Hid (Below w.heap.size w (wr.setCell ⟨w.heap.size, k, none⟩ (.bool (M t k && S k i)))) := HBz.out.setCell (Nat.le_refl _) _
          generalize M t (k : Int) = z1 at *
          generalize S k (i : Int) = z2 at *
          cases z1
          · simp only [Bool.false_and] at N1 NB
            go_wp2
            go_roundw
            case rel => exact ⟨t + 1, by omega, by go_num, N1.out.1, NB.out⟩
            case measure => simp [RowKit.intOf]; omega
          · simp only [Bool.true_and] at N1 NB
            go_wp2
            go_roundw
            case rel => exact ⟨t + 1, by omega, by go_num, N1.out.1, NB.out⟩
            case measure => simp [RowKit.intOf]; omega
        · obtain rfl : t = ys.length := by omega
          have HP := Lib.hid HMz.out
          rw [TEk.out] at HP
          go_wp2
          go_roundw
          case rel => exact ⟨k + 1, by omega, by go_num, HP.out, HBz.out⟩
          case measure => simp [RowKit.intOf]; omega
    · obtain rfl : k = N := by omega
      go_wp2_with fail
      refine (c_clList w.heap.size k (S k) wo (by omega) HM.out).mono ?_
      rintro e w2 ⟨q, rfl, hq, hb2⟩
      have HQ := Lib.hid (hq.mono HB.out.size)
      have HB2 : Hid (Below w.heap.size w w2) := HB.out.trans (hb2.mono HB.out.size)
      clear hq hb2
      go_wp2
      go_ret
      exact ⟨_, rfl, HQ.out, HB2.out⟩

end Go.Proofs.Ytlgbhemjckahhaa
