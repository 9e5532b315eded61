/-
  Contracts: the model's answers on next and last blocks, joins and meets.
-/
import Derived.Test.YtffknfgejoejoaaNG
import Derived.Test.YtffknfgejoejoaaLP
namespace Go.Proofs.Ytffknfgejoejoaa
open Go.RowKit
set_option linter.unusedVariables false

theorem all_take_step {p : Int → Bool} {ys : List Int} {t : Nat} (ht : t < ys.length) : (ys.take (t + 1)).all p = ((ys.take t).all p && p (ys.getD t 0)) := by
  rw [List.take_succ_eq_append_getElem ht, List.all_append, show ys.getD t 0 = ys[t] by simp [ht]]
  simp

set_option maxHeartbeats 4000000 in
set_option maxRecDepth 100000 in
theorem c_clNext (xss : List (List Int)) (l : List Int) (v u : Value) (w : World) (ha : arcB xss = true) (hr : InN xss.length l) (hl : l.length ≤ 4000000) (h : SeenL w v xss) (hs : Seen w u l) :
    Calls Try.prog 75 #[v, u] w (GivesRow w (sel (nxP xss l) xss.length)) := by
  obtain ⟨i0, hi0, hz0, hz1, hz2⟩ := info_parts int_info
  have HI := Lib.hid hi0
  clear hi0
  have hN := arc_len ha
  have C1 := Lib.hid (c_clMarks xss.length l u w (by omega) (by omega) hl hr hs)
  obtain ⟨A, c, rfl, _⟩ := h.shape
  obtain ⟨A2, c2, rfl⟩ := hs.shape
  have ER : Hid (∀ k, k < xss.length → ∃ b off A' c', A = some ⟨b, off, none⟩ ∧ ∀ u, Below w.heap.size w u → u.cell? ⟨b, off + k, none⟩ = some (.slice A' (xss.getD k []).length c') ∧ Seen u (.slice A' (xss.getD k []).length c') (xss.getD k [])) := fun k hk => h.row2 hk
  have EI : Hid (∀ i, i < xss.length → ∀ t, t < (xss.getD i []).length → 0 ≤ (xss.getD i []).getD t 0 ∧ (xss.getD i []).getD t 0 < (xss.length : Int)) := fun i hi t ht => arc_in ha hi _ (getD_memN ht)
  have EL : Hid (∀ i, i < xss.length → (xss.getD i []).length ≤ 120) := fun i hi => arc_slen ha hi
  have EP : Hid (∀ i : Nat, nxP xss l (i : Int) = (!inL l (i : Int) && (xss.getD i []).all (inL l))) := fun i => by show _ = _; unfold nxP; simp
  clear h hs hr ha
  generalize nxP xss l = P at *
  generalize inL l = p at *
  generalize hn : xss.length = N at *
  clear hn
  go_enter Try.func75, Try.ntmps75
  go_wp2_with fail
  refine C1.out.mono ?_
  rintro e w1 ⟨rfl, hm, hb⟩
  have HM1 := Lib.hid hm
  have HB1 := Lib.hid hb
  have hw1 : w.heap.size < w1.heap.size := hm.lt (by omega)
  clear hm hb
  go_wp2_with fail
  go_loopw [6, 18] (fun q i wr => ∃ k : Nat, k ≤ N ∧ i = .int .i64 k ∧ Row wr w1.heap.size q (sel P k) ∧ Below w1.heap.size w1 wr) (fun _ i _ => N - (RowKit.intOf i).toNat)
  case atStart => exact ⟨0, Nat.zero_le _, rfl, Row.nil _ _, Below.refl _ _⟩
  case round =>
    obtain ⟨k, hk, rfl, hrw, hb⟩ := hrel
    have HR := Lib.hid hrw
    have HB := Lib.hid hb
    clear hrw hb
    have HBr : Hid (Below w.heap.size w wr) := HB1.out.trans (HB.out.mono HB1.out.size)
    have HM := Lib.hid (HM1.out.below HB.out hw1)
    by_cases hlt : k < N
    · obtain ⟨b, off, A', c', rfl, hE⟩ := ER.out k hlt
      obtain ⟨q1, hse⟩ := hE wr HBr.out
      have HSe := Lib.hid hse
      have EIk := Lib.hid (EI.out k hlt)
      have ELk := EL.out k hlt
      have EPk := Lib.hid (EP.out k)
      have b1 : (0 : Int) ≤ (k : Int) := by omega
      have b2 : (k : Int) < (N : Int) := by omega
      have hlen := sel_len P k
      have sw := HB.out.size
      have qm := HM.out.cell k hlt
      clear hE hse
      generalize xss.getD k [] = ys at *
      obtain ⟨F, hF⟩ : ∃ F : Nat → Bool, F = fun t => (!p (k : Int) && (ys.take t).all p) := ⟨_, rfl⟩
      have F0 : Hid (F 0 = !p (k : Int)) := by show _ = _; rw [hF]; simp
      have F1 : Hid (∀ t, t < ys.length → F (t + 1) = (F t && p (ys.getD t 0))) := fun t ht => by rw [hF]; simp only [all_take_step ht]; rw [Bool.and_assoc]
      have FE : Hid (P (k : Int) = F ys.length) := by show _ = _; rw [EPk.out, hF]; simp only [List.take_length]
      clear hF EPk
      rw [show p (k : Int) = !F 0 by rw [F0.out]; simp] at qm
      generalize p (k : Int) = pk at *
      have HZ : Hid (F 0 = F 0) := rfl
      go_wp2_with fail
      go_loop [9, 30] (fun d x => ∃ t : Nat, t ≤ ys.length ∧ x = .int .i64 t ∧ d = .bool (F t)) (fun _ x => ys.length - (RowKit.intOf x).toNat)
      case atStart => exact ⟨0, Nat.zero_le _, rfl, by simp⟩
      case round =>
        obtain ⟨t, ht, rfl, rfl⟩ := hrel
        by_cases htl : t < ys.length
        · obtain ⟨bY, oY, rfl, _, q2⟩ := HSe.out.at2 htl
          obtain ⟨s0, s1⟩ := EIk.out t htl
          have F1t := Lib.hid (F1.out t htl)
          generalize ys.getD t 0 = x at *
          obtain ⟨i, rfl⟩ := Int.eq_ofNat_of_zero_le s0
          have hiN : i < N := by omega
          have q3 := HM.out.cell i hiN
          have c1 : (0 : Int) ≤ (t : Int) := by omega
          have c2 : (t : Int) < (ys.length : Int) := by omega
          have c3 : (0 : Int) ≤ (i : Int) := by omega
          have c4 : (i : Int) < (N : Int) := by omega
          generalize p (i : Int) = z at *
          cases hFt : F t
          · rw [hFt, Bool.false_and] at F1t
            clear hFt
            go_wp2
            go_round
            case rel => exact ⟨t + 1, by omega, by go_num, by rw [F1t.out]⟩
            case measure => simp [RowKit.intOf]; omega
          · rw [hFt, Bool.true_and] at F1t
            clear hFt
            go_wp2
            go_round
            case rel => exact ⟨t + 1, by omega, by go_num, by rw [F1t.out]⟩
            case measure => simp [RowKit.intOf]; omega
        · obtain rfl : t = ys.length := by omega
          cases hFt : F ys.length
          · have G : Hid (P (k : Int) = false) := FE.out.trans hFt
            clear hFt
            go_wp2
            go_roundw
            case rel => exact ⟨k + 1, by omega, by go_num, by rw [sel_miss G.out]; exact HR.out, HB.out⟩
            case measure => simp [RowKit.intOf]; omega
          · have G : Hid (P (k : Int) = true) := FE.out.trans hFt
            clear hFt
            go_wp2_with (at_builtin; refine wpList_append_own _ rfl _ _ 27 rfl (w1.heap.size) 3 i0 (.int .i64 0) 1 8 Try.underlying27 HI.out hz0 hz1 hz2 rfl (by decide) _ _ _ rfl (World.ownsRow.alloc HR.out _) ⟨wr.heap.size, 0, none⟩ 1 1 [.int .i64 k] rfl rfl ?c1 ?c2 ?c3 ?c4 ?c5 ?_)
            case c2 => rfl
            case c3 => unfold maxLen; omega
            case c4 => omega
            case c5 => omega
            intro v' w5 hown' hgrow _
            have R1 : Hid (Row w5 w1.heap.size v' (sel P (k + 1))) := by rw [sel_hit G.out]; exact row_more hown'
            have R2 : Hid (Below w1.heap.size w1 w5) := (HB.out.alloc sw _).grown hgrow (by simp; omega) (fun g hg => (World.ownsRow.lt HR.out g hg).1)
            clear hown' hgrow
            go_wp2
            go_roundw
            case rel => exact ⟨k + 1, by omega, by go_num, R1.out, R2.out⟩
            case measure => simp [RowKit.intOf]; omega
    · obtain rfl : k = N := by omega
      have G := Lib.hid (HR.out.mono HB1.out.size)
      go_wp2
      go_ret
      exact ⟨_, rfl, G.out, HBr.out⟩

set_option maxHeartbeats 1000000 in
theorem c_NextBlocksS (xss : List (List Int)) (l : List Int) (v u : Value) (w : World) (hs : ShortL xss) (hl : l.length ≤ 4000000) (h : SeenL w v xss) (hu : Seen w u l) :
    Calls Try.prog 40 #[v, u] w (GivesRow2 w (nxA xss l) (gB xss l)) := by
  have C0 := Lib.hid (c_clGood xss l v u w hs hl h hu)
  cases hv : gB xss l
  · have HL : Hid (nxA xss l = []) := by show _ = _; unfold nxA; rw [hv]; rfl
    rw [hv] at C0
    obtain ⟨A, c, rfl, _⟩ := h.shape
    obtain ⟨A2, c2, rfl⟩ := hu.shape
    clear h hu hs hv
    go_enter Try.func40, Try.ntmps40
    go_wp2_with fail
    refine C0.out.mono ?_
    rintro e w1 ⟨rfl, hb⟩
    have HB := Lib.hid hb
    clear hb
    go_wp2
    go_ret2
    exact ⟨_, rfl, by rw [HL.out]; exact Row.nil _ _, HB.out⟩
  · have HL : Hid (nxA xss l = sel (nxP xss l) xss.length) := by show _ = _; unfold nxA; rw [hv]; rfl
    rw [hv] at C0
    obtain ⟨⟨ha, hr⟩, _⟩ := gB_iff.1 hv
    have C1 : Hid (∀ w1, Below w.heap.size w w1 → Calls Try.prog 75 #[v, u] w1 (GivesRow w1 (sel (nxP xss l) xss.length))) := fun w1 hb => c_clNext xss l v u w1 ha (InN.ris hr) hl (h.below hb) (hu.below hb)
    obtain ⟨A, c, rfl, _⟩ := h.shape
    obtain ⟨A2, c2, rfl⟩ := hu.shape
    clear h hu hs hv ha hr
    go_enter Try.func40, Try.ntmps40
    go_wp2_with fail
    refine C0.out.mono ?_
    rintro e w1 ⟨rfl, hb⟩
    have HB := Lib.hid hb
    clear hb
    go_wp2_with fail
    refine (C1.out w1 HB.out).mono ?_
    rintro e w2 ⟨q, rfl, hq, hb⟩
    have HQ := Lib.hid (hq.mono HB.out.size)
    have HB2 : Hid (Below w.heap.size w w2) := HB.out.trans (hb.mono HB.out.size)
    clear hq hb
    go_wp2
    go_ret2
    exact ⟨_, rfl, by rw [HL.out]; exact HQ.out, HB2.out⟩

theorem unQ_put {xss : List (List Int)} {C : List Int} {k i t x : Nat} (hi : (C.getD k 0).toNat = i) (ht : t < (xss.getD i []).length) (hx : (xss.getD i []).getD t 0 = (x : Int)) : ∀ j : Nat, unQ xss C k (t + 1) j = if j = x then false else unQ xss C k t j := fun j => by
  subst hi
  rw [← unQ_succ ht, hx]
  exact set_false (unQ xss C k t) x j

set_option maxHeartbeats 4000000 in
set_option maxRecDepth 100000 in
theorem c_LastBlocksS (xss : List (List Int)) (C : List Int) (v u : Value) (w : World) (hs : ShortL xss) (hl : C.length ≤ 4000000) (h : SeenL w v xss) (hu : Seen w u C) :
    Calls Try.prog 42 #[v, u] w (GivesRow2 w (laA xss C) (gB xss C)) := by
  have C0 := Lib.hid (c_clGood xss C v u w hs hl h hu)
  cases hv : gB xss C
  · have HL : Hid (laA xss C = []) := by show _ = _; unfold laA; rw [hv]; rfl
    rw [hv] at C0
    obtain ⟨A, c, rfl, _⟩ := h.shape
    obtain ⟨A2, c2, rfl⟩ := hu.shape
    clear h hu hs hv
    go_enter Try.func42, Try.ntmps42
    go_wp2_with fail
    refine C0.out.mono ?_
    rintro e w1 ⟨rfl, hb⟩
    have HB := Lib.hid hb
    clear hb
    go_wp2
    go_ret2
    exact ⟨_, rfl, by rw [HL.out]; exact Row.nil _ _, HB.out⟩
  · have HL : Hid (laA xss C = sel (unP xss C C.length) xss.length) := by show _ = _; unfold laA; rw [hv]; rfl
    rw [hv] at C0
    obtain ⟨⟨ha, hr⟩, _⟩ := gB_iff.1 hv
    have hN := arc_len ha
    have HC := Lib.hid hu
    have C1 : Hid (∀ w1, Below w.heap.size w w1 → Calls Try.prog 56 #[.int .i64 (xss.length : Int), u] w1 fun e w' => e = .returned (.slice (some ⟨w1.heap.size, 0, none⟩) xss.length xss.length) ∧ MarkB w' w1.heap.size xss.length (inL C) ∧ Below w1.heap.size w1 w') := fun w1 hb => c_clMarks xss.length C u w1 (by omega) (by omega) hl (InN.ris hr) (hu.below hb)
    obtain ⟨A, c, rfl, _⟩ := h.shape
    obtain ⟨A2, c2, rfl⟩ := hu.shape
    have ER : Hid (∀ k, k < xss.length → ∃ b off A' c', A = some ⟨b, off, none⟩ ∧ ∀ u, Below w.heap.size w u → u.cell? ⟨b, off + k, none⟩ = some (.slice A' (xss.getD k []).length c') ∧ Seen u (.slice A' (xss.getD k []).length c') (xss.getD k [])) := fun k hk => h.row2 hk
    have EI : Hid (∀ i, i < xss.length → ∀ t, t < (xss.getD i []).length → 0 ≤ (xss.getD i []).getD t 0 ∧ (xss.getD i []).getD t 0 < (xss.length : Int)) := fun i hi t ht => arc_in ha hi _ (getD_memN ht)
    have EL : Hid (∀ i, i < xss.length → (xss.getD i []).length ≤ 120) := fun i hi => arc_slen ha hi
    have EC : Hid (∀ k, k < C.length → 0 ≤ C.getD k 0 ∧ C.getD k 0 < (xss.length : Int)) := fun k hk => InN.ris hr _ (getD_memN hk)
    have E0 : Hid (unP xss C 0 = inL C) := unP_zero xss C
    have E1 : Hid (∀ k, unQ xss C k 0 = unP xss C k) := unQ_zero xss C
    have E2 : Hid (∀ k i t x : Nat, (C.getD k 0).toNat = i → t < (xss.getD i []).length → (xss.getD i []).getD t 0 = (x : Int) → ∀ j : Nat, unQ xss C k (t + 1) j = if j = x then false else unQ xss C k t j) := fun k i t x e ht hx => unQ_put e ht hx
    have E3 : Hid (∀ k i, k < C.length → (C.getD k 0).toNat = i → unQ xss C k (xss.getD i []).length = unP xss C (k + 1)) := fun k i hk e => by subst e; exact unQ_all hk
    clear h hu hs hr ha hv
    generalize unP xss C = P at *
    generalize unQ xss C = Q at *
    generalize hn : xss.length = N at *
    clear hn
    go_enter Try.func42, Try.ntmps42
    go_wp2_with fail
    refine C0.out.mono ?_
    rintro e w0 ⟨rfl, hb0⟩
    have HB0 := Lib.hid hb0
    clear hb0
    go_wp2_with fail
    refine (C1.out w0 HB0.out).mono ?_
    rintro e w1 ⟨rfl, hm, hb⟩
    rw [← E0.out] at hm
    have HM := Lib.hid hm
    have HB : Hid (Below w.heap.size w w1) := HB0.out.trans (hb.mono HB0.out.size)
    have hw0 := HB0.out.size
    have hw1 : w0.heap.size < w1.heap.size := hm.lt (by omega)
    clear hm hb
    go_wp2_with fail
    go_loopw [21] (fun i wr => ∃ k : Nat, k ≤ C.length ∧ i = .int .i64 k ∧ MarkB wr w0.heap.size N (P k) ∧ Below w.heap.size w wr) (fun i _ => C.length - (RowKit.intOf i).toNat)
    case atStart => exact ⟨0, Nat.zero_le _, rfl, HM.out, HB.out⟩
    case round =>
      obtain ⟨k, hk, rfl, hm, hb⟩ := hrel
      obtain ⟨wo, ewo⟩ : ∃ u, u = wr := ⟨_, rfl⟩
      subst ewo
      have HM := Lib.hid hm
      have HB := Lib.hid hb
      clear hm hb
      by_cases hlt : k < C.length
      · have HCr := Lib.hid (HC.out.below HB.out)
        obtain ⟨bC, oC, rfl, _, q0⟩ := HCr.out.at2 hlt
        obtain ⟨r0, r1⟩ := EC.out k hlt
        obtain ⟨i, hi⟩ := Int.eq_ofNat_of_zero_le r0
        have E2k := Lib.hid (fun t x => E2.out k i t x (by rw [hi]; simp))
        have E3k := Lib.hid (E3.out k i hlt (by rw [hi]; simp))
        rw [hi] at q0 r1
        have hiN : i < N := by omega
        obtain ⟨b, off, A', c', rfl, hE⟩ := ER.out i hiN
        have HE := Lib.hid hE
        obtain ⟨q1, _⟩ := hE wo HB.out
        have EIi := Lib.hid (EI.out i hiN)
        have ELi := EL.out i hiN
        have b1 : (0 : Int) ≤ (k : Int) := by omega
        have b2 : (k : Int) < (C.length : Int) := by omega
        have b3 : (0 : Int) ≤ (i : Int) := by omega
        clear hE hi r0
        generalize xss.getD i [] = ys at *
        go_wp2_with fail
        go_loopw [30] (fun x wz => ∃ t : Nat, t ≤ ys.length ∧ x = .int .i64 t ∧ MarkB wz w0.heap.size N (Q k t) ∧ Below w.heap.size w wz) (fun x _ => ys.length - (RowKit.intOf x).toNat)
        case atStart => exact ⟨0, Nat.zero_le _, rfl, by rw [E1.out]; exact HM.out, HB.out⟩
        case round =>
          obtain ⟨t, ht, rfl, hmz, hbz⟩ := hrel
          have HMz := Lib.hid hmz
          have HBz := Lib.hid hbz
          clear hmz hbz
          by_cases htl : t < ys.length
          · obtain ⟨bY, oY, rfl, _, q2⟩ := (HE.out _ HBz.out).2.at2 htl
            obtain ⟨s0, s1⟩ := EIi.out t htl
            have MPt := Lib.hid (fun x => E2k.out t x htl)
            generalize ys.getD t 0 = x at *
            obtain ⟨n, rfl⟩ := Int.eq_ofNat_of_zero_le s0
            have hnN : n < N := by omega
            have q3 := HMz.out.cell n hnN
            have q4 := HMz.out.frozen n
            have N1 := Lib.hid (HMz.out.put (b := false) hnN (fun j _ => MPt.out n rfl j))
            have NB : Hid (Below w.heap.size w (wr.setCell ⟨w0.heap.size, n, none⟩ (.bool false))) := HBz.out.setCell hw0 _
            have c1 : (0 : Int) ≤ (t : Int) := by omega
            have c2 : (t : Int) < (ys.length : Int) := by omega
            generalize Q k t (n : Int) = z at *
            go_wp2
            go_roundw
            case rel => exact ⟨t + 1, by omega, by go_num, N1.out.1, NB.out⟩
            case measure => simp [RowKit.intOf]; omega
          · obtain rfl : t = ys.length := by omega
            have HP := Lib.hid HMz.out
            rw [E3k.out] at HP
            go_wp2
            go_roundw
            case rel => exact ⟨k + 1, by omega, by go_num, HP.out, HBz.out⟩
            case measure => simp [RowKit.intOf]; omega
      · obtain rfl : k = C.length := by omega
        go_wp2_with fail
        refine (c_clList w0.heap.size N (P C.length) wo (by omega) HM.out).mono ?_
        rintro e w2 ⟨q, rfl, hq, hb2⟩
        have HQ := Lib.hid (hq.mono HB.out.size)
        have HB2 : Hid (Below w.heap.size w w2) := HB.out.trans (hb2.mono HB.out.size)
        clear hq hb2
        go_wp2
        go_ret2
        exact ⟨_, rfl, by rw [HL.out]; exact HQ.out, HB2.out⟩

theorem row_srcA {w : World} {B : Nat} {A : Option Addr} {c : Nat} {xs : List Int} (h : Row w B (.slice A xs.length c) xs) : Src w 1 A xs.length c (ints xs) := by
  have := ((row_src rfl h).2.2 xs.length (Nat.le_refl _)).1
  rwa [List.take_length] at this

set_option maxHeartbeats 4000000 in
set_option maxRecDepth 100000 in
theorem c_JoinClosuresS (xss : List (List Int)) (a b : List Int) (v ua ub : Value) (B : Nat) (w : World) (hs : ShortL xss) (l1 : a.length ≤ 4000000) (l2 : b.length ≤ 4000000) (h : SeenL w v xss) (h1 : Row w B ua a) (h2 : Seen w ub b) :
    Calls Try.prog 36 #[v, ua, ub] w (GivesRow2 w (joA xss a b) (gB xss a && gB xss b)) := by
  have C0 := Lib.hid (c_clGood xss a v ua w hs l1 h h1.seen)
  have C1 : Hid (∀ w1, Below w.heap.size w w1 → Calls Try.prog 69 #[v, ub] w1 fun e w' => e = .returned (.bool (gB xss b)) ∧ Below w1.heap.size w1 w') := fun w1 hb => c_clGood xss b v ub w1 hs l2 (h.below hb) (h2.below hb)
  cases hv : gB xss a
  · have HL : Hid (joA xss a b = []) := by show _ = _; unfold joA; rw [hv]; rfl
    rw [hv] at C0
    obtain ⟨A, c, rfl, _⟩ := h.shape
    obtain ⟨A1, c1, rfl⟩ := h1.shape
    obtain ⟨A2, c2, rfl⟩ := h2.shape
    clear h h1 h2 hs hv C1
    go_enter Try.func36, Try.ntmps36
    go_wp2_with fail
    refine C0.out.mono ?_
    rintro e w1 ⟨rfl, hb⟩
    have HB := Lib.hid hb
    clear hb
    go_wp2
    go_ret2
    exact ⟨_, rfl, by rw [HL.out]; exact Row.nil _ _, HB.out⟩
  · rw [hv] at C0
    cases hv2 : gB xss b
    · have HL : Hid (joA xss a b = []) := by show _ = _; unfold joA; rw [hv2, Bool.and_false]; rfl
      rw [hv2] at C1
      obtain ⟨A, c, rfl, _⟩ := h.shape
      obtain ⟨A1, c1, rfl⟩ := h1.shape
      obtain ⟨A2, c2, rfl⟩ := h2.shape
      clear h h1 h2 hs hv hv2
      go_enter Try.func36, Try.ntmps36
      go_wp2_with fail
      refine C0.out.mono ?_
      rintro e w1 ⟨rfl, hb⟩
      have HB := Lib.hid hb
      clear hb
      go_wp2_with fail
      refine (C1.out w1 HB.out).mono ?_
      rintro e w2 ⟨rfl, hb⟩
      have HB2 : Hid (Below w.heap.size w w2) := HB.out.trans (hb.mono HB.out.size)
      clear hb
      go_wp2
      go_ret2
      exact ⟨_, rfl, by rw [HL.out]; exact Row.nil _ _, HB2.out⟩
    · have HL : Hid (joA xss a b = sel (addL b (inL a)) xss.length) := by show _ = _; unfold joA; rw [hv, hv2]; rfl
      rw [hv2] at C1
      obtain ⟨⟨ha, hr⟩, _⟩ := gB_iff.1 hv
      obtain ⟨⟨_, hr2⟩, _⟩ := gB_iff.1 hv2
      have hN := arc_len ha
      obtain ⟨A1, c1, rfl⟩ := h1.shape
      have C2 : Hid (∀ w1, Below w.heap.size w w1 → Calls Try.prog 70 #[.slice A1 a.length c1] w1 (GivesRow w1 a)) := fun w1 hb => c_l1OwnA A1 a.length c1 a w1 l1 rfl (row_srcA (h1.below hb))
      have HC := Lib.hid h2
      have EC : Hid (∀ k, k < b.length → 0 ≤ b.getD k 0 ∧ b.getD k 0 < (xss.length : Int)) := fun k hk => InN.ris hr2 _ (getD_memN hk)
      obtain ⟨O, hO⟩ : ∃ O : Nat → List Int, O = fun k => sel (addL (b.take k) (inL a)) xss.length := ⟨_, rfl⟩
      have O0 : Hid (O 0 = a) := by show _ = _; rw [hO]; simp only [List.take_zero, addL_nil]; exact sel_inL hr
      have O1 : Hid (∀ k, k < b.length → putI (O k) (b.getD k 0) = O (k + 1)) := fun k hk => by
        have hx := InN.ris hr2 _ (getD_memN hk)
        rw [hO]
        simp only
        rw [putI_sel hx.1 hx.2, addL_take hk]
      have OE : Hid (joA xss a b = O b.length) := by show _ = _; rw [HL.out, hO]; simp only [List.take_length]
      have OL : Hid (∀ k, (O k).length ≤ 4000) := fun k => by rw [hO]; have := sel_len (addL (b.take k) (inL a)) xss.length; simp only; omega
      obtain ⟨A, c, rfl, _⟩ := h.shape
      obtain ⟨A2, c2, rfl⟩ := h2.shape
      clear h h1 h2 hs hv hv2 ha hr hr2 hO HL
      generalize hn : xss.length = N at *
      clear hn
      go_enter Try.func36, Try.ntmps36
      go_wp2_with fail
      refine C0.out.mono ?_
      rintro e w1 ⟨rfl, hb⟩
      have HB := Lib.hid hb
      clear hb
      go_wp2_with fail
      refine (C1.out w1 HB.out).mono ?_
      rintro e w2 ⟨rfl, hb⟩
      have HB2 : Hid (Below w.heap.size w w2) := HB.out.trans (hb.mono HB.out.size)
      clear hb
      go_wp2_with fail
      refine (C2.out w2 HB2.out).mono ?_
      rintro e w3 ⟨o, rfl, hro, hb⟩
      have HB3 : Hid (Below w.heap.size w w3) := HB2.out.trans (hb.mono HB2.out.size)
      have HR3 := Lib.hid (hro.mono HB2.out.size)
      rw [← O0.out] at HR3
      clear hro hb
      go_wp2_with fail
      go_loopw [8, 25] (fun q i wr => ∃ k : Nat, k ≤ b.length ∧ i = .int .i64 k ∧ Row wr w.heap.size q (O k) ∧ Below w.heap.size w wr) (fun _ i _ => b.length - (RowKit.intOf i).toNat)
      case atStart => exact ⟨0, Nat.zero_le _, rfl, HR3.out, HB3.out⟩
      case round =>
        obtain ⟨k, hk, rfl, hrw, hb⟩ := hrel
        have HR := Lib.hid hrw
        have HB := Lib.hid hb
        clear hrw hb
        by_cases hlt : k < b.length
        · have HCr := Lib.hid (HC.out.below HB.out)
          obtain ⟨bC, oC, rfl, _, q0⟩ := HCr.out.at2 hlt
          have O1k := Lib.hid (O1.out k hlt)
          generalize b.getD k 0 = x at *
          have b1 : (0 : Int) ≤ (k : Int) := by omega
          have b2 : (k : Int) < (b.length : Int) := by omega
          go_wp2_with fail
          refine (c_l1Put (O k) x _ w.heap.size _ HR.out HB.out.size (OL.out k)).mono ?_
          rintro e w5 ⟨o, rfl, hro, hb⟩
          rw [O1k.out] at hro
          have HR5 := Lib.hid hro
          have HB5 : Hid (Below w.heap.size w w5) := HB.out.trans (hb.mono HB.out.size)
          clear hro hb
          go_wp2
          go_roundw
          case rel => exact ⟨k + 1, by omega, by go_num, HR5.out, HB5.out⟩
          case measure => simp [RowKit.intOf]; omega
        · obtain rfl : k = b.length := by omega
          go_wp2
          go_ret2
          exact ⟨_, rfl, by rw [OE.out]; exact HR.out, HB.out⟩

/-- The first k of a list that are in another. -/
def fiT (a b : List Int) (k : Nat) : List Int := (a.take k).filter (inL b)
theorem fiT_yes {a b : List Int} {k : Nat} (hk : k < a.length) (h : inL b (a.getD k 0) = true) : fiT a b (k + 1) = fiT a b k ++ [a.getD k 0] := by
  unfold fiT
  rw [List.take_succ_eq_append_getElem hk, List.filter_append, show a.getD k 0 = a[k] by simp [hk]]
  rw [show a.getD k 0 = a[k] by simp [hk]] at h
  simp [h]
theorem fiT_no {a b : List Int} {k : Nat} (hk : k < a.length) (h : inL b (a.getD k 0) = false) : fiT a b (k + 1) = fiT a b k := by
  unfold fiT
  rw [List.take_succ_eq_append_getElem hk, List.filter_append]
  rw [show a.getD k 0 = a[k] by simp [hk]] at h
  simp [h]
theorem fiT_end {N : Nat} {a b : List Int} (h : risB N a = true) : fiT a b a.length = sel (fun y => inL a y && inL b y) N := by
  unfold fiT
  rw [List.take_length]
  refine rising_ext ((ris_rising h).sublist List.filter_sublist) (sel_rising _ _) fun x => ?_
  rw [List.mem_filter, mem_sel]
  unfold inr
  rw [Bool.and_eq_true, Bool.and_eq_true, decide_eq_true_eq, inL_iff (l := a)]
  exact ⟨fun ⟨h1, h2⟩ => ⟨ris_mem h h1, h1, h2⟩, fun ⟨_, h1, h2⟩ => ⟨h1, h2⟩⟩

set_option maxHeartbeats 4000000 in
set_option maxRecDepth 100000 in
theorem c_MeetClosuresS (xss : List (List Int)) (a b : List Int) (v ua ub : Value) (w : World) (hs : ShortL xss) (l1 : a.length ≤ 4000000) (l2 : b.length ≤ 4000000) (h : SeenL w v xss) (h1 : Seen w ua a) (h2 : Seen w ub b) :
    Calls Try.prog 38 #[v, ua, ub] w (GivesRow2 w (meA xss a b) (gB xss a && gB xss b)) := by
  have C0 := Lib.hid (c_clGood xss a v ua w hs l1 h h1)
  have C1 : Hid (∀ w1, Below w.heap.size w w1 → Calls Try.prog 69 #[v, ub] w1 fun e w' => e = .returned (.bool (gB xss b)) ∧ Below w1.heap.size w1 w') := fun w1 hb => c_clGood xss b v ub w1 hs l2 (h.below hb) (h2.below hb)
  cases hv : gB xss a
  · have HL : Hid (meA xss a b = []) := by show _ = _; unfold meA; rw [hv]; rfl
    rw [hv] at C0
    obtain ⟨A, c, rfl, _⟩ := h.shape
    obtain ⟨A1, c1, rfl⟩ := h1.shape
    obtain ⟨A2, c2, rfl⟩ := h2.shape
    clear h h1 h2 hs hv C1
    go_enter Try.func38, Try.ntmps38
    go_wp2_with fail
    refine C0.out.mono ?_
    rintro e w1 ⟨rfl, hb⟩
    have HB := Lib.hid hb
    clear hb
    go_wp2
    go_ret2
    exact ⟨_, rfl, by rw [HL.out]; exact Row.nil _ _, HB.out⟩
  · rw [hv] at C0
    cases hv2 : gB xss b
    · have HL : Hid (meA xss a b = []) := by show _ = _; unfold meA; rw [hv2, Bool.and_false]; rfl
      rw [hv2] at C1
      obtain ⟨A, c, rfl, _⟩ := h.shape
      obtain ⟨A1, c1, rfl⟩ := h1.shape
      obtain ⟨A2, c2, rfl⟩ := h2.shape
      clear h h1 h2 hs hv hv2
      go_enter Try.func38, Try.ntmps38
      go_wp2_with fail
      refine C0.out.mono ?_
      rintro e w1 ⟨rfl, hb⟩
      have HB := Lib.hid hb
      clear hb
      go_wp2_with fail
      refine (C1.out w1 HB.out).mono ?_
      rintro e w2 ⟨rfl, hb⟩
      have HB2 : Hid (Below w.heap.size w w2) := HB.out.trans (hb.mono HB.out.size)
      clear hb
      go_wp2
      go_ret2
      exact ⟨_, rfl, by rw [HL.out]; exact Row.nil _ _, HB2.out⟩
    · rw [hv2] at C1
      obtain ⟨⟨ha, hr⟩, _⟩ := gB_iff.1 hv
      have HL : Hid (meA xss a b = fiT a b a.length) := by show _ = _; unfold meA; rw [hv, hv2, fiT_end hr]; rfl
      have hN := arc_len ha
      obtain ⟨i0, hi0, hz0, hz1, hz2⟩ := info_parts int_info
      have HI := Lib.hid hi0
      clear hi0
      have HC := Lib.hid h1
      have HC2 := Lib.hid h2
      have FY : Hid (∀ k, k < a.length → inL b (a.getD k 0) = true → fiT a b (k + 1) = fiT a b k ++ [a.getD k 0]) := fun k => fiT_yes
      have FN : Hid (∀ k, k < a.length → inL b (a.getD k 0) = false → fiT a b (k + 1) = fiT a b k) := fun k => fiT_no
      have FL : Hid (∀ k, (fiT a b k).length ≤ 120) := fun k => by
        have h3 := ris_len hr (by omega)
        have h4 : (fiT a b k).length ≤ a.length := by unfold fiT; exact Nat.le_trans (List.length_filter_le _ _) (by rw [List.length_take]; omega)
        omega
      have F0 : Hid (fiT a b 0 = []) := rfl
      obtain ⟨A, c, rfl, _⟩ := h.shape
      obtain ⟨A1, c1, rfl⟩ := h1.shape
      obtain ⟨A2, c2, rfl⟩ := h2.shape
      clear h h1 h2 hs hv hv2 ha hr
      generalize fiT a b = O at *
      go_enter Try.func38, Try.ntmps38
      go_wp2_with fail
      refine C0.out.mono ?_
      rintro e w1 ⟨rfl, hb⟩
      have HB := Lib.hid hb
      clear hb
      go_wp2_with fail
      refine (C1.out w1 HB.out).mono ?_
      rintro e w2 ⟨rfl, hb⟩
      have HB2 : Hid (Below w.heap.size w w2) := HB.out.trans (hb.mono HB.out.size)
      clear hb
      go_wp2_with fail
      go_loopw [8, 23] (fun q i wr => ∃ k : Nat, k ≤ a.length ∧ i = .int .i64 k ∧ Row wr w.heap.size q (O k) ∧ Below w.heap.size w wr) (fun _ i _ => a.length - (RowKit.intOf i).toNat)
      case atStart => exact ⟨0, Nat.zero_le _, rfl, by rw [F0.out]; exact Row.nil _ _, HB2.out⟩
      case round =>
        obtain ⟨k, hk, rfl, hrw, hb⟩ := hrel
        have HR := Lib.hid hrw
        have HB := Lib.hid hb
        clear hrw hb
        by_cases hlt : k < a.length
        · have HCr := Lib.hid (HC.out.below HB.out)
          obtain ⟨bC, oC, rfl, _, q0⟩ := HCr.out.at2 hlt
          have FYk := Lib.hid (FY.out k hlt)
          have FNk := Lib.hid (FN.out k hlt)
          have hlen := FL.out k
          have sw := HB.out.size
          generalize a.getD k 0 = x at *
          have b1 : (0 : Int) ≤ (k : Int) := by omega
          have b2 : (k : Int) < (a.length : Int) := by omega
          have CH := Lib.hid (c_l1Has b x _ wr l2 (HC2.out.below HB.out))
          rw [hasI_inL] at CH
          cases hx : inL b x
          · have G := Lib.hid (FNk.out hx)
            rw [hx] at CH
            clear hx
            go_wp2_with fail
            refine CH.out.mono ?_
            rintro e w3 ⟨rfl, rfl⟩
            go_wp2
            go_roundw
            case rel => exact ⟨k + 1, by omega, by go_num, by rw [G.out]; exact HR.out, HB.out⟩
            case measure => simp [RowKit.intOf]; omega
          · have G := Lib.hid (FYk.out hx)
            rw [hx] at CH
            clear hx
            go_wp2_with fail
            refine CH.out.mono ?_
            rintro e w3 ⟨rfl, ew3⟩
            subst ew3
            go_wp2_with (at_builtin; refine wpList_append_own _ rfl _ _ 27 rfl (w.heap.size) 3 i0 (.int .i64 0) 1 8 Try.underlying27 HI.out hz0 hz1 hz2 rfl (by decide) _ _ _ rfl (World.ownsRow.alloc HR.out _) ⟨wr.heap.size, 0, none⟩ 1 1 [.int .i64 x] rfl rfl ?c1 ?c2 ?c3 ?c4 ?c5 ?_)
            case c1 =>
              intro j u hj
              match j, hj with
              | 0, hj => simp at hj; subst hj; simp [Addr.add]
            case c2 => intro u hu; simp at hu; subst hu; rfl
            case c3 => unfold maxLen; omega
            case c4 => omega
            case c5 => simp; omega
            intro v' w5 hown' hgrow _
            have R1 : Hid (Row w5 w.heap.size v' (O (k + 1))) := by rw [G.out]; exact row_more hown'
            have R2 : Hid (Below w.heap.size w w5) := (HB.out.alloc sw _).grown hgrow (by simp; omega) (fun g hg => (World.ownsRow.lt HR.out g hg).1)
            clear hown' hgrow
            go_wp2
            go_roundw
            case rel => exact ⟨k + 1, by omega, by go_num, R1.out, R2.out⟩
            case measure => simp [RowKit.intOf]; omega
        · obtain rfl : k = a.length := by omega
          go_wp2
          go_ret2
          exact ⟨_, rfl, by rw [HL.out]; exact HR.out, HB.out⟩
end Go.Proofs.Ytffknfgejoejoaa
