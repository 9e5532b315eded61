/-
  Contracts: closures closed, told and cut, in the model.
-/
import Derived.Test.YtfpjodoimfbadaaNE
import Derived.Test.YtfpjodoimfbadaaZR
import Derived.Test.YtfpjodoimfbadaaNA
namespace Go.Proofs.Ytfpjodoimfbadaa
open Go.RowKit
set_option linter.unusedVariables false

theorem SeenL.row2 {w : World} {A : Option Addr} {n c : Nat} {xss : List (List Int)} (h : SeenL w (.slice A n c) xss) {k : Nat} (hk : k < xss.length) :
    ∃ b off A' c', A = some ⟨b, off, none⟩ ∧ ∀ u, Below w.heap.size w u → u.cell? ⟨b, off + k, none⟩ = some (.slice A' (xss.getD k []).length c') ∧ Seen u (.slice A' (xss.getD k []).length c') (xss.getD k []) := by
  obtain ⟨b, off, A', c', e, hb, h1, h2⟩ := h.at_ hk
  exact ⟨b, off, A', c', e, fun u hu => ⟨by rw [hu.cell (p := ⟨b, off + k, none⟩) hb]; exact h1, h2.below hu⟩⟩

/-! ### rounds over a list of needs -/
def adT (q : Int → Bool) (ys : List Int) (t : Nat) : Int → Bool := addL (ys.take t) q
theorem adT_zero (q : Int → Bool) (ys : List Int) : adT q ys 0 = q := by unfold adT; rw [List.take_zero, addL_nil]
theorem adT_all (q : Int → Bool) (ys : List Int) : adT q ys ys.length = addL ys q := by unfold adT; rw [List.take_length]
theorem adT_put (q : Int → Bool) {ys : List Int} {t x : Nat} (ht : t < ys.length) (hx : ys.getD t 0 = (x : Int)) : ∀ j : Nat, adT q ys (t + 1) j = if j = x then true else adT q ys t j := fun j => by
  have := set_true (adT q ys t) x j
  rw [← this]
  unfold adT
  rw [← addL_take ht, hx]
/-- Of block k's needs the first t are looked at. -/
def inT (q : Int → Bool) (k : Nat) (ys : List Int) (t : Nat) : Int → Bool := fun y => if y = (k : Int) then q k && (ys.take t).all q else q y
def upT (q : Int → Bool) (k : Nat) (ys : List Int) (t : Nat) : Int → Bool := fun y => if y = (k : Int) then q k || (ys.take t).any q else q y
theorem inT_zero (q : Int → Bool) (k : Nat) (ys : List Int) : inT q k ys 0 = q := by
  funext y; unfold inT; split
  · rename_i e; rw [e]; simp
  · rfl
theorem upT_zero (q : Int → Bool) (k : Nat) (ys : List Int) : upT q k ys 0 = q := by
  funext y; unfold upT; split
  · rename_i e; rw [e]; simp
  · rfl
theorem inT_all (xss : List (List Int)) (p : Int → Bool) (k : Nat) : inT (insS xss p k) k (xss.getD k []) (xss.getD k []).length = insS xss p (k + 1) := by
  funext y; unfold inT; rw [List.take_length]; rfl
theorem upT_all (xss : List (List Int)) (p : Int → Bool) (k : Nat) : upT (upS xss p k) k (xss.getD k []) (xss.getD k []).length = upS xss p (k + 1) := by
  funext y
  show _ = (if (xss.getD k []).any (upS xss p k) = true then (fun y => y == (k : Int) || upS xss p k y) else upS xss p k) y
  unfold upT
  rw [List.take_length]
  by_cases e : y = (k : Int)
  · subst e
    rw [if_pos rfl]
    cases h : (xss.getD k []).any (upS xss p k) <;> simp
  · rw [if_neg e]
    have : (y == (k : Int)) = false := beq_eq_false_iff_ne.2 e
    cases h : (xss.getD k []).any (upS xss p k) <;> simp [this]
theorem inT_put (q : Int → Bool) {k : Nat} {ys : List Int} {t : Nat} (ht : t < ys.length) : ∀ j : Nat, inT q k ys (t + 1) j = if j = k then (inT q k ys t k && q (ys.getD t 0)) else inT q k ys t j := fun j => by
  unfold inT
  rw [List.take_succ_eq_append_getElem ht, show ys.getD t 0 = ys[t] by simp [ht]]
  by_cases e : j = k
  · subst e
    rw [if_pos rfl, if_pos rfl, if_pos rfl, List.all_append]
    simp [Bool.and_assoc]
  · rw [if_neg (by omega), if_neg e, if_neg (by omega)]
theorem upT_put (q : Int → Bool) {k : Nat} {ys : List Int} {t : Nat} (ht : t < ys.length) : ∀ j : Nat, upT q k ys (t + 1) j = if j = k then (upT q k ys t k || q (ys.getD t 0)) else upT q k ys t j := fun j => by
  unfold upT
  rw [List.take_succ_eq_append_getElem ht, show ys.getD t 0 = ys[t] by simp [ht]]
  by_cases e : j = k
  · subst e
    rw [if_pos rfl, if_pos rfl, if_pos rfl, List.any_append]
    simp [Bool.or_assoc]
  · rw [if_neg (by omega), if_neg e, if_neg (by omega)]
theorem inT_other (q : Int → Bool) {k : Nat} {ys : List Int} {t x : Nat} (h : x < k) : inT q k ys t x = q x := by unfold inT; rw [if_neg (by omega)]
theorem upT_other (q : Int → Bool) {k : Nat} {ys : List Int} {t x : Nat} (h : x < k) : upT q k ys t x = q x := by unfold upT; rw [if_neg (by omega)]

set_option maxHeartbeats 4000000 in
set_option maxRecDepth 100000 in
theorem c_clLeast (xss : List (List Int)) (l : List Int) (v u : Value) (w : World) (ha : arcB xss = true) (hr : InN xss.length l) (hl : l.length ≤ 4000000) (h : SeenL w v xss) (hs : Seen w u l) :
    Calls Try.prog 22 #[v, u] w (GivesRow w (clL xss l)) := by
  have hN := arc_len ha
  have C1 := Lib.hid (c_clMarks xss.length l u w (by omega) (by omega) hl hr hs)
  obtain ⟨A, c, rfl, _⟩ := h.shape
  obtain ⟨A2, c2, rfl⟩ := hs.shape
  have ER : Hid (∀ k, k < xss.length → ∃ b off A' c', A = some ⟨b, off, none⟩ ∧ ∀ u, Below w.heap.size w u → u.cell? ⟨b, off + k, none⟩ = some (.slice A' (xss.getD k []).length c') ∧ Seen u (.slice A' (xss.getD k []).length c') (xss.getD k [])) := fun k hk => h.row2 hk
  have EI : Hid (∀ i, i < xss.length → ∀ t, t < (xss.getD i []).length → 0 ≤ (xss.getD i []).getD t 0 ∧ (xss.getD i []).getD t 0 < (xss.length : Int)) := fun i hi t ht => arc_in ha hi _ (getD_memN ht)
  have EL : Hid (∀ i, i < xss.length → (xss.getD i []).length ≤ 120) := fun i hi => arc_slen ha hi
  obtain ⟨S, hS⟩ : ∃ S, S = dnS xss (inL l) := ⟨_, rfl⟩
  have E0 : Hid (S 0 = inL l) := by rw [hS]; rfl
  have EY : Hid (∀ t, S t ((xss.length - 1 - t : Nat) : Int) = true → S (t + 1) = addL (xss.getD (xss.length - 1 - t) []) (S t)) := fun t ht => by
    rw [hS] at ht ⊢
    show (if _ then _ else _) = _
    rw [if_pos ht]
  have EN : Hid (∀ t, S t ((xss.length - 1 - t : Nat) : Int) = false → S (t + 1) = S t) := fun t ht => by
    rw [hS] at ht ⊢
    show (if _ then _ else _) = _
    rw [if_neg (by rw [ht]; simp)]
  have EE : Hid (clL xss l = sel (S xss.length) xss.length) := by rw [hS]; rfl
  clear h hs hr ha hS
  generalize hn : xss.length = N at *
  clear hn
  go_enter Try.func22, Try.ntmps22
  go_wp2_with fail
  refine C1.out.mono ?_
  rintro e w1 ⟨rfl, hm, hb⟩
  rw [← E0.out] at hm
  have HM := Lib.hid hm
  have HB := Lib.hid hb
  have hw1 : w.heap.size < w1.heap.size := hm.lt (by omega)
  clear hm hb
  go_wp2_with fail
  go_loopw [6] (fun i wr => ∃ (t : Nat) (m : Int), t ≤ N ∧ m = (N : Int) - 1 - t ∧ i = .int .i64 m ∧ MarkB wr w.heap.size N (S t) ∧ Below w.heap.size w wr) (fun i _ => (RowKit.intOf i + 1).toNat)
  case atStart => exact ⟨0, (N : Int) - 1, Nat.zero_le _, by simp, by go_num, HM.out, HB.out⟩
  case round =>
    obtain ⟨t, m, ht, hmt, rfl, hm, hb⟩ := hrel
    obtain ⟨wo, ewo⟩ : ∃ u, u = wr := ⟨_, rfl⟩
    subst ewo
    have HM := Lib.hid hm
    have HB := Lib.hid hb
    clear hm hb
    by_cases hlt : t < N
    · obtain ⟨j, hj⟩ : ∃ j : Nat, N - 1 - t = j := ⟨_, rfl⟩
      obtain rfl : m = (j : Int) := by omega
      have hjN : j < N := by omega
      have EYt := Lib.hid (EY.out t)
      have ENt := Lib.hid (EN.out t)
      rw [hj] at EYt ENt
      have HJ := Lib.hid hmt
      clear hmt hj
      have b1 : (0 : Int) ≤ (j : Int) := by omega
      have b2 : (j : Int) < (N : Int) := by omega
      have qm := HM.out.cell j hjN
      cases hp : S t (j : Int)
      · have G := Lib.hid (ENt.out hp)
        rw [hp] at qm
        clear hp
        go_wp2
        go_roundw
        case rel => exact ⟨t + 1, (j : Int) - 1, by omega, by have := HJ.out; omega, by go_num, by rw [G.out]; exact HM.out, HB.out⟩
        case measure => simp [RowKit.intOf]
      · have G := Lib.hid (EYt.out hp)
        rw [hp] at qm
        clear hp
        obtain ⟨b, off, A', c', rfl, hE⟩ := ER.out j hjN
        have HE := Lib.hid hE
        obtain ⟨q1, _⟩ := hE wo HB.out
        have EIj := Lib.hid (EI.out j hjN)
        have ELj := EL.out j hjN
        clear hE
        generalize xss.getD j [] = ys at *
        have M0 : Hid (adT (S t) ys 0 = S t) := adT_zero _ _
        have ME : Hid (adT (S t) ys ys.length = S (t + 1)) := (adT_all _ _).trans G.out.symm
        have MP : Hid (∀ q x : Nat, q < ys.length → ys.getD q 0 = (x : Int) → ∀ j : Nat, adT (S t) ys (q + 1) j = if j = x then true else adT (S t) ys q j) := fun q x hq hx => adT_put _ hq hx
        clear G
        generalize adT (S t) ys = M at *
        go_wp2_with fail
        go_loopw [29] (fun x wz => ∃ q : Nat, q ≤ ys.length ∧ x = .int .i64 q ∧ MarkB wz w.heap.size N (M q) ∧ Below w.heap.size w wz) (fun x _ => ys.length - (RowKit.intOf x).toNat)
        case atStart => exact ⟨0, Nat.zero_le _, rfl, by rw [M0.out]; exact HM.out, HB.out⟩
        case round =>
          obtain ⟨q, hq, rfl, hmz, hbz⟩ := hrel
          have HMz := Lib.hid hmz
          have HBz := Lib.hid hbz
          clear hmz hbz
          by_cases hql : q < ys.length
          · obtain ⟨bY, oY, rfl, _, q2⟩ := (HE.out _ HBz.out).2.at2 hql
            obtain ⟨s0, s1⟩ := EIj.out q hql
            have MPq := Lib.hid (fun x => MP.out q x hql)
            generalize ys.getD q 0 = x at *
            obtain ⟨i, rfl⟩ := Int.eq_ofNat_of_zero_le s0
            have hiN : i < N := by omega
            have q3 := HMz.out.cell i hiN
            have q4 := HMz.out.frozen i
            have N1 := Lib.hid (HMz.out.put (b := true) hiN (fun j _ => MPq.out i rfl j))
            have NB : Hid (Below w.heap.size w (wr.setCell ⟨w.heap.size, i, none⟩ (.bool true))) := HBz.out.setCell (Nat.le_refl _) _
            have c1 : (0 : Int) ≤ (q : Int) := by omega
            have c2 : (q : Int) < (ys.length : Int) := by omega
            generalize M q (i : Int) = z at *
            go_wp2
            go_roundw
            case rel => exact ⟨q + 1, by omega, by go_num, N1.out.1, NB.out⟩
            case measure => simp [RowKit.intOf]; omega
          · obtain rfl : q = ys.length := by omega
            have HP := Lib.hid HMz.out
            rw [ME.out] at HP
            go_wp2
            go_roundw
            case rel => exact ⟨t + 1, (j : Int) - 1, by omega, by have := HJ.out; omega, by go_num, HP.out, HBz.out⟩
            case measure => simp [RowKit.intOf]
    · obtain rfl : t = N := by omega
      obtain rfl : m = -1 := by omega
      go_wp2_with fail
      refine (c_clList w.heap.size t (S t) wo (by omega) HM.out).mono ?_
      rintro e w2 ⟨q, rfl, hq, hb2⟩
      have HQ := Lib.hid (hq.mono HB.out.size)
      have HB2 : Hid (Below w.heap.size w w2) := HB.out.trans (hb2.mono HB.out.size)
      clear hq hb2
      go_wp2
      go_ret
      exact ⟨_, rfl, by rw [EE.out]; exact HQ.out, HB2.out⟩

set_option maxHeartbeats 4000000 in
set_option maxRecDepth 100000 in
theorem c_clIs (xss : List (List Int)) (l : List Int) (v u : Value) (w : World) (ha : arcB xss = true) (hr : InN xss.length l) (hl : l.length ≤ 4000000) (h : SeenL w v xss) (hs : Seen w u l) :
    Calls Try.prog 48 #[v, u] w fun e w' => e = .returned (.bool (closB xss l)) ∧ Below w.heap.size w w' := by
  have HC := Lib.hid hs
  have hN := arc_len ha
  have C1 := Lib.hid (c_clMarks xss.length l u w (by omega) (by omega) hl hr hs)
  obtain ⟨A, c, rfl, _⟩ := h.shape
  obtain ⟨A2, c2, rfl⟩ := hs.shape
  have ER : Hid (∀ k, k < xss.length → ∃ b off A' c', A = some ⟨b, off, none⟩ ∧ ∀ u, Below w.heap.size w u → u.cell? ⟨b, off + k, none⟩ = some (.slice A' (xss.getD k []).length c') ∧ Seen u (.slice A' (xss.getD k []).length c') (xss.getD k [])) := fun k hk => h.row2 hk
  have EI : Hid (∀ i, i < xss.length → ∀ t, t < (xss.getD i []).length → 0 ≤ (xss.getD i []).getD t 0 ∧ (xss.getD i []).getD t 0 < (xss.length : Int)) := fun i hi t ht => arc_in ha hi _ (getD_memN ht)
  have EL : Hid (∀ i, i < xss.length → (xss.getD i []).length ≤ 120) := fun i hi => arc_slen ha hi
  have EC : Hid (∀ k, k < l.length → 0 ≤ l.getD k 0 ∧ l.getD k 0 < (xss.length : Int)) := fun k hk => hr _ (getD_memN hk)
  obtain ⟨f, hf⟩ : ∃ f : Int → Bool, f = fun i => (xss.getD i.toNat []).all (inL l) := ⟨_, rfl⟩
  have EF : Hid (∀ i : Nat, (xss.getD i []).all (inL l) = f i) := fun i => by rw [hf]; simp
  have EA : Hid ((∀ q, q < l.length → f (l.getD q 0) = true) → closB xss l = true) := fun h => by unfold closB; rw [← hf]; exact all_yes h
  have EB : Hid (∀ k, k < l.length → f (l.getD k 0) = false → closB xss l = false) := fun k hk h => by unfold closB; rw [← hf]; exact all_no hk h
  clear h hs hr ha hf
  generalize closB xss l = g at *
  generalize inL l = p at *
  generalize hn : xss.length = N at *
  clear hn
  go_enter Try.func48, Try.ntmps48
  go_wp2_with fail
  refine C1.out.mono ?_
  rintro e w1 ⟨rfl, hm, hb⟩
  have HM := Lib.hid hm
  have HB := Lib.hid hb
  have hw1 : w.heap.size < w1.heap.size := hm.lt (by omega)
  have HCr := Lib.hid (HC.out.below hb)
  clear hm hb
  go_wp2_with fail
  go_loop [16] (fun i => ∃ k : Nat, k ≤ l.length ∧ i = .int .i64 k ∧ ∀ q, q < k → f (l.getD q 0) = true) (fun i => l.length - (RowKit.intOf i).toNat)
  case atStart => exact ⟨0, Nat.zero_le _, rfl, fun q hq => by omega⟩
  case round =>
    obtain ⟨k, hk, rfl, hq⟩ := hrel
    have HQ := Lib.hid hq
    clear hq
    by_cases hlt : k < l.length
    · obtain ⟨bC, oC, rfl, _, q0⟩ := HCr.out.at2 hlt
      obtain ⟨r0, r1⟩ := EC.out k hlt
      have EBk := Lib.hid (EB.out k hlt)
      have EQk : Hid (f (l.getD k 0) = true → ∀ q, q < k + 1 → f (l.getD q 0) = true) := fun h q hq => by
        by_cases e : q = k
        · rw [e]; exact h
        · exact HQ.out q (by omega)
      generalize hx : l.getD k 0 = x at *
      obtain ⟨i, rfl⟩ := Int.eq_ofNat_of_zero_le r0
      have hiN : i < N := by omega
      obtain ⟨b, off, A', c', rfl, hE⟩ := ER.out i hiN
      obtain ⟨q1, hse⟩ := hE w1 HB.out
      have HSe := Lib.hid hse
      have EIi := Lib.hid (EI.out i hiN)
      have ELi := EL.out i hiN
      have EFi := Lib.hid (EF.out i)
      have b1 : (0 : Int) ≤ (k : Int) := by omega
      have b2 : (k : Int) < (l.length : Int) := by omega
      have b3 : (0 : Int) ≤ (i : Int) := by omega
      clear hE hse hx
      generalize xss.getD i [] = ys at *
      have EY : Hid ((∀ q, q < ys.length → p (ys.getD q 0) = true) → f i = true) := fun h => by rw [← EFi.out]; exact all_yes h
      have EN : Hid (∀ q, q < ys.length → p (ys.getD q 0) = false → f i = false) := fun q hq h => by rw [← EFi.out]; exact all_no hq h
      go_wp2_with fail
      go_loop [25] (fun x => ∃ t : Nat, t ≤ ys.length ∧ x = .int .i64 t ∧ ∀ q, q < t → p (ys.getD q 0) = true) (fun x => ys.length - (RowKit.intOf x).toNat)
      case atStart => exact ⟨0, Nat.zero_le _, rfl, fun q hq => by omega⟩
      case round =>
        obtain ⟨t, ht, rfl, hq⟩ := hrel
        have HT := Lib.hid hq
        clear hq
        by_cases htl : t < ys.length
        · obtain ⟨bY, oY, rfl, _, q2⟩ := HSe.out.at2 htl
          obtain ⟨s0, s1⟩ := EIi.out t htl
          have ENt := Lib.hid (EN.out t htl)
          have ETt : Hid (p (ys.getD t 0) = true → ∀ q, q < t + 1 → p (ys.getD q 0) = true) := fun h q hq => by
            by_cases e : q = t
            · rw [e]; exact h
            · exact HT.out q (by omega)
          generalize ys.getD t 0 = x at *
          obtain ⟨n, rfl⟩ := Int.eq_ofNat_of_zero_le s0
          have hnN : n < N := by omega
          have q3 := HM.out.cell n hnN
          have c1 : (0 : Int) ≤ (t : Int) := by omega
          have c2 : (t : Int) < (ys.length : Int) := by omega
          cases hp : p (n : Int)
          · have G := Lib.hid (EBk.out (ENt.out hp))
            rw [hp] at q3
            clear hp
            go_wp2
            go_ret
            exact ⟨ret_bool G.out.symm, HB.out⟩
          · have G := Lib.hid (ETt.out hp)
            rw [hp] at q3
            clear hp
            go_wp2
            go_round
            case rel => exact ⟨t + 1, by omega, by go_num, G.out⟩
            case measure => simp [RowKit.intOf]; omega
        · obtain rfl : t = ys.length := by omega
          have G := Lib.hid (EQk.out (EY.out HT.out))
          go_wp2
          go_round
          case rel => exact ⟨k + 1, by omega, by go_num, G.out⟩
          case measure => simp [RowKit.intOf]; omega
    · obtain rfl : k = l.length := by omega
      have G := Lib.hid (EA.out HQ.out)
      go_wp2
      go_ret
      exact ⟨ret_bool G.out.symm, HB.out⟩
end Go.Proofs.Ytfpjodoimfbadaa
