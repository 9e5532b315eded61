/-
  Contracts: cuts and their values, in the program and in the model of it.
-/
import Derived.Test.YtkdhjmidpijkeaaZD
import Derived.Test.YtkdhjmidpijkeaaN5
import Derived.Test.YtkdhjmidpijkeaaM6
import Derived.Test.YtkdhjmidpijkeaaAP
import Derived.IntWalk
namespace Go.Proofs.Ytkdhjmidpijkeaa
open Go.RowKit
set_option linter.unusedVariables false

def hasI (ys : List Int) (x : Int) : Bool := decide (x ∈ ys)
theorem hasI_hit {ys : List Int} {k : Nat} (hk : k < ys.length) : hasI ys (ys.getD k 0) = true := by
  unfold hasI
  rw [List.getD_eq_getElem?_getD, List.getElem?_eq_getElem hk]
  exact decide_eq_true (List.getElem_mem hk)
theorem hasI_miss {ys : List Int} {x : Int} (h : ∀ k, k < ys.length → ys.getD k 0 ≠ x) : hasI ys x = false := by
  unfold hasI
  refine decide_eq_false (fun hm => ?_)
  obtain ⟨k, hk, e⟩ := List.getElem_of_mem hm
  exact h k hk (by rw [List.getD_eq_getElem?_getD, List.getElem?_eq_getElem hk]; exact e)

set_option maxHeartbeats 2000000 in
theorem c_l1Has (ys : List Int) (x : Int) (v : Value) (w : World) (hl : ys.length ≤ 4000000) (h : Seen w v ys) :
    Calls Try.prog 87 #[v, .int .i64 x] w fun e w' => e = .returned (.bool (hasI ys x)) ∧ w = w' := by
  obtain ⟨A, c, rfl, _, hA⟩ := h
  have E1 : Hid (∀ k : Nat, k < ys.length → ∃ b off, A = some ⟨b, off, none⟩ ∧ w.cell? ⟨b, off + k, none⟩ = some (.int .i64 (ys.getD k 0))) := fun k hk => by
    obtain ⟨b, off, rfl, _, hc⟩ := hA (by omega)
    exact ⟨b, off, rfl, hc k hk⟩
  have H1 : Hid (∀ k, k < ys.length → ys.getD k 0 = x → hasI ys x = true) := fun k hk e => by rw [← e]; exact hasI_hit hk
  have H2 : Hid ((∀ k, k < ys.length → ys.getD k 0 ≠ x) → hasI ys x = false) := hasI_miss
  clear hA
  generalize hasI ys x = R at *
  generalize ys.length = n at *
  go_enter Try.func87, Try.ntmps87
  go_wp2_with fail
  go_loop [9] (fun i => ∃ k : Nat, k ≤ n ∧ i = .int .i64 k ∧ ∀ j, j < k → ys.getD j 0 ≠ x) (fun i => n - (RowKit.intOf i).toNat)
  case atStart => exact ⟨0, Nat.zero_le _, rfl, fun j hj => by omega⟩
  case round =>
    obtain ⟨k, hk, rfl, hm⟩ := hrel
    have HM := Lib.hid hm
    clear hm
    by_cases hlt : k < n
    · obtain ⟨b, off, rfl, q0⟩ := E1.out k hlt
      have b1 : (0 : Int) ≤ (k : Int) := by omega
      have b2 : (k : Int) < (n : Int) := by omega
      by_cases he : ys.getD k 0 = x
      · have G := Lib.hid (H1.out k hlt he)
        rw [he] at q0
        clear he
        go_wp2
        go_ret
        exact ⟨ret_bool G.out.symm, rfl⟩
      · have HM2 : Hid (∀ j, j < k + 1 → ys.getD j 0 ≠ x) := fun j hj => by
          by_cases e : j = k
          · rw [e]; exact he
          · exact HM.out j (by omega)
        have he' : (ys.getD k 0 == x) = false := beq_eq_false_iff_ne.2 he
        clear he
        generalize ys.getD k 0 = y at *
        go_wp2
        go_round
        case rel => exact ⟨k + 1, by omega, by go_num, HM2.out⟩
        case measure => simp [RowKit.intOf]; omega
    · obtain rfl : k = n := by omega
      have G := Lib.hid (H2.out HM.out)
      go_wp2
      go_ret
      exact ⟨ret_bool G.out.symm, rfl⟩

theorem hasI_inL (ys : List Int) (x : Int) : hasI ys x = inL ys x := by
  cases h : inL ys x
  · exact decide_eq_false (fun hm => by rw [inL_iff.2 hm] at h; cases h)
  · exact decide_eq_true (inL_iff.1 h)
/-- Nodes of a network, the source among them, the sink not. -/
def cutB (n : Int) (l : List Int) : Bool := risB (n - 1) l && (decide (0 < l.length) && decide (l.getD 0 0 = 0))
/-- The capacities out of the nodes p, of the first k edges. -/
def cvS (p : Int → Bool) (xs : List Int) : Nat → Int
  | 0 => 0
  | k + 1 => cvS p xs k + (if p (xs.getD (k * 3) 0) && !p (xs.getD (k * 3 + 1) 0) then xs.getD (k * 3 + 2) 0 else 0)
theorem cvS_in {n : Int} {m : Nat} {p : Int → Bool} {xs : List Int} (h : edgAll n m xs = true) : ∀ {k : Nat}, k ≤ m → 0 ≤ cvS p xs k ∧ cvS p xs k ≤ k * 1000000000
  | 0, _ => by simp [cvS]
  | k + 1, hk => by
    have h1 := cvS_in (p := p) h (k := k) (by omega)
    have h2 := edg_true (edgAll_at h (show k < m by omega))
    unfold cvS
    split <;> omega
def cvV (n : Int) (m : Nat) (xs l : List Int) : Int := if netB n m xs && cutB n l then cvS (inL l) xs m else 0
def cvB (n : Int) (m : Nat) (xs l : List Int) : Bool := netB n m xs && cutB n l
theorem cv_no1 {n : Int} {m : Nat} {xs l : List Int} (h : netB n m xs = false) : cvV n m xs l = 0 ∧ cvB n m xs l = false := by unfold cvV cvB; rw [h]; exact ⟨rfl, rfl⟩
theorem cv_no2 {n : Int} {m : Nat} {xs l : List Int} (h : cutB n l = false) : cvV n m xs l = 0 ∧ cvB n m xs l = false := by unfold cvV cvB; rw [h, Bool.and_false]; exact ⟨rfl, rfl⟩
theorem cv_yes {n : Int} {m : Nat} {xs l : List Int} (h : netB n m xs = true) (k : cutB n l = true) : cvV n m xs l = cvS (inL l) xs m ∧ cvB n m xs l = true := by unfold cvV cvB; rw [h, k]; exact ⟨rfl, rfl⟩
theorem cut_in {n : Int} {N : Nat} {l : List Int} (hn : (N : Int) = n) (h : cutB n l = true) : InN N l := fun x hx => by
  unfold cutB at h
  simp only [Bool.and_eq_true] at h
  have := ris_mem h.1 hx
  omega

set_option maxHeartbeats 2000000 in
theorem c_isCut (n : Int) (l : List Int) (v : Value) (w : World) (h2 : 2 ≤ n) (h3 : n ≤ 130) (hl : l.length ≤ 4000000) (h : Seen w v l) :
    Calls Try.prog 69 #[.int .i64 n, v] w fun e w' => e = .returned (.bool (cutB n l)) ∧ w = w' := by
  have C0 := Lib.hid (c_areBlocksBelow (n - 1) l v w hl h)
  obtain ⟨A, c, rfl, hm, hA⟩ := h
  clear hm
  unfold cutB
  cases hr : risB (n - 1) l
  · rw [hr] at C0
    clear hr hA
    go_enter Try.func69, Try.ntmps69
    go_wp2_with fail
    refine C0.out.mono ?_
    rintro e w1 ⟨rfl, rfl⟩
    go_wp2
    go_ret
    exact ⟨rfl, rfl⟩
  · rw [hr] at C0
    clear hr
    by_cases h0 : 0 < l.length
    · obtain ⟨b, off, rfl, hb, hc⟩ := hA h0
      have q0 := hc 0 h0
      rw [Nat.add_zero] at q0
      have b1 : (0 : Int) < (l.length : Int) := by omega
      have d1 : decide (0 < l.length) = true := decide_eq_true h0
      rw [d1]
      clear hc hA d1
      generalize l.getD 0 0 = x at *
      by_cases hx : x = 0
      · subst hx
        go_enter Try.func69, Try.ntmps69
        go_wp2_with fail
        refine C0.out.mono ?_
        rintro e w1 ⟨rfl, rfl⟩
        go_wp2
        go_ret
        exact ⟨rfl, rfl⟩
      · have hx' : (x == 0) = false := beq_eq_false_iff_ne.2 hx
        have hd : Hid (decide (x = 0) = false) := decide_eq_false hx
        rw [hd.out]
        clear hx
        go_enter Try.func69, Try.ntmps69
        go_wp2_with fail
        refine C0.out.mono ?_
        rintro e w1 ⟨rfl, rfl⟩
        go_wp2
        go_ret
        exact ⟨rfl, rfl⟩
    · have b1 : ¬ (0 : Int) < (l.length : Int) := by omega
      have d1 : decide (0 < l.length) = false := decide_eq_false h0
      rw [d1]
      clear hA d1 h0
      go_enter Try.func69, Try.ntmps69
      go_wp2_with fail
      refine C0.out.mono ?_
      rintro e w1 ⟨rfl, rfl⟩
      go_wp2
      go_ret
      exact ⟨rfl, rfl⟩

set_option maxHeartbeats 2000000 in
theorem c_mfCut (n : Int) (l : List Int) (v : Value) (w : World) (h2 : 2 ≤ n) (h3 : n ≤ 130) (hl : l.length ≤ 4000000) (h : Seen w v l) :
    Calls Try.prog 77 #[.int .i64 n, v] w fun e w' => e = .returned (.bool (cutB n l)) ∧ w = w' := by
  have C0 := Lib.hid (c_l1Rising (n - 1) l v w (by omega) (by omega) hl h)
  rw [show n - 1 - 1 = n - 2 by omega] at C0
  obtain ⟨A, c, rfl, hm, hA⟩ := h
  clear hm
  unfold cutB
  cases hr : risB (n - 1) l
  · rw [hr] at C0
    clear hr hA
    go_enter Try.func77, Try.ntmps77
    go_wp2_with fail
    refine C0.out.mono ?_
    rintro e w1 ⟨rfl, rfl⟩
    go_wp2
    go_ret
    exact ⟨rfl, rfl⟩
  · rw [hr] at C0
    clear hr
    by_cases h0 : 0 < l.length
    · obtain ⟨b, off, rfl, hb, hc⟩ := hA h0
      have q0 := hc 0 h0
      rw [Nat.add_zero] at q0
      have b1 : (0 : Int) < (l.length : Int) := by omega
      have d1 : decide (0 < l.length) = true := decide_eq_true h0
      rw [d1]
      clear hc hA d1
      generalize l.getD 0 0 = x at *
      by_cases hx : x = 0
      · subst hx
        go_enter Try.func77, Try.ntmps77
        go_wp2_with fail
        refine C0.out.mono ?_
        rintro e w1 ⟨rfl, rfl⟩
        go_wp2
        go_ret
        exact ⟨rfl, rfl⟩
      · have hx' : (x == 0) = false := beq_eq_false_iff_ne.2 hx
        have hd : Hid (decide (x = 0) = false) := decide_eq_false hx
        rw [hd.out]
        clear hx
        go_enter Try.func77, Try.ntmps77
        go_wp2_with fail
        refine C0.out.mono ?_
        rintro e w1 ⟨rfl, rfl⟩
        go_wp2
        go_ret
        exact ⟨rfl, rfl⟩
    · have b1 : ¬ (0 : Int) < (l.length : Int) := by omega
      have d1 : decide (0 < l.length) = false := decide_eq_false h0
      rw [d1]
      clear hA d1 h0
      go_enter Try.func77, Try.ntmps77
      go_wp2_with fail
      refine C0.out.mono ?_
      rintro e w1 ⟨rfl, rfl⟩
      go_wp2
      go_ret
      exact ⟨rfl, rfl⟩

set_option maxHeartbeats 4000000 in
theorem c_mfCutValue (n : Int) (m : Nat) (xs l : List Int) (v u : Value) (w : World) (hn : netB n m xs = true) (hl : l.length ≤ 4000000) (h : SeenP w v m xs) (hu : Seen w u l) :
    Calls Try.prog 78 #[v, u] w fun e w' => e = .returned (.int .i64 (cvS (inL l) xs m)) ∧ Below w.heap.size w w' := by
  obtain ⟨A, c, rfl, hm, hx, hA⟩ := h
  obtain ⟨n1, n2, n3, hE⟩ := net_true hn
  have E0 : Hid (∀ k : Nat, k < m → ∃ b off, A = some ⟨b, off, none⟩ ∧ b < w.heap.size ∧ ∀ j : Nat, j < m * 3 → w.cell? ⟨b, off + j, none⟩ = some (.int .i64 (xs.getD j 0))) := fun k hk => hA (by omega)
  have EB : Hid (∀ k : Nat, k < m → edgB n (xs.getD (k * 3) 0) (xs.getD (k * 3 + 1) 0) (xs.getD (k * 3 + 2) 0) = true) := fun k hk => edgAll_at hE hk
  have SI : Hid (∀ k : Nat, k ≤ m → 0 ≤ cvS (inL l) xs k ∧ cvS (inL l) xs k ≤ k * 1000000000) := fun k hk => cvS_in hE hk
  have SS : Hid (∀ k : Nat, cvS (inL l) xs (k + 1) = cvS (inL l) xs k + (if inL l (xs.getD (k * 3) 0) && !inL l (xs.getD (k * 3 + 1) 0) then xs.getD (k * 3 + 2) 0 else 0)) := fun k => rfl
  have S0 : Hid (cvS (inL l) xs 0 = 0) := rfl
  have CH : Hid (∀ (x : Int) (w1 : World), Below w.heap.size w w1 → Calls Try.prog 87 #[u, .int .i64 x] w1 fun e w' => e = .returned (.bool (inL l x)) ∧ w1 = w') := fun x w1 hb => by rw [← hasI_inL]; exact c_l1Has l x u w1 hl (hu.below hb)
  obtain ⟨A2, c2, rfl⟩ := hu.shape
  clear hA hE hn hx hm hu
  generalize cvS (inL l) xs = F at *
  generalize inL l = p at *
  go_enter Try.func78, Try.ntmps78
  go_wp2_with fail
  go_loopw [5, 10] (fun q i wr => ∃ k : Nat, k ≤ m ∧ i = .int .i64 k ∧ q = .int .i64 (F k) ∧ Below w.heap.size w wr) (fun _ i _ => m - (RowKit.intOf i).toNat)
  case atStart => exact ⟨0, Nat.zero_le _, rfl, by rw [S0.out], Below.refl _ _⟩
  case round =>
    obtain ⟨k, hk, rfl, rfl, hb⟩ := hrel
    have HB := Lib.hid hb
    clear hb
    by_cases hlt : k < m
    · obtain ⟨b, off, rfl, hbl, hc⟩ := E0.out k hlt
      have q0 : wr.cell? ⟨b, off + k * 3, none⟩ = some (.int .i64 (xs.getD (k * 3) 0)) := by rw [HB.out.cell (p := ⟨b, off + k * 3, none⟩) hbl]; exact hc _ (by omega)
      have q1 : wr.cell? ⟨b, off + k * 3 + 1, none⟩ = some (.int .i64 (xs.getD (k * 3 + 1) 0)) := by rw [HB.out.cell (p := ⟨b, off + k * 3 + 1, none⟩) hbl]; exact hc (k * 3 + 1) (by omega)
      have q2 : wr.cell? ⟨b, off + k * 3 + 2, none⟩ = some (.int .i64 (xs.getD (k * 3 + 2) 0)) := by rw [HB.out.cell (p := ⟨b, off + k * 3 + 2, none⟩) hbl]; exact hc (k * 3 + 2) (by omega)
      obtain ⟨f1, f2, f3, f4, f5, f6⟩ := edg_true (EB.out k hlt)
      obtain ⟨s1, s2⟩ := SI.out k (by omega)
      have SSk := Lib.hid (SS.out k)
      clear hc hbl
      generalize xs.getD (k * 3) 0 = f at *
      generalize xs.getD (k * 3 + 1) 0 = t at *
      generalize xs.getD (k * 3 + 2) 0 = r at *
      have b1 : (0 : Int) ≤ (k : Int) := by omega
      have b2 : (k : Int) < (m : Int) := by omega
      have HBa : Hid (Below w.heap.size w (wr.alloc (.cells #[.int .i64 f, .int .i64 t, .int .i64 r] 47))) := HB.out.alloc HB.out.size _
      cases hpf : p f
      · rw [hpf, Bool.false_and] at SSk
        have CHf := Lib.hid (CH.out f)
        rw [hpf] at CHf
        clear hpf
        go_wp2_with fail
        refine (CHf.out _ HBa.out).mono ?_
        rintro e w2 ⟨rfl, rfl⟩
        have G : Hid (F (k + 1) = F k) := by rw [Hid, SSk.out]; simp
        go_wp2
        go_roundw
        case rel => exact ⟨k + 1, by omega, by go_num, by rw [G.out], HBa.out⟩
        case measure => simp [RowKit.intOf]; omega
      · rw [hpf, Bool.true_and] at SSk
        have CHf := Lib.hid (CH.out f)
        rw [hpf] at CHf
        clear hpf
        go_wp2_with fail
        refine (CHf.out _ HBa.out).mono ?_
        rintro e w2 ⟨rfl, rfl⟩
        cases hpt : p t
        · have CHt := Lib.hid (CH.out t)
          rw [hpt] at SSk CHt
          clear hpt
          go_wp2_with fail
          refine (CHt.out _ HBa.out).mono ?_
          rintro e w2 ⟨rfl, rfl⟩
          have G : Hid (F (k + 1) = F k + r) := by rw [Hid, SSk.out]; simp
          go_wp2
          go_roundw
          case rel => exact ⟨k + 1, by omega, by go_num, by rw [G.out], HBa.out⟩
          case measure => simp [RowKit.intOf]; omega
        · have CHt := Lib.hid (CH.out t)
          rw [hpt] at SSk CHt
          clear hpt
          go_wp2_with fail
          refine (CHt.out _ HBa.out).mono ?_
          rintro e w2 ⟨rfl, rfl⟩
          have G : Hid (F (k + 1) = F k) := by rw [Hid, SSk.out]; simp
          go_wp2
          go_roundw
          case rel => exact ⟨k + 1, by omega, by go_num, by rw [G.out], HBa.out⟩
          case measure => simp [RowKit.intOf]; omega
    · obtain rfl : k = m := by omega
      go_wp2
      go_ret
      exact ⟨rfl, HB.out⟩

set_option maxHeartbeats 2000000 in
theorem c_CutValueS (n : Int) (m : Nat) (xs l : List Int) (v u : Value) (w : World) (hw : -9223372036854775808 ≤ n ∧ n ≤ 9223372036854775807) (hm : m ≤ 1048576) (hl : l.length ≤ 4000000) (h : SeenP w v m xs) (hu : Seen w u l) :
    Calls Try.prog 41 #[.int .i64 n, v, u] w fun e w' => e = .returned (.tuple #[.int .i64 (cvV n m xs l), .bool (cvB n m xs l)]) ∧ Below w.heap.size w w' := by
  have C0 := Lib.hid (c_mfGood n m xs v w hm hw h)
  have HS := Lib.hid h
  have HU := Lib.hid hu
  obtain ⟨A, c, rfl, _, _, _⟩ := h
  obtain ⟨A2, c2, rfl⟩ := hu.shape
  have H1 := Lib.hid (cv_no1 (n := n) (m := m) (xs := xs) (l := l))
  have H2 := Lib.hid (cv_no2 (n := n) (m := m) (xs := xs) (l := l))
  have H3 := Lib.hid (cv_yes (n := n) (m := m) (xs := xs) (l := l))
  generalize cvV n m xs l = V at *
  generalize cvB n m xs l = Bb at *
  clear hu hw
  cases hn : netB n m xs
  · obtain ⟨e1, e2⟩ := H1.out hn
    subst e1 e2
    rw [hn] at C0
    clear hn
    go_enter Try.func41, Try.ntmps41
    go_wp2_with fail
    refine C0.out.mono ?_
    rintro e w1 ⟨rfl, hb⟩
    have HB := Lib.hid hb
    clear hb
    go_wp2
    go_ret2
    exact ⟨rfl, HB.out⟩
  · have HN := Lib.hid hn
    obtain ⟨n1, n2, _, _⟩ := net_true hn
    rw [hn] at C0
    clear hn
    go_enter Try.func41, Try.ntmps41
    go_wp2_with fail
    refine C0.out.mono ?_
    rintro e w1 ⟨rfl, hb⟩
    have HB := Lib.hid hb
    have HU1 := Lib.hid (HU.out.below hb)
    have HS1 := Lib.hid (HS.out.below hb)
    clear hb
    have C1 := Lib.hid (c_mfCut n l _ w1 n1 n2 hl HU1.out)
    cases hc : cutB n l
    · obtain ⟨e1, e2⟩ := H2.out hc
      subst e1 e2
      rw [hc] at C1
      clear hc
      go_wp2_with fail
      refine C1.out.mono ?_
      rintro e w2 ⟨rfl, rfl⟩
      go_wp2
      go_ret2
      exact ⟨rfl, HB.out⟩
    · obtain ⟨e1, e2⟩ := H3.out HN.out hc
      subst e1 e2
      rw [hc] at C1
      clear hc
      go_wp2_with fail
      refine C1.out.mono ?_
      rintro e w2 ⟨rfl, rfl⟩
      go_wp2_with fail
      refine (c_mfCutValue n m xs l _ _ w1 HN.out hl HS1.out HU1.out).mono ?_
      rintro e w2 ⟨rfl, hb⟩
      have HB2 : Hid (Below w.heap.size w w2) := HB.out.trans (hb.mono HB.out.size)
      clear hb
      go_wp2
      go_ret2
      exact ⟨rfl, HB2.out⟩

set_option maxHeartbeats 4000000 in
theorem c_CutValue (n : Int) (m : Nat) (xs l : List Int) (v u : Value) (w : World) (hm : m ≤ 1048576) (hl : l.length ≤ 4000000) (h : SeenP w v m xs) (hu : Seen w u l) :
    Calls Try.prog 33 #[.int .i64 n, v, u] w fun e w' => e = .returned (.tuple #[.int .i64 (cvV n m xs l), .bool (cvB n m xs l)]) ∧ Below w.heap.size w w' := by
  have C0 := Lib.hid (c_IsNetwork n m xs v w hm h)
  have HS := Lib.hid h
  have HU := Lib.hid hu
  obtain ⟨A, c, rfl, _, _, _⟩ := h
  obtain ⟨A2, c2, rfl⟩ := hu.shape
  have H1 := Lib.hid (cv_no1 (n := n) (m := m) (xs := xs) (l := l))
  have H2 := Lib.hid (cv_no2 (n := n) (m := m) (xs := xs) (l := l))
  have H3 := Lib.hid (cv_yes (n := n) (m := m) (xs := xs) (l := l))
  generalize cvV n m xs l = V at *
  generalize cvB n m xs l = Bb at *
  clear hu
  cases hn : netB n m xs
  · obtain ⟨e1, e2⟩ := H1.out hn
    subst e1 e2
    rw [hn] at C0
    clear hn
    go_enter Try.func33, Try.ntmps33
    go_wp2_with fail
    refine C0.out.mono ?_
    rintro e w1 ⟨rfl, hb⟩
    have HB := Lib.hid hb
    clear hb
    go_wp2
    go_ret2
    exact ⟨rfl, HB.out⟩
  · have HN := Lib.hid hn
    obtain ⟨n1, n2, n3, hE⟩ := net_true hn
    obtain ⟨N, hNn⟩ := Int.eq_ofNat_of_zero_le (show 0 ≤ n by omega)
    rw [hn] at C0
    clear hn
    have EB : Hid (∀ k : Nat, k < m → edgB n (xs.getD (k * 3) 0) (xs.getD (k * 3 + 1) 0) (xs.getD (k * 3 + 2) 0) = true) := fun k hk => edgAll_at hE hk
    have SI : Hid (∀ k : Nat, k ≤ m → 0 ≤ cvS (inL l) xs k ∧ cvS (inL l) xs k ≤ k * 1000000000) := fun k hk => cvS_in hE hk
    have SS : Hid (∀ k : Nat, cvS (inL l) xs (k + 1) = cvS (inL l) xs k + (if inL l (xs.getD (k * 3) 0) && !inL l (xs.getD (k * 3 + 1) 0) then xs.getD (k * 3 + 2) 0 else 0)) := fun k => rfl
    have S0 : Hid (cvS (inL l) xs 0 = 0) := rfl
    have HNn : Hid ((N : Int) = n) := hNn.symm
    clear hE hNn
    go_enter Try.func33, Try.ntmps33
    go_wp2_with fail
    refine C0.out.mono ?_
    rintro e w1 ⟨rfl, hb⟩
    have HB := Lib.hid hb
    have HU1 := Lib.hid (HU.out.below hb)
    have HS1 := Lib.hid (HS.out.below hb)
    clear hb
    have C1 := Lib.hid (c_isCut n l _ w1 n1 n2 hl HU1.out)
    cases hc : cutB n l
    · obtain ⟨e1, e2⟩ := H2.out hc
      subst e1 e2
      rw [hc] at C1
      clear hc
      go_wp2_with fail
      refine C1.out.mono ?_
      rintro e w2 ⟨rfl, rfl⟩
      go_wp2
      go_ret2
      exact ⟨rfl, HB.out⟩
    · obtain ⟨e1, e2⟩ := H3.out HN.out hc
      subst e2
      have HV := Lib.hid e1
      clear e1
      rw [hc] at C1
      have HIn := Lib.hid (cut_in HNn.out hc)
      clear hc
      go_wp2_with fail
      refine C1.out.mono ?_
      rintro e w2 ⟨rfl, rfl⟩
      have hN1000 : N ≤ 1000 := by have := HNn.out; omega
      go_wp2_with fail
      refine (c_marksOf N l _ w1 hl hN1000 HU1.out HIn.out).mono ?_
      rintro e w2 ⟨rfl, hm2, hb⟩
      have HM := Lib.hid hm2
      have HB2 := Lib.hid hb
      have HB3 : Hid (Below w.heap.size w w2) := HB.out.trans (hb.mono HB.out.size)
      have HS2 := Lib.hid (HS1.out.below hb)
      clear hm2 hb
      generalize hF : cvS (inL l) xs = F at *
      clear hF
      generalize inL l = p at *
      go_wp2_with fail
      go_loopw [9, 26] (fun q i wr => ∃ k : Nat, k ≤ m ∧ i = .int .i64 k ∧ q = .int .i64 (F k) ∧ Below w2.heap.size w2 wr) (fun _ i _ => m - (RowKit.intOf i).toNat)
      case atStart => exact ⟨0, Nat.zero_le _, rfl, by rw [S0.out], Below.refl _ _⟩
      case round =>
        obtain ⟨k, hk, rfl, rfl, hb⟩ := hrel
        have HBr := Lib.hid hb
        clear hb
        by_cases hlt : k < m
        · obtain ⟨A3, c3, e3, _, _, hA⟩ := HS2.out
          simp at e3
          obtain ⟨rfl, rfl⟩ := e3
          obtain ⟨b, off, rfl, hbl, hc⟩ := hA (by omega)
          clear hA
          have q0 : wr.cell? ⟨b, off + k * 3, none⟩ = some (.int .i64 (xs.getD (k * 3) 0)) := by rw [HBr.out.cell (p := ⟨b, off + k * 3, none⟩) hbl]; exact hc _ (by omega)
          have q1 : wr.cell? ⟨b, off + k * 3 + 1, none⟩ = some (.int .i64 (xs.getD (k * 3 + 1) 0)) := by rw [HBr.out.cell (p := ⟨b, off + k * 3 + 1, none⟩) hbl]; exact hc (k * 3 + 1) (by omega)
          have q2 : wr.cell? ⟨b, off + k * 3 + 2, none⟩ = some (.int .i64 (xs.getD (k * 3 + 2) 0)) := by rw [HBr.out.cell (p := ⟨b, off + k * 3 + 2, none⟩) hbl]; exact hc (k * 3 + 2) (by omega)
          obtain ⟨f1, f2, f3, f4, f5, f6⟩ := edg_true (EB.out k hlt)
          obtain ⟨s1, s2⟩ := SI.out k (by omega)
          have SSk := Lib.hid (SS.out k)
          clear hc hbl
          generalize xs.getD (k * 3) 0 = f at *
          generalize xs.getD (k * 3 + 1) 0 = t at *
          generalize xs.getD (k * 3 + 2) 0 = r at *
          have b1 : (0 : Int) ≤ (k : Int) := by omega
          have b2 : (k : Int) < (m : Int) := by omega
          have HBa : Hid (Below w2.heap.size w2 (wr.alloc (.cells #[.int .i64 f, .int .i64 t, .int .i64 r] 47))) := HBr.out.alloc HBr.out.size _
          have HMr := Lib.hid (HM.out.below HBa.out HM.out.lt)
          have lf := HMr.out.look f (by omega) (by have := HNn.out; omega) hN1000
          have lt := HMr.out.look t (by omega) (by have := HNn.out; omega) hN1000
          clear HMr
          cases hpf : p f
          · rw [hpf, Bool.false_and] at SSk
            rw [hpf] at lf
            clear hpf
            have G : Hid (F (k + 1) = F k) := by rw [Hid, SSk.out]; simp
            go_wp2
            go_roundw
            case rel => exact ⟨k + 1, by omega, by go_num, by rw [G.out], HBa.out⟩
            case measure => simp [RowKit.intOf]; omega
          · rw [hpf, Bool.true_and] at SSk
            rw [hpf] at lf
            clear hpf
            cases hpt : p t
            · rw [hpt] at SSk lt
              clear hpt
              have G : Hid (F (k + 1) = F k + r) := by rw [Hid, SSk.out]; simp
              go_wp2
              go_roundw
              case rel => exact ⟨k + 1, by omega, by go_num, by rw [G.out], HBa.out⟩
              case measure => simp [RowKit.intOf]; omega
            · rw [hpt] at SSk lt
              clear hpt
              have G : Hid (F (k + 1) = F k) := by rw [Hid, SSk.out]; simp
              go_wp2
              go_roundw
              case rel => exact ⟨k + 1, by omega, by go_num, by rw [G.out], HBa.out⟩
              case measure => simp [RowKit.intOf]; omega
        · obtain rfl : k = m := by omega
          have G : Hid (Below w.heap.size w wr) := HB3.out.trans (HBr.out.mono HB3.out.size)
          go_wp2
          go_ret2
          exact ⟨by rw [HV.out]; rfl, G.out⟩

end Go.Proofs.Ytkdhjmidpijkeaa
