/-
Contracts of the law's own helpers over lists of lists: marked, with what stays above them.
Contracts of the law's own helpers over lists of lists: two compared.
Contracts of the law's own helpers over lists of lists: marked.
-/
import Derived.Test.YtfpjodoimfbadaaR1
namespace Go.Proofs.Ytfpjodoimfbadaa
open Go.RowKit
set_option linter.unusedVariables false

def Above (U : Nat) (w w' : World) : Prop := ∀ k, U ≤ k → k < w.heap.size → w'.heap[k]? = w.heap[k]?
theorem Above.refl (U : Nat) (w : World) : Above U w w := fun _ _ _ => rfl
theorem Above.grown {U : Nat} {w w1 w2 : World} {o : Option Nat} (h : Above U w w1) (hs : w.heap.size ≤ w1.heap.size) (hg : w1.grownBy w2 o) (ho : ∀ j, o = some j → j < U) : Above U w w2 := fun k hk hl => by
  rw [hg.block k (Nat.lt_of_lt_of_le hl hs) (fun e => by have := ho k (by first | exact e | exact e.symm); omega)]
  exact h k hk hl

set_option maxHeartbeats 4000000 in
theorem c_markIntSS2 (xss : List (List Int)) (v : Value) (B U : Nat) (k0 : Int) (w : World) (hl : xss.length ≤ 1048576) (ht : totN xss xss.length ≤ 1048576) (hk1 : 0 ≤ k0) (hk2 : k0 ≤ 1100000) (h : Rows w B U v xss) (hB : B ≤ w.heap.size) :
    Calls Try.prog 12 #[v, .int .i64 k0] w fun e w' => e = .returned (.int .i64 (k0 + totN xss xss.length)) ∧ Rows w' B U v (marksTo k0 xss xss.length) ∧ Below B w w' ∧ Above U w w' := by
  by_cases h0 : xss.length = 0
  · obtain rfl : xss = [] := List.eq_nil_of_length_eq_zero h0
    obtain ⟨A1, c1, rfl⟩ := h.shape
    have H := Lib.hid h
    clear h h0 hl
    go_enter Try.func12, Try.ntmps12
    go_wp2
    go_rounds 1
    go_ret
    exact ⟨ret_int (by simp [totN]), H.out, Below.refl _ _, Above.refl _ _⟩
  · obtain ⟨vs, k1⟩ := h
    obtain ⟨g, c, rfl, _, lt1⟩ := k1.form (by omega)
    have HL : Hid (∀ i, (marksTo k0 xss i).length = xss.length) := marksTo_len k0 xss
    have HD : Hid (∀ i, (marksTo k0 xss i).getD i [] = xss.getD i []) := fun i => marksTo_later k0 xss (Nat.le_refl _)
    have HS : Hid (∀ i, (marksTo k0 xss i).set i (marks (k0 + totN xss i) (xss.getD i []).length) = marksTo k0 xss (i + 1)) := fun i => rfl
    have HT : Hid (∀ i, totN xss i + (xss.getD i []).length = totN xss (i + 1)) := fun i => rfl
    have HM : Hid (∀ i, i ≤ xss.length → totN xss i ≤ 1048576) := fun i hi => Nat.le_trans (tot_mono xss hi) ht
    have H0 : Hid (RowsV w B U (.slice (some ⟨g, 0, none⟩) xss.length c) (marksTo k0 xss 0) vs) := k1
    have HZ : Hid (totN xss 0 = 0) := rfl
    clear k1 h0 ht
    generalize marksTo k0 xss = M at *
    have HF : Hid (∀ i, i ≤ xss.length → 0 ≤ k0 + (totN xss i : Int) ∧ k0 + (totN xss i : Int) ≤ 3000000) := fun i hi => by have := HM.out i hi; omega
    have HT' : Hid (∀ i, k0 + (totN xss i : Int) + ((xss.getD i []).length : Int) = k0 + (totN xss (i + 1) : Int)) := fun i => by have := HT.out i; omega
    have HZ' : Hid (k0 + (totN xss 0 : Int) = k0) := by unfold Hid; rw [HZ.out]; simp
    have HS' : Hid (∀ i, (M i).set i (marks ((fun i => k0 + (totN xss i : Int)) i) (xss.getD i []).length) = M (i + 1)) := HS.out
    have HX : Hid (∀ i, i < xss.length → (xss.getD i []).length ≤ 1048576) := fun i hi => by have := HT.out i; have := HM.out (i + 1) hi; omega
    clear HS HT HM HZ
    obtain ⟨F, hF⟩ : ∃ F : Nat → Int, F = fun i => k0 + (totN xss i : Int) := ⟨_, rfl⟩
    have HE : Hid (∀ i, k0 + (totN xss i : Int) = F i) := fun i => by rw [hF]
    rw [← hF] at HS'
    clear hF
    have HF2 : Hid (∀ i, i ≤ xss.length → 0 ≤ F i ∧ F i ≤ 3000000) := fun i hi => by rw [← HE.out]; exact HF.out i hi
    have HT2 : Hid (∀ i, F i + ((xss.getD i []).length : Int) = F (i + 1)) := fun i => by rw [← HE.out, ← HE.out]; exact HT'.out i
    have HZ2 : Hid (F 0 = k0) := (HE.out 0).symm.trans HZ'.out
    rw [HE.out]
    clear HF HT' HZ' HE
    go_enter Try.func12, Try.ntmps12
    go_wp2_with fail
    go_loopw [1, 5] (fun q i wr => ∃ k : Nat, k ≤ xss.length ∧ i = .int .i64 k ∧ q = .int .i64 (F k) ∧ RowsV wr B U (.slice (some ⟨g, 0, none⟩) xss.length c) (M k) vs ∧ Below B w wr ∧ B ≤ wr.heap.size ∧ Above U w wr) (fun _ i _ => xss.length - (intOf i).toNat)
    case atStart => exact ⟨0, Nat.zero_le _, rfl, by rw [HZ2.out], H0.out, Below.refl _ _, hB, Above.refl _ _⟩
    case round =>
      obtain ⟨k, hk, rfl, rfl, hr, hbw, hsz, hab⟩ := hrel
      have HAb := Lib.hid hab
      clear hab
      have HR := Lib.hid hr
      have HB := Lib.hid hbw
      clear hr hbw
      by_cases hlt : k < xss.length
      · have hkM : k < (M k).length := by rw [HL.out]; exact hlt
        have r1 := HR.out.row k hkM
        rw [HD.out] at r1
        obtain ⟨A1, d1, e1⟩ := r1.shape
        have q1 : wr.cell? ⟨g, k, none⟩ = some (.slice A1 (xss.getD k []).length d1) := by
          have hr := HR.out
          rw [← HL.out k] at hr
          rw [hr.cell hkM, e1]
        have HV : Hid (vs.getD k (.slice none 0 0) = .slice A1 (xss.getD k []).length d1) := e1
        rw [e1] at r1
        have HR1 := Lib.hid r1
        have hs : Hid ((M k).set k (marks (F k) (xss.getD k []).length) = M (k + 1)) := HS'.out k
        have ht : Hid (F k + ((xss.getD k []).length : Int) = F (k + 1)) := HT2.out k
        obtain ⟨t1, t2⟩ := HF2.out k hk
        have t3 := HX.out k hlt
        clear r1 e1
        generalize xss.getD k [] = ys at *
        have b1 : (0 : Int) ≤ (k : Int) := by omega
        have b2 : (k : Int) < (xss.length : Int) := by omega
        go_wp2_with fail
        refine (c_markIntS ys _ B (F k) _ (by omega) t1 (by omega) HR1.out).mono ?_
        rintro e w2 ⟨rfl, hr2, hg2⟩
        have hr2' := hr2
        have hg2' := hg2
        rw [← HV.out] at hr2' hg2'
        have N1 := Lib.hid (HR.out.turn hkM hr2' hg2')
        rw [hs.out] at N1
        have N2 : Hid (Below B w w2) := HB.out.grown hg2 hsz (fun j hj => (World.ownsRow.lt HR1.out j hj).1)
        have N3 : B ≤ w2.heap.size := Nat.le_trans hsz hg2.size
        have hto := HR.out.rtop k
        have N4 : Hid (Above U w w2) := HAb.out.grown HB.out.size hg2' (fun j hj => hto j hkM hj)
        clear hto hr2 hg2 hr2' hg2'
        go_wp2
        go_roundw
        case rel => exact ⟨k + 1, by omega, by go_num, by rw [← ht.out], N1.out, N2.out, N3, N4.out⟩
        case measure => simp [intOf]; omega
      · obtain rfl : k = xss.length := by omega
        go_wp2
        go_ret
        exact ⟨rfl, ⟨vs, HR.out⟩, HB.out, HAb.out⟩

end Go.Proofs.Ytfpjodoimfbadaa

namespace Go.Proofs.Ytfpjodoimfbadaa
open Go.RowKit
set_option linter.unusedVariables false

set_option maxHeartbeats 4000000 in
theorem c_eqIntSS (xss : List (List Int)) (v1 v2 : Value) (B1 U1 B2 U2 : Nat) (w : World) (hl : xss.length ≤ 1048576) (hs : Short xss) (h1 : Rows w B1 U1 v1 xss) (h2 : Rows w B2 U2 v2 xss) (u1 : U1 ≤ w.heap.size) (u2 : U2 ≤ w.heap.size) :
    Calls Try.prog 11 #[v1, v2] w fun e w' => e = .returned (.bool true) ∧ Below w.heap.size w w' := by
  by_cases h0 : xss.length = 0
  · obtain ⟨A1, c1, rfl⟩ := h1.shape
    obtain ⟨A2, c2, rfl⟩ := h2.shape
    rw [h0]
    clear h1 h2 h0 hl
    go_enter Try.func11, Try.ntmps11
    go_wp2
    go_rounds 1
    go_ret
    exact ⟨rfl, Below.refl _ _⟩
  · have H1 := Lib.hid h1
    have H2 := Lib.hid h2
    obtain ⟨vs1, k1⟩ := h1
    obtain ⟨vs2, k2⟩ := h2
    obtain ⟨g1, c1, rfl, _, lt1⟩ := k1.form (by omega)
    obtain ⟨g2, c2, rfl, _, lt2⟩ := k2.form (by omega)
    have E1 : Hid (∀ i, i < xss.length → ∃ A c, vs1.getD i (.slice none 0 0) = .slice A (xss.getD i []).length c ∧ w.cell? ⟨g1, i, none⟩ = some (.slice A (xss.getD i []).length c)) := fun i hi => by
      obtain ⟨A, c, e⟩ := (k1.row i hi).shape
      exact ⟨A, c, e, by rw [k1.cell hi, e]⟩
    have E2 : Hid (∀ i, i < xss.length → ∃ A c, vs2.getD i (.slice none 0 0) = .slice A (xss.getD i []).length c ∧ w.cell? ⟨g2, i, none⟩ = some (.slice A (xss.getD i []).length c)) := fun i hi => by
      obtain ⟨A, c, e⟩ := (k2.row i hi).shape
      exact ⟨A, c, e, by rw [k2.cell hi, e]⟩
    have R1 : Hid (∀ i, i < xss.length → Row w B1 (vs1.getD i (.slice none 0 0)) (xss.getD i [])) := k1.row
    have R2 : Hid (∀ i, i < xss.length → Row w B2 (vs2.getD i (.slice none 0 0)) (xss.getD i [])) := k2.row
    have HSh := Lib.hid hs
    have hne : ((xss.length : Int) != (xss.length : Int)) = false := by simp
    clear k1 k2 h0 hs
    go_enter Try.func11, Try.ntmps11
    go_wp2_with fail
    go_loopw [5] (fun i wr => ∃ k : Nat, k ≤ xss.length ∧ i = .int .i64 k ∧ Below w.heap.size w wr) (fun i _ => xss.length - (intOf i).toNat)
    case atStart => exact ⟨0, Nat.zero_le _, rfl, Below.refl _ _⟩
    case round =>
      obtain ⟨k, hk, rfl, hbw⟩ := hrel
      have HB := Lib.hid hbw
      clear hbw
      by_cases hlt : k < xss.length
      · have gg1 : g1 < wr.heap.size := Nat.lt_of_lt_of_le lt1 HB.out.size
        have gg2 : g2 < wr.heap.size := Nat.lt_of_lt_of_le lt2 HB.out.size
        obtain ⟨A1, d1, e1, p1⟩ := E1.out k hlt
        obtain ⟨A2, d2, e2, p2⟩ := E2.out k hlt
        have r1 := R1.out k hlt
        have r2 := R2.out k hlt
        rw [e1] at r1
        rw [e2] at r2
        have q1 : wr.cell? ⟨g1, k, none⟩ = some (.slice A1 (xss.getD k []).length d1) := by rw [HB.out.cell (p := ⟨g1, k, none⟩) lt1]; exact p1
        have q2 : wr.cell? ⟨g2, k, none⟩ = some (.slice A2 (xss.getD k []).length d2) := by rw [HB.out.cell (p := ⟨g2, k, none⟩) lt2]; exact p2
        have HC : Hid (∀ u, Below wr.heap.size wr u → Calls Try.prog 10 #[.slice A1 (xss.getD k []).length d1, .slice A2 (xss.getD k []).length d2] u fun e w' => e = .returned (.bool true) ∧ Below u.heap.size u w') := fun u hu =>
          c_eqIntS (xss.getD k []) _ _ B1 B2 u (by have := HSh.out k hlt; omega) ((r1.below HB.out).below hu) ((r2.below HB.out).below hu)
        clear p1 p2 e1 e2 r1 r2
        generalize (xss.getD k []).length = m at *
        have b1 : (0 : Int) ≤ (k : Int) := by omega
        have b2 : (k : Int) < (xss.length : Int) := by omega
        go_wp2_with fail
        refine wp_region_grow (by kernel_rfl) (by kernel_rfl) ?_
        repeat (go_big_quiet_step ((go_at_call 10; exact grow_of (HC.out _ (wOf_below _ _)))))
        refine wpQuiet_nil ?_
        intro _ hw'
        obtain ⟨u, hw''⟩ := hw'
        subst hw''
        have hb2 := wOf_below wr u
        generalize wOf wr u = w2 at hb2 ⊢
        have HB2 : Hid (Below w.heap.size w w2) := HB.out.trans (hb2.mono HB.out.size)
        clear hb2
        go_wp2
        go_roundw
        case rel => exact ⟨k + 1, by omega, by go_num, HB2.out⟩
        case measure => simp [intOf]; omega
      · obtain rfl : k = xss.length := by omega
        go_wp2
        go_ret
        exact ⟨rfl, HB.out⟩

end Go.Proofs.Ytfpjodoimfbadaa

namespace Go.Proofs.Ytfpjodoimfbadaa
open Go.RowKit
set_option linter.unusedVariables false

set_option maxHeartbeats 4000000 in
theorem c_markIntSS (xss : List (List Int)) (v : Value) (B U : Nat) (k0 : Int) (w : World) (hl : xss.length ≤ 1048576) (ht : totN xss xss.length ≤ 1048576) (hk1 : 0 ≤ k0) (hk2 : k0 ≤ 1000000) (h : Rows w B U v xss) (hB : B ≤ w.heap.size) :
    Calls Try.prog 12 #[v, .int .i64 k0] w fun e w' => e = .returned (.int .i64 (k0 + totN xss xss.length)) ∧ Rows w' B U v (marksTo k0 xss xss.length) ∧ Below B w w' := by
  by_cases h0 : xss.length = 0
  · obtain rfl : xss = [] := List.eq_nil_of_length_eq_zero h0
    obtain ⟨A1, c1, rfl⟩ := h.shape
    have H := Lib.hid h
    clear h h0 hl
    go_enter Try.func12, Try.ntmps12
    go_wp2
    go_rounds 1
    go_ret
    exact ⟨ret_int (by simp [totN]), H.out, Below.refl _ _⟩
  · obtain ⟨vs, k1⟩ := h
    obtain ⟨g, c, rfl, _, lt1⟩ := k1.form (by omega)
    have HL : Hid (∀ i, (marksTo k0 xss i).length = xss.length) := marksTo_len k0 xss
    have HD : Hid (∀ i, (marksTo k0 xss i).getD i [] = xss.getD i []) := fun i => marksTo_later k0 xss (Nat.le_refl _)
    have HS : Hid (∀ i, (marksTo k0 xss i).set i (marks (k0 + totN xss i) (xss.getD i []).length) = marksTo k0 xss (i + 1)) := fun i => rfl
    have HT : Hid (∀ i, totN xss i + (xss.getD i []).length = totN xss (i + 1)) := fun i => rfl
    have HM : Hid (∀ i, i ≤ xss.length → totN xss i ≤ 1048576) := fun i hi => Nat.le_trans (tot_mono xss hi) ht
    have H0 : Hid (RowsV w B U (.slice (some ⟨g, 0, none⟩) xss.length c) (marksTo k0 xss 0) vs) := k1
    have HZ : Hid (totN xss 0 = 0) := rfl
    clear k1 h0 ht
    generalize marksTo k0 xss = M at *
    have HF : Hid (∀ i, i ≤ xss.length → 0 ≤ k0 + (totN xss i : Int) ∧ k0 + (totN xss i : Int) ≤ 3000000) := fun i hi => by have := HM.out i hi; omega
    have HT' : Hid (∀ i, k0 + (totN xss i : Int) + ((xss.getD i []).length : Int) = k0 + (totN xss (i + 1) : Int)) := fun i => by have := HT.out i; omega
    have HZ' : Hid (k0 + (totN xss 0 : Int) = k0) := by unfold Hid; rw [HZ.out]; simp
    have HS' : Hid (∀ i, (M i).set i (marks ((fun i => k0 + (totN xss i : Int)) i) (xss.getD i []).length) = M (i + 1)) := HS.out
    have HX : Hid (∀ i, i < xss.length → (xss.getD i []).length ≤ 1048576) := fun i hi => by have := HT.out i; have := HM.out (i + 1) hi; omega
    clear HS HT HM HZ
    obtain ⟨F, hF⟩ : ∃ F : Nat → Int, F = fun i => k0 + (totN xss i : Int) := ⟨_, rfl⟩
    have HE : Hid (∀ i, k0 + (totN xss i : Int) = F i) := fun i => by rw [hF]
    rw [← hF] at HS'
    clear hF
    have HF2 : Hid (∀ i, i ≤ xss.length → 0 ≤ F i ∧ F i ≤ 3000000) := fun i hi => by rw [← HE.out]; exact HF.out i hi
    have HT2 : Hid (∀ i, F i + ((xss.getD i []).length : Int) = F (i + 1)) := fun i => by rw [← HE.out, ← HE.out]; exact HT'.out i
    have HZ2 : Hid (F 0 = k0) := (HE.out 0).symm.trans HZ'.out
    rw [HE.out]
    clear HF HT' HZ' HE
    go_enter Try.func12, Try.ntmps12
    go_wp2_with fail
    go_loopw [1, 5] (fun q i wr => ∃ k : Nat, k ≤ xss.length ∧ i = .int .i64 k ∧ q = .int .i64 (F k) ∧ RowsV wr B U (.slice (some ⟨g, 0, none⟩) xss.length c) (M k) vs ∧ Below B w wr ∧ B ≤ wr.heap.size) (fun _ i _ => xss.length - (intOf i).toNat)
    case atStart => exact ⟨0, Nat.zero_le _, rfl, by rw [HZ2.out], H0.out, Below.refl _ _, hB⟩
    case round =>
      obtain ⟨k, hk, rfl, rfl, hr, hbw, hsz⟩ := hrel
      have HR := Lib.hid hr
      have HB := Lib.hid hbw
      clear hr hbw
      by_cases hlt : k < xss.length
      · have hkM : k < (M k).length := by rw [HL.out]; exact hlt
        have r1 := HR.out.row k hkM
        rw [HD.out] at r1
        obtain ⟨A1, d1, e1⟩ := r1.shape
        have q1 : wr.cell? ⟨g, k, none⟩ = some (.slice A1 (xss.getD k []).length d1) := by
          have hr := HR.out
          rw [← HL.out k] at hr
          rw [hr.cell hkM, e1]
        have HV : Hid (vs.getD k (.slice none 0 0) = .slice A1 (xss.getD k []).length d1) := e1
        rw [e1] at r1
        have HR1 := Lib.hid r1
        have hs : Hid ((M k).set k (marks (F k) (xss.getD k []).length) = M (k + 1)) := HS'.out k
        have ht : Hid (F k + ((xss.getD k []).length : Int) = F (k + 1)) := HT2.out k
        obtain ⟨t1, t2⟩ := HF2.out k hk
        have t3 := HX.out k hlt
        clear r1 e1
        generalize xss.getD k [] = ys at *
        have b1 : (0 : Int) ≤ (k : Int) := by omega
        have b2 : (k : Int) < (xss.length : Int) := by omega
        go_wp2_with fail
        refine (c_markIntS ys _ B (F k) _ (by omega) t1 (by omega) HR1.out).mono ?_
        rintro e w2 ⟨rfl, hr2, hg2⟩
        have hr2' := hr2
        have hg2' := hg2
        rw [← HV.out] at hr2' hg2'
        have N1 := Lib.hid (HR.out.turn hkM hr2' hg2')
        rw [hs.out] at N1
        have N2 : Hid (Below B w w2) := HB.out.grown hg2 hsz (fun j hj => (World.ownsRow.lt HR1.out j hj).1)
        have N3 : B ≤ w2.heap.size := Nat.le_trans hsz hg2.size
        clear hr2 hg2 hr2' hg2'
        go_wp2
        go_roundw
        case rel => exact ⟨k + 1, by omega, by go_num, by rw [← ht.out], N1.out, N2.out, N3⟩
        case measure => simp [intOf]; omega
      · obtain rfl : k = xss.length := by omega
        go_wp2
        go_ret
        exact ⟨rfl, ⟨vs, HR.out⟩, HB.out⟩

end Go.Proofs.Ytfpjodoimfbadaa
