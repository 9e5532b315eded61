/-
  Contracts of the law's own helpers over slopes: marked, and what the marking leaves.
-/
import Derived.Test.YtmimilchldjkbaaDoorK6
namespace Go.Proofs.YtmimilchldjkbaaDoor
open Go.RowKit
set_option linter.unusedVariables false

/-- Blocks that are no rows of offsets stand as they stood. -/
def Oth (w w' : World) : Prop := ∀ k, k < w.heap.size → (∀ cs fz, w.heap[k]? ≠ some (.cells cs 133 fz)) → w'.heap[k]? = w.heap[k]?
theorem Oth.refl (w : World) : Oth w w := fun _ _ _ => rfl
theorem Oth.step {w w1 w2 : World} {B : Nat} {v : Value} {ys : List Int} (h : Oth w w1) (hs : w.heap.size ≤ w1.heap.size) (hr : RowO w1 B v ys) (hg : w1.grownBy w2 v.ownBlock) : Oth w w2 := fun k hk hc => by
  rw [hg.block k (Nat.lt_of_lt_of_le hk hs) (fun e => ?_)]
  · exact h k hk hc
  · rcases hr.2 with ⟨rfl, _⟩ | ⟨g, cap, cur, rfl, _, hgg, _⟩
    · simp [Value.ownBlock] at e
    · simp [Value.ownBlock] at e
      subst e
      rw [h k hk hc] at hgg
      exact hc _ _ hgg
theorem own_oth {w w' : World} {B s n : Nat} {e : TypeId} {v : Value} {xs : List Value} (h : w.ownsRow B e s v n xs) (ho : Oth w w') (hne : e ≠ 133) : w'.ownsRow B e s v n xs := by
  refine ⟨h.1, ?_⟩
  rcases h.2 with hn | ⟨g, cap, cur, rfl, hb, hg, rest⟩
  · exact .inl hn
  · exact .inr ⟨g, cap, cur, rfl, hb, (ho g (Array.getElem?_eq_some_iff.1 hg).1 (fun cs fz e1 => by rw [hg] at e1; injection e1 with e1; injection e1 with _ e2 _; exact hne e2)).trans hg, rest⟩
theorem Row.oth {w w' : World} {B : Nat} {v : Value} {xs : List Int} (h : Row w B v xs) (ho : Oth w w') (hne : (3 : TypeId) ≠ 133) : Row w' B v xs := own_oth h ho hne

set_option maxHeartbeats 4000000 in
theorem c_markOffsetSS2 (xss : List (List Int)) (v : Value) (B U : Nat) (k0 : Int) (w : World) (hl : xss.length ≤ 1048576) (ht : totN xss xss.length ≤ 3145728) (hk1 : 0 ≤ k0) (hk2 : k0 + totN xss xss.length ≤ 4000000) (h : RowsO w B U v xss) (hB : B ≤ w.heap.size) :
    Calls Tryd.prog 47 #[v, .int .i64 k0] w fun e w' => e = .returned (.int .i64 (k0 + totN xss xss.length)) ∧ RowsO w' B U v (marksTo k0 xss xss.length) ∧ Below B w w' ∧ Above U w w' ∧ Oth w w' := by
  by_cases h0 : xss.length = 0
  · obtain rfl : xss = [] := List.eq_nil_of_length_eq_zero h0
    obtain ⟨A1, c1, rfl⟩ := h.shape
    have H := Lib.hid h
    clear h h0 hl
    go_enter Tryd.func47, Tryd.ntmps47
    go_wp2
    go_rounds 1
    go_ret
    exact ⟨ret_int (by simp [totN]), H.out, Below.refl _ _, Above.refl _ _, Oth.refl _⟩
  · obtain ⟨vs, k1⟩ := h
    obtain ⟨g, c, rfl, _, lt1⟩ := k1.form (by omega)
    have HL : Hid (∀ i, (marksTo k0 xss i).length = xss.length) := marksTo_len k0 xss
    have HD : Hid (∀ i, (marksTo k0 xss i).getD i [] = xss.getD i []) := fun i => marksTo_later k0 xss (Nat.le_refl _)
    have HS : Hid (∀ i, (marksTo k0 xss i).set i (marks (k0 + totN xss i) (xss.getD i []).length) = marksTo k0 xss (i + 1)) := fun i => rfl
    have HT : Hid (∀ i, totN xss i + (xss.getD i []).length = totN xss (i + 1)) := fun i => rfl
    have HM : Hid (∀ i, i ≤ xss.length → totN xss i ≤ 3145728 ∧ k0 + totN xss i ≤ 4000000) := fun i hi => by have := tot_mono xss hi; omega
    have H0 : Hid (RowsW w B U (.slice (some ⟨g, 0, none⟩) xss.length c) (marksTo k0 xss 0) vs) := k1
    have HZ : Hid (totN xss 0 = 0) := rfl
    clear k1 h0 ht
    generalize marksTo k0 xss = M at *
    have HF : Hid (∀ i, i ≤ xss.length → 0 ≤ k0 + (totN xss i : Int) ∧ k0 + (totN xss i : Int) ≤ 4000000) := fun i hi => by have := HM.out i hi; omega
    have HT' : Hid (∀ i, k0 + (totN xss i : Int) + ((xss.getD i []).length : Int) = k0 + (totN xss (i + 1) : Int)) := fun i => by have := HT.out i; omega
    have HZ' : Hid (k0 + (totN xss 0 : Int) = k0) := by unfold Hid; rw [HZ.out]; simp
    have HS' : Hid (∀ i, (M i).set i (marks ((fun i => k0 + (totN xss i : Int)) i) (xss.getD i []).length) = M (i + 1)) := HS.out
    have HX : Hid (∀ i, i < xss.length → (xss.getD i []).length ≤ 3145728) := fun i hi => by have := HT.out i; have := HM.out (i + 1) hi; omega
    clear HS HT HM HZ
    obtain ⟨F, hF⟩ : ∃ F : Nat → Int, F = fun i => k0 + (totN xss i : Int) := ⟨_, rfl⟩
    have HE : Hid (∀ i, k0 + (totN xss i : Int) = F i) := fun i => by rw [hF]
    rw [← hF] at HS'
    clear hF
    have HF2 : Hid (∀ i, i ≤ xss.length → 0 ≤ F i ∧ F i ≤ 4000000) := fun i hi => by rw [← HE.out]; exact HF.out i hi
    have HT2 : Hid (∀ i, F i + ((xss.getD i []).length : Int) = F (i + 1)) := fun i => by rw [← HE.out, ← HE.out]; exact HT'.out i
    have HZ2 : Hid (F 0 = k0) := (HE.out 0).symm.trans HZ'.out
    rw [HE.out]
    clear HF HT' HZ' HE
    go_enter Tryd.func47, Tryd.ntmps47
    go_wp2_with fail
    go_loopw [1, 5] (fun q i wr => ∃ k : Nat, k ≤ xss.length ∧ i = .int .i64 k ∧ q = .int .i64 (F k) ∧ RowsW wr B U (.slice (some ⟨g, 0, none⟩) xss.length c) (M k) vs ∧ Below B w wr ∧ B ≤ wr.heap.size ∧ Above U w wr ∧ Oth w wr) (fun _ i _ => xss.length - (intOf i).toNat)
    case atStart => exact ⟨0, Nat.zero_le _, rfl, by rw [HZ2.out], H0.out, Below.refl _ _, hB, Above.refl _ _, Oth.refl _⟩
    case round =>
      obtain ⟨k, hk, rfl, rfl, hr, hbw, hsz, hab, hoth⟩ := hrel
      have HAb := Lib.hid hab
      have HOt := Lib.hid hoth
      clear hab hoth
      have HR := Lib.hid hr
      have HB := Lib.hid hbw
      clear hr hbw
      by_cases hlt : k < xss.length
      · have hkM : k < (M k).length := by rw [HL.out]; exact hlt
        have r1 := HR.out.row k hkM
        rw [HD.out] at r1
        obtain ⟨A1, d1, e1⟩ := r1.shape
        have q1 : wr.cell? ⟨g, k, none⟩ = some (.slice A1 ((xss.getD k []).length / 3) d1) := by
          have hr := HR.out
          rw [← HL.out k] at hr
          rw [hr.cell hkM, e1]
        have HV : Hid (vs.getD k (.slice none 0 0) = .slice A1 ((xss.getD k []).length / 3) d1) := e1
        rw [e1] at r1
        have HR1 := Lib.hid r1
        have hs : Hid ((M k).set k (marks (F k) (xss.getD k []).length) = M (k + 1)) := HS'.out k
        have ht : Hid (F k + ((xss.getD k []).length : Int) = F (k + 1)) := HT2.out k
        obtain ⟨t1, t2⟩ := HF2.out k hk
        have t3 := HX.out k hlt
        clear r1 e1
        generalize xss.getD k [] = ys at *
        have b1 : (0 : Int) ≤ (k : Int) := by omega
        have b2 : (k : Int) < (xss.length : Int) := by omega
        go_wp2_with fail
        refine (c_markO ys _ B (F k) _ (by omega) t1 (by omega) HR1.out).mono ?_
        rintro e w2 ⟨rfl, hr2, hg2⟩
        have hr2' := hr2
        have hg2' := hg2
        rw [← HV.out] at hr2' hg2'
        have N1 := Lib.hid (HR.out.turn hkM hr2' hg2')
        rw [hs.out] at N1
        have N2 : Hid (Below B w w2) := HB.out.grown hg2 hsz (fun j hj => (World.ownsRow.lt HR1.out j hj).1)
        have hto := HR.out.rtop k
        have N4 : Hid (Above U w w2) := HAb.out.grown HB.out.size hg2' (fun j hj => hto j hkM hj)
        clear hto
        have N5 : Hid (Oth w w2) := HOt.out.step HB.out.size HR1.out hg2
        have N3 : B ≤ w2.heap.size := Nat.le_trans hsz hg2.size
        clear hr2 hg2 hr2' hg2'
        go_wp2
        go_roundw
        case rel => exact ⟨k + 1, by omega, by go_num, by rw [← ht.out], N1.out, N2.out, N3, N4.out, N5.out⟩
        case measure => simp [intOf]; omega
      · obtain rfl : k = xss.length := by omega
        go_wp2
        go_ret
        exact ⟨rfl, ⟨vs, HR.out⟩, HB.out, HAb.out, HOt.out⟩

set_option maxHeartbeats 1000000 in
theorem c_markSlopes2 (v1 v2 : Value) (B U : Nat) (ss : List Int) (tss : List (List Int)) (w : World) (l1 : ss.length ≤ 1048576) (l2 : tss.length ≤ 1048576) (l3 : totN tss tss.length ≤ 3145728) (l4 : (ss.length : Int) + totN tss tss.length ≤ 3999999) (h : OwnS w B U v1 v2 ss tss) (hB : B ≤ w.heap.size) (hU : U ≤ w.heap.size) :
    Calls Tryd.prog 14 #[.agg #[v1, v2], .int .i64 1] w fun e w' => e = .returned (.int .i64 (1 + (ss.length : Int) + totN tss tss.length)) ∧ OwnS w' B U v1 v2 (marks 1 ss.length) (marksTo (1 + (ss.length : Int)) tss tss.length) ∧ Below B w w' ∧ Above U w w' := by
  have H := Lib.hid h
  obtain ⟨A1, c1, rfl⟩ := h.s.shape
  obtain ⟨A2, c2, rfl⟩ := h.t.shape
  clear h
  have HX0 : Hid (Mine2 (w.alloc (.cells #[.slice A1 ss.length c1, .slice A2 tss.length c2] 27)) w.heap.size (.slice A1 ss.length c1) (.slice A2 tss.length c2)) := Mine2.new _ _ _ _
  have HB0 : Hid (Below w.heap.size w (w.alloc (.cells #[.slice A1 ss.length c1, .slice A2 tss.length c2] 27))) := (Below.refl _ _).alloc (Nat.le_refl _) _
  have HS0 : Hid (w.heap.size < (w.alloc (.cells #[.slice A1 ss.length c1, .slice A2 tss.length c2] 27)).heap.size) := by simp [Hid]
  have HA0 : Hid (Above U w (w.alloc (.cells #[.slice A1 ss.length c1, .slice A2 tss.length c2] 27))) := fun k _ hk => HB0.out.block k hk
  go_enter Tryd.func14, Tryd.ntmps14
  go_wp2_with fail
  generalize (w.alloc (.cells #[.slice A1 ss.length c1, .slice A2 tss.length c2] 27)) = W at *
  have HO := Lib.hid (H.out.below HB0.out hU)
  refine (c_markIntS ss _ B 1 _ (by omega) (by omega) (by omega) HO.out.s).mono ?_
  rintro e w1 ⟨rfl, hr1, hg1⟩
  have ho1 : ∀ j, (Value.slice A1 ss.length c1).ownBlock = some j → B ≤ j := fun j hj => (World.ownsRow.lt HO.out.s j hj).1
  have HB1 : Hid (Below B w w1) := (HB0.out.mono hB).grown hg1 (Nat.le_trans hB HB0.out.size) ho1
  have HA1 : Hid (Above U w w1) := HA0.out.grown HB0.out.size hg1 HO.out.top
  have HS1 := Lib.hid hg1.size
  have HX1 : Hid (Mine2 w1 w.heap.size (.slice A1 ss.length c1) (.slice A2 tss.length c2)) := by
    have e := hg1.block w.heap.size HS0.out (fun e => by have := HO.out.top w.heap.size (by first | exact e | exact e.symm); omega)
    have k : ∀ j, w1.cell? ⟨w.heap.size, j, none⟩ = W.cell? ⟨w.heap.size, j, none⟩ := fun j => by simp only [World.cell?, e]
    have kf : ∀ j, w1.frozen? ⟨w.heap.size, j, none⟩ = W.frozen? ⟨w.heap.size, j, none⟩ := fun j => by simp only [World.frozen?, e]
    exact ⟨Nat.lt_of_lt_of_le HS0.out hg1.size, by rw [k]; exact HX0.out.c0, by rw [k]; exact HX0.out.c1, fun o => by rw [kf]; exact HX0.out.f o⟩
  have HT1 : Hid (RowsO w1 B U (.slice A2 tss.length c2) tss) := by
    obtain ⟨vs, t⟩ := HO.out.t
    exact ⟨vs, t.len, own_stays t.own fun k e => hg1.block k (World.ownsRow.lt t.own k e).2 (fun e' => own_types t.own HO.out.s (by decide) e (by first | exact e' | exact e'.symm)), t.top, fun i hi => own_stays (t.row i hi) fun k e => hg1.block k (World.ownsRow.lt (t.row i hi) k e).2 (fun e' => own_types (t.row i hi) HO.out.s (by decide) e (by first | exact e' | exact e'.symm)), t.rtop, t.apart⟩
  have HQ1 := Lib.hid hr1
  clear hr1 hg1 ho1
  have x0 := HX1.out.c0
  have x1 := HX1.out.c1
  go_wp2_with fail
  refine (c_markOffsetSS2 tss _ B U (1 + (ss.length : Int)) _ l2 l3 (by omega) (by omega) HT1.out (Nat.le_trans hB HB1.out.size)).mono ?_
  rintro e w2 ⟨rfl, ht2, hb2, ha2, ho2⟩
  have HB2 : Hid (Below B w w2) := HB1.out.trans hb2
  have HA2 : Hid (Above U w w2) := fun k hk hl => by rw [ha2 k hk (Nat.lt_of_lt_of_le hl HB1.out.size)]; exact HA1.out k hk hl
  have HR2 : Hid (Row w2 B (.slice A1 ss.length c1) (marks 1 ss.length)) := HQ1.out.oth ho2 (by decide)
  have HT2 := Lib.hid ht2
  have HTop := Lib.hid HO.out.top
  clear hb2 ha2 ho2 ht2 x0 x1
  go_wp2
  go_ret
  exact ⟨rfl, ⟨HR2.out, HT2.out, HTop.out⟩, HB2.out, HA2.out⟩
end Go.Proofs.YtmimilchldjkbaaDoor
