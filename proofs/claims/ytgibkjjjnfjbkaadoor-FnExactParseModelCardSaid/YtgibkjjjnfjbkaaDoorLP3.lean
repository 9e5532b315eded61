/-
  Contracts: ParseModel of the program; both sides answer the same.
-/
import Derived.Test.YtgibkjjjnfjbkaaDoorLP2
import Derived.Test.YtgibkjjjnfjbkaaDoorLT2
import Derived.Test.YtgibkjjjnfjbkaaDoorTX3
namespace Go.Proofs.YtgibkjjjnfjbkaaDoor
open Go.RowKit
set_option linter.unusedVariables false
set_option linter.unusedSimpArgs false

theorem pa_list {a b : ByteArray} (h : ¬ a = b) : (a.toList == b.toList) = false := by
  rw [ByteArray.toList_eq, ByteArray.toList_eq]
  exact beq_eq_false_iff_ne.2 fun e => h (ByteArray.ext (Array.ext' e))
/-- What the program answers. -/
def wsP (s : List UInt8) : List (List UInt8) := Lib.fieldsD s
def ppB (s : List UInt8) : Bool := rmB (wsP s) && (moB (rmX 0 (wsP s)) (rmX 1 (wsP s)) (rmX 2 (wsP s)) (rmL 0 (wsP s)) (rmL 1 (wsP s)) (rmL 2 (wsP s)) && decide (mtS (rmX 0 (wsP s)) (rmX 1 (wsP s)) (rmX 2 (wsP s)) (rmL 0 (wsP s)) (rmL 1 (wsP s)) (rmL 2 (wsP s)) = ⟨s.toArray⟩))
def ppX (j : Nat) (s : List UInt8) : Int := if ppB s then rmX j (wsP s) else 0
def ppL (j : Nat) (s : List UInt8) : List Int := if ppB s then rmL j (wsP s) else []
theorem pp_no {s : List UInt8} (h : ppB s = false) : (∀ j, ppX j s = 0) ∧ ∀ j, ppL j s = [] := ⟨fun j => by unfold ppX; rw [h]; rfl, fun j => by unfold ppL; rw [h]; rfl⟩
theorem fin2 {w wr : World} {r B : Nat} {cx cy cz : Int} {v1 v2 v3 : Value} {ts gs rs : List Int} (hr : w.heap.size ≤ r) (hB : r < B) (hres : Six wr r 0 0 0 (.slice none 0 0) (.slice none 0 0) (.slice none 0 0)) (hm : Mod wr B v1 v2 v3 ts gs rs) (hb : Below w.heap.size w wr) :
    Six (putM wr r cx cy cz v1 v2 v3) r cx cy cz v1 v2 v3 ∧ Mod (putM wr r cx cy cz v1 v2 v3) w.heap.size v1 v2 v3 ts gs rs ∧ Below w.heap.size w (putM wr r cx cy cz v1 v2 v3) := by
  have P : ∀ {v : Value} {xs : List Int}, Row wr B v xs → Row (putM wr r cx cy cz v1 v2 v3) B v xs := fun hr =>
    Row.put (Row.put (Row.put (Row.put (Row.put (Row.put hr (by show r < B; omega) _) (by show r < B; omega) _) (by show r < B; omega) _) (by show r < B; omega) _) (by show r < B; omega) _) (by show r < B; omega) _
  refine ⟨(((((hres.set0 cx).set1 cy).set2 cz).set3 v1).set4 v2).set5 v3, ⟨(P hm.t).mono (by omega), (P hm.g).mono (by omega), (P hm.r).mono (by omega), hm.tg, hm.tr, hm.gr⟩, ?_⟩
  exact (((((hb.setCell (by show _ ≤ r; exact hr) _).setCell (by show _ ≤ r; exact hr) _).setCell (by show _ ≤ r; exact hr) _).setCell (by show _ ≤ r; exact hr) _).setCell (by show _ ≤ r; exact hr) _).setCell (by show _ ≤ r; exact hr) _
theorem c_FieldsW (s : ByteArray) (w : World) (hs : s.size ≤ 1048576) (hb : LB w) :
    Calls Tryd.prog 14 #[.string s] w fun e w' => ∃ A, e = .returned (.slice A (wsP s.data.toList).length (wsP s.data.toList).length) ∧ SeenW w' (.slice A (wsP s.data.toList).length (wsP s.data.toList).length) (wsP s.data.toList) ∧ Below w.heap.size w w' := by
  refine (Tryd.strings_Fields_any s w (by omega) hb.sp hb.wh).mono ?_
  rintro e w' ⟨A, rfl, hA, hown, hbw⟩
  refine ⟨_, rfl, ?_, hbw⟩
  have h : RowS w' w.heap.size (.slice (some ⟨A, 0, none⟩) (wsP s.data.toList).length (wsP s.data.toList).length) (wsP s.data.toList) := hown
  exact h.seen
theorem rm_len {ws : List (List UInt8)} (j : Nat) : (rmL j ws).length ≤ 4000000 := by
  unfold rmL
  split
  · rename_i h
    rw [thr_len]
    unfold rmB at h
    simp only [Bool.and_eq_true] at h
    have hg := good_true h.2.2.2.1
    have : rmN ws ≤ 120 := hg.2.2.2.2.2.2
    omega
  · simp

theorem fg_count : ∀ (f : Nat) (cur l : List UInt8), (Lib.fieldsGoD f cur l).length ≤ f + 1
  | 0, cur, l => by unfold Lib.fieldsGoD; split <;> simp
  | f + 1, cur, l => by
    unfold Lib.fieldsGoD
    split
    · split <;> simp
    · split
      · have := fg_count f [] (l.drop (Lib.decodeL l).2)
        rw [List.length_append]
        split <;> simp <;> omega
      · have := fg_count f (cur ++ l.take (Lib.decodeL l).2) (l.drop (Lib.decodeL l).2)
        omega
theorem fg_piece : ∀ (f : Nat) (cur l p : List UInt8), p ∈ Lib.fieldsGoD f cur l → p.length ≤ cur.length + l.length
  | 0, cur, l, p, h => by
    unfold Lib.fieldsGoD at h
    split at h
    · cases h
    · rw [List.mem_singleton] at h; subst h; omega
  | f + 1, cur, l, p, h => by
    unfold Lib.fieldsGoD at h
    have one : ∀ q : List UInt8, q ∈ (if cur = [] then ([] : List (List UInt8)) else [cur]) → q.length ≤ cur.length := fun q hq => by
      split at hq
      · cases hq
      · rw [List.mem_singleton] at hq; subst hq; exact Nat.le_refl _
    split at h
    · have := one p h; omega
    · split at h
      · rcases List.mem_append.1 h with h | h
        · have := one p h; omega
        · have := fg_piece f _ _ p h
          rw [List.length_drop] at this
          simp at this
          omega
      · have := fg_piece f _ _ p h
        rw [List.length_append, List.length_take, List.length_drop] at this
        omega
theorem ws_box (l : List UInt8) : (wsP l).length ≤ l.length + 2 ∧ ∀ p, p ∈ wsP l → p.length ≤ l.length := by
  refine ⟨fg_count _ _ _, fun p hp => ?_⟩
  have := fg_piece _ _ _ p hp
  simpa using this


set_option maxHeartbeats 8000000 in
set_option maxRecDepth 100000 in
theorem c_ParseModel (s : ByteArray) (w : World) (hs : s.size ≤ 1048576) (hb : LB w) :
    Calls Tryd.prog 5 #[.string s] w (GivesMB w (ppX 0 s.data.toList) (ppX 1 s.data.toList) (ppX 2 s.data.toList) (ppL 0 s.data.toList) (ppL 1 s.data.toList) (ppL 2 s.data.toList) (ppB s.data.toList)) := by
  have HLB := Lib.hid hb
  have HR0 : Hid (Six (w.alloc (.cells #[.int .i64 0, .int .i64 0, .int .i64 0, .slice none 0 0, .slice none 0 0, .slice none 0 0] 26)) w.heap.size 0 0 0 (.slice none 0 0) (.slice none 0 0) (.slice none 0 0)) := Six.new _ _ _ _ _ _ _ _
  have HB0 : Hid (Below w.heap.size w (w.alloc (.cells #[.int .i64 0, .int .i64 0, .int .i64 0, .slice none 0 0, .slice none 0 0, .slice none 0 0] 26))) := (Below.refl _ _).alloc (Nat.le_refl _) _
  obtain ⟨l, hl⟩ : ∃ l, s.data.toList = l := ⟨_, rfl⟩
  have hsl : (⟨l.toArray⟩ : ByteArray) = s := by rw [← hl]
  have hl0 : l.length ≤ 1048576 := by rw [← hl]; simpa using hs
  have CF : Hid (∀ w1, Below w.heap.size w w1 → Calls Tryd.prog 14 #[.string s] w1 fun e w' => ∃ A, e = .returned (.slice A (wsP l).length (wsP l).length) ∧ SeenW w' (.slice A (wsP l).length (wsP l).length) (wsP l) ∧ Below w1.heap.size w1 w') := fun w1 hb1 => by
    have := c_FieldsW s w1 hs (HLB.out.below hb1)
    rw [hl] at this
    exact this
  have CR : Hid (∀ A w1, Below w.heap.size w w1 → SeenW w1 (.slice A (wsP l).length (wsP l).length) (wsP l) → Calls Tryd.prog 13 #[.slice A (wsP l).length (wsP l).length] w1 (GivesMB w1 (rmX 0 (wsP l)) (rmX 1 (wsP l)) (rmX 2 (wsP l)) (rmL 0 (wsP l)) (rmL 1 (wsP l)) (rmL 2 (wsP l)) (rmB (wsP l)))) := fun A w1 hb1 hq => c_readModel (wsP l) A w1 (by have := (ws_box l).1; omega) (fun p hp => by have := (ws_box l).2 p hp; omega) hq (HLB.out.below hb1)
  have CT : Hid (∀ v1 v2 v3 u, Below w.heap.size w u → Look u v1 v2 v3 (rmL 0 (wsP l)) (rmL 1 (wsP l)) (rmL 2 (wsP l)) → Calls Tryd.prog 15 #[.agg #[.int .i64 (rmX 0 (wsP l)), .int .i64 (rmX 1 (wsP l)), .int .i64 (rmX 2 (wsP l)), v1, v2, v3]] u fun e w' => e = .returned (.tuple #[.string (mtS (rmX 0 (wsP l)) (rmX 1 (wsP l)) (rmX 2 (wsP l)) (rmL 0 (wsP l)) (rmL 1 (wsP l)) (rmL 2 (wsP l))), .bool (moB (rmX 0 (wsP l)) (rmX 1 (wsP l)) (rmX 2 (wsP l)) (rmL 0 (wsP l)) (rmL 1 (wsP l)) (rmL 2 (wsP l)))]) ∧ Below u.heap.size u w') := fun v1 v2 v3 u hu h => c_ModelText _ _ _ v1 v2 v3 _ _ _ u (rm_len 0) (rm_len 1) (rm_len 2) h (HLB.out.below hu).tb
  have NO : Hid (ppB l = false → ppX 0 l = 0 ∧ ppX 1 l = 0 ∧ ppX 2 l = 0 ∧ ppL 0 l = [] ∧ ppL 1 l = [] ∧ ppL 2 l = []) := fun h => ⟨(pp_no h).1 0, (pp_no h).1 1, (pp_no h).1 2, (pp_no h).2 0, (pp_no h).2 1, (pp_no h).2 2⟩
  have HN1 : Hid (rmB (wsP l) = false → ppB l = false) := fun h => by unfold ppB; rw [h]; rfl
  have HN2 : Hid (moB (rmX 0 (wsP l)) (rmX 1 (wsP l)) (rmX 2 (wsP l)) (rmL 0 (wsP l)) (rmL 1 (wsP l)) (rmL 2 (wsP l)) = false → ppB l = false) := fun h => by unfold ppB; rw [h]; simp
  have HN3 : Hid (¬ mtS (rmX 0 (wsP l)) (rmX 1 (wsP l)) (rmX 2 (wsP l)) (rmL 0 (wsP l)) (rmL 1 (wsP l)) (rmL 2 (wsP l)) = s → ppB l = false) := fun h => by unfold ppB; rw [hsl, decide_eq_false h]; simp
  have HYs : Hid (rmB (wsP l) = true → moB (rmX 0 (wsP l)) (rmX 1 (wsP l)) (rmX 2 (wsP l)) (rmL 0 (wsP l)) (rmL 1 (wsP l)) (rmL 2 (wsP l)) = true → mtS (rmX 0 (wsP l)) (rmX 1 (wsP l)) (rmX 2 (wsP l)) (rmL 0 (wsP l)) (rmL 1 (wsP l)) (rmL 2 (wsP l)) = s → ppB l = true ∧ (ppX 0 l = rmX 0 (wsP l) ∧ ppX 1 l = rmX 1 (wsP l) ∧ ppX 2 l = rmX 2 (wsP l)) ∧ (ppL 0 l = rmL 0 (wsP l) ∧ ppL 1 l = rmL 1 (wsP l) ∧ ppL 2 l = rmL 2 (wsP l))) := fun h0 h h' => by
    have : ppB l = true := by unfold ppB; rw [h0, h, hsl, decide_eq_true h']; rfl
    have a : ∀ j, ppX j l = rmX j (wsP l) := fun j => by unfold ppX; rw [this, if_pos rfl]
    have b : ∀ j, ppL j l = rmL j (wsP l) := fun j => by unfold ppL; rw [this, if_pos rfl]
    exact ⟨this, ⟨a 0, a 1, a 2⟩, b 0, b 1, b 2⟩
  rw [hl]
  clear hb hl
  obtain ⟨T, hT⟩ : ∃ T, mtS (rmX 0 (wsP l)) (rmX 1 (wsP l)) (rmX 2 (wsP l)) (rmL 0 (wsP l)) (rmL 1 (wsP l)) (rmL 2 (wsP l)) = T := ⟨_, rfl⟩
  rw [hT] at CT HN3 HYs
  clear hT
  generalize rmL 0 (wsP l) = ts at *
  generalize rmL 1 (wsP l) = gs at *
  generalize rmL 2 (wsP l) = rs at *
  generalize rmX 0 (wsP l) = X at *
  generalize rmX 1 (wsP l) = Y at *
  generalize rmX 2 (wsP l) = Z at *
  generalize (wsP l).length = n at *
  go_enter Tryd.func5, Tryd.ntmps5
  go_wp2_with fail
  generalize w.alloc (.cells #[.int .i64 0, .int .i64 0, .int .i64 0, .slice none 0 0, .slice none 0 0, .slice none 0 0] 26) = w0 at *
  refine (CF.out _ HB0.out).mono ?_
  rintro e w1 ⟨A, rfl, hq, hb⟩
  have HR1 := Lib.hid (HR0.out.below hb)
  have HB1 := Lib.hid (HB0.out.trans (hb.mono HB0.out.size))
  have HQ1 := Lib.hid hq
  clear hq hb CF HR0 HB0
  go_wp2_with fail
  refine (CR.out _ _ HB1.out HQ1.out).mono ?_
  rintro e w2 ⟨v1, v2, v3, rfl, hm, hb⟩
  have HR2 := Lib.hid (HR1.out.below hb)
  have HB2 := Lib.hid (HB1.out.trans (hb.mono HB1.out.size))
  have HM2 := Lib.hid hm
  have hL1 : w.heap.size < w1.heap.size := HR1.out.lt
  obtain ⟨VA1, vc1, hv1⟩ := hm.t.shape
  obtain ⟨VA2, vc2, hv2⟩ := hm.g.shape
  obtain ⟨VA3, vc3, hv3⟩ := hm.r.shape
  subst hv1
  subst hv2
  subst hv3
  clear hm hb CR HR1 HB1 HQ1
  cases hrm : rmB (wsP l)
  · have hf := HN1.out hrm
    obtain ⟨n1, n2, n3, n4, n5, n6⟩ := NO.out hf
    have hbx : Below w2.heap.size w2 (w2.alloc (.cells #[.int .i64 X, .int .i64 Y, .int .i64 Z, .slice VA1 ts.length vc1, .slice VA2 gs.length vc2, .slice VA3 rs.length vc3] 26)) := (Below.refl _ _).alloc (Nat.le_refl _) _
    have HR3 := Lib.hid (HR2.out.below hbx)
    have HB3 := Lib.hid (HB2.out.trans (hbx.mono HB2.out.size))
    clear hbx
    have HF := Lib.hid (fin_none (r := w.heap.size) (Nat.le_refl _) HR3.out HB3.out)
    have y0 := HR3.out.c0
    have y1 := HR3.out.c1
    have y2 := HR3.out.c2
    have y3 := HR3.out.c3
    have y4 := HR3.out.c4
    have y5 := HR3.out.c5
    have y6 := HR3.out.fz
    have y7 := HR3.out.lt
    go_wp2
    unfold putM at HF
    generalize (((((((w2.alloc (.cells #[.int .i64 X, .int .i64 Y, .int .i64 Z, .slice VA1 ts.length vc1, .slice VA2 gs.length vc2, .slice VA3 rs.length vc3] 26)).setCell ⟨w.heap.size, 0, none⟩ (.int .i64 0)).setCell ⟨w.heap.size, 1, none⟩ (.int .i64 0)).setCell ⟨w.heap.size, 2, none⟩ (.int .i64 0)).setCell ⟨w.heap.size, 3, none⟩ (.slice none 0 0)).setCell ⟨w.heap.size, 4, none⟩ (.slice none 0 0)).setCell ⟨w.heap.size, 5, none⟩ (.slice none 0 0)) = we at *
    obtain ⟨P1, P2, P3⟩ := HF.out
    have f0 := P1.c0
    have f1 := P1.c1
    have f2 := P1.c2
    have f3 := P1.c3
    have f4 := P1.c4
    have f5 := P1.c5
    refine bodyPost_ret (v := .tuple #[.agg #[.int .i64 0, .int .i64 0, .int .i64 0, .slice none 0 0, .slice none 0 0, .slice none 0 0], .bool false]) (by simp [results, Tryd.results5, go_sem, f0, f1, f2, f3, f4, f5]) rfl (by rw [n1, n2, n3, n4, n5, n6, hf]; exact ⟨_, _, _, rfl, P2, P3⟩)
  · have hbx : Below w2.heap.size w2 (w2.alloc (.cells #[.int .i64 X, .int .i64 Y, .int .i64 Z, .slice VA1 ts.length vc1, .slice VA2 gs.length vc2, .slice VA3 rs.length vc3] 26)) := (Below.refl _ _).alloc (Nat.le_refl _) _
    have HR3 := Lib.hid (HR2.out.below hbx)
    have HB3 := Lib.hid (HB2.out.trans (hbx.mono HB2.out.size))
    have HM3 := Lib.hid (HM2.out.below hbx)
    have HO3 : Hid (Six (w2.alloc (.cells #[.int .i64 X, .int .i64 Y, .int .i64 Z, .slice VA1 ts.length vc1, .slice VA2 gs.length vc2, .slice VA3 rs.length vc3] 26)) w2.heap.size X Y Z (.slice VA1 ts.length vc1) (.slice VA2 gs.length vc2) (.slice VA3 rs.length vc3)) := Six.new _ _ _ _ _ _ _ _
    clear hbx HR2 HB2 HM2
    go_wp2_with fail
    generalize w2.alloc (.cells #[.int .i64 X, .int .i64 Y, .int .i64 Z, .slice VA1 ts.length vc1, .slice VA2 gs.length vc2, .slice VA3 rs.length vc3] 26) = w3 at *
    have HLk := Lib.hid HM3.out.look
    refine (CT.out _ _ _ _ HB3.out HLk.out).mono ?_
    rintro e w4 ⟨rfl, hb⟩
    have HR4 := Lib.hid (HR3.out.below hb)
    have HB4 := Lib.hid (HB3.out.trans (hb.mono HB3.out.size))
    have HM4 := Lib.hid (HM3.out.below hb)
    have HO4 := Lib.hid (HO3.out.below hb)
    clear hb HR3 HB3 HM3 HO3 HLk
    cases hmo : moB X Y Z ts gs rs
    · have hf := HN2.out hmo
      obtain ⟨n1, n2, n3, n4, n5, n6⟩ := NO.out hf
      have HF := Lib.hid (fin_none (r := w.heap.size) (Nat.le_refl _) HR4.out HB4.out)
      have y0 := HR4.out.c0
      have y1 := HR4.out.c1
      have y2 := HR4.out.c2
      have y3 := HR4.out.c3
      have y4 := HR4.out.c4
      have y5 := HR4.out.c5
      have y6 := HR4.out.fz
      have y7 := HR4.out.lt
      go_wp2
      unfold putM at HF
      generalize ((((((w4.setCell ⟨w.heap.size, 0, none⟩ (.int .i64 0)).setCell ⟨w.heap.size, 1, none⟩ (.int .i64 0)).setCell ⟨w.heap.size, 2, none⟩ (.int .i64 0)).setCell ⟨w.heap.size, 3, none⟩ (.slice none 0 0)).setCell ⟨w.heap.size, 4, none⟩ (.slice none 0 0)).setCell ⟨w.heap.size, 5, none⟩ (.slice none 0 0)) = we at *
      obtain ⟨P1, P2, P3⟩ := HF.out
      have f0 := P1.c0
      have f1 := P1.c1
      have f2 := P1.c2
      have f3 := P1.c3
      have f4 := P1.c4
      have f5 := P1.c5
      refine bodyPost_ret (v := .tuple #[.agg #[.int .i64 0, .int .i64 0, .int .i64 0, .slice none 0 0, .slice none 0 0, .slice none 0 0], .bool false]) (by simp [results, Tryd.results5, go_sem, f0, f1, f2, f3, f4, f5]) rfl (by rw [n1, n2, n3, n4, n5, n6, hf]; exact ⟨_, _, _, rfl, P2, P3⟩)
    · by_cases hts : T = s
      · obtain ⟨hyes, hXX, hLL⟩ := HYs.out hrm hmo hts
        obtain ⟨hX0, hX1, hX2⟩ := hXX
        obtain ⟨hL0, hL1', hL2⟩ := hLL
        have HF := Lib.hid (fin2 (cx := X) (cy := Y) (cz := Z) (Nat.le_refl _) hL1 HR4.out HM4.out HB4.out)
        rw [hts]
        have o0 := HO4.out.c0
        have o1 := HO4.out.c1
        have o2 := HO4.out.c2
        have o3 := HO4.out.c3
        have o4 := HO4.out.c4
        have o5 := HO4.out.c5
        have o6 := HO4.out.lt
        have y0 := HR4.out.c0
        have y1 := HR4.out.c1
        have y2 := HR4.out.c2
        have y3 := HR4.out.c3
        have y4 := HR4.out.c4
        have y5 := HR4.out.c5
        have y6 := HR4.out.fz
        have y7 := HR4.out.lt
        go_wp2
        unfold putM at HF
        generalize ((((((w4.setCell ⟨w.heap.size, 0, none⟩ (.int .i64 X)).setCell ⟨w.heap.size, 1, none⟩ (.int .i64 Y)).setCell ⟨w.heap.size, 2, none⟩ (.int .i64 Z)).setCell ⟨w.heap.size, 3, none⟩ (.slice VA1 ts.length vc1)).setCell ⟨w.heap.size, 4, none⟩ (.slice VA2 gs.length vc2)).setCell ⟨w.heap.size, 5, none⟩ (.slice VA3 rs.length vc3)) = we at *
        obtain ⟨P1, P2, P3⟩ := HF.out
        have f0 := P1.c0
        have f1 := P1.c1
        have f2 := P1.c2
        have f3 := P1.c3
        have f4 := P1.c4
        have f5 := P1.c5
        refine bodyPost_ret (v := .tuple #[.agg #[.int .i64 X, .int .i64 Y, .int .i64 Z, .slice VA1 ts.length vc1, .slice VA2 gs.length vc2, .slice VA3 rs.length vc3], .bool true]) (by simp [results, Tryd.results5, go_sem, f0, f1, f2, f3, f4, f5]) rfl (by rw [hX0, hX1, hX2, hL0, hL1', hL2, hyes]; exact ⟨_, _, _, rfl, P2, P3⟩)
      · have hf := HN3.out hts
        have hte := pa_list hts
        obtain ⟨n1, n2, n3, n4, n5, n6⟩ := NO.out hf
        have HF := Lib.hid (fin_none (r := w.heap.size) (Nat.le_refl _) HR4.out HB4.out)
        have y0 := HR4.out.c0
        have y1 := HR4.out.c1
        have y2 := HR4.out.c2
        have y3 := HR4.out.c3
        have y4 := HR4.out.c4
        have y5 := HR4.out.c5
        have y6 := HR4.out.fz
        have y7 := HR4.out.lt
        go_wp2
        unfold putM at HF
        generalize ((((((w4.setCell ⟨w.heap.size, 0, none⟩ (.int .i64 0)).setCell ⟨w.heap.size, 1, none⟩ (.int .i64 0)).setCell ⟨w.heap.size, 2, none⟩ (.int .i64 0)).setCell ⟨w.heap.size, 3, none⟩ (.slice none 0 0)).setCell ⟨w.heap.size, 4, none⟩ (.slice none 0 0)).setCell ⟨w.heap.size, 5, none⟩ (.slice none 0 0)) = we at *
        obtain ⟨P1, P2, P3⟩ := HF.out
        have f0 := P1.c0
        have f1 := P1.c1
        have f2 := P1.c2
        have f3 := P1.c3
        have f4 := P1.c4
        have f5 := P1.c5
        refine bodyPost_ret (v := .tuple #[.agg #[.int .i64 0, .int .i64 0, .int .i64 0, .slice none 0 0, .slice none 0 0, .slice none 0 0], .bool false]) (by simp [results, Tryd.results5, go_sem, f0, f1, f2, f3, f4, f5]) rfl (by rw [n1, n2, n3, n4, n5, n6, hf]; exact ⟨_, _, _, rfl, P2, P3⟩)
end Go.Proofs.YtgibkjjjnfjbkaaDoor
