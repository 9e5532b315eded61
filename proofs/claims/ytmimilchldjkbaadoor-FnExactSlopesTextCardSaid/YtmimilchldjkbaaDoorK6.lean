/-
  Contracts of the law's own helpers over slopes: copied, measured, compared, marked.
-/
import Derived.Test.YtmimilchldjkbaaDoorK5
import Derived.Test.YtmimilchldjkbaaDoorK2
import Derived.Test.YtmimilchldjkbaaDoorK3
import Derived.Test.YtmimilchldjkbaaDoorM2
import Derived.Deep.CutBlock
import Derived.Deep.DeepCutAuto
namespace Go.Proofs.YtmimilchldjkbaaDoor
open Go.RowKit
set_option linter.unusedVariables false

/-- A struct of two slices that lies in a block of memory. -/
structure Mine2 (w : World) (b : Nat) (u0 u1 : Value) : Prop where
  lt : b < w.heap.size
  c0 : w.cell? ⟨b, 0, none⟩ = some u0
  c1 : w.cell? ⟨b, 1, none⟩ = some u1
  f : ∀ o, w.frozen? ⟨b, o, none⟩ = false
theorem Mine2.below {w w' : World} {b : Nat} {u0 u1 : Value} (h : Mine2 w b u0 u1) (hb : Below w.heap.size w w') : Mine2 w' b u0 u1 :=
  ⟨Nat.lt_of_lt_of_le h.lt hb.size, by rw [hb.cell (p := ⟨b, 0, none⟩) h.lt]; exact h.c0, by rw [hb.cell (p := ⟨b, 1, none⟩) h.lt]; exact h.c1, fun o => by rw [hb.frozen (p := ⟨b, o, none⟩) h.lt]; exact h.f o⟩
theorem Mine2.under {w w' : World} {b B : Nat} {u0 u1 : Value} (h : Mine2 w b u0 u1) (hb : Below B w w') (hB : b < B) : Mine2 w' b u0 u1 :=
  ⟨Nat.lt_of_lt_of_le h.lt hb.size, by rw [hb.cell (p := ⟨b, 0, none⟩) hB]; exact h.c0, by rw [hb.cell (p := ⟨b, 1, none⟩) hB]; exact h.c1, fun o => by rw [hb.frozen (p := ⟨b, o, none⟩) hB]; exact h.f o⟩
theorem Mine2.new (w : World) (u0 u1 : Value) (T : TypeId) : Mine2 (w.alloc (.cells #[u0, u1] T)) w.heap.size u0 u1 := ⟨by simp, by simp, by simp, fun o => by simp⟩
theorem Mine2.set0 {w : World} {b : Nat} {u0 u1 : Value} (h : Mine2 w b u0 u1) (x : Value) : Mine2 (w.setCell ⟨b, 0, none⟩ x) b x u1 :=
  ⟨by simp; exact h.lt, World.cell?_setCell_same _ _ _ h.c0, (World.cell?_setCell_other _ _ _ _ (by simp)).trans h.c1, fun o => by simp; exact h.f o⟩
theorem Mine2.set1 {w : World} {b : Nat} {u0 u1 : Value} (h : Mine2 w b u0 u1) (x : Value) : Mine2 (w.setCell ⟨b, 1, none⟩ x) b u0 x :=
  ⟨by simp; exact h.lt, (World.cell?_setCell_other _ _ _ _ (by simp)).trans h.c0, World.cell?_setCell_same _ _ _ h.c1, fun o => by simp; exact h.f o⟩
theorem Mine2.other {w : World} {b : Nat} {u0 u1 : Value} (h : Mine2 w b u0 u1) {b' o' : Nat} (x : Value) (hne : b' ≠ b) : Mine2 (w.setCell ⟨b', o', none⟩ x) b u0 u1 :=
  ⟨by simp; exact h.lt, (World.cell?_setCell_other _ _ _ _ (fun e => hne (by injection e))).trans h.c0, (World.cell?_setCell_other _ _ _ _ (fun e => hne (by injection e))).trans h.c1, fun o => by simp; exact h.f o⟩
theorem RowsO.up {w : World} {B U U' : Nat} {v : Value} {xss : List (List Int)} (h : RowsO w B U v xss) (hU : U ≤ U') : RowsO w B U' v xss := by
  obtain ⟨vs, h⟩ := h
  exact ⟨vs, h.len, h.own, fun k hk => Nat.lt_of_lt_of_le (h.top k hk) hU, h.row, fun i k hi hk => Nat.lt_of_lt_of_le (h.rtop i k hi hk) hU, h.apart⟩
theorem RowsO.put {w : World} {B U : Nat} {v : Value} {xss : List (List Int)} (h : RowsO w B U v xss) {a : Addr} (ha : a.block < B) (u : Value) : RowsO (w.setCell a u) B U v xss := h.stays fun k hk _ => Below.heap_setCell _ _ _ _ (by omega)

/-- Slopes of the call's own, in blocks from B on and below U. -/
structure OwnS (w : World) (B U : Nat) (v1 v2 : Value) (ss : List Int) (tss : List (List Int)) : Prop where
  s : Row w B v1 ss
  t : RowsO w B U v2 tss
  top : ∀ k, v1.ownBlock = some k → k < U
theorem OwnS.below {w w' : World} {B U N : Nat} {v1 v2 : Value} {ss : List Int} {tss : List (List Int)} (h : OwnS w B U v1 v2 ss tss) (hb : Below N w w') (hU : U ≤ N) : OwnS w' B U v1 v2 ss tss :=
  ⟨own_stays h.s fun k e => hb.block k (by have := h.top k e; omega), h.t.below hb hU, h.top⟩
theorem OwnS.mono {w : World} {B B' U : Nat} {v1 v2 : Value} {ss : List Int} {tss : List (List Int)} (h : OwnS w B U v1 v2 ss tss) (hB : B' ≤ B) : OwnS w B' U v1 v2 ss tss := ⟨h.s.mono hB, h.t.mono hB, h.top⟩
structure LookS (w : World) (v1 v2 : Value) (ss : List Int) (tss : List (List Int)) : Prop where
  s : Seen w v1 ss
  t : SeenT w v2 tss
theorem LookS.below {w w' : World} {v1 v2 : Value} {ss : List Int} {tss : List (List Int)} (h : LookS w v1 v2 ss tss) (hb : Below w.heap.size w w') : LookS w' v1 v2 ss tss := ⟨h.s.below hb, h.t.below hb⟩
theorem OwnS.look {w : World} {B U : Nat} {v1 v2 : Value} {ss : List Int} {tss : List (List Int)} (h : OwnS w B U v1 v2 ss tss) : LookS w v1 v2 ss tss := ⟨h.s.seen, h.t.seen⟩

def GivesS (w : World) (ss : List Int) (tss : List (List Int)) (e : Ending) (w' : World) : Prop :=
  ∃ v1 v2, e = .returned (.agg #[v1, v2]) ∧ OwnS w' w.heap.size w'.heap.size v1 v2 ss tss ∧ Below w.heap.size w w'

set_option maxHeartbeats 1000000 in
theorem c_szSlopes (v1 v2 : Value) (ss : List Int) (tss : List (List Int)) (w : World) (h : LookS w v1 v2 ss tss) :
    Calls Tryd.prog 18 #[.agg #[v1, v2], .int .i64 1048576] w fun e w' => (∃ r, e = .returned (.int .i64 r) ∧ (r = -1 ∨ ((ss.length : Int) + (tss.length : Int) + (totT tss tss.length : Int) ≤ 1048576 ∧ 0 ≤ r))) ∧ Below w.heap.size w w' := by
  have HT := Lib.hid h.t
  obtain ⟨A1, c1, rfl, m1, _⟩ := h.s
  obtain ⟨A2, c2, rfl, m2⟩ := h.t.shape
  have n1 : ss.length ≤ 9223372036854775807 := by unfold maxLen at m1; omega
  have HB0 : Hid (Below w.heap.size w (w.alloc (.cells #[.slice A1 ss.length c1, .slice A2 tss.length c2] 39))) := (Below.refl _ _).alloc (Nat.le_refl _) _
  clear h m1 m2
  go_enter Tryd.func18, Tryd.ntmps18
  go_wp2_with fail
  refine (c_szIntS _ _ _ _ _ (by omega) (by omega) n1).mono ?_
  rintro e w1 ⟨rfl, rfl⟩
  by_cases e1 : (ss.length : Int) ≤ 1048576
  · rw [if_pos e1]
    go_wp2_with fail
    refine (c_szOffsetSS tss _ _ _ (by omega) (by omega) (HT.out.below HB0.out)).mono ?_
    rintro e w1 ⟨⟨r, rfl, hr⟩, rfl⟩
    rcases hr with rfl | ⟨hr1, hr2⟩
    · go_wp2
      go_ret
      exact ⟨⟨_, rfl, .inl rfl⟩, HB0.out⟩
    · have hr3 : ¬ r < 0 := by omega
      go_wp2
      go_ret
      exact ⟨⟨_, rfl, .inr ⟨by omega, by omega⟩⟩, HB0.out⟩
  · rw [if_neg e1]
    go_wp2
    go_ret
    exact ⟨⟨_, rfl, .inl rfl⟩, HB0.out⟩

set_option maxHeartbeats 2000000 in
theorem c_toSlopes (v1 v2 : Value) (ss : List Int) (tss : List (List Int)) (w : World) (l1 : ss.length ≤ 4000000) (l2 : ShortT tss) (h : LookS w v1 v2 ss tss) :
    Calls Tryd.prog 20 #[.agg #[v1, v2]] w (GivesS w ss tss) := by
  have H := Lib.hid h
  obtain ⟨A1, c1, rfl, m1, _⟩ := h.s
  obtain ⟨A2, c2, rfl, m2⟩ := h.t.shape
  clear h m1 m2
  have HX0 : Hid (Mine2 (((w.alloc (.cells #[.slice A1 ss.length c1, .slice A2 tss.length c2] 39)).alloc (.cells #[.slice none 0 0, .slice none 0 0] 27)).alloc (.cells #[.slice none 0 0, .slice none 0 0] 27)) w.heap.size (.slice A1 ss.length c1) (.slice A2 tss.length c2)) := (Mine2.new _ _ _ _).below (((Below.refl _ _).alloc (Nat.le_refl _) _).alloc (by simp) _)
  have HR0 : Hid (Mine2 (((w.alloc (.cells #[.slice A1 ss.length c1, .slice A2 tss.length c2] 39)).alloc (.cells #[.slice none 0 0, .slice none 0 0] 27)).alloc (.cells #[.slice none 0 0, .slice none 0 0] 27)) (w.heap.size + 1) (.slice none 0 0) (.slice none 0 0)) := by
    have := (Mine2.new (w.alloc (.cells #[.slice A1 ss.length c1, .slice A2 tss.length c2] 39)) (.slice none 0 0) (.slice none 0 0) 27).below ((Below.refl _ _).alloc (Nat.le_refl _) (.cells #[.slice none 0 0, .slice none 0 0] 27))
    simp at this
    exact this
  have HO0 : Hid (Mine2 (((w.alloc (.cells #[.slice A1 ss.length c1, .slice A2 tss.length c2] 39)).alloc (.cells #[.slice none 0 0, .slice none 0 0] 27)).alloc (.cells #[.slice none 0 0, .slice none 0 0] 27)) (w.heap.size + 1 + 1) (.slice none 0 0) (.slice none 0 0)) := by
    have := Mine2.new ((w.alloc (.cells #[.slice A1 ss.length c1, .slice A2 tss.length c2] 39)).alloc (.cells #[.slice none 0 0, .slice none 0 0] 27)) (.slice none 0 0) (.slice none 0 0) 27
    simp at this
    exact this
  have HB0 : Hid (Below w.heap.size w (((w.alloc (.cells #[.slice A1 ss.length c1, .slice A2 tss.length c2] 39)).alloc (.cells #[.slice none 0 0, .slice none 0 0] 27)).alloc (.cells #[.slice none 0 0, .slice none 0 0] 27))) := (((Below.refl _ _).alloc (Nat.le_refl _) _).alloc (by simp) _).alloc (by simp; omega) _
  have HS0 : Hid (w.heap.size + 3 ≤ (((w.alloc (.cells #[.slice A1 ss.length c1, .slice A2 tss.length c2] 39)).alloc (.cells #[.slice none 0 0, .slice none 0 0] 27)).alloc (.cells #[.slice none 0 0, .slice none 0 0] 27)).heap.size) := by simp [Hid]
  go_enter Tryd.func20, Tryd.ntmps20
  go_wp2_with fail
  generalize (((w.alloc (.cells #[.slice A1 ss.length c1, .slice A2 tss.length c2] 39)).alloc (.cells #[.slice none 0 0, .slice none 0 0] 27)).alloc (.cells #[.slice none 0 0, .slice none 0 0] 27)) = W at *
  refine (c_toIntS ss _ _ l1 (H.out.s.below HB0.out)).mono ?_
  rintro e w1 ⟨u1, rfl, hr1, hb1⟩
  obtain ⟨U1, d1, hu1⟩ := hr1.shape
  subst hu1
  have HR1 := Lib.hid hr1
  have HB1 : Hid (Below w.heap.size w w1) := HB0.out.trans (hb1.mono HB0.out.size)
  have HX1 := Lib.hid (HX0.out.below hb1)
  have HRe1 := Lib.hid (HR0.out.below hb1)
  have HO1 := Lib.hid (HO0.out.below hb1)
  have HS1 := Lib.hid hb1.size
  clear hr1 hb1
  have o0 := HO1.out.c0
  have o1 := HO1.out.c1
  have of0 := HO1.out.f 0
  have of1 := HO1.out.f 1
  have x0 := HX1.out.c0
  have x1 := HX1.out.c1
  have HO2 := Lib.hid (HO1.out.set0 (.slice U1 ss.length d1))
  have HRe2 := Lib.hid (HRe1.out.other (b' := w.heap.size + 1 + 1) (o' := 0) (.slice U1 ss.length d1) (by omega))
  have HX2 := Lib.hid (HX1.out.other (b' := w.heap.size + 1 + 1) (o' := 0) (.slice U1 ss.length d1) (by omega))
  have HB2 : Hid (Below w.heap.size w (w1.setCell ⟨w.heap.size + 1 + 1, 0, none⟩ (.slice U1 ss.length d1))) := HB1.out.setCell (by show _ ≤ w.heap.size + 1 + 1; omega) _
  have HR2 : Hid (Row (w1.setCell ⟨w.heap.size + 1 + 1, 0, none⟩ (.slice U1 ss.length d1)) W.heap.size (.slice U1 ss.length d1) ss) := HR1.out.put (by show w.heap.size + 1 + 1 < _; have := HS0.out; omega) _
  have HS2 : Hid (W.heap.size ≤ (w1.setCell ⟨w.heap.size + 1 + 1, 0, none⟩ (.slice U1 ss.length d1)).heap.size) := by simp [Hid]; exact HS1.out
  go_wp2_with fail
  generalize (w1.setCell ⟨w.heap.size + 1 + 1, 0, none⟩ (.slice U1 ss.length d1)) = w2 at *
  refine (c_toOffsetSS tss _ _ l2 (H.out.t.below HB2.out)).mono ?_
  rintro e w3 ⟨u2, rfl, hr3, hb3⟩
  obtain ⟨U2, d2, hu2⟩ := hr3.shape
  subst hu2
  have HT3 := Lib.hid hr3
  have HB3 : Hid (Below w.heap.size w w3) := HB2.out.trans (hb3.mono HB2.out.size)
  have HR3 := Lib.hid (HR2.out.below hb3)
  have HRe3 := Lib.hid (HRe2.out.below hb3)
  have HO3 := Lib.hid (HO2.out.below hb3)
  have HS3 := Lib.hid hb3.size
  clear hr3 hb3 o0 o1 of0 of1 x0 x1
  have o0 := HO3.out.c0
  have o1 := HO3.out.c1
  have of1 := HO3.out.f 1
  have HO4 := Lib.hid (HO3.out.set1 (.slice U2 tss.length d2))
  have HRe4 := Lib.hid (HRe3.out.other (b' := w.heap.size + 1 + 1) (o' := 1) (.slice U2 tss.length d2) (by omega))
  have HB4 : Hid (Below w.heap.size w (w3.setCell ⟨w.heap.size + 1 + 1, 1, none⟩ (.slice U2 tss.length d2))) := HB3.out.setCell (by show _ ≤ w.heap.size + 1 + 1; omega) _
  have HR4 : Hid (Row (w3.setCell ⟨w.heap.size + 1 + 1, 1, none⟩ (.slice U2 tss.length d2)) W.heap.size (.slice U1 ss.length d1) ss) := HR3.out.put (by show w.heap.size + 1 + 1 < _; have := HS0.out; omega) _
  have HT4 : Hid (RowsO (w3.setCell ⟨w.heap.size + 1 + 1, 1, none⟩ (.slice U2 tss.length d2)) w2.heap.size w3.heap.size (.slice U2 tss.length d2) tss) := HT3.out.put (by show w.heap.size + 1 + 1 < _; have := HS0.out; have := HS2.out; omega) _
  have HS4 : Hid ((w3.setCell ⟨w.heap.size + 1 + 1, 1, none⟩ (.slice U2 tss.length d2)).heap.size = w3.heap.size) := by simp [Hid]
  go_upto_region 4 with fail
  generalize (w3.setCell ⟨w.heap.size + 1 + 1, 1, none⟩ (.slice U2 tss.length d2)) = w4 at *
  clear o0 o1 of1
  have o0 := HO4.out.c0
  have o1 := HO4.out.c1
  have r0 := HRe4.out.c0
  have r1 := HRe4.out.c1
  have rf0 := HRe4.out.f 0
  have rf1 := HRe4.out.f 1
  have HP : Hid (Mine2 ((w4.setCell ⟨w.heap.size + 1, 0, none⟩ (.slice U1 ss.length d1)).setCell ⟨w.heap.size + 1, 1, none⟩ (.slice U2 tss.length d2)) (w.heap.size + 1) (.slice U1 ss.length d1) (.slice U2 tss.length d2)) := (HRe4.out.set0 _).set1 _
  have HBE : Hid (Below w.heap.size w ((w4.setCell ⟨w.heap.size + 1, 0, none⟩ (.slice U1 ss.length d1)).setCell ⟨w.heap.size + 1, 1, none⟩ (.slice U2 tss.length d2))) := (HB4.out.setCell (by show _ ≤ w.heap.size + 1; omega) _).setCell (by show _ ≤ w.heap.size + 1; omega) _
  have HRE : Hid (Row ((w4.setCell ⟨w.heap.size + 1, 0, none⟩ (.slice U1 ss.length d1)).setCell ⟨w.heap.size + 1, 1, none⟩ (.slice U2 tss.length d2)) W.heap.size (.slice U1 ss.length d1) ss) := (HR4.out.put (by show w.heap.size + 1 < _; have := HS0.out; omega) _).put (by show w.heap.size + 1 < _; have := HS0.out; omega) _
  have HTE : Hid (RowsO ((w4.setCell ⟨w.heap.size + 1, 0, none⟩ (.slice U1 ss.length d1)).setCell ⟨w.heap.size + 1, 1, none⟩ (.slice U2 tss.length d2)) w2.heap.size w3.heap.size (.slice U2 tss.length d2) tss) := (HT4.out.put (by show w.heap.size + 1 < _; have := HS0.out; have := HS2.out; omega) _).put (by show w.heap.size + 1 < _; have := HS0.out; have := HS2.out; omega) _
  have HSE : Hid (((w4.setCell ⟨w.heap.size + 1, 0, none⟩ (.slice U1 ss.length d1)).setCell ⟨w.heap.size + 1, 1, none⟩ (.slice U2 tss.length d2)).heap.size = w3.heap.size) := by simp [Hid]; exact HS4.out
  go_wp2
  generalize ((w4.setCell ⟨w.heap.size + 1, 0, none⟩ (.slice U1 ss.length d1)).setCell ⟨w.heap.size + 1, 1, none⟩ (.slice U2 tss.length d2)) = we at *
  have e0 := HP.out.c0
  have e1 := HP.out.c1
  refine bodyPost_ret (v := .agg #[.slice U1 ss.length d1, .slice U2 tss.length d2]) (by simp [results, Tryd.results20, go_sem, e0, e1]) rfl ⟨_, _, rfl, ⟨HRE.out.mono HB0.out.size, (HTE.out.mono (Nat.le_trans HB0.out.size HS2.out)).up (by rw [HSE.out]; exact Nat.le_refl _), fun k hk => (World.ownsRow.lt HRE.out k hk).2⟩, HBE.out⟩

set_option maxHeartbeats 1000000 in
theorem c_eqSlopes (v1 v2 u1 u2 : Value) (B1 U1 B2 U2 : Nat) (ss : List Int) (tss : List (List Int)) (w : World) (l1 : ss.length ≤ 4000000) (l2 : tss.length ≤ 1048576) (l3 : Short3 tss) (h : OwnS w B1 U1 v1 v2 ss tss) (h' : OwnS w B2 U2 u1 u2 ss tss) (s1 : U1 ≤ w.heap.size) (s2 : U2 ≤ w.heap.size) :
    Calls Tryd.prog 13 #[.agg #[v1, v2], .agg #[u1, u2]] w fun e w' => e = .returned (.bool true) ∧ Below w.heap.size w w' := by
  have H := Lib.hid h
  have H' := Lib.hid h'
  have L3 := Lib.hid l3
  obtain ⟨A1, c1, rfl⟩ := h.s.shape
  obtain ⟨A2, c2, rfl⟩ := h.t.shape
  obtain ⟨E1, d1, rfl⟩ := h'.s.shape
  obtain ⟨E2, d2, rfl⟩ := h'.t.shape
  clear h h' l3
  have HX0 : Hid (Mine2 ((w.alloc (.cells #[.slice A1 ss.length c1, .slice A2 tss.length c2] 27)).alloc (.cells #[.slice E1 ss.length d1, .slice E2 tss.length d2] 27)) w.heap.size (.slice A1 ss.length c1) (.slice A2 tss.length c2)) := (Mine2.new _ _ _ _).below ((Below.refl _ _).alloc (Nat.le_refl _) _)
  have HY0 : Hid (Mine2 ((w.alloc (.cells #[.slice A1 ss.length c1, .slice A2 tss.length c2] 27)).alloc (.cells #[.slice E1 ss.length d1, .slice E2 tss.length d2] 27)) (w.heap.size + 1) (.slice E1 ss.length d1) (.slice E2 tss.length d2)) := by
    have := Mine2.new (w.alloc (.cells #[.slice A1 ss.length c1, .slice A2 tss.length c2] 27)) (.slice E1 ss.length d1) (.slice E2 tss.length d2) 27
    simp at this
    exact this
  have HB0 : Hid (Below w.heap.size w ((w.alloc (.cells #[.slice A1 ss.length c1, .slice A2 tss.length c2] 27)).alloc (.cells #[.slice E1 ss.length d1, .slice E2 tss.length d2] 27))) := ((Below.refl _ _).alloc (Nat.le_refl _) _).alloc (by simp) _
  go_enter Tryd.func13, Tryd.ntmps13
  go_wp2_with fail
  generalize ((w.alloc (.cells #[.slice A1 ss.length c1, .slice A2 tss.length c2] 27)).alloc (.cells #[.slice E1 ss.length d1, .slice E2 tss.length d2] 27)) = W at *
  refine (c_eqIntS ss _ _ B1 B2 _ l1 (H.out.below HB0.out s1).s (H'.out.below HB0.out s2).s).mono ?_
  rintro e w1 ⟨rfl, hb1⟩
  have HX1 := Lib.hid (HX0.out.below hb1)
  have HY1 := Lib.hid (HY0.out.below hb1)
  have HB1 : Hid (Below w.heap.size w w1) := HB0.out.trans (hb1.mono HB0.out.size)
  clear hb1
  have x0 := HX1.out.c0
  have x1 := HX1.out.c1
  have y0 := HY1.out.c0
  have y1 := HY1.out.c1
  go_wp2_with fail
  refine (c_eqOffsetSS tss _ _ B1 U1 B2 U2 _ l2 L3.out (H.out.below HB1.out s1).t (H'.out.below HB1.out s2).t (Nat.le_trans s1 HB1.out.size) (Nat.le_trans s2 HB1.out.size)).mono ?_
  rintro e w2 ⟨rfl, hb2⟩
  have HB2 : Hid (Below w.heap.size w w2) := HB1.out.trans (hb2.mono HB1.out.size)
  clear hb2 x0 x1 y0 y1
  go_wp2
  go_ret
  exact ⟨rfl, HB2.out⟩

set_option maxHeartbeats 1000000 in
theorem c_markSlopes (v1 v2 : Value) (B U : Nat) (ss : List Int) (tss : List (List Int)) (w : World) (l1 : ss.length ≤ 1048576) (l2 : tss.length ≤ 1048576) (l3 : totN tss tss.length ≤ 3145728) (l4 : (ss.length : Int) + totN tss tss.length ≤ 3999999) (h : OwnS w B U v1 v2 ss tss) (hB : B ≤ w.heap.size) (hU : U ≤ w.heap.size) :
    Calls Tryd.prog 14 #[.agg #[v1, v2], .int .i64 1] w fun e w' => e = .returned (.int .i64 (1 + (ss.length : Int) + totN tss tss.length)) ∧ Below B w w' ∧ Above U w w' := by
  have H := Lib.hid h
  obtain ⟨A1, c1, rfl⟩ := h.s.shape
  obtain ⟨A2, c2, rfl⟩ := h.t.shape
  clear h
  have HX0 : Hid (Mine2 (w.alloc (.cells #[.slice A1 ss.length c1, .slice A2 tss.length c2] 27)) w.heap.size (.slice A1 ss.length c1) (.slice A2 tss.length c2)) := Mine2.new _ _ _ _
  have HB0 : Hid (Below w.heap.size w (w.alloc (.cells #[.slice A1 ss.length c1, .slice A2 tss.length c2] 27))) := (Below.refl _ _).alloc (Nat.le_refl _) _
  have HS0 : Hid (w.heap.size < (w.alloc (.cells #[.slice A1 ss.length c1, .slice A2 tss.length c2] 27)).heap.size) := by simp [Hid]
  have HA0 : Hid (Above U w (w.alloc (.cells #[.slice A1 ss.length c1, .slice A2 tss.length c2] 27))) := fun k _ hk => HB0.out.block k hk
  go_enter Tryd.func14, Tryd.ntmps14
  go_wp2_with fail
  generalize (w.alloc (.cells #[.slice A1 ss.length c1, .slice A2 tss.length c2] 27)) = W at *
  have HO := Lib.hid (H.out.below HB0.out hU)
  refine (c_markIntS ss _ B 1 _ (by omega) (by omega) (by omega) HO.out.s).mono ?_
  rintro e w1 ⟨rfl, hr1, hg1⟩
  have ho1 : ∀ j, (Value.slice A1 ss.length c1).ownBlock = some j → B ≤ j := fun j hj => (World.ownsRow.lt HO.out.s j hj).1
  have HB1 : Hid (Below B w w1) := (HB0.out.mono hB).grown hg1 (Nat.le_trans hB HB0.out.size) ho1
  have HA1 : Hid (Above U w w1) := HA0.out.grown HB0.out.size hg1 HO.out.top
  have HS1 := Lib.hid hg1.size
  have HX1 : Hid (Mine2 w1 w.heap.size (.slice A1 ss.length c1) (.slice A2 tss.length c2)) := by
    have e := hg1.block w.heap.size HS0.out (fun e => by have := HO.out.top w.heap.size (by first | exact e | exact e.symm); omega)
    have k : ∀ j, w1.cell? ⟨w.heap.size, j, none⟩ = W.cell? ⟨w.heap.size, j, none⟩ := fun j => by simp only [World.cell?, e]
    have kf : ∀ j, w1.frozen? ⟨w.heap.size, j, none⟩ = W.frozen? ⟨w.heap.size, j, none⟩ := fun j => by simp only [World.frozen?, e]
    exact ⟨Nat.lt_of_lt_of_le HS0.out hg1.size, by rw [k]; exact HX0.out.c0, by rw [k]; exact HX0.out.c1, fun o => by rw [kf]; exact HX0.out.f o⟩
  have HT1 : Hid (RowsO w1 B U (.slice A2 tss.length c2) tss) := by
    obtain ⟨vs, t⟩ := HO.out.t
    exact ⟨vs, t.len, own_stays t.own fun k e => hg1.block k (World.ownsRow.lt t.own k e).2 (fun e' => own_types t.own HO.out.s (by decide) e (by first | exact e' | exact e'.symm)), t.top, fun i hi => own_stays (t.row i hi) fun k e => hg1.block k (World.ownsRow.lt (t.row i hi) k e).2 (fun e' => own_types (t.row i hi) HO.out.s (by decide) e (by first | exact e' | exact e'.symm)), t.rtop, t.apart⟩
  clear hr1 hg1 ho1
  have x0 := HX1.out.c0
  have x1 := HX1.out.c1
  go_wp2_with fail
  refine (c_markOffsetSS tss _ B U (1 + (ss.length : Int)) _ l2 l3 (by omega) (by omega) HT1.out (Nat.le_trans hB HB1.out.size)).mono ?_
  rintro e w2 ⟨rfl, _, hb2, ha2⟩
  have HB2 : Hid (Below B w w2) := HB1.out.trans hb2
  have HA2 : Hid (Above U w w2) := fun k hk hl => by rw [ha2 k hk (Nat.lt_of_lt_of_le hl HB1.out.size)]; exact HA1.out k hk hl
  clear hb2 ha2 x0 x1
  go_wp2
  go_ret
  exact ⟨rfl, HB2.out, HA2.out⟩
end Go.Proofs.YtmimilchldjkbaaDoor
