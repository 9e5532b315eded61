/-
  Contracts: slopes of one standard template, in the model and in the program; slopes found as marked.
-/
import Derived.Test.YtmimilchldjkbaaDoorK8
import Derived.Test.YtmimilchldjkbaaDoorK4
import Derived.Test.YtmimilchldjkbaaDoorL3
import Derived.Deep.RegionHeld3
namespace Go.Proofs.YtmimilchldjkbaaDoor
open Go.RowKit
set_option linter.unusedVariables false

/-- One list of offsets in a literal. -/
theorem rowsO_one {w : World} {B : Nat} {p : Value} {ys : List Int} (hp : RowO w B p ys) (hB : B ≤ w.heap.size) :
    RowsO (w.alloc (.cells #[p] 70)) B (w.alloc (.cells #[p] 70)).heap.size (.slice (some ⟨w.heap.size, 0, none⟩) 1 1) [ys] := by
  have ho := World.ownsRow_lit (base := B) (e := 70) (size := 1) w #[p] 1 hB (by unfold maxLen; omega) (by simp)
  have hr : RowO (w.alloc (.cells #[p] 70)) B p ys := RowO.below hp ((Below.refl _ _).alloc (Nat.le_refl _) _)
  refine ⟨[p], rfl, ho, fun k hk => (World.ownsRow.lt ho k hk).2, fun i hi => ?_, fun i k hi hk => ?_, fun i j hi hj hne => ?_⟩
  · obtain rfl : i = 0 := by simpa using hi
    exact hr
  · obtain rfl : i = 0 := by simpa using hi
    exact (World.ownsRow.lt hr k hk).2
  · simp at hi hj
    omega
theorem OwnS.put {w : World} {B U : Nat} {v1 v2 : Value} {ss : List Int} {tss : List (List Int)} (h : OwnS w B U v1 v2 ss tss) {a : Addr} (ha : a.block < B) (u : Value) : OwnS (w.setCell a u) B U v1 v2 ss tss :=
  ⟨Row.put h.s ha u, h.t.put ha u, h.top⟩
theorem OwnS.draws {w : World} {B U : Nat} {v1 v2 : Value} {ss : List Int} {tss : List (List Int)} (h : OwnS w B U v1 v2 ss tss) (n : Nat) : OwnS (w.drewN n) B U v1 v2 ss tss := ⟨h.s, h.t.draws n, h.top⟩
theorem OwnS.none (w : World) (B U : Nat) : OwnS w B U (.slice none 0 0) (.slice none 0 0) [] [] := ⟨Row.nil _ _, RowsO.nil _ _ _, fun k hk => by simp [Value.ownBlock] at hk⟩
theorem OwnS.of {w : World} {B : Nat} {v1 v2 : Value} {ss : List Int} {tss : List (List Int)} {U : Nat} (h1 : Row w B v1 ss) (h2 : RowsO w B U v2 tss) (hU : U ≤ w.heap.size) : OwnS w B w.heap.size v1 v2 ss tss :=
  ⟨h1, h2.up hU, fun k hk => (World.ownsRow.lt h1 k hk).2⟩

theorem below_one {B : Nat} {W u : World} (h : Below B W u) (hB : B ≤ W.heap.size) (o1 : Obj) : Below B W (u.alloc o1) := h.alloc (Nat.le_trans hB h.size) _
theorem below_two {B : Nat} {W u : World} (h : Below B W u) (hB : B ≤ W.heap.size) (o1 o2 : Obj) : Below B W ((u.alloc o1).alloc o2) := below_one (below_one h hB o1) hB o2
theorem Box3.other {w : World} {b : Nat} {x y z : Int} (h : Box3 w b x y z) {b' o' : Nat} (v : Value) (hne : b' ≠ b) : Box3 (w.setCell ⟨b', o', none⟩ v) b x y z :=
  ⟨by simp; exact h.lt, (World.cell?_setCell_other _ _ _ _ (fun e => hne (by injection e))).trans h.c0, (World.cell?_setCell_other _ _ _ _ (fun e => hne (by injection e))).trans h.c1, (World.cell?_setCell_other _ _ _ _ (fun e => hne (by injection e))).trans h.c2⟩
abbrev mkZ (m : Nat) : Obj := .cells (madeCells #[.int .i64 0] m) 3
theorem make_zeros {q : Int} {m : Nat} (hq : q = (m : Int)) (hm : m ≤ 1000) : ∀ W : World, (Instr.makeSlice 24 (.int .i64 q) (.int .i64 q)).run Tryd.prog W = .ok (.slice (some ⟨W.heap.size, 0, none⟩) m m) (W.alloc (.cells (madeCells #[.int .i64 0] m) 3)) := fun W => by
  obtain ⟨i0, hi0, hz0, hz1, hz2⟩ := info_parts int_info
  subst hq
  have := run_make (P := Tryd.prog) W 24 3 i0 (.int .i64 0) Tryd.underlying24 hi0 hz0 .i64 .i64 (m : Int) (m : Int) (by omega) (by omega) (by rw [hz2]; omega) (by omega)
  simpa [hz1, Value.cells] using this

set_option maxHeartbeats 4000000 in
theorem c_heldSlopes (v1 v2 : Value) (B U : Nat) (n : Nat) (tss : List (List Int)) (w : World) (l1 : n ≤ 1048576) (l2 : tss.length ≤ 1048576) (l3 : totN tss tss.length ≤ 3145728) (l4 : (n : Int) + totN tss tss.length ≤ 3999999) (h : OwnS w B U v1 v2 (marks 1 n) (marksTo (1 + (n : Int)) tss tss.length)) :
    Calls Tryd.prog 15 #[.agg #[v1, v2], .int .i64 1] w fun e w' => e = .returned (.int .i64 (1 + (n : Int) + totN tss tss.length)) ∧ Below w.heap.size w w' := by
  have hbx : Below w.heap.size w (w.alloc (.cells #[v1, v2] 27)) := (Below.refl _ _).alloc (Nat.le_refl _) _
  have HS : Hid (Row (w.alloc (.cells #[v1, v2] 27)) B v1 (marks 1 n)) := Row.below h.s hbx
  have HT : Hid (RowsO (w.alloc (.cells #[v1, v2] 27)) B w.heap.size v2 (marksTo (1 + (n : Int)) tss tss.length)) := by
    obtain ⟨vs, t⟩ := h.t
    have t' : RowsW w B w.heap.size v2 (marksTo (1 + (n : Int)) tss tss.length) vs := ⟨t.len, t.own, fun k hk => (World.ownsRow.lt t.own k hk).2, t.row, fun i k hi hk => (World.ownsRow.lt (t.row i hi) k hk).2, t.apart⟩
    exact RowsO.below ⟨vs, t'⟩ hbx (Nat.le_refl _)
  obtain ⟨A1, c1, rfl⟩ := h.s.shape
  obtain ⟨A2, c2, rfl⟩ := h.t.shape
  have HB := Lib.hid hbx
  clear h hbx
  have b3 : ¬ (1 + (n : Int)) < 0 := by omega
  have b4 : ¬ (1 + (n : Int) + (totN tss tss.length : Nat)) < 0 := by omega
  have C1 := Lib.hid (c_heldIntS _ B n 1 _ (by omega) (by omega) (by omega) HS.out)
  have C2 := Lib.hid (c_heldOffsetSS tss _ B w.heap.size (1 + (n : Int)) _ l2 l3 (by omega) (by omega) HT.out)
  clear HS HT
  generalize (marks 1 n).length = q1 at *
  generalize (marksTo (1 + (n : Int)) tss tss.length).length = q2 at *
  generalize totN tss tss.length = tt at *
  go_enter Tryd.func15, Tryd.ntmps15
  go_wp2_with fail
  refine C1.out.mono ?_
  rintro e w1 ⟨rfl, rfl⟩
  go_wp2_with fail
  refine C2.out.mono ?_
  rintro e w1 ⟨rfl, rfl⟩
  go_wp2
  go_ret
  exact ⟨rfl, HB.out⟩

theorem put_alloc1 {u : World} {r : Nat} (h : r < u.heap.size) (a b : Value) (O : Obj) : (((u.setCell ⟨r, 0, none⟩ a).setCell ⟨r, 1, none⟩ b).alloc O) = ((u.alloc O).setCell ⟨r, 0, none⟩ a).setCell ⟨r, 1, none⟩ b := by
  rw [World.setCell_alloc_past O r 0 a h, World.setCell_alloc_past O r 1 b (by simpa using h)]
theorem put_alloc2 {u : World} {r : Nat} (h : r < u.heap.size) (a b : Value) (O O' : Obj) : ((((u.setCell ⟨r, 0, none⟩ a).setCell ⟨r, 1, none⟩ b).alloc O).alloc O') = (((u.alloc O).alloc O').setCell ⟨r, 0, none⟩ a).setCell ⟨r, 1, none⟩ b := by
  rw [put_alloc1 h, put_alloc1 (u := u.alloc O) (by simp; omega)]
/-- What the store of a struct of two slices leaves. -/
theorem put_two {u' we : World} {B r : Nat} {a b q0 q1 : Value} {ss : List Int} {tss : List (List Int)} (hm : Mine2 u' r q0 q1) (ho : OwnS u' B u'.heap.size a b ss tss) (hr : r < B) (he : we = (u'.setCell ⟨r, 0, none⟩ a).setCell ⟨r, 1, none⟩ b) :
    OwnS we B we.heap.size a b ss tss ∧ Mine2 we r a b := by
  subst he
  refine ⟨?_, (hm.set0 a).set1 b⟩
  have := (ho.put (a := ⟨r, 0, none⟩) hr a).put (a := ⟨r, 1, none⟩) hr b
  simpa using this
theorem own_litA {W u : World} {B m : Nat} {v : Value} {X : List Int} (hz : Row W B v (List.replicate m 0)) (hb : Below W.heap.size W u) {p : Value} {N : Nat} (hr : RowP u B p N X) (hB : B ≤ u.heap.size) :
    OwnS (u.alloc (.cells #[p] 70)) B (u.alloc (.cells #[p] 70)).heap.size v (.slice (some ⟨u.heap.size, 0, none⟩) 1 1) (List.replicate m 0) [X] :=
  OwnS.of ((hz.below hb).below ((Below.refl _ _).alloc (Nat.le_refl _) _)) (rowsO_one hr.rowO hB) (Nat.le_refl _)
theorem own_litB {u : World} {B m : Nat} {X : List Int} (hm : m ≤ 1000) {p : Value} {N : Nat} (hr : RowP u B p N X) (hB : B ≤ u.heap.size) :
    OwnS ((u.alloc (.cells (madeCells #[.int .i64 0] m) 3)).alloc (.cells #[p] 70)) B ((u.alloc (.cells (madeCells #[.int .i64 0] m) 3)).alloc (.cells #[p] 70)).heap.size (.slice (some ⟨u.heap.size, 0, none⟩) m m) (.slice (some ⟨u.heap.size + 1, 0, none⟩) 1 1) (List.replicate m 0) [X] := by
  have hb : Below u.heap.size u (u.alloc (.cells (madeCells #[.int .i64 0] m) 3)) := (Below.refl _ _).alloc (Nat.le_refl _) _
  have h1 := (row_zeros u m (by unfold maxLen; omega)).mono hB
  have h2 := own_litA (u := u.alloc (.cells (madeCells #[.int .i64 0] m) 3)) h1 (Below.refl _ _) (RowP.below hr hb) (Nat.le_trans hB hb.size)
  simpa using h2
theorem own_litC {u : World} {B m : Nat} {X : List Int} (hm : m ≤ 1000) {p : Value} {N : Nat} (hr : RowP u B p N X) (hB : B ≤ u.heap.size) :
    OwnS ((u.alloc (.cells #[p] 70)).alloc (.cells (madeCells #[.int .i64 0] m) 3)) B ((u.alloc (.cells #[p] 70)).alloc (.cells (madeCells #[.int .i64 0] m) 3)).heap.size (.slice (some ⟨u.heap.size + 1, 0, none⟩) m m) (.slice (some ⟨u.heap.size, 0, none⟩) 1 1) (List.replicate m 0) [X] := by
  have h0 := rowsO_one hr.rowO hB
  have h1 := (row_zeros (u.alloc (.cells #[p] 70)) m (by unfold maxLen; omega)).mono (B' := B) (by simp; omega)
  have h2 := OwnS.of h1 (h0.below ((Below.refl _ _).alloc (Nat.le_refl _) (.cells (madeCells #[.int .i64 0] m) 3)) (Nat.le_refl _)) (by simp)
  simpa using h2

set_option maxHeartbeats 8000000 in
set_option maxRecDepth 100000 in
theorem c_slUniform (x y z : Int) (k : Nat) (w : World) (hg : goodB x y z = true) (k1 : 1 ≤ k) (k2 : k ≤ 4) :
    Calls Tryd.prog 40 #[.agg #[.int .i64 x, .int .i64 y, .int .i64 z], .int .i64 k] w (GivesS w (List.replicate (x * y).toNat 0) [stdX k]) := by
  obtain ⟨x1, x2, y1, y2, z1, z2, p1, p2, q1, q2⟩ := good_box hg
  obtain ⟨m, hm⟩ := Int.eq_ofNat_of_zero_le p1
  have hm2 : m ≤ 1000 := by omega
  have hmk := make_zeros hm hm2
  rw [show (x * y).toNat = m by omega]
  have CS := Lib.hid (fun u => c_slStandard k u k1 k2)
  have HZ : Hid (∀ W : World, Row (W.alloc (.cells (madeCells #[.int .i64 0] m) 3)) W.heap.size (.slice (some ⟨W.heap.size, 0, none⟩) m m) (List.replicate m 0)) := fun W => row_zeros W m (by unfold maxLen; omega)
  have hw : IntKind.i64.wrap (x * y) = x * y := IntWalk.i64_in _ (by omega)
  have HM := Lib.hid hm
  clear hm hg
  generalize stdX k = X at *
  generalize stdN k = N at *
  have HX0 : Hid (Box3 ((w.alloc (.cells #[.int .i64 x, .int .i64 y, .int .i64 z] 30)).alloc (.cells #[.slice none 0 0, .slice none 0 0] 27)) w.heap.size x y z) := (Box3.new _ _ _ _ _).below ((Below.refl _ _).alloc (Nat.le_refl _) _)
  have HY0 : Hid (Mine2 ((w.alloc (.cells #[.int .i64 x, .int .i64 y, .int .i64 z] 30)).alloc (.cells #[.slice none 0 0, .slice none 0 0] 27)) (w.heap.size + 1) (.slice none 0 0) (.slice none 0 0)) := by
    have := Mine2.new (w.alloc (.cells #[.int .i64 x, .int .i64 y, .int .i64 z] 30)) (.slice none 0 0) (.slice none 0 0) 27
    simp at this
    exact this
  have HB0 : Hid (Below w.heap.size w ((w.alloc (.cells #[.int .i64 x, .int .i64 y, .int .i64 z] 30)).alloc (.cells #[.slice none 0 0, .slice none 0 0] 27))) := ((Below.refl _ _).alloc (Nat.le_refl _) _).alloc (by simp) _
  have HL0 : Hid (w.heap.size + 2 = ((w.alloc (.cells #[.int .i64 x, .int .i64 y, .int .i64 z] 30)).alloc (.cells #[.slice none 0 0, .slice none 0 0] 27)).heap.size) := by simp [Hid]
  go_enter Tryd.func40, Tryd.ntmps40
  go_wp2_with fail
  generalize ((w.alloc (.cells #[.int .i64 x, .int .i64 y, .int .i64 z] 30)).alloc (.cells #[.slice none 0 0, .slice none 0 0] 27)) = W0 at *
  have KE : Hid (∀ u, Below W0.heap.size W0 u → u.cell? ⟨w.heap.size, 0, none⟩ = some (.int .i64 x) ∧ u.cell? ⟨w.heap.size, 1, none⟩ = some (.int .i64 y)) := fun u hu => ⟨(HX0.out.below hu).c0, (HX0.out.below hu).c1⟩
  have KS : Hid (∀ u a b O, Below W0.heap.size W0 u → (((u.setCell ⟨w.heap.size + 1, 0, none⟩ a).setCell ⟨w.heap.size + 1, 1, none⟩ b).alloc O).cell? ⟨w.heap.size, 0, none⟩ = some (.int .i64 x) ∧ (((u.setCell ⟨w.heap.size + 1, 0, none⟩ a).setCell ⟨w.heap.size + 1, 1, none⟩ b).alloc O).cell? ⟨w.heap.size, 1, none⟩ = some (.int .i64 y)) := fun u a b O hu => by
    have h := ((((HX0.out.below hu).other (b' := w.heap.size + 1) (o' := 0) a (by omega)).other (b' := w.heap.size + 1) (o' := 1) b (by omega))).below ((Below.refl _ _).alloc (Nat.le_refl _) O)
    exact ⟨h.c0, h.c1⟩
  have KT : Hid (∀ u a b O O', Below W0.heap.size W0 u → ((((u.setCell ⟨w.heap.size + 1, 0, none⟩ a).setCell ⟨w.heap.size + 1, 1, none⟩ b).alloc O).alloc O').cell? ⟨w.heap.size, 0, none⟩ = some (.int .i64 x) ∧ ((((u.setCell ⟨w.heap.size + 1, 0, none⟩ a).setCell ⟨w.heap.size + 1, 1, none⟩ b).alloc O).alloc O').cell? ⟨w.heap.size, 1, none⟩ = some (.int .i64 y)) := fun u a b O O' hu => by
    have h := (((((HX0.out.below hu).other (b' := w.heap.size + 1) (o' := 0) a (by omega)).other (b' := w.heap.size + 1) (o' := 1) b (by omega))).below ((Below.refl _ _).alloc (Nat.le_refl _) O)).below ((Below.refl _ _).alloc (Nat.le_refl _) O')
    exact ⟨h.c0, h.c1⟩
  have KD : Hid (Below W0.heap.size W0 W0.drew) := (Below.refl _ _).drew
  have KM : Hid (Below W0.heap.size W0 (W0.alloc (.cells (madeCells #[.int .i64 0] m) 3)).drew) := ((Below.refl _ _).alloc (Nat.le_refl _) _).drew
  go_region_held3 (fun u => u.cell? ⟨w.heap.size, 0, none⟩ = some (.int .i64 x) ∧ u.cell? ⟨w.heap.size, 1, none⟩ = some (.int .i64 y)) (first | with_reducible exact KE.out _ KD.out | with_reducible exact KE.out _ KM.out | with_reducible exact KE.out _ K4.out | with_reducible exact KE.out _ (below_one K4.out (Nat.le_refl _) _) | with_reducible exact KE.out _ (below_two K4.out (Nat.le_refl _) _ _) | with_reducible exact KS.out _ _ _ _ K4.out | with_reducible exact KT.out _ _ _ _ _ K4.out)
    (first | (go_at_call 50; refine (CS.out _).mono ?_; rintro e w4 ⟨v, rfl, hr, hb⟩; obtain ⟨PA, pc, rfl⟩ := RowP.shape hr; have HR := Lib.hid hr; have HB4 := Lib.hid hb; have K4 : Hid (Below W0.heap.size W0 w4) := (by first | exact KD.out.trans (hb.mono KD.out.size) | exact KM.out.trans (hb.mono KM.out.size)); have HY4 := HY0.out.below K4.out; have e0 := HY4.c0; have e1 := HY4.c1; have e2 := HY4.f 0; have e3 := HY4.f 1; have y4 := HY4.lt; have y5 : w.heap.size < w4.heap.size := Nat.lt_of_succ_lt y4; clear hr hb))
  · have KO := own_litA (u := w4) (B := W0.heap.size) (W := (W0.alloc (.cells (madeCells #[.int .i64 0] m) 3)).drew) (v := .slice (some ⟨W0.heap.size, 0, none⟩) m m) (HZ.out W0) HB4.out (RowP.mono HR.out (by simp)) K4.out.size
    obtain ⟨P1, P2⟩ := put_two (HY4.below ((Below.refl _ _).alloc (Nat.le_refl _) _)) KO (by have := HL0.out; omega) (put_alloc1 y4 _ _ _)
    have PB : Below w.heap.size w (((w4.setCell ⟨w.heap.size + 1, 0, none⟩ (.slice (some ⟨W0.heap.size, 0, none⟩) m m)).setCell ⟨w.heap.size + 1, 1, none⟩ (.slice (some ⟨w4.heap.size, 0, none⟩) 1 1)).alloc (.cells #[.slice PA N pc] 70)) := below_one (((HB0.out.trans (K4.out.mono HB0.out.size)).setCell (by show _ ≤ w.heap.size + 1; omega) _).setCell (by show _ ≤ w.heap.size + 1; omega) _) (Nat.le_refl _) _
    have H1 := Lib.hid P1
    have H2 := Lib.hid P2
    have H3 := Lib.hid PB
    clear KO P1 P2 PB HY4 e0 e1 e2 e3
    generalize (((w4.setCell ⟨w.heap.size + 1, 0, none⟩ (.slice (some ⟨W0.heap.size, 0, none⟩) m m)).setCell ⟨w.heap.size + 1, 1, none⟩ (.slice (some ⟨w4.heap.size, 0, none⟩) 1 1)).alloc (.cells #[.slice PA N pc] 70)) = we at *
    go_wp2
    have f0 := H2.out.c0
    have f1 := H2.out.c1
    refine bodyPost_ret (by simp [results, Tryd.results40, go_sem, f0, f1]) rfl ⟨_, _, rfl, H1.out.mono HB0.out.size, H3.out⟩
  · have KO := own_litB (u := w4) (B := W0.heap.size) hm2 (RowP.mono HR.out (by simp)) K4.out.size
    obtain ⟨P1, P2⟩ := put_two (HY4.below (below_two (Below.refl _ _) (Nat.le_refl _) _ _)) KO (by have := HL0.out; omega) (put_alloc2 y4 _ _ _ _)
    have PB : Below w.heap.size w ((((w4.setCell ⟨w.heap.size + 1, 0, none⟩ (.slice (some ⟨w4.heap.size, 0, none⟩) m m)).setCell ⟨w.heap.size + 1, 1, none⟩ (.slice (some ⟨w4.heap.size + 1, 0, none⟩) 1 1)).alloc (.cells (madeCells #[.int .i64 0] m) 3)).alloc (.cells #[.slice PA N pc] 70)) := below_two (((HB0.out.trans (K4.out.mono HB0.out.size)).setCell (by show _ ≤ w.heap.size + 1; omega) _).setCell (by show _ ≤ w.heap.size + 1; omega) _) (Nat.le_refl _) _ _
    have H1 := Lib.hid P1
    have H2 := Lib.hid P2
    have H3 := Lib.hid PB
    clear KO P1 P2 PB HY4 e0 e1 e2 e3
    generalize ((((w4.setCell ⟨w.heap.size + 1, 0, none⟩ (.slice (some ⟨w4.heap.size, 0, none⟩) m m)).setCell ⟨w.heap.size + 1, 1, none⟩ (.slice (some ⟨w4.heap.size + 1, 0, none⟩) 1 1)).alloc (.cells (madeCells #[.int .i64 0] m) 3)).alloc (.cells #[.slice PA N pc] 70)) = we at *
    go_wp2
    have f0 := H2.out.c0
    have f1 := H2.out.c1
    refine bodyPost_ret (by simp [results, Tryd.results40, go_sem, f0, f1]) rfl ⟨_, _, rfl, H1.out.mono HB0.out.size, H3.out⟩
  · have KO := own_litC (u := w4) (B := W0.heap.size) hm2 (RowP.mono HR.out (by simp)) K4.out.size
    obtain ⟨P1, P2⟩ := put_two (HY4.below (below_two (Below.refl _ _) (Nat.le_refl _) _ _)) KO (by have := HL0.out; omega) (put_alloc2 y4 _ _ _ _)
    have PB : Below w.heap.size w ((((w4.setCell ⟨w.heap.size + 1, 0, none⟩ (.slice (some ⟨w4.heap.size + 1, 0, none⟩) m m)).setCell ⟨w.heap.size + 1, 1, none⟩ (.slice (some ⟨w4.heap.size, 0, none⟩) 1 1)).alloc (.cells #[.slice PA N pc] 70)).alloc (.cells (madeCells #[.int .i64 0] m) 3)) := below_two (((HB0.out.trans (K4.out.mono HB0.out.size)).setCell (by show _ ≤ w.heap.size + 1; omega) _).setCell (by show _ ≤ w.heap.size + 1; omega) _) (Nat.le_refl _) _ _
    have H1 := Lib.hid P1
    have H2 := Lib.hid P2
    have H3 := Lib.hid PB
    clear KO P1 P2 PB HY4 e0 e1 e2 e3
    generalize ((((w4.setCell ⟨w.heap.size + 1, 0, none⟩ (.slice (some ⟨w4.heap.size + 1, 0, none⟩) m m)).setCell ⟨w.heap.size + 1, 1, none⟩ (.slice (some ⟨w4.heap.size, 0, none⟩) 1 1)).alloc (.cells #[.slice PA N pc] 70)).alloc (.cells (madeCells #[.int .i64 0] m) 3)) = we at *
    go_wp2
    have f0 := H2.out.c0
    have f1 := H2.out.c1
    refine bodyPost_ret (by simp [results, Tryd.results40, go_sem, f0, f1]) rfl ⟨_, _, rfl, H1.out.mono HB0.out.size, H3.out⟩
end Go.Proofs.YtmimilchldjkbaaDoor
