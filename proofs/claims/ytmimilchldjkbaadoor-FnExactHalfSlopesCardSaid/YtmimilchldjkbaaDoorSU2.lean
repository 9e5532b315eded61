/-
  Contracts: UniformSlopes, in the model and in the program.
-/
import Derived.Test.YtmimilchldjkbaaDoorSU1
import Derived.Test.YtmimilchldjkbaaDoorSU0
namespace Go.Proofs.YtmimilchldjkbaaDoor
open Go.RowKit
set_option linter.unusedVariables false

def usB (x y z k : Int) : Bool := goodB x y z && tofB k
def usS (x y z k : Int) : List Int := if usB x y z k then List.replicate (x * y).toNat 0 else []
def usT (x y z k : Int) : List (List Int) := if usB x y z k then [stdX k.toNat] else []
/-- Slopes and a bool. -/
def GivesS2 (w : World) (ss : List Int) (tss : List (List Int)) (b : Bool) (e : Ending) (w' : World) : Prop :=
  ∃ v1 v2, e = .returned (.tuple #[.agg #[v1, v2], .bool b]) ∧ OwnS w' w.heap.size w'.heap.size v1 v2 ss tss ∧ Below w.heap.size w w'
theorem us_no {x y z k : Int} (h : usB x y z k = false) : usS x y z k = [] ∧ usT x y z k = [] := by unfold usS usT; rw [h]; simp
theorem us_yes {x y z k : Int} (h : usB x y z k = true) : usS x y z k = List.replicate (x * y).toNat 0 ∧ usT x y z k = [stdX k.toNat] := by unfold usS usT; rw [h]; simp
/-- The world behind the head of a function over a grid that answers slopes. -/
abbrev headS (w : World) (x y z : Int) : World := (w.alloc (.cells #[.int .i64 x, .int .i64 y, .int .i64 z] 30)).alloc (.cells #[.slice none 0 0, .slice none 0 0] 27)
structure HeadS (w W : World) (x y z : Int) : Prop where
  g : Box3 W w.heap.size x y z
  s : Mine2 W (w.heap.size + 1) (.slice none 0 0) (.slice none 0 0)
  b : Below w.heap.size w W
  l : w.heap.size + 2 ≤ W.heap.size
theorem HeadS.of (w : World) (x y z : Int) : HeadS w ((w.alloc (.cells #[.int .i64 x, .int .i64 y, .int .i64 z] 30)).alloc (.cells #[.slice none 0 0, .slice none 0 0] 27)) x y z :=
  ⟨(Box3.new _ _ _ _ _).below ((Below.refl _ _).alloc (Nat.le_refl _) _), by
    have := Mine2.new (w.alloc (.cells #[.int .i64 x, .int .i64 y, .int .i64 z] 30)) (.slice none 0 0) (.slice none 0 0) 27
    simp at this
    exact this, ((Below.refl _ _).alloc (Nat.le_refl _) _).alloc (by simp) _, by simp⟩
theorem HeadS.below {w W W' : World} {x y z : Int} (h : HeadS w W x y z) (hb : Below W.heap.size W W') : HeadS w W' x y z :=
  ⟨h.g.below hb, h.s.below hb, h.b.trans (hb.mono h.b.size), Nat.le_trans h.l hb.size⟩
/-- What is answered where nothing is. -/
theorem HeadS.nil_ {w W : World} {x y z : Int} (h : HeadS w W x y z) :
    (OwnS ((W.setCell ⟨w.heap.size + 1, 0, none⟩ (.slice none 0 0)).setCell ⟨w.heap.size + 1, 1, none⟩ (.slice none 0 0)) w.heap.size ((W.setCell ⟨w.heap.size + 1, 0, none⟩ (.slice none 0 0)).setCell ⟨w.heap.size + 1, 1, none⟩ (.slice none 0 0)).heap.size (.slice none 0 0) (.slice none 0 0) [] []) ∧ Mine2 ((W.setCell ⟨w.heap.size + 1, 0, none⟩ (.slice none 0 0)).setCell ⟨w.heap.size + 1, 1, none⟩ (.slice none 0 0)) (w.heap.size + 1) (.slice none 0 0) (.slice none 0 0) ∧ Below w.heap.size w ((W.setCell ⟨w.heap.size + 1, 0, none⟩ (.slice none 0 0)).setCell ⟨w.heap.size + 1, 1, none⟩ (.slice none 0 0)) :=
  ⟨OwnS.none _ _ _, (h.s.set0 _).set1 _, (h.b.setCell (by show _ ≤ w.heap.size + 1; omega) _).setCell (by show _ ≤ w.heap.size + 1; omega) _⟩
theorem HeadS.put {w W : World} {x y z : Int} {v1 v2 : Value} {ss : List Int} {tss : List (List Int)} {B : Nat} (h : HeadS w W x y z) (ho : OwnS W B W.heap.size v1 v2 ss tss) (hB : w.heap.size + 2 ≤ B) :
    OwnS ((W.setCell ⟨w.heap.size + 1, 0, none⟩ v1).setCell ⟨w.heap.size + 1, 1, none⟩ v2) w.heap.size ((W.setCell ⟨w.heap.size + 1, 0, none⟩ v1).setCell ⟨w.heap.size + 1, 1, none⟩ v2).heap.size v1 v2 ss tss ∧ Mine2 ((W.setCell ⟨w.heap.size + 1, 0, none⟩ v1).setCell ⟨w.heap.size + 1, 1, none⟩ v2) (w.heap.size + 1) v1 v2 ∧ Below w.heap.size w ((W.setCell ⟨w.heap.size + 1, 0, none⟩ v1).setCell ⟨w.heap.size + 1, 1, none⟩ v2) := by
  obtain ⟨p1, p2⟩ := put_two h.s ho (by omega) rfl
  exact ⟨p1.mono (by omega), p2, (h.b.setCell (by show _ ≤ w.heap.size + 1; omega) _).setCell (by show _ ≤ w.heap.size + 1; omega) _⟩

set_option maxHeartbeats 4000000 in
theorem c_UniformSlopesS (x y z k : Int) (w : World) :
    Calls Tryd.prog 10 #[.agg #[.int .i64 x, .int .i64 y, .int .i64 z], .int .i64 k] w (GivesS2 w (usS x y z k) (usT x y z k) (usB x y z k)) := by
  have CG : Hid (∀ u, Calls Tryd.prog 38 #[.agg #[.int .i64 x, .int .i64 y, .int .i64 z]] u fun e w' => e = .returned (.bool (goodB x y z)) ∧ Below u.heap.size u w') := fun u => c_grGood x y z u
  have CI : Hid (∀ u, Calls Tryd.prog 39 #[.int .i64 k, .int .i64 1, .int .i64 4] u fun e w' => e = .returned (.bool (tofB k)) ∧ u = w') := fun u => c_l1In k 1 4 u
  have H0 := Lib.hid (HeadS.of w x y z)
  cases hb : usB x y z k
  · obtain ⟨e1, e2⟩ := us_no hb
    rw [e1, e2]
    unfold usB at hb
    clear e1 e2
    cases hg : goodB x y z
    · rw [hg] at CG
      clear hb hg
      go_enter Tryd.func10, Tryd.ntmps10
      go_wp2_with fail
      generalize ((w.alloc (.cells #[.int .i64 x, .int .i64 y, .int .i64 z] 30)).alloc (.cells #[.slice none 0 0, .slice none 0 0] 27)) = W0 at *
      have x0 := H0.out.g.c0
      have x1 := H0.out.g.c1
      have x2 := H0.out.g.c2
      have x3 := H0.out.g.lt
      refine (CG.out _).mono ?_
      rintro e w1 ⟨rfl, hb⟩
      have H1 := Lib.hid (H0.out.below hb)
      clear hb
      have y0 := H1.out.s.c0
      have y1 := H1.out.s.c1
      have y2 := H1.out.s.f 0
      have y3 := H1.out.s.f 1
      have y4 := H1.out.s.lt
      have HN := Lib.hid H1.out.nil_
      go_wp2
      generalize ((w1.setCell ⟨w.heap.size + 1, 0, none⟩ (.slice none 0 0)).setCell ⟨w.heap.size + 1, 1, none⟩ (.slice none 0 0)) = we at *
      obtain ⟨P1, P2, P3⟩ := HN.out
      have f0 := P2.c0
      have f1 := P2.c1
      refine bodyPost_ret (v := .tuple #[.agg #[.slice none 0 0, .slice none 0 0], .bool false]) (by simp [results, Tryd.results10, go_sem, f0, f1]) rfl ⟨_, _, rfl, P1, P3⟩
    · rw [hg] at CG hb
      have hk : tofB k = false := by simpa using hb
      rw [hk] at CI
      clear hb hg hk
      go_enter Tryd.func10, Tryd.ntmps10
      go_wp2_with fail
      generalize ((w.alloc (.cells #[.int .i64 x, .int .i64 y, .int .i64 z] 30)).alloc (.cells #[.slice none 0 0, .slice none 0 0] 27)) = W0 at *
      have x0 := H0.out.g.c0
      have x1 := H0.out.g.c1
      have x2 := H0.out.g.c2
      have x3 := H0.out.g.lt
      refine (CG.out _).mono ?_
      rintro e w1 ⟨rfl, hb⟩
      have H1 := Lib.hid (H0.out.below hb)
      clear hb
      have y0 := H1.out.s.c0
      have y1 := H1.out.s.c1
      have y2 := H1.out.s.f 0
      have y3 := H1.out.s.f 1
      have y4 := H1.out.s.lt
      have HN := Lib.hid H1.out.nil_
      go_wp2_with fail
      refine (CI.out _).mono ?_
      rintro e w2 ⟨rfl, rfl⟩
      go_wp2
      generalize ((w1.setCell ⟨w.heap.size + 1, 0, none⟩ (.slice none 0 0)).setCell ⟨w.heap.size + 1, 1, none⟩ (.slice none 0 0)) = we at *
      obtain ⟨P1, P2, P3⟩ := HN.out
      have f0 := P2.c0
      have f1 := P2.c1
      refine bodyPost_ret (v := .tuple #[.agg #[.slice none 0 0, .slice none 0 0], .bool false]) (by simp [results, Tryd.results10, go_sem, f0, f1]) rfl ⟨_, _, rfl, P1, P3⟩
  · obtain ⟨e1, e2⟩ := us_yes hb
    rw [e1, e2]
    unfold usB at hb
    rw [Bool.and_eq_true] at hb
    obtain ⟨hg, hk⟩ := hb
    rw [hg] at CG
    rw [hk] at CI
    obtain ⟨h1, h2⟩ := of_decide_eq_true hk
    obtain ⟨m, rfl⟩ := Int.eq_ofNat_of_zero_le (show 0 ≤ k by omega)
    rw [Int.toNat_natCast]
    have CU := Lib.hid (fun u => c_slUniform x y z m u hg (by omega) (by omega))
    clear e1 e2 hg hk
    generalize stdX m = X at *
    generalize List.replicate (x * y).toNat (0 : Int) = Z at *
    go_enter Tryd.func10, Tryd.ntmps10
    go_wp2_with fail
    generalize ((w.alloc (.cells #[.int .i64 x, .int .i64 y, .int .i64 z] 30)).alloc (.cells #[.slice none 0 0, .slice none 0 0] 27)) = W0 at *
    have x0 := H0.out.g.c0
    have x1 := H0.out.g.c1
    have x2 := H0.out.g.c2
    have x3 := H0.out.g.lt
    refine (CG.out _).mono ?_
    rintro e w1 ⟨rfl, hb⟩
    have H1 := Lib.hid (H0.out.below hb)
    clear hb
    go_wp2_with fail
    refine (CI.out _).mono ?_
    rintro e w2 ⟨rfl, rfl⟩
    have z0 := H1.out.g.c0
    have z1 := H1.out.g.c1
    have z2 := H1.out.g.c2
    have z3 := H1.out.g.lt
    go_wp2_with fail
    refine (CU.out _).mono ?_
    rintro e w3 ⟨v1, v2, rfl, ho, hb⟩
    obtain ⟨A1, c1, rfl⟩ := ho.s.shape
    obtain ⟨A2, c2, rfl⟩ : ∃ A c, v2 = .slice A 1 c := ho.t.shape
    have H3 := Lib.hid (H1.out.below hb)
    have HN := Lib.hid (H3.out.put ho H1.out.l)
    clear ho hb
    have y0 := H3.out.s.c0
    have y1 := H3.out.s.c1
    have y2 := H3.out.s.f 0
    have y3 := H3.out.s.f 1
    have y4 := H3.out.s.lt
    generalize Z.length = n1 at *
    go_wp2
    generalize ((w3.setCell ⟨w.heap.size + 1, 0, none⟩ (.slice A1 n1 c1)).setCell ⟨w.heap.size + 1, 1, none⟩ (.slice A2 1 c2)) = we at *
    obtain ⟨P1, P2, P3⟩ := HN.out
    have f0 := P2.c0
    have f1 := P2.c1
    refine bodyPost_ret (v := .tuple #[.agg #[.slice A1 n1 c1, .slice A2 1 c2], .bool true]) (by simp [results, Tryd.results10, go_sem, f0, f1]) rfl ⟨_, _, rfl, P1, P3⟩

set_option maxHeartbeats 8000000 in
theorem c_UniformSlopes (x y z k : Int) (w : World) (ht : TAB w) :
    Calls Tryd.prog 12 #[.agg #[.int .i64 x, .int .i64 y, .int .i64 z], .int .i64 k] w (GivesS2 w (usS x y z k) (usT x y z k) (usB x y z k)) := by
  have CG : Hid (∀ u, Calls Tryd.prog 42 #[.agg #[.int .i64 x, .int .i64 y, .int .i64 z]] u fun e w' => e = .returned (.bool (goodB x y z)) ∧ Below u.heap.size u w') := fun u => c_IsGrid x y z u
  have H0 := Lib.hid (HeadS.of w x y z)
  have CT : Hid (∀ u, Below w.heap.size w u → Calls Tryd.prog 41 #[.int .i64 k] u (GivesP2 u (tofN k) (tofX k) (tofB k))) := fun u hu => c_TemplateOf k u (ht.below hu)
  have KT := Lib.hid ht
  clear ht
  cases hk : tofB k
  · have hb : usB x y z k = false := by unfold usB; rw [hk]; simp
    obtain ⟨e1, e2⟩ := us_no hb
    rw [e1, e2, hb]
    rw [hk] at CT
    clear hb hk e1 e2
    generalize tofX k = X at *
    generalize tofN k = N at *
    go_enter Tryd.func12, Tryd.ntmps12
    go_wp2_with fail
    generalize ((w.alloc (.cells #[.int .i64 x, .int .i64 y, .int .i64 z] 30)).alloc (.cells #[.slice none 0 0, .slice none 0 0] 27)) = W0 at *
    refine (CT.out _ H0.out.b).mono ?_
    rintro e w1 ⟨v, rfl, hr, hb⟩
    have H1 := Lib.hid (H0.out.below hb)
    clear hb hr
    have y0 := H1.out.s.c0
    have y1 := H1.out.s.c1
    have y2 := H1.out.s.f 0
    have y3 := H1.out.s.f 1
    have y4 := H1.out.s.lt
    have HN := Lib.hid H1.out.nil_
    go_wp2
    generalize ((w1.setCell ⟨w.heap.size + 1, 0, none⟩ (.slice none 0 0)).setCell ⟨w.heap.size + 1, 1, none⟩ (.slice none 0 0)) = we at *
    obtain ⟨P1, P2, P3⟩ := HN.out
    have f0 := P2.c0
    have f1 := P2.c1
    refine bodyPost_ret (v := .tuple #[.agg #[.slice none 0 0, .slice none 0 0], .bool false]) (by simp [results, Tryd.results12, go_sem, f0, f1]) rfl ⟨_, _, rfl, P1, P3⟩
  cases hg : goodB x y z
  · have hb : usB x y z k = false := by unfold usB; rw [hg]; simp
    obtain ⟨e1, e2⟩ := us_no hb
    rw [e1, e2, hb]
    rw [hk] at CT
    rw [hg] at CG
    clear hb hk hg e1 e2
    generalize tofX k = X at *
    generalize tofN k = N at *
    go_enter Tryd.func12, Tryd.ntmps12
    go_wp2_with fail
    generalize ((w.alloc (.cells #[.int .i64 x, .int .i64 y, .int .i64 z] 30)).alloc (.cells #[.slice none 0 0, .slice none 0 0] 27)) = W0 at *
    refine (CT.out _ H0.out.b).mono ?_
    rintro e w1 ⟨v, rfl, hr, hb⟩
    have H1 := Lib.hid (H0.out.below hb)
    clear hb hr
    have z0 := H1.out.g.c0
    have z1 := H1.out.g.c1
    have z2 := H1.out.g.c2
    have z3 := H1.out.g.lt
    go_wp2_with fail
    refine (CG.out _).mono ?_
    rintro e w2 ⟨rfl, hb⟩
    have H2 := Lib.hid (H1.out.below hb)
    clear hb z0 z1 z2 z3
    have y0 := H2.out.s.c0
    have y1 := H2.out.s.c1
    have y2 := H2.out.s.f 0
    have y3 := H2.out.s.f 1
    have y4 := H2.out.s.lt
    have HN := Lib.hid H2.out.nil_
    go_wp2
    generalize ((w2.setCell ⟨w.heap.size + 1, 0, none⟩ (.slice none 0 0)).setCell ⟨w.heap.size + 1, 1, none⟩ (.slice none 0 0)) = we at *
    obtain ⟨P1, P2, P3⟩ := HN.out
    have f0 := P2.c0
    have f1 := P2.c1
    refine bodyPost_ret (v := .tuple #[.agg #[.slice none 0 0, .slice none 0 0], .bool false]) (by simp [results, Tryd.results12, go_sem, f0, f1]) rfl ⟨_, _, rfl, P1, P3⟩
  · have hb : usB x y z k = true := by unfold usB; rw [hg, hk]; simp
    obtain ⟨e1, e2⟩ := us_yes hb
    rw [e1, e2, hb]
    have hx : tofX k = stdX k.toNat := by unfold tofX; rw [hk]; simp
    rw [hk, hx] at CT
    rw [hg] at CG
    have CL : Hid (∀ u, Calls Tryd.prog 43 #[.agg #[.int .i64 x, .int .i64 y, .int .i64 z]] u fun e w' => e = .returned (.int .i64 (x * y)) ∧ Below u.heap.size u w') := fun u => c_levelSize x y z u hg
    obtain ⟨x1, x2, y1, y2, z1, z2, p1, p2, q1, q2⟩ := good_box hg
    obtain ⟨m, hm⟩ := Int.eq_ofNat_of_zero_le p1
    have hm2 : m ≤ 1000 := by omega
    have HZ : Hid (∀ W : World, Row (W.alloc (.cells (madeCells #[.int .i64 0] m) 3)) W.heap.size (.slice (some ⟨W.heap.size, 0, none⟩) m m) (List.replicate m 0)) := fun W => row_zeros W m (by unfold maxLen; omega)
    rw [show (x * y).toNat = m by omega]
    have hmk := make_zeros hm hm2
    clear hb hk hg e1 e2 hx x1 x2 y1 y2 z1 z2 p1 p2 q1 q2 hm
    generalize stdX k.toNat = X at *
    generalize tofN k = N at *
    go_enter Tryd.func12, Tryd.ntmps12
    go_wp2_with fail
    generalize ((w.alloc (.cells #[.int .i64 x, .int .i64 y, .int .i64 z] 30)).alloc (.cells #[.slice none 0 0, .slice none 0 0] 27)) = W0 at *
    refine (CT.out _ H0.out.b).mono ?_
    rintro e w1 ⟨v, rfl, hr, hb⟩
    obtain ⟨PA, pc, rfl⟩ := RowP.shape hr
    have HR1 := Lib.hid hr
    have H1 := Lib.hid (H0.out.below hb)
    have L1 := Lib.hid H0.out.l
    have S1 := Lib.hid hb.size
    clear hb hr
    have z0 := H1.out.g.c0
    have z1 := H1.out.g.c1
    have z2 := H1.out.g.c2
    have z3 := H1.out.g.lt
    go_wp2_with fail
    refine (CG.out _).mono ?_
    rintro e w2 ⟨rfl, hb⟩
    have H2 := Lib.hid (H1.out.below hb)
    have HR2 := Lib.hid (RowP.below HR1.out hb)
    have S2 := Lib.hid (Nat.le_trans S1.out hb.size)
    clear hb z0 z1 z2 z3
    have z0 := H2.out.g.c0
    have z1 := H2.out.g.c1
    have z2 := H2.out.g.c2
    have z3 := H2.out.g.lt
    go_wp2_with fail
    refine (CL.out _).mono ?_
    rintro e w3 ⟨rfl, hb⟩
    have H3 := Lib.hid (H2.out.below hb)
    have HR3 := Lib.hid (RowP.below HR2.out hb)
    have S3 := Lib.hid (Nat.le_trans S2.out hb.size)
    clear hb z0 z1 z2 z3
    have KO := own_litB (u := w3) (B := W0.heap.size) hm2 HR3.out S3.out
    have y4 := H3.out.s.lt
    have y5 : w.heap.size < w3.heap.size := by omega
    have HN := (H3.out.below (below_two (Below.refl _ _) (Nat.le_refl _) (.cells (madeCells #[.int .i64 0] m) 3) (.cells #[.slice PA N pc] 70))).put KO L1.out
    rw [← put_alloc2 y4] at HN
    have HP := Lib.hid HN
    clear KO HN
    have y0 := H3.out.s.c0
    have y1 := H3.out.s.c1
    have y2 := H3.out.s.f 0
    have y3 := H3.out.s.f 1
    go_wp2
    generalize ((((w3.setCell ⟨w.heap.size + 1, 0, none⟩ (.slice (some ⟨w3.heap.size, 0, none⟩) m m)).setCell ⟨w.heap.size + 1, 1, none⟩ (.slice (some ⟨w3.heap.size + 1, 0, none⟩) 1 1)).alloc (.cells (madeCells #[.int .i64 0] m) 3)).alloc (.cells #[.slice PA N pc] 70)) = we at *
    obtain ⟨P1, P2, P3⟩ := HP.out
    have f0 := P2.c0
    have f1 := P2.c1
    refine bodyPost_ret (v := .tuple #[.agg #[.slice (some ⟨w3.heap.size, 0, none⟩) m m, .slice (some ⟨w3.heap.size + 1, 0, none⟩) 1 1], .bool true]) (by simp [results, Tryd.results12, go_sem, f0, f1]) rfl ⟨_, _, rfl, P1, P3⟩
theorem Box3.under {w w' : World} {b B : Nat} {x y z : Int} (h : Box3 w b x y z) (hb : Below B w w') (hB : b < B) : Box3 w' b x y z :=
  ⟨Nat.lt_of_lt_of_le h.lt hb.size, by rw [hb.cell (p := ⟨b, 0, none⟩) hB]; exact h.c0, by rw [hb.cell (p := ⟨b, 1, none⟩) hB]; exact h.c1, by rw [hb.cell (p := ⟨b, 2, none⟩) hB]; exact h.c2⟩
theorem Mine2.above {w w' : World} {b U : Nat} {u0 u1 : Value} (h : Mine2 w b u0 u1) (ha : Above U w w') (hB : U ≤ b) (hz : w.heap.size ≤ w'.heap.size) : Mine2 w' b u0 u1 := by
  have hc : ∀ o, w'.cell? ⟨b, o, none⟩ = w.cell? ⟨b, o, none⟩ := fun o => World.cell?_of_block (w := w) (ha b hB h.lt)
  have hf : ∀ o, w'.frozen? ⟨b, o, none⟩ = w.frozen? ⟨b, o, none⟩ := fun o => World.frozen?_of_block (w := w) (ha b hB h.lt)
  exact ⟨Nat.lt_of_lt_of_le h.lt hz, by rw [hc]; exact h.c0, by rw [hc]; exact h.c1, fun o => by rw [hf]; exact h.f o⟩
set_option maxRecDepth 20000 in
theorem us_box {x y z k : Int} : (usS x y z k).length ≤ 1000 ∧ (usT x y z k).length ≤ 4 ∧ totN (usT x y z k) (usT x y z k).length ≤ 1000 ∧ Short3 (usT x y z k) := by
  cases h : usB x y z k
  · obtain ⟨e1, e2⟩ := us_no h
    rw [e1, e2]
    exact ⟨by simp, by simp, by simp [totN], fun i hi => by simp at hi⟩
  · obtain ⟨e1, e2⟩ := us_yes h
    unfold usB at h
    rw [Bool.and_eq_true] at h
    obtain ⟨x1, x2, y1, y2, z1, z2, p1, p2, q1, q2⟩ := good_box h.1
    have h3 : (stdX k.toNat).length ≤ 27 := by
      have := stdN_box k.toNat
      unfold stdX
      rw [flat3_len]
      omega
    rw [e1, e2]
    refine ⟨by rw [List.length_replicate]; omega, by simp, ?_, fun i hi => ?_⟩
    · show 0 + (stdX k.toNat).length ≤ 1000
      omega
    · obtain rfl : i = 0 := by simpa using hi
      show (stdX k.toNat).length ≤ 3145730
      omega
end Go.Proofs.YtmimilchldjkbaaDoor
