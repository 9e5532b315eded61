/-
  Contracts: CoarseModel for all models, in the program and in its model.
-/
import Derived.Test.YtmimilchldjkbaaDoorCO5
namespace Go.Proofs.YtmimilchldjkbaaDoor
open Go.RowKit
set_option linter.unusedVariables false
set_option linter.unusedSimpArgs false

theorem moB_neg {x y z : Int} {ts gs rs : List Int} (h : ¬ (0 ≤ x ∧ 0 ≤ y ∧ 0 ≤ z)) : moB x y z ts gs rs = false := by
  cases hm : moB x y z ts gs rs
  · rfl
  · exfalso
    obtain ⟨hg, _⟩ := mo_true hm
    obtain ⟨x1, x2, y1, y2, z1, z2, _⟩ := good_box hg
    omega
theorem cmB_neg {x y z : Int} {ts gs rs : List Int} (h : ¬ (0 ≤ x ∧ 0 ≤ y ∧ 0 ≤ z)) : cmB x.toNat y.toNat z.toNat ts gs rs = false := by
  have : moB (x.toNat : Int) (y.toNat : Int) (z.toNat : Int) ts gs rs = false := by
    cases hm : moB (x.toNat : Int) (y.toNat : Int) (z.toNat : Int) ts gs rs
    · rfl
    · exfalso
      obtain ⟨hg, _⟩ := mo_true hm
      obtain ⟨x1, x2, y1, y2, z1, z2, _⟩ := good_box hg
      omega
  unfold cmB
  rw [this]
  rfl
theorem cmL_len (X Y Z : Nat) (ts gs rs : List Int) (f : Nat → Int) : (cmL X Y Z ts gs rs f).length ≤ 120 := by
  unfold cmL
  split
  · rename_i h
    unfold cmB at h
    rw [Bool.and_eq_true] at h
    rw [byP_len]
    exact (coOk h.1).k2
  · simp

set_option maxHeartbeats 4000000 in
set_option maxRecDepth 100000 in
theorem c_CoarseModel_no (x y z : Int) (v1 v2 v3 : Value) (ts gs rs : List Int) (w : World) (l1 : ts.length ≤ 4000000) (l2 : gs.length ≤ 4000000) (l3 : rs.length ≤ 4000000) (h : Look w v1 v2 v3 ts gs rs) (hm : moB x y z ts gs rs = false) :
    Calls Tryd.prog 25 #[.agg #[.int .i64 x, .int .i64 y, .int .i64 z, v1, v2, v3]] w (GivesMod3 w 0 0 0 [] [] [] 0 false) := by
  have H := Lib.hid h
  obtain ⟨A1, c1, rfl⟩ := h.t.shape
  obtain ⟨A2, c2, rfl⟩ := h.g.shape
  obtain ⟨A3, c3, rfl⟩ := h.r.shape
  clear h
  have CM := Lib.hid (fun u hu => c_IsModel x y z _ _ _ ts gs rs u l1 l2 l3 (H.out.below hu))
  rw [hm] at CM
  clear hm
  have H0 := Lib.hid (HeadM.of w x y z (.slice A1 ts.length c1) (.slice A2 gs.length c2) (.slice A3 rs.length c3))
  go_enter Tryd.func25, Tryd.ntmps25
  go_wp2_with fail
  generalize ((w.alloc (.cells #[.int .i64 x, .int .i64 y, .int .i64 z, .slice A1 ts.length c1, .slice A2 gs.length c2, .slice A3 rs.length c3] 49)).alloc (.cells #[.int .i64 0, .int .i64 0, .int .i64 0, .slice none 0 0, .slice none 0 0, .slice none 0 0] 49)) = W0 at *
  have x0 := H0.out.m.c0
  have x1 := H0.out.m.c1
  have x2 := H0.out.m.c2
  have x3 := H0.out.m.c3
  have x4 := H0.out.m.c4
  have x5 := H0.out.m.c5
  go_wp2_with fail
  refine (CM.out _ H0.out.b).mono ?_
  rintro e w1 ⟨rfl, hb⟩
  have H1 := Lib.hid (H0.out.below hb)
  clear hb x0 x1 x2 x3 x4 x5
  have y0 := H1.out.r.c0
  have y1 := H1.out.r.c1
  have y2 := H1.out.r.c2
  have y3 := H1.out.r.c3
  have y4 := H1.out.r.c4
  have y5 := H1.out.r.c5
  have y6 := H1.out.r.fz
  have y7 := H1.out.r.lt
  have HF := Lib.hid (fin_none H1.out.r H1.out.b)
  go_wp2
  unfold putM at HF
  generalize ((((((w1.setCell ⟨w.heap.size + 1, 0, none⟩ (.int .i64 0)).setCell ⟨w.heap.size + 1, 1, none⟩ (.int .i64 0)).setCell ⟨w.heap.size + 1, 2, none⟩ (.int .i64 0)).setCell ⟨w.heap.size + 1, 3, none⟩ (.slice none 0 0)).setCell ⟨w.heap.size + 1, 4, none⟩ (.slice none 0 0)).setCell ⟨w.heap.size + 1, 5, none⟩ (.slice none 0 0)) = we at *
  obtain ⟨P1, P2, P3⟩ := HF.out
  have f0 := P1.c0
  have f1 := P1.c1
  have f2 := P1.c2
  have f3 := P1.c3
  have f4 := P1.c4
  have f5 := P1.c5
  refine bodyPost_ret (v := .tuple #[.agg #[.int .i64 0, .int .i64 0, .int .i64 0, .slice none 0 0, .slice none 0 0, .slice none 0 0], .int .i64 0, .bool false]) (by simp [results, Tryd.results25, go_sem, f0, f1, f2, f3, f4, f5]) rfl ⟨_, _, _, rfl, P2, P3⟩

set_option maxHeartbeats 4000000 in
set_option maxRecDepth 100000 in
theorem c_CoarseModelS_no (x y z : Int) (v1 v2 v3 : Value) (ts gs rs : List Int) (w : World) (l1 : ts.length ≤ 4000000) (l2 : gs.length ≤ 4000000) (l3 : rs.length ≤ 4000000) (h : Look w v1 v2 v3 ts gs rs) (hm : moB x y z ts gs rs = false) :
    Calls Tryd.prog 23 #[.agg #[.int .i64 x, .int .i64 y, .int .i64 z, v1, v2, v3]] w (GivesMod3 w 0 0 0 [] [] [] 0 false) := by
  have H := Lib.hid h
  obtain ⟨A1, c1, rfl⟩ := h.t.shape
  obtain ⟨A2, c2, rfl⟩ := h.g.shape
  obtain ⟨A3, c3, rfl⟩ := h.r.shape
  clear h
  have CM := Lib.hid (fun u hu => c_moGood x y z _ _ _ ts gs rs u l1 l2 l3 (H.out.below hu))
  rw [hm] at CM
  clear hm
  have H0 := Lib.hid (HeadM.of w x y z (.slice A1 ts.length c1) (.slice A2 gs.length c2) (.slice A3 rs.length c3))
  go_enter Tryd.func23, Tryd.ntmps23
  go_wp2_with fail
  generalize ((w.alloc (.cells #[.int .i64 x, .int .i64 y, .int .i64 z, .slice A1 ts.length c1, .slice A2 gs.length c2, .slice A3 rs.length c3] 49)).alloc (.cells #[.int .i64 0, .int .i64 0, .int .i64 0, .slice none 0 0, .slice none 0 0, .slice none 0 0] 49)) = W0 at *
  have x0 := H0.out.m.c0
  have x1 := H0.out.m.c1
  have x2 := H0.out.m.c2
  have x3 := H0.out.m.c3
  have x4 := H0.out.m.c4
  have x5 := H0.out.m.c5
  go_wp2_with fail
  refine (CM.out _ H0.out.b).mono ?_
  rintro e w1 ⟨rfl, hb⟩
  have H1 := Lib.hid (H0.out.below hb)
  clear hb x0 x1 x2 x3 x4 x5
  have y0 := H1.out.r.c0
  have y1 := H1.out.r.c1
  have y2 := H1.out.r.c2
  have y3 := H1.out.r.c3
  have y4 := H1.out.r.c4
  have y5 := H1.out.r.c5
  have y6 := H1.out.r.fz
  have y7 := H1.out.r.lt
  have HF := Lib.hid (fin_none H1.out.r H1.out.b)
  go_wp2
  unfold putM at HF
  generalize ((((((w1.setCell ⟨w.heap.size + 1, 0, none⟩ (.int .i64 0)).setCell ⟨w.heap.size + 1, 1, none⟩ (.int .i64 0)).setCell ⟨w.heap.size + 1, 2, none⟩ (.int .i64 0)).setCell ⟨w.heap.size + 1, 3, none⟩ (.slice none 0 0)).setCell ⟨w.heap.size + 1, 4, none⟩ (.slice none 0 0)).setCell ⟨w.heap.size + 1, 5, none⟩ (.slice none 0 0)) = we at *
  obtain ⟨P1, P2, P3⟩ := HF.out
  have f0 := P1.c0
  have f1 := P1.c1
  have f2 := P1.c2
  have f3 := P1.c3
  have f4 := P1.c4
  have f5 := P1.c5
  refine bodyPost_ret (v := .tuple #[.agg #[.int .i64 0, .int .i64 0, .int .i64 0, .slice none 0 0, .slice none 0 0, .slice none 0 0], .int .i64 0, .bool false]) (by simp [results, Tryd.results23, go_sem, f0, f1, f2, f3, f4, f5]) rfl ⟨_, _, _, rfl, P2, P3⟩

theorem c_CoarseModelI (x y z : Int) (v1 v2 v3 : Value) (ts gs rs : List Int) (w : World) (l1 : ts.length ≤ 4000000) (l2 : gs.length ≤ 4000000) (l3 : rs.length ≤ 4000000) (h : Look w v1 v2 v3 ts gs rs) (hrk : RK w) :
    Calls Tryd.prog 25 #[.agg #[.int .i64 x, .int .i64 y, .int .i64 z, v1, v2, v3]] w (GivesCo w x.toNat y.toNat z.toNat ts gs rs) := by
  by_cases hn : 0 ≤ x ∧ 0 ≤ y ∧ 0 ≤ z
  · have := c_CoarseModel x.toNat y.toNat z.toNat v1 v2 v3 ts gs rs w l1 l2 l3 h hrk
    rw [Int.toNat_of_nonneg hn.1, Int.toNat_of_nonneg hn.2.1, Int.toNat_of_nonneg hn.2.2] at this
    exact this
  · rw [givesCo_no (cmB_neg hn)]
    exact c_CoarseModel_no x y z v1 v2 v3 ts gs rs w l1 l2 l3 h (moB_neg hn)
theorem c_CoarseModelSI (x y z : Int) (v1 v2 v3 : Value) (ts gs rs : List Int) (w : World) (l1 : ts.length ≤ 4000000) (l2 : gs.length ≤ 4000000) (l3 : rs.length ≤ 4000000) (h : Look w v1 v2 v3 ts gs rs) :
    Calls Tryd.prog 23 #[.agg #[.int .i64 x, .int .i64 y, .int .i64 z, v1, v2, v3]] w (GivesCo w x.toNat y.toNat z.toNat ts gs rs) := by
  by_cases hn : 0 ≤ x ∧ 0 ≤ y ∧ 0 ≤ z
  · have := c_CoarseModelS x.toNat y.toNat z.toNat v1 v2 v3 ts gs rs w l1 l2 l3 h
    rw [Int.toNat_of_nonneg hn.1, Int.toNat_of_nonneg hn.2.1, Int.toNat_of_nonneg hn.2.2] at this
    exact this
  · rw [givesCo_no (cmB_neg hn)]
    exact c_CoarseModelS_no x y z v1 v2 v3 ts gs rs w l1 l2 l3 h (moB_neg hn)
end Go.Proofs.YtmimilchldjkbaaDoor
