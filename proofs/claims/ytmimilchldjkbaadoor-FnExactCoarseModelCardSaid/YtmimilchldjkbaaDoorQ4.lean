/-
  Contracts of chapter 3: the piece of a block, in the program and in the model.
-/
import Derived.Test.YtmimilchldjkbaaDoorBX
import Derived.Test.YtmimilchldjkbaaDoorQ1
import Derived.Deep.RegionHeld3
namespace Go.Proofs.YtmimilchldjkbaaDoor
open Go.RowKit
set_option linter.unusedVariables false

theorem addr_ne (b i j : Nat) (h : i ≠ j) : (⟨b, i, none⟩ : Addr) ≠ ⟨b, j, none⟩ := fun e => h (congrArg Addr.off e)
theorem put3 {w : World} {b : Nat} {u0 u1 u2 : Value} (t m r : Value) (c0 : w.cell? ⟨b, 0, none⟩ = some u0) (c1 : w.cell? ⟨b, 1, none⟩ = some u1) (c2 : w.cell? ⟨b, 2, none⟩ = some u2) :
    (((w.setCell ⟨b, 0, none⟩ t).setCell ⟨b, 1, none⟩ m).setCell ⟨b, 2, none⟩ r).cell? ⟨b, 0, none⟩ = some t ∧ (((w.setCell ⟨b, 0, none⟩ t).setCell ⟨b, 1, none⟩ m).setCell ⟨b, 2, none⟩ r).cell? ⟨b, 1, none⟩ = some m ∧ (((w.setCell ⟨b, 0, none⟩ t).setCell ⟨b, 1, none⟩ m).setCell ⟨b, 2, none⟩ r).cell? ⟨b, 2, none⟩ = some r := by
  have n01 := addr_ne b 0 1 (by omega)
  have n02 := addr_ne b 0 2 (by omega)
  have n12 := addr_ne b 1 2 (by omega)
  refine ⟨?_, ?_, ?_⟩
  · exact (World.cell?_setCell_other _ _ _ _ n02.symm).trans ((World.cell?_setCell_other _ _ _ _ n01.symm).trans (World.cell?_setCell_same _ _ _ c0))
  · exact (World.cell?_setCell_other _ _ _ _ n12.symm).trans (World.cell?_setCell_same _ _ _ ((World.cell?_setCell_other _ _ _ _ n01).trans c1))
  · exact World.cell?_setCell_same _ _ _ ((World.cell?_setCell_other _ _ _ _ n12).trans ((World.cell?_setCell_other _ _ _ _ n02).trans c2))

set_option maxHeartbeats 2000000 in
theorem c_pieceIn (x y z : Int) (v1 v2 v3 : Value) (ts gs rs : List Int) (k : Nat) (w : World) (h : Look w v1 v2 v3 ts gs rs) (k1 : k < ts.length) (k2 : k < gs.length) (k3 : k < rs.length) (l1 : ts.length ≤ 4000000) (l2 : gs.length ≤ 4000000) (l3 : rs.length ≤ 4000000)
    (t0 : 0 ≤ ts.getD k 0) (t1 : ts.getD k 0 ≤ 10000) (g0 : 0 ≤ gs.getD k 0) (g1 : gs.getD k 0 ≤ 1000) :
    Calls Tryd.prog 112 #[.agg #[.int .i64 x, .int .i64 y, .int .i64 z, v1, v2, v3], .int .i64 k] w fun e w' => e = .returned (.agg #[.int .i64 (ts.getD k 0), .int .i64 (metal ts gs k), .int .i64 (rs.getD k 0)]) ∧ Below w.heap.size w w' := by
  have C : Hid (∀ u : World, Below w.heap.size w u → Calls Tryd.prog 140 #[.agg #[.int .i64 x, .int .i64 y, .int .i64 z, v1, v2, v3], .int .i64 k] u fun e w' => e = .returned (.int .i64 (metal ts gs k)) ∧ Below u.heap.size u w') := fun u hu => c_metalIn x y z v1 v2 v3 ts gs rs k u (h.below hu) k1 k2 l1 l2 t0 t1 g0 g1
  obtain ⟨b1, o1, c1, rfl, hb1, hc1⟩ := h.t.at_ k1
  obtain ⟨A2, c2, rfl⟩ := h.g.shape
  obtain ⟨b3, o3, c3, rfl, hb3, hc3⟩ := h.r.at_ k3
  clear h
  generalize metal ts gs k = m at *
  generalize ts.getD k 0 = t at *
  generalize gs.getD k 0 = g at *
  generalize rs.getD k 0 = r at *
  generalize ts.length = n1 at *
  generalize gs.length = n2 at *
  generalize rs.length = n3 at *
  have a0 : (0 : Int) ≤ (k : Int) := by omega
  have a1 : (k : Int) < (n1 : Int) := by omega
  have a3 : (k : Int) < (n3 : Int) := by omega
  clear t0 t1 g0 g1
  have HC1 := Lib.hid hc1
  have HC3 := Lib.hid hc3
  clear hc1 hc3
  go_enter Tryd.func112, Tryd.ntmps112
  go_wp2_with fail
  have HX0 : Hid (Box6 ((w.alloc (.cells #[.int .i64 x, .int .i64 y, .int .i64 z, .slice (some ⟨b1, o1, none⟩) n1 c1, .slice A2 n2 c2, .slice (some ⟨b3, o3, none⟩) n3 c3] 49)).alloc (.cells #[.int .i64 0, .int .i64 0, .int .i64 0] 105)) w.heap.size x y z (.slice (some ⟨b1, o1, none⟩) n1 c1) (.slice A2 n2 c2) (.slice (some ⟨b3, o3, none⟩) n3 c3)) := (Box6.new _ _ _ _ _ _ _ _).below ((Below.refl _ _).alloc (Nat.le_refl _) _)
  have HB0 : Hid (Below w.heap.size w ((w.alloc (.cells #[.int .i64 x, .int .i64 y, .int .i64 z, .slice (some ⟨b1, o1, none⟩) n1 c1, .slice A2 n2 c2, .slice (some ⟨b3, o3, none⟩) n3 c3] 49)).alloc (.cells #[.int .i64 0, .int .i64 0, .int .i64 0] 105))) := ((Below.refl _ _).alloc (Nat.le_refl _) _).alloc (by simp) _
  have HS0 : Hid (w.heap.size + 1 < ((w.alloc (.cells #[.int .i64 x, .int .i64 y, .int .i64 z, .slice (some ⟨b1, o1, none⟩) n1 c1, .slice A2 n2 c2, .slice (some ⟨b3, o3, none⟩) n3 c3] 49)).alloc (.cells #[.int .i64 0, .int .i64 0, .int .i64 0] 105)).heap.size) := by simp [Hid]
  have HY0 : Hid (∀ o, ((w.alloc (.cells #[.int .i64 x, .int .i64 y, .int .i64 z, .slice (some ⟨b1, o1, none⟩) n1 c1, .slice A2 n2 c2, .slice (some ⟨b3, o3, none⟩) n3 c3] 49)).alloc (.cells #[.int .i64 0, .int .i64 0, .int .i64 0] 105)).frozen? ⟨w.heap.size + 1, o, none⟩ = false) := fun o => by simp
  have HY1 : Hid (∀ o, o < 3 → ((w.alloc (.cells #[.int .i64 x, .int .i64 y, .int .i64 z, .slice (some ⟨b1, o1, none⟩) n1 c1, .slice A2 n2 c2, .slice (some ⟨b3, o3, none⟩) n3 c3] 49)).alloc (.cells #[.int .i64 0, .int .i64 0, .int .i64 0] 105)).cell? ⟨w.heap.size + 1, o, none⟩ = some (.int .i64 0)) := fun o ho => by
    match o, ho with
    | 0, _ => simp
    | 1, _ => simp
    | 2, _ => simp
  generalize (w.alloc (.cells #[.int .i64 x, .int .i64 y, .int .i64 z, .slice (some ⟨b1, o1, none⟩) n1 c1, .slice A2 n2 c2, .slice (some ⟨b3, o3, none⟩) n3 c3] 49)).alloc (.cells #[.int .i64 0, .int .i64 0, .int .i64 0] 105) = W0 at *
  have KE : Hid (∀ u, Below W0.heap.size W0 u → Below w.heap.size w u ∧ w.heap.size + 1 < u.heap.size ∧ (u.cell? ⟨w.heap.size, 0, none⟩ = some (.int .i64 x) ∧ u.cell? ⟨w.heap.size, 1, none⟩ = some (.int .i64 y) ∧ u.cell? ⟨w.heap.size, 2, none⟩ = some (.int .i64 z) ∧ u.cell? ⟨w.heap.size, 3, none⟩ = some (.slice (some ⟨b1, o1, none⟩) n1 c1) ∧ u.cell? ⟨w.heap.size, 4, none⟩ = some (.slice A2 n2 c2) ∧ u.cell? ⟨w.heap.size, 5, none⟩ = some (.slice (some ⟨b3, o3, none⟩) n3 c3)) ∧ (u.cell? ⟨b1, o1 + k, none⟩ = some (.int .i64 t) ∧ u.cell? ⟨b3, o3 + k, none⟩ = some (.int .i64 r))) := fun u hu => by
    have hX := HX0.out.below hu
    have hB := HB0.out.trans (hu.mono HB0.out.size)
    refine ⟨hB, Nat.lt_of_lt_of_le HS0.out hu.size, ⟨hX.c0, hX.c1, hX.c2, hX.c3, hX.c4, hX.c5⟩, ⟨?_, ?_⟩⟩
    · rw [hB.cell (p := ⟨b1, o1 + k, none⟩) hb1]; exact HC1.out
    · rw [hB.cell (p := ⟨b3, o3 + k, none⟩) hb3]; exact HC3.out
  have KF : Hid (∀ (u : World) (j : Nat) (v : Value), (Below w.heap.size w u ∧ w.heap.size + 1 < u.heap.size ∧ (u.cell? ⟨w.heap.size, 0, none⟩ = some (.int .i64 x) ∧ u.cell? ⟨w.heap.size, 1, none⟩ = some (.int .i64 y) ∧ u.cell? ⟨w.heap.size, 2, none⟩ = some (.int .i64 z) ∧ u.cell? ⟨w.heap.size, 3, none⟩ = some (.slice (some ⟨b1, o1, none⟩) n1 c1) ∧ u.cell? ⟨w.heap.size, 4, none⟩ = some (.slice A2 n2 c2) ∧ u.cell? ⟨w.heap.size, 5, none⟩ = some (.slice (some ⟨b3, o3, none⟩) n3 c3)) ∧ (u.cell? ⟨b1, o1 + k, none⟩ = some (.int .i64 t) ∧ u.cell? ⟨b3, o3 + k, none⟩ = some (.int .i64 r))) → Below w.heap.size w (u.setCell ⟨w.heap.size + 1, j, none⟩ v) ∧ w.heap.size + 1 < (u.setCell ⟨w.heap.size + 1, j, none⟩ v).heap.size ∧ ((u.setCell ⟨w.heap.size + 1, j, none⟩ v).cell? ⟨w.heap.size, 0, none⟩ = some (.int .i64 x) ∧ (u.setCell ⟨w.heap.size + 1, j, none⟩ v).cell? ⟨w.heap.size, 1, none⟩ = some (.int .i64 y) ∧ (u.setCell ⟨w.heap.size + 1, j, none⟩ v).cell? ⟨w.heap.size, 2, none⟩ = some (.int .i64 z) ∧ (u.setCell ⟨w.heap.size + 1, j, none⟩ v).cell? ⟨w.heap.size, 3, none⟩ = some (.slice (some ⟨b1, o1, none⟩) n1 c1) ∧ (u.setCell ⟨w.heap.size + 1, j, none⟩ v).cell? ⟨w.heap.size, 4, none⟩ = some (.slice A2 n2 c2) ∧ (u.setCell ⟨w.heap.size + 1, j, none⟩ v).cell? ⟨w.heap.size, 5, none⟩ = some (.slice (some ⟨b3, o3, none⟩) n3 c3)) ∧ ((u.setCell ⟨w.heap.size + 1, j, none⟩ v).cell? ⟨b1, o1 + k, none⟩ = some (.int .i64 t) ∧ (u.setCell ⟨w.heap.size + 1, j, none⟩ v).cell? ⟨b3, o3 + k, none⟩ = some (.int .i64 r))) := fun u j v hu => by
    obtain ⟨h1, h2, ⟨h3, h4, h5, h6, h7, h8⟩, h9, h10⟩ := hu
    have e : ∀ b o, b < w.heap.size + 1 → (u.setCell ⟨w.heap.size + 1, j, none⟩ v).cell? ⟨b, o, none⟩ = u.cell? ⟨b, o, none⟩ := fun b o hb => (((Below.refl (w.heap.size + 1) u).setCell (Nat.le_refl _) v : Below (w.heap.size + 1) u (u.setCell ⟨w.heap.size + 1, j, none⟩ v))).cell (p := ⟨b, o, none⟩) hb
    exact ⟨h1.setCell (by show _ ≤ w.heap.size + 1; omega) _, by simpa using h2, ⟨by rw [e _ _ (by omega)]; exact h3, by rw [e _ _ (by omega)]; exact h4, by rw [e _ _ (by omega)]; exact h5, by rw [e _ _ (by omega)]; exact h6, by rw [e _ _ (by omega)]; exact h7, by rw [e _ _ (by omega)]; exact h8⟩, by rw [e _ _ (by omega)]; exact h9, by rw [e _ _ (by omega)]; exact h10⟩
  have KD : Hid (Below W0.heap.size W0 W0.drew) := (Below.refl _ _).drew
  go_region_held3 (fun u => Below w.heap.size w u ∧ w.heap.size + 1 < u.heap.size ∧ (u.cell? ⟨w.heap.size, 0, none⟩ = some (.int .i64 x) ∧ u.cell? ⟨w.heap.size, 1, none⟩ = some (.int .i64 y) ∧ u.cell? ⟨w.heap.size, 2, none⟩ = some (.int .i64 z) ∧ u.cell? ⟨w.heap.size, 3, none⟩ = some (.slice (some ⟨b1, o1, none⟩) n1 c1) ∧ u.cell? ⟨w.heap.size, 4, none⟩ = some (.slice A2 n2 c2) ∧ u.cell? ⟨w.heap.size, 5, none⟩ = some (.slice (some ⟨b3, o3, none⟩) n3 c3)) ∧ (u.cell? ⟨b1, o1 + k, none⟩ = some (.int .i64 t) ∧ u.cell? ⟨b3, o3 + k, none⟩ = some (.int .i64 r))) (first | exact KE.out _ KD.out | exact hS1 | exact KF.out _ _ _ (KF.out _ _ _ (KF.out _ _ _ hS1)))
    (first | (go_at_call 140; refine (C.out _ (KE.out _ KD.out).1).mono ?_; rintro e w1 ⟨rfl, hb⟩; have hbd := KD.out.trans (hb.mono KD.out.size); have hS1 := KE.out w1 hbd; have HB1 := Lib.hid hS1.1; have hz1 : w.heap.size + 1 < w1.heap.size := hS1.2.1; have fz0 : w1.frozen? ⟨w.heap.size + 1, 0, none⟩ = false := (by rw [hbd.frozen (p := ⟨w.heap.size + 1, 0, none⟩) HS0.out]; exact HY0.out 0); have fz1 : w1.frozen? ⟨w.heap.size + 1, 1, none⟩ = false := (by rw [hbd.frozen (p := ⟨w.heap.size + 1, 1, none⟩) HS0.out]; exact HY0.out 1); have fz2 : w1.frozen? ⟨w.heap.size + 1, 2, none⟩ = false := (by rw [hbd.frozen (p := ⟨w.heap.size + 1, 2, none⟩) HS0.out]; exact HY0.out 2); have cz0 : w1.cell? ⟨w.heap.size + 1, 0, none⟩ = some (.int .i64 0) := (by rw [hbd.cell (p := ⟨w.heap.size + 1, 0, none⟩) HS0.out]; exact HY1.out 0 (by omega)); have cz1 : w1.cell? ⟨w.heap.size + 1, 1, none⟩ = some (.int .i64 0) := (by rw [hbd.cell (p := ⟨w.heap.size + 1, 1, none⟩) HS0.out]; exact HY1.out 1 (by omega)); have cz2 : w1.cell? ⟨w.heap.size + 1, 2, none⟩ = some (.int .i64 0) := (by rw [hbd.cell (p := ⟨w.heap.size + 1, 2, none⟩) HS0.out]; exact HY1.out 2 (by omega)); clear hbd hb))
  go_wp2
  obtain ⟨f0, f1, f2⟩ := put3 (.int .i64 t) (.int .i64 m) (.int .i64 r) cz0 cz1 cz2
  have HB2 : Hid (Below w.heap.size w (((w1.setCell ⟨w.heap.size + 1, 0, none⟩ (.int .i64 t)).setCell ⟨w.heap.size + 1, 1, none⟩ (.int .i64 m)).setCell ⟨w.heap.size + 1, 2, none⟩ (.int .i64 r))) := ((HB1.out.setCell (by show _ ≤ w.heap.size + 1; omega) _).setCell (by show _ ≤ w.heap.size + 1; omega) _).setCell (by show _ ≤ w.heap.size + 1; omega) _
  generalize ((w1.setCell ⟨w.heap.size + 1, 0, none⟩ (.int .i64 t)).setCell ⟨w.heap.size + 1, 1, none⟩ (.int .i64 m)).setCell ⟨w.heap.size + 1, 2, none⟩ (.int .i64 r) = w2 at *
  refine bodyPost_ret (v := .agg #[.int .i64 t, .int .i64 m, .int .i64 r]) (by simp [results, Tryd.results112, go_sem, f0, f1, f2]) rfl ⟨rfl, HB2.out⟩

set_option maxHeartbeats 2000000 in
theorem c_sbOf (x y z : Int) (v1 v2 v3 : Value) (ts gs rs : List Int) (k : Nat) (w : World) (h : Look w v1 v2 v3 ts gs rs) (k1 : k < ts.length) (k2 : k < gs.length) (k3 : k < rs.length) (l1 : ts.length ≤ 4000000) (l2 : gs.length ≤ 4000000) (l3 : rs.length ≤ 4000000)
    (t0 : 0 ≤ ts.getD k 0) (t1 : ts.getD k 0 ≤ 10000) (g0 : 0 ≤ gs.getD k 0) (g1 : gs.getD k 0 ≤ 1000) :
    Calls Tryd.prog 68 #[.agg #[.int .i64 x, .int .i64 y, .int .i64 z, v1, v2, v3], .int .i64 k] w fun e w' => e = .returned (.agg #[.int .i64 (ts.getD k 0), .int .i64 (metal ts gs k), .int .i64 (rs.getD k 0)]) ∧ Below w.heap.size w w' := by
  have C : Hid (∀ u : World, Below w.heap.size w u → Calls Tryd.prog 110 #[.agg #[.int .i64 x, .int .i64 y, .int .i64 z, v1, v2, v3], .int .i64 k] u fun e w' => e = .returned (.int .i64 (metal ts gs k)) ∧ Below u.heap.size u w') := fun u hu => c_moMetal x y z v1 v2 v3 ts gs rs k u (h.below hu) k1 k2 l1 l2 t0 t1 g0 g1
  obtain ⟨b1, o1, c1, rfl, hb1, hc1⟩ := h.t.at_ k1
  obtain ⟨A2, c2, rfl⟩ := h.g.shape
  obtain ⟨b3, o3, c3, rfl, hb3, hc3⟩ := h.r.at_ k3
  clear h
  generalize metal ts gs k = m at *
  generalize ts.getD k 0 = t at *
  generalize gs.getD k 0 = g at *
  generalize rs.getD k 0 = r at *
  generalize ts.length = n1 at *
  generalize gs.length = n2 at *
  generalize rs.length = n3 at *
  have a0 : (0 : Int) ≤ (k : Int) := by omega
  have a1 : (k : Int) < (n1 : Int) := by omega
  have a3 : (k : Int) < (n3 : Int) := by omega
  clear t0 t1 g0 g1
  have HC1 := Lib.hid hc1
  have HC3 := Lib.hid hc3
  clear hc1 hc3
  go_enter Tryd.func68, Tryd.ntmps68
  go_wp2_with fail
  have HX0 : Hid (Box6 ((w.alloc (.cells #[.int .i64 x, .int .i64 y, .int .i64 z, .slice (some ⟨b1, o1, none⟩) n1 c1, .slice A2 n2 c2, .slice (some ⟨b3, o3, none⟩) n3 c3] 49)).alloc (.cells #[.int .i64 0, .int .i64 0, .int .i64 0] 105)) w.heap.size x y z (.slice (some ⟨b1, o1, none⟩) n1 c1) (.slice A2 n2 c2) (.slice (some ⟨b3, o3, none⟩) n3 c3)) := (Box6.new _ _ _ _ _ _ _ _).below ((Below.refl _ _).alloc (Nat.le_refl _) _)
  have HB0 : Hid (Below w.heap.size w ((w.alloc (.cells #[.int .i64 x, .int .i64 y, .int .i64 z, .slice (some ⟨b1, o1, none⟩) n1 c1, .slice A2 n2 c2, .slice (some ⟨b3, o3, none⟩) n3 c3] 49)).alloc (.cells #[.int .i64 0, .int .i64 0, .int .i64 0] 105))) := ((Below.refl _ _).alloc (Nat.le_refl _) _).alloc (by simp) _
  have HS0 : Hid (w.heap.size + 1 < ((w.alloc (.cells #[.int .i64 x, .int .i64 y, .int .i64 z, .slice (some ⟨b1, o1, none⟩) n1 c1, .slice A2 n2 c2, .slice (some ⟨b3, o3, none⟩) n3 c3] 49)).alloc (.cells #[.int .i64 0, .int .i64 0, .int .i64 0] 105)).heap.size) := by simp [Hid]
  have HY0 : Hid (∀ o, ((w.alloc (.cells #[.int .i64 x, .int .i64 y, .int .i64 z, .slice (some ⟨b1, o1, none⟩) n1 c1, .slice A2 n2 c2, .slice (some ⟨b3, o3, none⟩) n3 c3] 49)).alloc (.cells #[.int .i64 0, .int .i64 0, .int .i64 0] 105)).frozen? ⟨w.heap.size + 1, o, none⟩ = false) := fun o => by simp
  have HY1 : Hid (∀ o, o < 3 → ((w.alloc (.cells #[.int .i64 x, .int .i64 y, .int .i64 z, .slice (some ⟨b1, o1, none⟩) n1 c1, .slice A2 n2 c2, .slice (some ⟨b3, o3, none⟩) n3 c3] 49)).alloc (.cells #[.int .i64 0, .int .i64 0, .int .i64 0] 105)).cell? ⟨w.heap.size + 1, o, none⟩ = some (.int .i64 0)) := fun o ho => by
    match o, ho with
    | 0, _ => simp
    | 1, _ => simp
    | 2, _ => simp
  generalize (w.alloc (.cells #[.int .i64 x, .int .i64 y, .int .i64 z, .slice (some ⟨b1, o1, none⟩) n1 c1, .slice A2 n2 c2, .slice (some ⟨b3, o3, none⟩) n3 c3] 49)).alloc (.cells #[.int .i64 0, .int .i64 0, .int .i64 0] 105) = W0 at *
  have KE : Hid (∀ u, Below W0.heap.size W0 u → Below w.heap.size w u ∧ w.heap.size + 1 < u.heap.size ∧ (u.cell? ⟨w.heap.size, 0, none⟩ = some (.int .i64 x) ∧ u.cell? ⟨w.heap.size, 1, none⟩ = some (.int .i64 y) ∧ u.cell? ⟨w.heap.size, 2, none⟩ = some (.int .i64 z) ∧ u.cell? ⟨w.heap.size, 3, none⟩ = some (.slice (some ⟨b1, o1, none⟩) n1 c1) ∧ u.cell? ⟨w.heap.size, 4, none⟩ = some (.slice A2 n2 c2) ∧ u.cell? ⟨w.heap.size, 5, none⟩ = some (.slice (some ⟨b3, o3, none⟩) n3 c3)) ∧ (u.cell? ⟨b1, o1 + k, none⟩ = some (.int .i64 t) ∧ u.cell? ⟨b3, o3 + k, none⟩ = some (.int .i64 r))) := fun u hu => by
    have hX := HX0.out.below hu
    have hB := HB0.out.trans (hu.mono HB0.out.size)
    refine ⟨hB, Nat.lt_of_lt_of_le HS0.out hu.size, ⟨hX.c0, hX.c1, hX.c2, hX.c3, hX.c4, hX.c5⟩, ⟨?_, ?_⟩⟩
    · rw [hB.cell (p := ⟨b1, o1 + k, none⟩) hb1]; exact HC1.out
    · rw [hB.cell (p := ⟨b3, o3 + k, none⟩) hb3]; exact HC3.out
  have KF : Hid (∀ (u : World) (j : Nat) (v : Value), (Below w.heap.size w u ∧ w.heap.size + 1 < u.heap.size ∧ (u.cell? ⟨w.heap.size, 0, none⟩ = some (.int .i64 x) ∧ u.cell? ⟨w.heap.size, 1, none⟩ = some (.int .i64 y) ∧ u.cell? ⟨w.heap.size, 2, none⟩ = some (.int .i64 z) ∧ u.cell? ⟨w.heap.size, 3, none⟩ = some (.slice (some ⟨b1, o1, none⟩) n1 c1) ∧ u.cell? ⟨w.heap.size, 4, none⟩ = some (.slice A2 n2 c2) ∧ u.cell? ⟨w.heap.size, 5, none⟩ = some (.slice (some ⟨b3, o3, none⟩) n3 c3)) ∧ (u.cell? ⟨b1, o1 + k, none⟩ = some (.int .i64 t) ∧ u.cell? ⟨b3, o3 + k, none⟩ = some (.int .i64 r))) → Below w.heap.size w (u.setCell ⟨w.heap.size + 1, j, none⟩ v) ∧ w.heap.size + 1 < (u.setCell ⟨w.heap.size + 1, j, none⟩ v).heap.size ∧ ((u.setCell ⟨w.heap.size + 1, j, none⟩ v).cell? ⟨w.heap.size, 0, none⟩ = some (.int .i64 x) ∧ (u.setCell ⟨w.heap.size + 1, j, none⟩ v).cell? ⟨w.heap.size, 1, none⟩ = some (.int .i64 y) ∧ (u.setCell ⟨w.heap.size + 1, j, none⟩ v).cell? ⟨w.heap.size, 2, none⟩ = some (.int .i64 z) ∧ (u.setCell ⟨w.heap.size + 1, j, none⟩ v).cell? ⟨w.heap.size, 3, none⟩ = some (.slice (some ⟨b1, o1, none⟩) n1 c1) ∧ (u.setCell ⟨w.heap.size + 1, j, none⟩ v).cell? ⟨w.heap.size, 4, none⟩ = some (.slice A2 n2 c2) ∧ (u.setCell ⟨w.heap.size + 1, j, none⟩ v).cell? ⟨w.heap.size, 5, none⟩ = some (.slice (some ⟨b3, o3, none⟩) n3 c3)) ∧ ((u.setCell ⟨w.heap.size + 1, j, none⟩ v).cell? ⟨b1, o1 + k, none⟩ = some (.int .i64 t) ∧ (u.setCell ⟨w.heap.size + 1, j, none⟩ v).cell? ⟨b3, o3 + k, none⟩ = some (.int .i64 r))) := fun u j v hu => by
    obtain ⟨h1, h2, ⟨h3, h4, h5, h6, h7, h8⟩, h9, h10⟩ := hu
    have e : ∀ b o, b < w.heap.size + 1 → (u.setCell ⟨w.heap.size + 1, j, none⟩ v).cell? ⟨b, o, none⟩ = u.cell? ⟨b, o, none⟩ := fun b o hb => (((Below.refl (w.heap.size + 1) u).setCell (Nat.le_refl _) v : Below (w.heap.size + 1) u (u.setCell ⟨w.heap.size + 1, j, none⟩ v))).cell (p := ⟨b, o, none⟩) hb
    exact ⟨h1.setCell (by show _ ≤ w.heap.size + 1; omega) _, by simpa using h2, ⟨by rw [e _ _ (by omega)]; exact h3, by rw [e _ _ (by omega)]; exact h4, by rw [e _ _ (by omega)]; exact h5, by rw [e _ _ (by omega)]; exact h6, by rw [e _ _ (by omega)]; exact h7, by rw [e _ _ (by omega)]; exact h8⟩, by rw [e _ _ (by omega)]; exact h9, by rw [e _ _ (by omega)]; exact h10⟩
  have KD : Hid (Below W0.heap.size W0 W0.drew) := (Below.refl _ _).drew
  go_region_held3 (fun u => Below w.heap.size w u ∧ w.heap.size + 1 < u.heap.size ∧ (u.cell? ⟨w.heap.size, 0, none⟩ = some (.int .i64 x) ∧ u.cell? ⟨w.heap.size, 1, none⟩ = some (.int .i64 y) ∧ u.cell? ⟨w.heap.size, 2, none⟩ = some (.int .i64 z) ∧ u.cell? ⟨w.heap.size, 3, none⟩ = some (.slice (some ⟨b1, o1, none⟩) n1 c1) ∧ u.cell? ⟨w.heap.size, 4, none⟩ = some (.slice A2 n2 c2) ∧ u.cell? ⟨w.heap.size, 5, none⟩ = some (.slice (some ⟨b3, o3, none⟩) n3 c3)) ∧ (u.cell? ⟨b1, o1 + k, none⟩ = some (.int .i64 t) ∧ u.cell? ⟨b3, o3 + k, none⟩ = some (.int .i64 r))) (first | exact KE.out _ KD.out | exact hS1 | exact KF.out _ _ _ (KF.out _ _ _ (KF.out _ _ _ hS1)))
    (first | (go_at_call 110; refine (C.out _ (KE.out _ KD.out).1).mono ?_; rintro e w1 ⟨rfl, hb⟩; have hbd := KD.out.trans (hb.mono KD.out.size); have hS1 := KE.out w1 hbd; have HB1 := Lib.hid hS1.1; have hz1 : w.heap.size + 1 < w1.heap.size := hS1.2.1; have fz0 : w1.frozen? ⟨w.heap.size + 1, 0, none⟩ = false := (by rw [hbd.frozen (p := ⟨w.heap.size + 1, 0, none⟩) HS0.out]; exact HY0.out 0); have fz1 : w1.frozen? ⟨w.heap.size + 1, 1, none⟩ = false := (by rw [hbd.frozen (p := ⟨w.heap.size + 1, 1, none⟩) HS0.out]; exact HY0.out 1); have fz2 : w1.frozen? ⟨w.heap.size + 1, 2, none⟩ = false := (by rw [hbd.frozen (p := ⟨w.heap.size + 1, 2, none⟩) HS0.out]; exact HY0.out 2); have cz0 : w1.cell? ⟨w.heap.size + 1, 0, none⟩ = some (.int .i64 0) := (by rw [hbd.cell (p := ⟨w.heap.size + 1, 0, none⟩) HS0.out]; exact HY1.out 0 (by omega)); have cz1 : w1.cell? ⟨w.heap.size + 1, 1, none⟩ = some (.int .i64 0) := (by rw [hbd.cell (p := ⟨w.heap.size + 1, 1, none⟩) HS0.out]; exact HY1.out 1 (by omega)); have cz2 : w1.cell? ⟨w.heap.size + 1, 2, none⟩ = some (.int .i64 0) := (by rw [hbd.cell (p := ⟨w.heap.size + 1, 2, none⟩) HS0.out]; exact HY1.out 2 (by omega)); clear hbd hb))
  go_wp2
  obtain ⟨f0, f1, f2⟩ := put3 (.int .i64 t) (.int .i64 m) (.int .i64 r) cz0 cz1 cz2
  have HB2 : Hid (Below w.heap.size w (((w1.setCell ⟨w.heap.size + 1, 0, none⟩ (.int .i64 t)).setCell ⟨w.heap.size + 1, 1, none⟩ (.int .i64 m)).setCell ⟨w.heap.size + 1, 2, none⟩ (.int .i64 r))) := ((HB1.out.setCell (by show _ ≤ w.heap.size + 1; omega) _).setCell (by show _ ≤ w.heap.size + 1; omega) _).setCell (by show _ ≤ w.heap.size + 1; omega) _
  generalize ((w1.setCell ⟨w.heap.size + 1, 0, none⟩ (.int .i64 t)).setCell ⟨w.heap.size + 1, 1, none⟩ (.int .i64 m)).setCell ⟨w.heap.size + 1, 2, none⟩ (.int .i64 r) = w2 at *
  refine bodyPost_ret (v := .agg #[.int .i64 t, .int .i64 m, .int .i64 r]) (by simp [results, Tryd.results68, go_sem, f0, f1, f2]) rfl ⟨rfl, HB2.out⟩
end Go.Proofs.YtmimilchldjkbaaDoor
