/-
  Contracts: lists and models copied, in the program and in the model of it.
-/
import Derived.Test.YtcmdnpablnihmabM11
import Derived.Deep.RegionHeld3
import Derived.Lib.BufferMore
namespace Go.Proofs.Ytcmdnpablnihmab
open Go.RowKit
set_option linter.unusedVariables false

theorem row_of_all {w3 : World} {B : Nat} {v' : Value} {xs : List Int} (h : w3.ownsRow B 3 1 v' xs.length (ints [] ++ ints xs)) : Row w3 B v' xs := h
theorem row_none (w : World) : (w.alloc (.cells #[] 3)).ownsRow w.heap.size 3 1 (.slice (some ⟨w.heap.size, 0, none⟩) 0 0) 0 [] := by
  have := World.ownsRow_lit (base := w.heap.size) (e := 3) (size := 1) w #[] 0 (Nat.le_refl _) (by unfold maxLen; omega) (by simp)
  simpa using this
theorem ints_at {xs : List Int} {j : Nat} {u : Value} (h : (ints xs)[j]? = some u) : j < xs.length ∧ u = .int .i64 (xs.getD j 0) := by
  unfold ints at h
  rw [List.getElem?_map] at h
  cases e : xs[j]? with
  | none => rw [e] at h; cases h
  | some t =>
    rw [e] at h
    have hj : j < xs.length := by
      rcases Nat.lt_or_ge j xs.length with hl | hg
      · exact hl
      · rw [List.getElem?_eq_none hg] at e; cases e
    refine ⟨hj, ?_⟩
    rw [List.getD_eq_getElem?_getD, e]
    simpa using h.symm
theorem ints_one {xs : List Int} : ∀ u ∈ ints xs, u.oneCell' = true := fun u hu => by
  obtain ⟨_, _, rfl⟩ := List.mem_map.1 hu
  rfl

set_option maxHeartbeats 1000000 in
theorem c_l1Own (xs : List Int) (v : Value) (w : World) (hl : xs.length ≤ 4000000) (h0 : 0 < xs.length) (h : Seen w v xs) :
    Calls Try.prog 88 #[v] w (GivesRow w xs) := by
  obtain ⟨i0, hi0, hz0, hz1, hz2⟩ := info_parts int_info
  have HI := Lib.hid hi0
  clear hi0
  obtain ⟨A, c, rfl, hm, hA⟩ := h
  obtain ⟨b, off, rfl, hb, hc⟩ := hA h0
  have HC := Lib.hid hc
  have HN : Hid (Row (w.alloc (.cells #[] 3)) w.heap.size (.slice (some ⟨w.heap.size, 0, none⟩) 0 0) []) := row_none w
  clear hm hA hc
  have hnil : ∀ W, (binOp .eql 23 (.slice (some ⟨b, off, none⟩) xs.length c) (.slice none 0 0)).run Try.prog W = .ok (.bool false) W := fun W => Lib.run_eql_slice_some_nil W _ _ _ Try.underlying23
  go_enter Try.func88, Try.ntmps88
  go_wp2_with (at_builtin; refine wpList_append_own _ rfl _ _ 23 rfl w.heap.size 3 i0 (.int .i64 0) 1 8 Try.underlying23 HI.out hz0 hz1 hz2 rfl (by decide) _ _ _ rfl HN.out ⟨b, off, none⟩ xs.length c (ints xs) rfl (by rw [ints_len, Nat.mul_one]) ?c1 ?c2 ?c3 ?c4 ?c5 ?_)
  case c1 =>
    intro j u hj
    obtain ⟨hj1, rfl⟩ := ints_at hj
    rw [show (Addr.mk b off none).add j = ⟨b, off + j, none⟩ by unfold Addr.add; split; (rename_i e; subst e; rfl); rfl, World.cell?_alloc_lt _ _ _ hb]
    exact HC.out j hj1
  case c2 => exact ints_one
  case c3 => simp only [List.length_nil]; unfold maxLen; omega
  case c4 => simp only [List.length_nil]; omega
  case c5 => simp
  intro v' w4 hown' hgrow _
  have R1 : Hid (Row w4 w.heap.size v' xs) := row_of_all hown'
  have R2 : Hid (Below w.heap.size w w4) := ((Below.refl _ _).alloc (Nat.le_refl _) _).grown hgrow (by simp) (fun g hg => by simp [Value.ownBlock] at hg; omega)
  clear hown' hgrow
  go_wp2
  go_ret
  exact ⟨_, rfl, R1.out, R2.out⟩

set_option maxHeartbeats 1000000 in
theorem c_Clone (xs : List Int) (v : Value) (w : World) (hl : xs.length ≤ 4000000) (h0 : 0 < xs.length) (h : Seen w v xs) :
    Calls Try.prog 108 #[v] w (GivesRow w xs) := by
  obtain ⟨i0, hi0, hz0, hz1, hz2⟩ := info_parts int_info
  have HI := Lib.hid hi0
  clear hi0
  obtain ⟨A, c, rfl, hm, hA⟩ := h
  obtain ⟨b, off, rfl, hb, hc⟩ := hA h0
  have HC := Lib.hid hc
  have HN : Hid (Row (w.alloc (.cells #[] 3)) w.heap.size (.slice (some ⟨w.heap.size, 0, none⟩) 0 0) []) := row_none w
  clear hm hA hc
  have hnil : ∀ W, (binOp .eql 23 (.slice (some ⟨b, off, none⟩) xs.length c) (.slice none 0 0)).run Try.prog W = .ok (.bool false) W := fun W => Lib.run_eql_slice_some_nil W _ _ _ Try.underlying23
  go_enter Try.func108, Try.ntmps108
  go_wp2_with (at_builtin; refine wpList_append_own _ rfl _ _ 23 rfl w.heap.size 3 i0 (.int .i64 0) 1 8 Try.underlying23 HI.out hz0 hz1 hz2 rfl (by decide) _ _ _ rfl HN.out ⟨b, off, none⟩ xs.length c (ints xs) rfl (by rw [ints_len, Nat.mul_one]) ?c1 ?c2 ?c3 ?c4 ?c5 ?_)
  case c1 =>
    intro j u hj
    obtain ⟨hj1, rfl⟩ := ints_at hj
    rw [show (Addr.mk b off none).add j = ⟨b, off + j, none⟩ by unfold Addr.add; split; (rename_i e; subst e; rfl); rfl, World.cell?_alloc_lt _ _ _ hb]
    exact HC.out j hj1
  case c2 => exact ints_one
  case c3 => simp only [List.length_nil]; unfold maxLen; omega
  case c4 => simp only [List.length_nil]; omega
  case c5 => simp
  intro v' w4 hown' hgrow _
  have R1 : Hid (Row w4 w.heap.size v' xs) := row_of_all hown'
  have R2 : Hid (Below w.heap.size w w4) := ((Below.refl _ _).alloc (Nat.le_refl _) _).grown hgrow (by simp) (fun g hg => by simp [Value.ownBlock] at hg; omega)
  clear hown' hgrow
  go_wp2
  go_ret
  exact ⟨_, rfl, R1.out, R2.out⟩

theorem addr_ne (b i j : Nat) (h : i ≠ j) : (⟨b, i, none⟩ : Addr) ≠ ⟨b, j, none⟩ := fun e => h (congrArg Addr.off e)
/-- A block of six cells of the call's own. -/
structure Mine6 (w : World) (b : Nat) (u0 u1 u2 u3 u4 u5 : Value) : Prop where
  lt : b < w.heap.size
  c0 : w.cell? ⟨b, 0, none⟩ = some u0
  c1 : w.cell? ⟨b, 1, none⟩ = some u1
  c2 : w.cell? ⟨b, 2, none⟩ = some u2
  c3 : w.cell? ⟨b, 3, none⟩ = some u3
  c4 : w.cell? ⟨b, 4, none⟩ = some u4
  c5 : w.cell? ⟨b, 5, none⟩ = some u5
  f : ∀ o, w.frozen? ⟨b, o, none⟩ = false
theorem Mine6.below {w w' : World} {b : Nat} {u0 u1 u2 u3 u4 u5 : Value} (h : Mine6 w b u0 u1 u2 u3 u4 u5) (hb : Below w.heap.size w w') : Mine6 w' b u0 u1 u2 u3 u4 u5 :=
  ⟨Nat.lt_of_lt_of_le h.lt hb.size, by rw [hb.cell (p := ⟨b, 0, none⟩) h.lt]; exact h.c0, by rw [hb.cell (p := ⟨b, 1, none⟩) h.lt]; exact h.c1, by rw [hb.cell (p := ⟨b, 2, none⟩) h.lt]; exact h.c2,
    by rw [hb.cell (p := ⟨b, 3, none⟩) h.lt]; exact h.c3, by rw [hb.cell (p := ⟨b, 4, none⟩) h.lt]; exact h.c4, by rw [hb.cell (p := ⟨b, 5, none⟩) h.lt]; exact h.c5, fun o => by rw [hb.frozen (p := ⟨b, o, none⟩) h.lt]; exact h.f o⟩
theorem Mine6.new (w : World) (u0 u1 u2 u3 u4 u5 : Value) (T : TypeId) : Mine6 (w.alloc (.cells #[u0, u1, u2, u3, u4, u5] T)) w.heap.size u0 u1 u2 u3 u4 u5 :=
  ⟨by simp, by simp, by simp, by simp, by simp, by simp, by simp, fun o => by simp⟩
/-- Six cells stored, one behind the other. -/
def put6 (w : World) (b : Nat) (t0 t1 t2 t3 t4 t5 : Value) : World := ((((((w.setCell ⟨b, 0, none⟩ t0).setCell ⟨b, 1, none⟩ t1).setCell ⟨b, 2, none⟩ t2).setCell ⟨b, 3, none⟩ t3).setCell ⟨b, 4, none⟩ t4).setCell ⟨b, 5, none⟩ t5)
theorem put6_mine {w : World} {b : Nat} {u0 u1 u2 u3 u4 u5 : Value} (t0 t1 t2 t3 t4 t5 : Value) (h : Mine6 w b u0 u1 u2 u3 u4 u5) : Mine6 (put6 w b t0 t1 t2 t3 t4 t5) b t0 t1 t2 t3 t4 t5 := by
  have ne : ∀ i j : Nat, i ≠ j → (⟨b, i, none⟩ : Addr) ≠ ⟨b, j, none⟩ := addr_ne b
  unfold put6
  refine ⟨by simp; exact h.lt, ?_, ?_, ?_, ?_, ?_, ?_, fun o => by simp; exact h.f o⟩
  · exact (World.cell?_setCell_other _ _ _ _ (ne 5 0 (by decide))).trans ((World.cell?_setCell_other _ _ _ _ (ne 4 0 (by decide))).trans ((World.cell?_setCell_other _ _ _ _ (ne 3 0 (by decide))).trans ((World.cell?_setCell_other _ _ _ _ (ne 2 0 (by decide))).trans ((World.cell?_setCell_other _ _ _ _ (ne 1 0 (by decide))).trans (World.cell?_setCell_same _ _ _ (h.c0))))))
  · exact (World.cell?_setCell_other _ _ _ _ (ne 5 1 (by decide))).trans ((World.cell?_setCell_other _ _ _ _ (ne 4 1 (by decide))).trans ((World.cell?_setCell_other _ _ _ _ (ne 3 1 (by decide))).trans ((World.cell?_setCell_other _ _ _ _ (ne 2 1 (by decide))).trans (World.cell?_setCell_same _ _ _ ((World.cell?_setCell_other _ _ _ _ (ne 0 1 (by decide))).trans (h.c1))))))
  · exact (World.cell?_setCell_other _ _ _ _ (ne 5 2 (by decide))).trans ((World.cell?_setCell_other _ _ _ _ (ne 4 2 (by decide))).trans ((World.cell?_setCell_other _ _ _ _ (ne 3 2 (by decide))).trans (World.cell?_setCell_same _ _ _ ((World.cell?_setCell_other _ _ _ _ (ne 1 2 (by decide))).trans ((World.cell?_setCell_other _ _ _ _ (ne 0 2 (by decide))).trans (h.c2))))))
  · exact (World.cell?_setCell_other _ _ _ _ (ne 5 3 (by decide))).trans ((World.cell?_setCell_other _ _ _ _ (ne 4 3 (by decide))).trans (World.cell?_setCell_same _ _ _ ((World.cell?_setCell_other _ _ _ _ (ne 2 3 (by decide))).trans ((World.cell?_setCell_other _ _ _ _ (ne 1 3 (by decide))).trans ((World.cell?_setCell_other _ _ _ _ (ne 0 3 (by decide))).trans (h.c3))))))
  · exact (World.cell?_setCell_other _ _ _ _ (ne 5 4 (by decide))).trans (World.cell?_setCell_same _ _ _ ((World.cell?_setCell_other _ _ _ _ (ne 3 4 (by decide))).trans ((World.cell?_setCell_other _ _ _ _ (ne 2 4 (by decide))).trans ((World.cell?_setCell_other _ _ _ _ (ne 1 4 (by decide))).trans ((World.cell?_setCell_other _ _ _ _ (ne 0 4 (by decide))).trans (h.c4))))))
  · exact World.cell?_setCell_same _ _ _ ((World.cell?_setCell_other _ _ _ _ (ne 4 5 (by decide))).trans ((World.cell?_setCell_other _ _ _ _ (ne 3 5 (by decide))).trans ((World.cell?_setCell_other _ _ _ _ (ne 2 5 (by decide))).trans ((World.cell?_setCell_other _ _ _ _ (ne 1 5 (by decide))).trans ((World.cell?_setCell_other _ _ _ _ (ne 0 5 (by decide))).trans (h.c5))))))
theorem put6_below {w w0 : World} {b B : Nat} (t0 t1 t2 t3 t4 t5 : Value) (h : Below B w0 w) (hb : B ≤ b) : Below B w0 (put6 w b t0 t1 t2 t3 t4 t5) :=
  (((((h.setCell hb _).setCell hb _).setCell hb _).setCell hb _).setCell hb _).setCell hb _
theorem put6_row {w : World} {b B : Nat} {v : Value} {xs : List Int} (t0 t1 t2 t3 t4 t5 : Value) (h : Row w B v xs) (hb : b < B) : Row (put6 w b t0 t1 t2 t3 t4 t5) B v xs :=
  (((((h.put hb _).put hb _).put hb _).put hb _).put hb _).put hb _
theorem Row.drew {w : World} {B : Nat} {v : Value} {xs : List Int} (h : Row w B v xs) : Row w.drew B v xs := h

set_option maxHeartbeats 4000000 in
theorem c_copyModel (x y z : Int) (v1 v2 v3 : Value) (ts gs rs : List Int) (w : World) (l1 : ts.length ≤ 4000000) (l2 : gs.length ≤ 4000000) (l3 : rs.length ≤ 4000000) (n1 : 0 < ts.length) (n2 : 0 < gs.length) (n3 : 0 < rs.length) (h : Look w v1 v2 v3 ts gs rs) :
    Calls Try.prog 69 #[.agg #[.int .i64 x, .int .i64 y, .int .i64 z, v1, v2, v3]] w (GivesMod w x y z ts gs rs) := by
  have H := Lib.hid h
  have C1 := Lib.hid (fun (u : World) (hu : Below w.heap.size w u) => c_Clone ts v1 u l1 n1 (h.t.below hu))
  have C2 := Lib.hid (fun (u : World) (hu : Below w.heap.size w u) => c_Clone gs v2 u l2 n2 (h.g.below hu))
  have C3 := Lib.hid (fun (u : World) (hu : Below w.heap.size w u) => c_Clone rs v3 u l3 n3 (h.r.below hu))
  obtain ⟨A1, c1, rfl⟩ := h.t.shape
  obtain ⟨A2, c2, rfl⟩ := h.g.shape
  obtain ⟨A3, c3, rfl⟩ := h.r.shape
  clear h
  go_enter Try.func69, Try.ntmps69
  go_wp2_with fail
  have HX0 : Hid (Box6 ((w.alloc (.cells #[.int .i64 x, .int .i64 y, .int .i64 z, .slice A1 ts.length c1, .slice A2 gs.length c2, .slice A3 rs.length c3] 54)).alloc (.cells #[.int .i64 0, .int .i64 0, .int .i64 0, .slice none 0 0, .slice none 0 0, .slice none 0 0] 54)) w.heap.size x y z (.slice A1 ts.length c1) (.slice A2 gs.length c2) (.slice A3 rs.length c3)) := (Box6.new _ _ _ _ _ _ _ _).below ((Below.refl _ _).alloc (Nat.le_refl _) _)
  have HB0 : Hid (Below w.heap.size w ((w.alloc (.cells #[.int .i64 x, .int .i64 y, .int .i64 z, .slice A1 ts.length c1, .slice A2 gs.length c2, .slice A3 rs.length c3] 54)).alloc (.cells #[.int .i64 0, .int .i64 0, .int .i64 0, .slice none 0 0, .slice none 0 0, .slice none 0 0] 54))) := ((Below.refl _ _).alloc (Nat.le_refl _) _).alloc (by simp) _
  have HM0 : Hid (Mine6 ((w.alloc (.cells #[.int .i64 x, .int .i64 y, .int .i64 z, .slice A1 ts.length c1, .slice A2 gs.length c2, .slice A3 rs.length c3] 54)).alloc (.cells #[.int .i64 0, .int .i64 0, .int .i64 0, .slice none 0 0, .slice none 0 0, .slice none 0 0] 54)) (w.heap.size + 1) (.int .i64 0) (.int .i64 0) (.int .i64 0) (.slice none 0 0) (.slice none 0 0) (.slice none 0 0)) := by
    have := Mine6.new (w.alloc (.cells #[.int .i64 x, .int .i64 y, .int .i64 z, .slice A1 ts.length c1, .slice A2 gs.length c2, .slice A3 rs.length c3] 54)) (.int .i64 0) (.int .i64 0) (.int .i64 0) (.slice none 0 0) (.slice none 0 0) (.slice none 0 0) 54
    rw [World.size_alloc] at this
    exact this
  have HS0 : Hid (((w.alloc (.cells #[.int .i64 x, .int .i64 y, .int .i64 z, .slice A1 ts.length c1, .slice A2 gs.length c2, .slice A3 rs.length c3] 54)).alloc (.cells #[.int .i64 0, .int .i64 0, .int .i64 0, .slice none 0 0, .slice none 0 0, .slice none 0 0] 54)).heap.size = w.heap.size + 2) := by simp [Hid]
  generalize ((w.alloc (.cells #[.int .i64 x, .int .i64 y, .int .i64 z, .slice A1 ts.length c1, .slice A2 gs.length c2, .slice A3 rs.length c3] 54)).alloc (.cells #[.int .i64 0, .int .i64 0, .int .i64 0, .slice none 0 0, .slice none 0 0, .slice none 0 0] 54)) = W0 at *
  have KE : Hid (∀ u, Below W0.heap.size W0 u → u.cell? ⟨w.heap.size, 0, none⟩ = some (.int .i64 x) ∧ u.cell? ⟨w.heap.size, 1, none⟩ = some (.int .i64 y) ∧ u.cell? ⟨w.heap.size, 2, none⟩ = some (.int .i64 z) ∧ u.cell? ⟨w.heap.size, 3, none⟩ = some (.slice A1 ts.length c1) ∧ u.cell? ⟨w.heap.size, 4, none⟩ = some (.slice A2 gs.length c2) ∧ u.cell? ⟨w.heap.size, 5, none⟩ = some (.slice A3 rs.length c3)) := fun u hu => by
    have hX := HX0.out.below hu
    exact ⟨hX.c0, hX.c1, hX.c2, hX.c3, hX.c4, hX.c5⟩
  have KB : Hid (∀ u, Below W0.heap.size W0 u → Below w.heap.size w u) := fun u hu => HB0.out.trans (hu.mono HB0.out.size)
  have KF : Hid (∀ (u : World) (j : Nat) (v : Value), (u.cell? ⟨w.heap.size, 0, none⟩ = some (.int .i64 x) ∧ u.cell? ⟨w.heap.size, 1, none⟩ = some (.int .i64 y) ∧ u.cell? ⟨w.heap.size, 2, none⟩ = some (.int .i64 z) ∧ u.cell? ⟨w.heap.size, 3, none⟩ = some (.slice A1 ts.length c1) ∧ u.cell? ⟨w.heap.size, 4, none⟩ = some (.slice A2 gs.length c2) ∧ u.cell? ⟨w.heap.size, 5, none⟩ = some (.slice A3 rs.length c3)) → ((u.setCell ⟨w.heap.size + 1, j, none⟩ v).cell? ⟨w.heap.size, 0, none⟩ = some (.int .i64 x) ∧ (u.setCell ⟨w.heap.size + 1, j, none⟩ v).cell? ⟨w.heap.size, 1, none⟩ = some (.int .i64 y) ∧ (u.setCell ⟨w.heap.size + 1, j, none⟩ v).cell? ⟨w.heap.size, 2, none⟩ = some (.int .i64 z) ∧ (u.setCell ⟨w.heap.size + 1, j, none⟩ v).cell? ⟨w.heap.size, 3, none⟩ = some (.slice A1 ts.length c1) ∧ (u.setCell ⟨w.heap.size + 1, j, none⟩ v).cell? ⟨w.heap.size, 4, none⟩ = some (.slice A2 gs.length c2) ∧ (u.setCell ⟨w.heap.size + 1, j, none⟩ v).cell? ⟨w.heap.size, 5, none⟩ = some (.slice A3 rs.length c3))) := fun u j v hu => by
    obtain ⟨h3, h4, h5, h6, h7, h8⟩ := hu
    have e : ∀ b o, b < w.heap.size + 1 → (u.setCell ⟨w.heap.size + 1, j, none⟩ v).cell? ⟨b, o, none⟩ = u.cell? ⟨b, o, none⟩ := fun b o hb => (((Below.refl (w.heap.size + 1) u).setCell (Nat.le_refl _) v : Below (w.heap.size + 1) u (u.setCell ⟨w.heap.size + 1, j, none⟩ v))).cell (p := ⟨b, o, none⟩) hb
    exact ⟨by rw [e _ _ (by omega)]; exact h3, by rw [e _ _ (by omega)]; exact h4, by rw [e _ _ (by omega)]; exact h5, by rw [e _ _ (by omega)]; exact h6, by rw [e _ _ (by omega)]; exact h7, by rw [e _ _ (by omega)]; exact h8⟩
  have KD : Hid (Below W0.heap.size W0 W0.drew) := (Below.refl _ _).drew
  go_region_held3 (fun u => u.cell? ⟨w.heap.size, 0, none⟩ = some (.int .i64 x) ∧ u.cell? ⟨w.heap.size, 1, none⟩ = some (.int .i64 y) ∧ u.cell? ⟨w.heap.size, 2, none⟩ = some (.int .i64 z) ∧ u.cell? ⟨w.heap.size, 3, none⟩ = some (.slice A1 ts.length c1) ∧ u.cell? ⟨w.heap.size, 4, none⟩ = some (.slice A2 gs.length c2) ∧ u.cell? ⟨w.heap.size, 5, none⟩ = some (.slice A3 rs.length c3)) (first | with_reducible exact KE.out _ KD.out | with_reducible exact KE.out _ HU1.out | with_reducible exact KE.out _ HU2.out | with_reducible exact KE.out _ HU3.out | with_reducible exact KF.out _ _ _ (KF.out _ _ _ (KF.out _ _ _ (KF.out _ _ _ (KF.out _ _ _ (KF.out _ _ _ (KE.out _ HU3.out)))))))
    (first
      | (go_at_call_of 108 (Value.slice A1 ts.length c1); (with_reducible refine (C1.out _ (KB.out _ KD.out)).mono ?_); rintro e w1 ⟨p1, rfl, hr1, hb1⟩; have HU1 : Hid (Below W0.heap.size W0 w1) := KD.out.trans (hb1.mono KD.out.size); obtain ⟨P1, q1, rfl⟩ := hr1.shape; have HR1 : Hid (Row w1 W0.heap.size (.slice P1 ts.length q1) ts) := hr1; clear hr1 hb1)
      | (go_at_call_of 108 (Value.slice A2 gs.length c2); (with_reducible refine (C2.out _ (KB.out _ HU1.out)).mono ?_); rintro e w2 ⟨p2, rfl, hr2, hb2⟩; have HU2 : Hid (Below W0.heap.size W0 w2) := HU1.out.trans (hb2.mono HU1.out.size); obtain ⟨P2, q2, rfl⟩ := hr2.shape; have HR2 := Lib.hid hr2; have HV2 := Lib.hid hb2; clear hr2 hb2)
      | (go_at_call_of 108 (Value.slice A3 rs.length c3); (with_reducible refine (C3.out _ (KB.out _ HU2.out)).mono ?_); rintro e w3 ⟨p3, rfl, hr3, hb3⟩; have HU3 : Hid (Below W0.heap.size W0 w3) := HU2.out.trans (hb3.mono HU2.out.size); obtain ⟨P3, q3, rfl⟩ := hr3.shape; have HR3 := Lib.hid hr3; have HV3 := Lib.hid hb3; clear hr3 hb3; have HM3 := Lib.hid (HM0.out.below HU3.out); have m0 := HM3.out.c0; have m1 := HM3.out.c1; have m2 := HM3.out.c2; have m3 := HM3.out.c3; have m4 := HM3.out.c4; have m5 := HM3.out.c5; have g0 := HM3.out.f 0; have g1 := HM3.out.f 1; have g2 := HM3.out.f 2; have g3 := HM3.out.f 3; have g4 := HM3.out.f 4; have g5 := HM3.out.f 5))
  go_wp2
  have HP := Lib.hid (put6_mine (.int .i64 x) (.int .i64 y) (.int .i64 z) (.slice P1 ts.length q1) (.slice P2 gs.length q2) (.slice P3 rs.length q3) HM3.out)
  have HBE : Hid (Below w.heap.size w (put6 w3 (w.heap.size + 1) (.int .i64 x) (.int .i64 y) (.int .i64 z) (.slice P1 ts.length q1) (.slice P2 gs.length q2) (.slice P3 rs.length q3))) := put6_below _ _ _ _ _ _ (KB.out _ HU3.out) (by omega)
  have B12 : Hid (Apart (Value.slice P1 ts.length q1).ownBlock (Value.slice P2 gs.length q2).ownBlock) := apart_of HR1.out HR2.out (Nat.le_refl _)
  have B13 : Hid (Apart (Value.slice P1 ts.length q1).ownBlock (Value.slice P3 rs.length q3).ownBlock) := apart_of HR1.out HR3.out HV2.out.size
  have B23 : Hid (Apart (Value.slice P2 gs.length q2).ownBlock (Value.slice P3 rs.length q3).ownBlock) := apart_of HR2.out HR3.out (Nat.le_refl _)
  have z0 := HS0.out
  have z1 := HU1.out.size
  have z2 := HU2.out.size
  have HQ : Hid (Mod (put6 w3 (w.heap.size + 1) (.int .i64 x) (.int .i64 y) (.int .i64 z) (.slice P1 ts.length q1) (.slice P2 gs.length q2) (.slice P3 rs.length q3)) w.heap.size (.slice P1 ts.length q1) (.slice P2 gs.length q2) (.slice P3 rs.length q3) ts gs rs) :=
    ⟨(put6_row _ _ _ _ _ _ ((HR1.out.below HV2.out).below HV3.out) (by omega)).mono (by omega), (put6_row _ _ _ _ _ _ (HR2.out.below HV3.out) (by omega)).mono (by omega), (put6_row _ _ _ _ _ _ HR3.out (by omega)).mono (by omega), B12.out, B13.out, B23.out⟩
  unfold put6 at *
  generalize (((((w3.setCell ⟨w.heap.size + 1, 0, none⟩ (.int .i64 x)).setCell ⟨w.heap.size + 1, 1, none⟩ (.int .i64 y)).setCell ⟨w.heap.size + 1, 2, none⟩ (.int .i64 z)).setCell ⟨w.heap.size + 1, 3, none⟩ (.slice P1 ts.length q1)).setCell ⟨w.heap.size + 1, 4, none⟩ (.slice P2 gs.length q2)).setCell ⟨w.heap.size + 1, 5, none⟩ (.slice P3 rs.length q3) = we at *
  have f0 := HP.out.c0
  have f1 := HP.out.c1
  have f2 := HP.out.c2
  have f3 := HP.out.c3
  have f4 := HP.out.c4
  have f5 := HP.out.c5
  refine bodyPost_ret (v := .agg #[.int .i64 x, .int .i64 y, .int .i64 z, .slice P1 ts.length q1, .slice P2 gs.length q2, .slice P3 rs.length q3]) (by simp [results, Try.results69, go_sem, f0, f1, f2, f3, f4, f5]) rfl ⟨_, _, _, rfl, HQ.out, HBE.out⟩

set_option maxHeartbeats 4000000 in
theorem c_moOwn (x y z : Int) (v1 v2 v3 : Value) (ts gs rs : List Int) (w : World) (l1 : ts.length ≤ 4000000) (l2 : gs.length ≤ 4000000) (l3 : rs.length ≤ 4000000) (n1 : 0 < ts.length) (n2 : 0 < gs.length) (n3 : 0 < rs.length) (h : Look w v1 v2 v3 ts gs rs) :
    Calls Try.prog 68 #[.agg #[.int .i64 x, .int .i64 y, .int .i64 z, v1, v2, v3]] w (GivesMod w x y z ts gs rs) := by
  have H := Lib.hid h
  have C1 := Lib.hid (fun (u : World) (hu : Below w.heap.size w u) => c_l1Own ts v1 u l1 n1 (h.t.below hu))
  have C2 := Lib.hid (fun (u : World) (hu : Below w.heap.size w u) => c_l1Own gs v2 u l2 n2 (h.g.below hu))
  have C3 := Lib.hid (fun (u : World) (hu : Below w.heap.size w u) => c_l1Own rs v3 u l3 n3 (h.r.below hu))
  obtain ⟨A1, c1, rfl⟩ := h.t.shape
  obtain ⟨A2, c2, rfl⟩ := h.g.shape
  obtain ⟨A3, c3, rfl⟩ := h.r.shape
  clear h
  go_enter Try.func68, Try.ntmps68
  go_wp2_with fail
  have HX0 : Hid (Box6 ((w.alloc (.cells #[.int .i64 x, .int .i64 y, .int .i64 z, .slice A1 ts.length c1, .slice A2 gs.length c2, .slice A3 rs.length c3] 54)).alloc (.cells #[.int .i64 0, .int .i64 0, .int .i64 0, .slice none 0 0, .slice none 0 0, .slice none 0 0] 54)) w.heap.size x y z (.slice A1 ts.length c1) (.slice A2 gs.length c2) (.slice A3 rs.length c3)) := (Box6.new _ _ _ _ _ _ _ _).below ((Below.refl _ _).alloc (Nat.le_refl _) _)
  have HB0 : Hid (Below w.heap.size w ((w.alloc (.cells #[.int .i64 x, .int .i64 y, .int .i64 z, .slice A1 ts.length c1, .slice A2 gs.length c2, .slice A3 rs.length c3] 54)).alloc (.cells #[.int .i64 0, .int .i64 0, .int .i64 0, .slice none 0 0, .slice none 0 0, .slice none 0 0] 54))) := ((Below.refl _ _).alloc (Nat.le_refl _) _).alloc (by simp) _
  have HM0 : Hid (Mine6 ((w.alloc (.cells #[.int .i64 x, .int .i64 y, .int .i64 z, .slice A1 ts.length c1, .slice A2 gs.length c2, .slice A3 rs.length c3] 54)).alloc (.cells #[.int .i64 0, .int .i64 0, .int .i64 0, .slice none 0 0, .slice none 0 0, .slice none 0 0] 54)) (w.heap.size + 1) (.int .i64 0) (.int .i64 0) (.int .i64 0) (.slice none 0 0) (.slice none 0 0) (.slice none 0 0)) := by
    have := Mine6.new (w.alloc (.cells #[.int .i64 x, .int .i64 y, .int .i64 z, .slice A1 ts.length c1, .slice A2 gs.length c2, .slice A3 rs.length c3] 54)) (.int .i64 0) (.int .i64 0) (.int .i64 0) (.slice none 0 0) (.slice none 0 0) (.slice none 0 0) 54
    rw [World.size_alloc] at this
    exact this
  have HS0 : Hid (((w.alloc (.cells #[.int .i64 x, .int .i64 y, .int .i64 z, .slice A1 ts.length c1, .slice A2 gs.length c2, .slice A3 rs.length c3] 54)).alloc (.cells #[.int .i64 0, .int .i64 0, .int .i64 0, .slice none 0 0, .slice none 0 0, .slice none 0 0] 54)).heap.size = w.heap.size + 2) := by simp [Hid]
  generalize ((w.alloc (.cells #[.int .i64 x, .int .i64 y, .int .i64 z, .slice A1 ts.length c1, .slice A2 gs.length c2, .slice A3 rs.length c3] 54)).alloc (.cells #[.int .i64 0, .int .i64 0, .int .i64 0, .slice none 0 0, .slice none 0 0, .slice none 0 0] 54)) = W0 at *
  have KE : Hid (∀ u, Below W0.heap.size W0 u → u.cell? ⟨w.heap.size, 0, none⟩ = some (.int .i64 x) ∧ u.cell? ⟨w.heap.size, 1, none⟩ = some (.int .i64 y) ∧ u.cell? ⟨w.heap.size, 2, none⟩ = some (.int .i64 z) ∧ u.cell? ⟨w.heap.size, 3, none⟩ = some (.slice A1 ts.length c1) ∧ u.cell? ⟨w.heap.size, 4, none⟩ = some (.slice A2 gs.length c2) ∧ u.cell? ⟨w.heap.size, 5, none⟩ = some (.slice A3 rs.length c3)) := fun u hu => by
    have hX := HX0.out.below hu
    exact ⟨hX.c0, hX.c1, hX.c2, hX.c3, hX.c4, hX.c5⟩
  have KB : Hid (∀ u, Below W0.heap.size W0 u → Below w.heap.size w u) := fun u hu => HB0.out.trans (hu.mono HB0.out.size)
  have KF : Hid (∀ (u : World) (j : Nat) (v : Value), (u.cell? ⟨w.heap.size, 0, none⟩ = some (.int .i64 x) ∧ u.cell? ⟨w.heap.size, 1, none⟩ = some (.int .i64 y) ∧ u.cell? ⟨w.heap.size, 2, none⟩ = some (.int .i64 z) ∧ u.cell? ⟨w.heap.size, 3, none⟩ = some (.slice A1 ts.length c1) ∧ u.cell? ⟨w.heap.size, 4, none⟩ = some (.slice A2 gs.length c2) ∧ u.cell? ⟨w.heap.size, 5, none⟩ = some (.slice A3 rs.length c3)) → ((u.setCell ⟨w.heap.size + 1, j, none⟩ v).cell? ⟨w.heap.size, 0, none⟩ = some (.int .i64 x) ∧ (u.setCell ⟨w.heap.size + 1, j, none⟩ v).cell? ⟨w.heap.size, 1, none⟩ = some (.int .i64 y) ∧ (u.setCell ⟨w.heap.size + 1, j, none⟩ v).cell? ⟨w.heap.size, 2, none⟩ = some (.int .i64 z) ∧ (u.setCell ⟨w.heap.size + 1, j, none⟩ v).cell? ⟨w.heap.size, 3, none⟩ = some (.slice A1 ts.length c1) ∧ (u.setCell ⟨w.heap.size + 1, j, none⟩ v).cell? ⟨w.heap.size, 4, none⟩ = some (.slice A2 gs.length c2) ∧ (u.setCell ⟨w.heap.size + 1, j, none⟩ v).cell? ⟨w.heap.size, 5, none⟩ = some (.slice A3 rs.length c3))) := fun u j v hu => by
    obtain ⟨h3, h4, h5, h6, h7, h8⟩ := hu
    have e : ∀ b o, b < w.heap.size + 1 → (u.setCell ⟨w.heap.size + 1, j, none⟩ v).cell? ⟨b, o, none⟩ = u.cell? ⟨b, o, none⟩ := fun b o hb => (((Below.refl (w.heap.size + 1) u).setCell (Nat.le_refl _) v : Below (w.heap.size + 1) u (u.setCell ⟨w.heap.size + 1, j, none⟩ v))).cell (p := ⟨b, o, none⟩) hb
    exact ⟨by rw [e _ _ (by omega)]; exact h3, by rw [e _ _ (by omega)]; exact h4, by rw [e _ _ (by omega)]; exact h5, by rw [e _ _ (by omega)]; exact h6, by rw [e _ _ (by omega)]; exact h7, by rw [e _ _ (by omega)]; exact h8⟩
  have KD : Hid (Below W0.heap.size W0 W0.drew) := (Below.refl _ _).drew
  go_region_held3 (fun u => u.cell? ⟨w.heap.size, 0, none⟩ = some (.int .i64 x) ∧ u.cell? ⟨w.heap.size, 1, none⟩ = some (.int .i64 y) ∧ u.cell? ⟨w.heap.size, 2, none⟩ = some (.int .i64 z) ∧ u.cell? ⟨w.heap.size, 3, none⟩ = some (.slice A1 ts.length c1) ∧ u.cell? ⟨w.heap.size, 4, none⟩ = some (.slice A2 gs.length c2) ∧ u.cell? ⟨w.heap.size, 5, none⟩ = some (.slice A3 rs.length c3)) (first | with_reducible exact KE.out _ KD.out | with_reducible exact KE.out _ HU1.out | with_reducible exact KE.out _ HU2.out | with_reducible exact KE.out _ HU3.out | with_reducible exact KF.out _ _ _ (KF.out _ _ _ (KF.out _ _ _ (KF.out _ _ _ (KF.out _ _ _ (KF.out _ _ _ (KE.out _ HU3.out)))))))
    (first
      | (go_at_call_of 88 (Value.slice A1 ts.length c1); (with_reducible refine (C1.out _ (KB.out _ KD.out)).mono ?_); rintro e w1 ⟨p1, rfl, hr1, hb1⟩; have HU1 : Hid (Below W0.heap.size W0 w1) := KD.out.trans (hb1.mono KD.out.size); obtain ⟨P1, q1, rfl⟩ := hr1.shape; have HR1 : Hid (Row w1 W0.heap.size (.slice P1 ts.length q1) ts) := hr1; clear hr1 hb1)
      | (go_at_call_of 88 (Value.slice A2 gs.length c2); (with_reducible refine (C2.out _ (KB.out _ HU1.out)).mono ?_); rintro e w2 ⟨p2, rfl, hr2, hb2⟩; have HU2 : Hid (Below W0.heap.size W0 w2) := HU1.out.trans (hb2.mono HU1.out.size); obtain ⟨P2, q2, rfl⟩ := hr2.shape; have HR2 := Lib.hid hr2; have HV2 := Lib.hid hb2; clear hr2 hb2)
      | (go_at_call_of 88 (Value.slice A3 rs.length c3); (with_reducible refine (C3.out _ (KB.out _ HU2.out)).mono ?_); rintro e w3 ⟨p3, rfl, hr3, hb3⟩; have HU3 : Hid (Below W0.heap.size W0 w3) := HU2.out.trans (hb3.mono HU2.out.size); obtain ⟨P3, q3, rfl⟩ := hr3.shape; have HR3 := Lib.hid hr3; have HV3 := Lib.hid hb3; clear hr3 hb3; have HM3 := Lib.hid (HM0.out.below HU3.out); have m0 := HM3.out.c0; have m1 := HM3.out.c1; have m2 := HM3.out.c2; have m3 := HM3.out.c3; have m4 := HM3.out.c4; have m5 := HM3.out.c5; have g0 := HM3.out.f 0; have g1 := HM3.out.f 1; have g2 := HM3.out.f 2; have g3 := HM3.out.f 3; have g4 := HM3.out.f 4; have g5 := HM3.out.f 5))
  go_wp2
  have HP := Lib.hid (put6_mine (.int .i64 x) (.int .i64 y) (.int .i64 z) (.slice P1 ts.length q1) (.slice P2 gs.length q2) (.slice P3 rs.length q3) HM3.out)
  have HBE : Hid (Below w.heap.size w (put6 w3 (w.heap.size + 1) (.int .i64 x) (.int .i64 y) (.int .i64 z) (.slice P1 ts.length q1) (.slice P2 gs.length q2) (.slice P3 rs.length q3))) := put6_below _ _ _ _ _ _ (KB.out _ HU3.out) (by omega)
  have B12 : Hid (Apart (Value.slice P1 ts.length q1).ownBlock (Value.slice P2 gs.length q2).ownBlock) := apart_of HR1.out HR2.out (Nat.le_refl _)
  have B13 : Hid (Apart (Value.slice P1 ts.length q1).ownBlock (Value.slice P3 rs.length q3).ownBlock) := apart_of HR1.out HR3.out HV2.out.size
  have B23 : Hid (Apart (Value.slice P2 gs.length q2).ownBlock (Value.slice P3 rs.length q3).ownBlock) := apart_of HR2.out HR3.out (Nat.le_refl _)
  have z0 := HS0.out
  have z1 := HU1.out.size
  have z2 := HU2.out.size
  have HQ : Hid (Mod (put6 w3 (w.heap.size + 1) (.int .i64 x) (.int .i64 y) (.int .i64 z) (.slice P1 ts.length q1) (.slice P2 gs.length q2) (.slice P3 rs.length q3)) w.heap.size (.slice P1 ts.length q1) (.slice P2 gs.length q2) (.slice P3 rs.length q3) ts gs rs) :=
    ⟨(put6_row _ _ _ _ _ _ ((HR1.out.below HV2.out).below HV3.out) (by omega)).mono (by omega), (put6_row _ _ _ _ _ _ (HR2.out.below HV3.out) (by omega)).mono (by omega), (put6_row _ _ _ _ _ _ HR3.out (by omega)).mono (by omega), B12.out, B13.out, B23.out⟩
  unfold put6 at *
  generalize (((((w3.setCell ⟨w.heap.size + 1, 0, none⟩ (.int .i64 x)).setCell ⟨w.heap.size + 1, 1, none⟩ (.int .i64 y)).setCell ⟨w.heap.size + 1, 2, none⟩ (.int .i64 z)).setCell ⟨w.heap.size + 1, 3, none⟩ (.slice P1 ts.length q1)).setCell ⟨w.heap.size + 1, 4, none⟩ (.slice P2 gs.length q2)).setCell ⟨w.heap.size + 1, 5, none⟩ (.slice P3 rs.length q3) = we at *
  have f0 := HP.out.c0
  have f1 := HP.out.c1
  have f2 := HP.out.c2
  have f3 := HP.out.c3
  have f4 := HP.out.c4
  have f5 := HP.out.c5
  refine bodyPost_ret (v := .agg #[.int .i64 x, .int .i64 y, .int .i64 z, .slice P1 ts.length q1, .slice P2 gs.length q2, .slice P3 rs.length q3]) (by simp [results, Try.results68, go_sem, f0, f1, f2, f3, f4, f5]) rfl ⟨_, _, _, rfl, HQ.out, HBE.out⟩
end Go.Proofs.Ytcmdnpablnihmab
