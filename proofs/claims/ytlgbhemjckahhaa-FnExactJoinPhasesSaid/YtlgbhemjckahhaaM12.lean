/-
  Contracts: lists and models copied, in the program and in the model of it.
-/
import Derived.Test.YtlgbhemjckahhaaM11
import Derived.Deep.RegionHeld3
import Derived.Lib.BufferMore
namespace Go.Proofs.Ytlgbhemjckahhaa
open Go.RowKit
set_option linter.unusedVariables false

theorem row_of_all {w3 : World} {B : Nat} {v' : Value} {xs : List Int} (h : w3.ownsRow B 3 1 v' xs.length (ints [] ++ ints xs)) : Row w3 B v' xs := h
theorem row_none (w : World) : (w.alloc (.cells #[] 3)).ownsRow w.heap.size 3 1 (.slice (some ⟨w.heap.size, 0, none⟩) 0 0) 0 [] := by
  have := World.ownsRow_lit (base := w.heap.size) (e := 3) (size := 1) w #[] 0 (Nat.le_refl _) (by unfold maxLen; omega) (by simp)
  simpa using this
theorem ints_at {xs : List Int} {j : Nat} {u : Value} (h : (ints xs)[j]? = some u) : j < xs.length ∧ u = .int .i64 (xs.getD j 0) := by
  unfold ints at h
  rw [List.getElem?_map] at h
  cases e : xs[j]? with
  | none => rw [e] at h; cases h
  | some t =>
    rw [e] at h
    have hj : j < xs.length := by
      rcases Nat.lt_or_ge j xs.length with hl | hg
      · exact hl
      · rw [List.getElem?_eq_none hg] at e; cases e
    refine ⟨hj, ?_⟩
    rw [List.getD_eq_getElem?_getD, e]
    simpa using h.symm
theorem ints_one {xs : List Int} : ∀ u ∈ ints xs, u.oneCell' = true := fun u hu => by
  obtain ⟨_, _, rfl⟩ := List.mem_map.1 hu
  rfl

set_option maxHeartbeats 1000000 in
theorem c_l1Own (xs : List Int) (v : Value) (w : World) (hl : xs.length ≤ 4000000) (h0 : 0 < xs.length) (h : Seen w v xs) :
    Calls Try.prog 62 #[v] w (GivesRow w xs) := by
  obtain ⟨i0, hi0, hz0, hz1, hz2⟩ := info_parts int_info
  have HI := Lib.hid hi0
  clear hi0
  obtain ⟨A, c, rfl, hm, hA⟩ := h
  obtain ⟨b, off, rfl, hb, hc⟩ := hA h0
  have HC := Lib.hid hc
  have HN : Hid (Row (w.alloc (.cells #[] 3)) w.heap.size (.slice (some ⟨w.heap.size, 0, none⟩) 0 0) []) := row_none w
  clear hm hA hc
  have hnil : ∀ W, (binOp .eql 35 (.slice (some ⟨b, off, none⟩) xs.length c) (.slice none 0 0)).run Try.prog W = .ok (.bool false) W := fun W => Lib.run_eql_slice_some_nil W _ _ _ Try.underlying35
  go_enter Try.func62, Try.ntmps62
  go_wp2_with (at_builtin; refine wpList_append_own _ rfl _ _ 35 rfl w.heap.size 3 i0 (.int .i64 0) 1 8 Try.underlying35 HI.out hz0 hz1 hz2 rfl (by decide) _ _ _ rfl HN.out ⟨b, off, none⟩ xs.length c (ints xs) rfl (by rw [ints_len, Nat.mul_one]) ?c1 ?c2 ?c3 ?c4 ?c5 ?_)
  case c1 =>
    intro j u hj
    obtain ⟨hj1, rfl⟩ := ints_at hj
    rw [show (Addr.mk b off none).add j = ⟨b, off + j, none⟩ by unfold Addr.add; split; (rename_i e; subst e; rfl); rfl, World.cell?_alloc_lt _ _ _ hb]
    exact HC.out j hj1
  case c2 => exact ints_one
  case c3 => simp only [List.length_nil]; unfold maxLen; omega
  case c4 => simp only [List.length_nil]; omega
  case c5 => simp
  intro v' w4 hown' hgrow _
  have R1 : Hid (Row w4 w.heap.size v' xs) := row_of_all hown'
  have R2 : Hid (Below w.heap.size w w4) := ((Below.refl _ _).alloc (Nat.le_refl _) _).grown hgrow (by simp) (fun g hg => by simp [Value.ownBlock] at hg; omega)
  clear hown' hgrow
  go_wp2
  go_ret
  exact ⟨_, rfl, R1.out, R2.out⟩

set_option maxHeartbeats 1000000 in
theorem c_Clone (xs : List Int) (v : Value) (w : World) (hl : xs.length ≤ 4000000) (h0 : 0 < xs.length) (h : Seen w v xs) :
    Calls Try.prog 73 #[v] w (GivesRow w xs) := by
  obtain ⟨i0, hi0, hz0, hz1, hz2⟩ := info_parts int_info
  have HI := Lib.hid hi0
  clear hi0
  obtain ⟨A, c, rfl, hm, hA⟩ := h
  obtain ⟨b, off, rfl, hb, hc⟩ := hA h0
  have HC := Lib.hid hc
  have HN : Hid (Row (w.alloc (.cells #[] 3)) w.heap.size (.slice (some ⟨w.heap.size, 0, none⟩) 0 0) []) := row_none w
  clear hm hA hc
  have hnil : ∀ W, (binOp .eql 35 (.slice (some ⟨b, off, none⟩) xs.length c) (.slice none 0 0)).run Try.prog W = .ok (.bool false) W := fun W => Lib.run_eql_slice_some_nil W _ _ _ Try.underlying35
  go_enter Try.func73, Try.ntmps73
  go_wp2_with (at_builtin; refine wpList_append_own _ rfl _ _ 35 rfl w.heap.size 3 i0 (.int .i64 0) 1 8 Try.underlying35 HI.out hz0 hz1 hz2 rfl (by decide) _ _ _ rfl HN.out ⟨b, off, none⟩ xs.length c (ints xs) rfl (by rw [ints_len, Nat.mul_one]) ?c1 ?c2 ?c3 ?c4 ?c5 ?_)
  case c1 =>
    intro j u hj
    obtain ⟨hj1, rfl⟩ := ints_at hj
    rw [show (Addr.mk b off none).add j = ⟨b, off + j, none⟩ by unfold Addr.add; split; (rename_i e; subst e; rfl); rfl, World.cell?_alloc_lt _ _ _ hb]
    exact HC.out j hj1
  case c2 => exact ints_one
  case c3 => simp only [List.length_nil]; unfold maxLen; omega
  case c4 => simp only [List.length_nil]; omega
  case c5 => simp
  intro v' w4 hown' hgrow _
  have R1 : Hid (Row w4 w.heap.size v' xs) := row_of_all hown'
  have R2 : Hid (Below w.heap.size w w4) := ((Below.refl _ _).alloc (Nat.le_refl _) _).grown hgrow (by simp) (fun g hg => by simp [Value.ownBlock] at hg; omega)
  clear hown' hgrow
  go_wp2
  go_ret
  exact ⟨_, rfl, R1.out, R2.out⟩

theorem addr_ne (b i j : Nat) (h : i ≠ j) : (⟨b, i, none⟩ : Addr) ≠ ⟨b, j, none⟩ := fun e => h (congrArg Addr.off e)
/-- A block of six cells of the call's own. -/
structure Mine6 (w : World) (b : Nat) (u0 u1 u2 u3 u4 u5 : Value) : Prop where
  lt : b < w.heap.size
  c0 : w.cell? ⟨b, 0, none⟩ = some u0
  c1 : w.cell? ⟨b, 1, none⟩ = some u1
  c2 : w.cell? ⟨b, 2, none⟩ = some u2
  c3 : w.cell? ⟨b, 3, none⟩ = some u3
  c4 : w.cell? ⟨b, 4, none⟩ = some u4
  c5 : w.cell? ⟨b, 5, none⟩ = some u5
  f : ∀ o, w.frozen? ⟨b, o, none⟩ = false
theorem Mine6.below {w w' : World} {b : Nat} {u0 u1 u2 u3 u4 u5 : Value} (h : Mine6 w b u0 u1 u2 u3 u4 u5) (hb : Below w.heap.size w w') : Mine6 w' b u0 u1 u2 u3 u4 u5 :=
  ⟨Nat.lt_of_lt_of_le h.lt hb.size, by rw [hb.cell (p := ⟨b, 0, none⟩) h.lt]; exact h.c0, by rw [hb.cell (p := ⟨b, 1, none⟩) h.lt]; exact h.c1, by rw [hb.cell (p := ⟨b, 2, none⟩) h.lt]; exact h.c2,
    by rw [hb.cell (p := ⟨b, 3, none⟩) h.lt]; exact h.c3, by rw [hb.cell (p := ⟨b, 4, none⟩) h.lt]; exact h.c4, by rw [hb.cell (p := ⟨b, 5, none⟩) h.lt]; exact h.c5, fun o => by rw [hb.frozen (p := ⟨b, o, none⟩) h.lt]; exact h.f o⟩
theorem Mine6.new (w : World) (u0 u1 u2 u3 u4 u5 : Value) (T : TypeId) : Mine6 (w.alloc (.cells #[u0, u1, u2, u3, u4, u5] T)) w.heap.size u0 u1 u2 u3 u4 u5 :=
  ⟨by simp, by simp, by simp, by simp, by simp, by simp, by simp, fun o => by simp⟩
/-- Six cells stored, one behind the other. -/
def put6 (w : World) (b : Nat) (t0 t1 t2 t3 t4 t5 : Value) : World := ((((((w.setCell ⟨b, 0, none⟩ t0).setCell ⟨b, 1, none⟩ t1).setCell ⟨b, 2, none⟩ t2).setCell ⟨b, 3, none⟩ t3).setCell ⟨b, 4, none⟩ t4).setCell ⟨b, 5, none⟩ t5)
theorem put6_mine {w : World} {b : Nat} {u0 u1 u2 u3 u4 u5 : Value} (t0 t1 t2 t3 t4 t5 : Value) (h : Mine6 w b u0 u1 u2 u3 u4 u5) : Mine6 (put6 w b t0 t1 t2 t3 t4 t5) b t0 t1 t2 t3 t4 t5 := by
  have ne : ∀ i j : Nat, i ≠ j → (⟨b, i, none⟩ : Addr) ≠ ⟨b, j, none⟩ := addr_ne b
  unfold put6
  refine ⟨by simp; exact h.lt, ?_, ?_, ?_, ?_, ?_, ?_, fun o => by simp; exact h.f o⟩
  · exact (World.cell?_setCell_other _ _ _ _ (ne 5 0 (by decide))).trans ((World.cell?_setCell_other _ _ _ _ (ne 4 0 (by decide))).trans ((World.cell?_setCell_other _ _ _ _ (ne 3 0 (by decide))).trans ((World.cell?_setCell_other _ _ _ _ (ne 2 0 (by decide))).trans ((World.cell?_setCell_other _ _ _ _ (ne 1 0 (by decide))).trans (World.cell?_setCell_same _ _ _ (h.c0))))))
  · exact (World.cell?_setCell_other _ _ _ _ (ne 5 1 (by decide))).trans ((World.cell?_setCell_other _ _ _ _ (ne 4 1 (by decide))).trans ((World.cell?_setCell_other _ _ _ _ (ne 3 1 (by decide))).trans ((World.cell?_setCell_other _ _ _ _ (ne 2 1 (by decide))).trans (World.cell?_setCell_same _ _ _ ((World.cell?_setCell_other _ _ _ _ (ne 0 1 (by decide))).trans (h.c1))))))
  · exact (World.cell?_setCell_other _ _ _ _ (ne 5 2 (by decide))).trans ((World.cell?_setCell_other _ _ _ _ (ne 4 2 (by decide))).trans ((World.cell?_setCell_other _ _ _ _ (ne 3 2 (by decide))).trans (World.cell?_setCell_same _ _ _ ((World.cell?_setCell_other _ _ _ _ (ne 1 2 (by decide))).trans ((World.cell?_setCell_other _ _ _ _ (ne 0 2 (by decide))).trans (h.c2))))))
  · exact (World.cell?_setCell_other _ _ _ _ (ne 5 3 (by decide))).trans ((World.cell?_setCell_other _ _ _ _ (ne 4 3 (by decide))).trans (World.cell?_setCell_same _ _ _ ((World.cell?_setCell_other _ _ _ _ (ne 2 3 (by decide))).trans ((World.cell?_setCell_other _ _ _ _ (ne 1 3 (by decide))).trans ((World.cell?_setCell_other _ _ _ _ (ne 0 3 (by decide))).trans (h.c3))))))
  · exact (World.cell?_setCell_other _ _ _ _ (ne 5 4 (by decide))).trans (World.cell?_setCell_same _ _ _ ((World.cell?_setCell_other _ _ _ _ (ne 3 4 (by decide))).trans ((World.cell?_setCell_other _ _ _ _ (ne 2 4 (by decide))).trans ((World.cell?_setCell_other _ _ _ _ (ne 1 4 (by decide))).trans ((World.cell?_setCell_other _ _ _ _ (ne 0 4 (by decide))).trans (h.c4))))))
  · exact World.cell?_setCell_same _ _ _ ((World.cell?_setCell_other _ _ _ _ (ne 4 5 (by decide))).trans ((World.cell?_setCell_other _ _ _ _ (ne 3 5 (by decide))).trans ((World.cell?_setCell_other _ _ _ _ (ne 2 5 (by decide))).trans ((World.cell?_setCell_other _ _ _ _ (ne 1 5 (by decide))).trans ((World.cell?_setCell_other _ _ _ _ (ne 0 5 (by decide))).trans (h.c5))))))
theorem put6_below {w w0 : World} {b B : Nat} (t0 t1 t2 t3 t4 t5 : Value) (h : Below B w0 w) (hb : B ≤ b) : Below B w0 (put6 w b t0 t1 t2 t3 t4 t5) :=
  (((((h.setCell hb _).setCell hb _).setCell hb _).setCell hb _).setCell hb _).setCell hb _
theorem put6_row {w : World} {b B : Nat} {v : Value} {xs : List Int} (t0 t1 t2 t3 t4 t5 : Value) (h : Row w B v xs) (hb : b < B) : Row (put6 w b t0 t1 t2 t3 t4 t5) B v xs :=
  (((((h.put hb _).put hb _).put hb _).put hb _).put hb _).put hb _
theorem Row.drew {w : World} {B : Nat} {v : Value} {xs : List Int} (h : Row w B v xs) : Row w.drew B v xs := h

end Go.Proofs.Ytlgbhemjckahhaa
