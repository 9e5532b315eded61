/-
  Contracts: a strings.Builder of a function's own: WriteByte.
-/
import Derived.Shelf.Strings.BuilderK
import Derived.RangeFuncWrites
import Derived.WalkKit
import Derived.Lib.Hide
import Derived.Test.YtgibkjjjnfjbkaaDoorChecked
namespace Go.Proofs.YtgibkjjjnfjbkaaDoor
open Go.RowKit Go.Lib
set_option linter.unusedVariables false

abbrev BuildAt (B b : Nat) (p : Value) (l : List UInt8) (w : World) : Prop := Lib.BuilderAtF 59 5 B b p (Lib.byteCells l) w
abbrev Build (B b : Nat) (l : List UInt8) (w : World) : Prop := Lib.IsBuilderF 59 5 B b (Lib.byteCells l) w
theorem byteCells_snoc (l : List UInt8) (x : UInt8) : Lib.byteCells (l ++ [x]) = Lib.byteCells l ++ [.int .u8 (x.toNat : Int)] := by simp [Lib.byteCells]
theorem BuildAt.below {B b : Nat} {p : Value} {l : List UInt8} {w w' : World} (h : BuildAt B b p l w) (hb : Below w.heap.size w w') : BuildAt B b p l w' := by
  obtain ⟨hB, v, h1, hown, hne⟩ := h
  refine ⟨hB, v, (hb.block _ (Array.getElem?_eq_some_iff.1 h1).1).trans h1, ?_, hne⟩
  refine ⟨hown.1, ?_⟩
  rcases hown.2 with hn | ⟨g, cap, cur, fz, rfl, hbg, hgg, rest⟩
  · exact .inl hn
  · exact .inr ⟨g, cap, cur, fz, rfl, hbg, (hb.block _ (Array.getElem?_eq_some_iff.1 hgg).1).trans hgg, rest⟩
theorem Build.below {B b : Nat} {l : List UInt8} {w w' : World} (h : Build B b l w) (hb : Below w.heap.size w w') : Build B b l w' := h.elim (fun x => .inl (BuildAt.below x hb)) (fun x => .inr (BuildAt.below x hb))
theorem BuildAt.own {B b : Nat} {p : Value} {l : List UInt8} {w w' : World} {row : Option Nat} (h : BuildAt B b p l w) (hg : w.grownBy w' row) (hr : ∀ r, row = some r → ∃ o : Obj, w.heap[r]? = some o ∧ o.isCells = false) : BuildAt B b p l w' := by
  obtain ⟨hB, v, h1, hown, hne⟩ := h
  have far : ∀ k cs e fz, w.heap[k]? = some (.cells cs e fz) → some k ≠ row := fun k cs e fz hk he => by
    obtain ⟨o, ho, hc⟩ := hr k he.symm
    rw [hk] at ho
    obtain rfl := Option.some.inj ho
    simp [Obj.isCells] at hc
  refine ⟨hB, v, (hg.block _ (Array.getElem?_eq_some_iff.1 h1).1 (far _ _ _ _ h1)).trans h1, ?_, hne⟩
  refine ⟨hown.1, ?_⟩
  rcases hown.2 with hn | ⟨g, cap, cur, fz, rfl, hbg, hgg, rest⟩
  · exact .inl hn
  · exact .inr ⟨g, cap, cur, fz, rfl, hbg, (hg.block _ (Array.getElem?_eq_some_iff.1 hgg).1 (far _ _ _ _ hgg)).trans hgg, rest⟩
theorem Build.own {B b : Nat} {l : List UInt8} {w w' : World} {row : Option Nat} (h : Build B b l w) (hg : w.grownBy w' row) (hr : ∀ r, row = some r → ∃ o : Obj, w.heap[r]? = some o ∧ o.isCells = false) : Build B b l w' :=
  h.elim (fun x => .inl (BuildAt.own x hg hr)) (fun x => .inr (BuildAt.own x hg hr))
theorem Build.lt {B b : Nat} {l : List UInt8} {w : World} (h : Build B b l w) : b < w.heap.size := h.elim (fun x => Lib.BuilderAtF.lt x) (fun x => Lib.BuilderAtF.lt x)

theorem sizeBuilder : (Tryd.prog.info? 59).map (·.size) = some 2 := by kernel_rfl
theorem liesBuilder : liesAt Tryd.prog Tryd.prog.depth 59 (2 / Tryd.prog.cellsOf 59) 0 59 1 = true := by kernel_rfl
theorem infoByte : (Tryd.prog.info? 5).map (fun i => (i.zero, i.size, i.bytes)) = some (some (.int .u8 0), 1, 1) := by kernel_rfl
theorem neB5 : (59 : TypeId) ≠ 5 := by decide

set_option maxHeartbeats 1000000 in
set_option maxRecDepth 100000 in
theorem c_copyCheck_used (b : Nat) (w : World) (h0 : w.cell? ⟨b, 0, none⟩ = some (.pointer (some ⟨b, 0, none⟩))) :
    Calls Tryd.prog 41 #[.pointer (some ⟨b, 0, none⟩)] w fun e w' => e = .returned (.tuple #[]) ∧ w' = w := by
  obtain ⟨j, hj, _⟩ := Option.map_eq_some_iff.1 sizeBuilder
  go_enter Tryd.func41, Tryd.ntmps41
  go_wp2
  rw [Lib.run_neq_ptr_same w _ Tryd.underlying56 hj]
  go_wp2
  go_end0
  exact ⟨rfl, rfl⟩

set_option maxHeartbeats 1000000 in
set_option maxRecDepth 100000 in
theorem c_copyCheck_fresh (b : Nat) (w : World) (h0 : w.cell? ⟨b, 0, none⟩ = some (.pointer none)) (hsh : w.shape? b = some (59, 2)) (hfz : w.frozen? ⟨b, 0, none⟩ = false) :
    Calls Tryd.prog 41 #[.pointer (some ⟨b, 0, none⟩)] w fun e w' => e = .returned (.tuple #[]) ∧ w' = w.setCell ⟨b, 0, none⟩ (.pointer (some ⟨b, 0, none⟩)) := by
  obtain ⟨j, hj, hjs⟩ := Option.map_eq_some_iff.1 sizeBuilder
  go_enter Tryd.func41, Tryd.ntmps41
  go_wp2
  rw [Lib.run_to_unsafe w ⟨b, 0, none⟩ Tryd.underlying56 Tryd.underlying91 hj (by rw [hjs]; decide) hsh (Nat.zero_lt_succ 1)]
  simp only [Result.andThen]
  rw [Oper.upon_value]
  go_wp2
  rw [run_callFunc_extern Tryd.func50 (by kernel_rfl) (by kernel_rfl) (by kernel_rfl) (e := Extern.AbiNoEscape.same) (by kernel_rfl)]
  rw [Lib.run_noEscape]
  simp only [Result.andThen]
  rw [Oper.upon_value]
  go_wp2
  rw [Lib.run_from_unsafe w ⟨b, 0, none⟩ Tryd.underlying91 Tryd.underlying56 hj hsh liesBuilder]
  simp only [Result.andThen]
  rw [Oper.upon_value]
  go_wp2
  go_end0
  exact ⟨rfl, rfl⟩

theorem c_copyCheck (B b : Nat) (l : List UInt8) (w : World) (h : Build B b l w) :
    Calls Tryd.prog 41 #[.pointer (some ⟨b, 0, none⟩)] w fun e w' => e = .returned (.tuple #[]) ∧ (BuildAt B b (.pointer (some ⟨b, 0, none⟩)) l w' ∧ Below B w w' ∧ Lib.OthersKept 5 (some b) w w') := by
  rcases h with h | h
  · refine (c_copyCheck_fresh b w (Lib.BuilderAtF.cell0 h) (Lib.BuilderAtF.shape h) (Lib.BuilderAtF.frozen0 h)).mono ?_
    rintro e w' ⟨rfl, rfl⟩
    exact ⟨rfl, Lib.BuilderAtF.used h _, (Below.refl B w).setCell (p := ⟨b, 0, none⟩) h.1 _, (Lib.OthersKept.refl _ _ w).setCell ⟨b, 0, none⟩ rfl _⟩
  · refine (c_copyCheck_used b w (Lib.BuilderAtF.cell0 h)).mono ?_
    rintro e w' ⟨rfl, rfl⟩
    exact ⟨rfl, h, Below.refl B _, Lib.OthersKept.refl _ _ _⟩

end Go.Proofs.YtgibkjjjnfjbkaaDoor
