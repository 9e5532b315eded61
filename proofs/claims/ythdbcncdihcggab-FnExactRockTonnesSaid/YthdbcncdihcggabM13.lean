/-
  Contracts: SetBlock and EmptyBlocks, in the program and in the model of it.
-/
import Derived.Test.YthdbcncdihcggabM12
import Derived.Test.YthdbcncdihcggabM8
import Derived.Deep.DeepCutAuto
namespace Go.Proofs.Ythdbcncdihcggab
open Go.RowKit
set_option linter.unusedVariables false

theorem Mod.nil (w : World) (B : Nat) : Mod w B (.slice none 0 0) (.slice none 0 0) (.slice none 0 0) [] [] [] := ⟨Row.nil _ _, Row.nil _ _, Row.nil _ _, .inl rfl, .inl rfl, .inl rfl⟩
/-- A model and a bool. -/
def GivesMod2 (w : World) (x y z : Int) (ts gs rs : List Int) (b : Bool) (e : Ending) (w' : World) : Prop :=
  ∃ v1 v2 v3, e = .returned (.tuple #[.agg #[.int .i64 x, .int .i64 y, .int .i64 z, v1, v2, v3], .bool b]) ∧ Mod w' w.heap.size v1 v2 v3 ts gs rs ∧ Below w.heap.size w w'
theorem Box6.far {w : World} {b : Nat} {x y z : Int} {v1 v2 v3 : Value} (h : Box6 w b x y z v1 v2 v3) {a : Addr} (ha : a.block ≠ b) (u : Value) : Box6 (w.setCell a u) b x y z v1 v2 v3 := by
  have e : ∀ o, (w.setCell a u).cell? ⟨b, o, none⟩ = w.cell? ⟨b, o, none⟩ := fun o => World.cell?_setCell_other _ _ _ _ (fun e => ha (by rw [e]))
  exact ⟨by simpa using h.lt, by rw [e]; exact h.c0, by rw [e]; exact h.c1, by rw [e]; exact h.c2, by rw [e]; exact h.c3, by rw [e]; exact h.c4, by rw [e]; exact h.c5⟩
theorem Mine6.far {w : World} {b : Nat} {u0 u1 u2 u3 u4 u5 : Value} (h : Mine6 w b u0 u1 u2 u3 u4 u5) {a : Addr} (ha : a.block ≠ b) (u : Value) : Mine6 (w.setCell a u) b u0 u1 u2 u3 u4 u5 := by
  have e : ∀ o, (w.setCell a u).cell? ⟨b, o, none⟩ = w.cell? ⟨b, o, none⟩ := fun o => World.cell?_setCell_other _ _ _ _ (fun e => ha (by rw [e]))
  exact ⟨by simpa using h.lt, by rw [e]; exact h.c0, by rw [e]; exact h.c1, by rw [e]; exact h.c2, by rw [e]; exact h.c3, by rw [e]; exact h.c4, by rw [e]; exact h.c5, fun o => by simp; exact h.f o⟩
theorem Row.far {w : World} {B B' g c n : Nat} {v : Value} {xs ys : List Int} (h : Row w B v xs) (k : Row w B' (.slice (some ⟨g, 0, none⟩) n c) ys) (hn : n = ys.length) (ha : Apart v.ownBlock (Value.slice (some ⟨g, 0, none⟩) n c).ownBlock) (j : Nat) (u : Int) : Row (w.setCell ⟨g, j, none⟩ (.int .i64 u)) B v xs :=
  World.ownsRow.kept h (Row.set_ hn k j u).2 (by simpa [Apart, Value.ownBlock] using ha)
/-- A number of each list stored. -/
theorem Mod.set1 {w : World} {B g c n : Nat} {v2 v3 : Value} {ts gs rs : List Int} (h : Mod w B (.slice (some ⟨g, 0, none⟩) n c) v2 v3 ts gs rs) (hn : n = ts.length) (j : Nat) (u : Int) :
    Mod (w.setCell ⟨g, j, none⟩ (.int .i64 u)) B (.slice (some ⟨g, 0, none⟩) n c) v2 v3 (ts.set j u) gs rs :=
  ⟨(Row.set_ hn h.t j u).1, h.g.far h.t hn h.tg.symm j u, h.r.far h.t hn h.tr.symm j u, h.tg, h.tr, h.gr⟩
theorem Mod.set2 {w : World} {B g c n : Nat} {v1 v3 : Value} {ts gs rs : List Int} (h : Mod w B v1 (.slice (some ⟨g, 0, none⟩) n c) v3 ts gs rs) (hn : n = gs.length) (j : Nat) (u : Int) :
    Mod (w.setCell ⟨g, j, none⟩ (.int .i64 u)) B v1 (.slice (some ⟨g, 0, none⟩) n c) v3 ts (gs.set j u) rs :=
  ⟨h.t.far h.g hn h.tg j u, (Row.set_ hn h.g j u).1, h.r.far h.g hn h.gr.symm j u, h.tg, h.tr, h.gr⟩
theorem Mod.set3 {w : World} {B g c n : Nat} {v1 v2 : Value} {ts gs rs : List Int} (h : Mod w B v1 v2 (.slice (some ⟨g, 0, none⟩) n c) ts gs rs) (hn : n = rs.length) (j : Nat) (u : Int) :
    Mod (w.setCell ⟨g, j, none⟩ (.int .i64 u)) B v1 v2 (.slice (some ⟨g, 0, none⟩) n c) ts gs (rs.set j u) :=
  ⟨h.t.far h.r hn h.tr j u, h.g.far h.r hn h.gr j u, (Row.set_ hn h.r j u).1, h.tg, h.tr, h.gr⟩
theorem Row.cellN {w : World} {B g c n : Nat} {xs : List Int} (h : Row w B (.slice (some ⟨g, 0, none⟩) n c) xs) (hn : n = xs.length) (k : Nat) (hk : k < xs.length) : w.cell? ⟨g, k, none⟩ = some (.int .i64 (xs.getD k 0)) := by subst hn; exact h.cell k hk
theorem Row.frozenN {w : World} {B g c n : Nat} {xs : List Int} (h : Row w B (.slice (some ⟨g, 0, none⟩) n c) xs) (hn : n = xs.length) (k : Nat) : w.frozen? ⟨g, k, none⟩ = false := by subst hn; exact h.frozen k
theorem Mod.put6 {w : World} {B b : Nat} {v1 v2 v3 : Value} {ts gs rs : List Int} (t0 t1 t2 t3 t4 t5 : Value) (h : Mod w B v1 v2 v3 ts gs rs) (hb : b < B) : Mod (put6 w b t0 t1 t2 t3 t4 t5) B v1 v2 v3 ts gs rs :=
  ⟨put6_row _ _ _ _ _ _ h.t hb, put6_row _ _ _ _ _ _ h.g hb, put6_row _ _ _ _ _ _ h.r hb, h.tg, h.tr, h.gr⟩

/-! ### SetBlock -/
def seB (x y z : Int) (ts gs rs : List Int) (i a b c : Int) : Bool := hasM x y z ts gs rs i && moB x y z (ts.set i.toNat a) (gs.set i.toNat b) (rs.set i.toNat c)
def seX (x y z : Int) (ts gs rs : List Int) (i a b c : Int) (t : Int) : Int := if seB x y z ts gs rs i a b c then t else 0
def seL (x y z : Int) (ts gs rs : List Int) (i a b c : Int) (l : List Int) (u : Int) : List Int := if seB x y z ts gs rs i a b c then l.set i.toNat u else []

end Go.Proofs.Ythdbcncdihcggab
