/-
  Arguments that are models, opened.
-/
import Derived.Test.YtlgbhemjckahhaaOpenL
import Derived.Test.YtlgbhemjckahhaaM6
namespace Go.Proofs.Ytlgbhemjckahhaa
open Go.ChangeShapes Go.WideShapes Go.ChangeAt Go.RowKit Go.Joins Go.Deep
set_option linter.unusedVariables false
section
variable {H : Type} {enc : TypeId × Value → H} {W : World}
set_option maxRecDepth 100000 in
theorem open_model {r : Reach} {b0 : Nat} {v : Value} {d : DataW H} {p : List MemPlace} (hv : Value.okWide Try.prog W r b0 48 v) (h : DataW.Trod enc Try.prog W 0 (fun _ => true) true 48 v d p) :
    ∃ x y z v1 v2 v3 ts gs rs, v = .agg #[.int .i64 x, .int .i64 y, .int .i64 z, v1, v2, v3] ∧ Look W v1 v2 v3 ts gs rs := by
  obtain ⟨cs, rfl, hsz⟩ := okWide_struct Try.underlying48 hv
  obtain ⟨c0, c1, c2, c3, c4, c5, rfl⟩ := array6 (hsz.trans (by kernel_rfl))
  obtain ⟨fuel, hf⟩ := h
  obtain ⟨y0, y1, y2, y3, n, hx, _, h0, h1, h2, h3⟩ := trod_struct4 Try.underlying48 hf
  have k3 : Try.prog.cellsOf 34 = 3 := by kernel_rfl
  have k1 : Try.prog.cellsOf 35 = 1 := by kernel_rfl
  have ki : Try.prog.cellsOf 3 = 1 := by kernel_rfl
  simp [Value.cells, k3, k1] at h0 h1 h2 h3
  obtain ⟨z0, z1, z2, m, hy, _, g0, g1, g2⟩ := trod_struct3 Try.underlying34 h0
  simp [ki] at g0 g1 g2
  obtain ⟨x, e0, _, _⟩ := DataW.trod_int Try.underlying3 g0
  obtain ⟨y, e1, _, _⟩ := DataW.trod_int Try.underlying3 g1
  obtain ⟨z, e2, _, _⟩ := DataW.trod_int Try.underlying3 g2
  obtain ⟨v1, ts, e3, s1⟩ := seen_of_trod h1
  obtain ⟨v2, gs, e4, s2⟩ := seen_of_trod h2
  obtain ⟨v3, rs, e5, s3⟩ := seen_of_trod h3
  simp at e0 e1 e2 e3 e4 e5
  subst e0 e1 e2 e3 e4 e5
  exact ⟨x, y, z, _, _, _, ts, gs, rs, rfl, ⟨s1, s2, s3⟩⟩
end
end Go.Proofs.Ytlgbhemjckahhaa
