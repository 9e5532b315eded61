/-
  Arguments that are lists and models, opened: the value's form, and what its lists read as.
-/
import Derived.Test.YtmimilchldjkbaaDoorM4
import Derived.ChangeSlices
import Derived.ProofKit
import Derived.OpenShut
import Derived.Lib.SmallJoins
namespace Go.Proofs.YtmimilchldjkbaaDoor
open Go.ChangeShapes Go.WideShapes Go.ChangeAt Go.RowKit Go.Joins Go.Deep

theorem lt_of_cell {w : World} {b o : Nat} {u : Value} (h : w.cell? ⟨b, o, none⟩ = some u) : b < w.heap.size := by
  rcases Nat.lt_or_ge b w.heap.size with hl | hg
  · exact hl
  · have : w.heap[b]? = none := Array.getElem?_eq_none hg
    simp [World.cell?, this] at h

theorem add_at (b off k : Nat) : (Addr.mk b off none).add k = ⟨b, off + k, none⟩ := by
  unfold Addr.add
  split
  · rename_i h; subst h; rfl
  · rfl

section
variable {H : Type} {enc : TypeId × Value → H} {W : World}
set_option maxRecDepth 100000 in
theorem seen_of_trod {fuel : Nat} {cs : List Value} {x : DataW H × List MemPlace} (h : DataW.trod enc Tryd.prog W 0 (fun _ => true) true fuel 24 cs = some x) : ∃ v xs, cs = [v] ∧ Seen W v xs := by
  rcases open_ints Tryd.underlying24 Tryd.underlying3 (by kernel_rfl) h with ⟨rfl, _⟩ | ⟨a, len, cap, zs, rfl, _, hl, hm, hz, _, hc, _⟩
  · exact ⟨_, [], rfl, none, 0, rfl, by simp, fun h => by simp at h⟩
  · simp only [if_true] at hz
    have hlen : (zs.take len).length = len := by simp; omega
    refine ⟨_, zs.take len, rfl, some a, cap, by rw [hlen], by omega, fun h0 => ?_⟩
    rw [hlen] at h0
    obtain ⟨b, off, spot⟩ := a
    have hspot : spot = none := by simpa [Addr.add] using World.cell?_spot (hc 0 (by omega))
    subst hspot
    have h0' := hc 0 (by omega)
    rw [add_at] at h0'
    refine ⟨b, off, rfl, lt_of_cell h0', fun k hk => ?_⟩
    rw [hlen] at hk
    have := hc k (by omega)
    rw [add_at] at this
    rw [this]
    simp [hk]

theorem array6 {α : Type} {cs : Array α} (h : cs.size = 6) : ∃ c0 c1 c2 c3 c4 c5, cs = #[c0, c1, c2, c3, c4, c5] := by
  obtain ⟨l⟩ := cs
  match l, h with
  | [c0, c1, c2, c3, c4, c5], _ => exact ⟨c0, c1, c2, c3, c4, c5, rfl⟩

set_option maxRecDepth 100000 in
theorem open_list {r : Reach} {b0 : Nat} {v : Value} {d : DataW H} {p : List MemPlace} (hv : Value.okWide Tryd.prog W r b0 24 v) (h : DataW.Trod enc Tryd.prog W 0 (fun _ => true) true 24 v d p) : ∃ xs, Seen W v xs := by
  obtain ⟨a, len, cap, rfl⟩ := okWide_slice Tryd.underlying24 hv
  obtain ⟨fuel, hf⟩ := h
  obtain ⟨u, xs, hu, hs⟩ := seen_of_trod hf
  simp [Value.cells] at hu
  subst hu
  exact ⟨xs, hs⟩

set_option maxRecDepth 100000 in
theorem open_model {r : Reach} {b0 : Nat} {v : Value} {d : DataW H} {p : List MemPlace} (hv : Value.okWide Tryd.prog W r b0 46 v) (h : DataW.Trod enc Tryd.prog W 0 (fun _ => true) true 46 v d p) :
    ∃ x y z v1 v2 v3 ts gs rs, v = .agg #[.int .i64 x, .int .i64 y, .int .i64 z, v1, v2, v3] ∧ Look W v1 v2 v3 ts gs rs := by
  obtain ⟨cs, rfl, hsz⟩ := okWide_struct Tryd.underlying46 hv
  obtain ⟨c0, c1, c2, c3, c4, c5, rfl⟩ := array6 (hsz.trans (by kernel_rfl))
  obtain ⟨fuel, hf⟩ := h
  obtain ⟨y0, y1, y2, y3, n, hx, _, h0, h1, h2, h3⟩ := trod_struct4 Tryd.underlying46 hf
  have k3 : Tryd.prog.cellsOf 23 = 3 := by kernel_rfl
  have k1 : Tryd.prog.cellsOf 24 = 1 := by kernel_rfl
  have ki : Tryd.prog.cellsOf 3 = 1 := by kernel_rfl
  simp [Value.cells, k3, k1] at h0 h1 h2 h3
  obtain ⟨z0, z1, z2, m, hy, _, g0, g1, g2⟩ := trod_struct3 Tryd.underlying23 h0
  simp [ki] at g0 g1 g2
  obtain ⟨x, e0, _, _⟩ := DataW.trod_int Tryd.underlying3 g0
  obtain ⟨y, e1, _, _⟩ := DataW.trod_int Tryd.underlying3 g1
  obtain ⟨z, e2, _, _⟩ := DataW.trod_int Tryd.underlying3 g2
  obtain ⟨v1, ts, e3, s1⟩ := seen_of_trod h1
  obtain ⟨v2, gs, e4, s2⟩ := seen_of_trod h2
  obtain ⟨v3, rs, e5, s3⟩ := seen_of_trod h3
  simp at e0 e1 e2 e3 e4 e5
  subst e0 e1 e2 e3 e4 e5
  exact ⟨x, y, z, _, _, _, ts, gs, rs, rfl, ⟨s1, s2, s3⟩⟩
end
end Go.Proofs.YtmimilchldjkbaaDoor
