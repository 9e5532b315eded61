/-
  The standard templates: what the laid table reads as; plain lists of them.
-/
import Derived.Test.YtmimilchldjkbaaDoorO8
import Derived.Lib.LaidTab
import Derived.OpenVars
namespace Go.Proofs.YtmimilchldjkbaaDoor
open Go.ChangeShapes Go.WideShapes Go.ChangeAt Go.RowKit Go.Joins Go.Deep
set_option linter.unusedVariables false

def stdT : Nat → List (Int × Int × Int)
  | 1 => [(0, 0, 1)]
  | 2 => [(0, -1, 1), (-1, 0, 1), (0, 0, 1), (1, 0, 1), (0, 1, 1)]
  | 3 => [(-1, -1, 1), (0, -1, 1), (1, -1, 1), (-1, 0, 1), (0, 0, 1), (1, 0, 1), (-1, 1, 1), (0, 1, 1), (1, 1, 1)]
  | _ => [(0, -1, 1), (-1, 0, 1), (0, 0, 1), (1, 0, 1), (0, 1, 1), (0, -2, 2), (-2, 0, 2), (2, 0, 2), (0, 2, 2)]
def stdN (k : Nat) : Nat := (stdT k).length
def stdX (k : Nat) : List Int := flat3 (fun i => (stdT k).getD i (0, 0, 0)) (stdN k)
theorem stdN_box (k : Nat) : 1 ≤ stdN k ∧ stdN k ≤ 9 := by
  unfold stdN stdT
  split <;> simp
def offD {H : Type} (o : Int × Int × Int) : DataW H := .agg [.lit (.int .i64 o.1), .lit (.int .i64 o.2.1), .lit (.int .i64 o.2.2)]
def stdD {H : Type} : DataW H := .agg [.slice ((stdT 1).map offD) [], .slice ((stdT 2).map offD) [], .slice ((stdT 3).map offD) [], .slice ((stdT 4).map offD) []]

/-- The standard templates lie in their table. -/
structure TAB (W : World) : Prop where
  lt : 0 < W.heap.size
  at_ : ∀ k, k < 4 → ∃ A c, W.cell? ⟨0, k, none⟩ = some (.slice A (stdN (k + 1)) c) ∧ SeenP W (.slice A (stdN (k + 1)) c) (stdN (k + 1)) (stdX (k + 1))
theorem TAB.below {W W' : World} (h : TAB W) (hb : Below W.heap.size W W') : TAB W' :=
  ⟨Nat.lt_of_lt_of_le h.lt hb.size, fun k hk => by
    obtain ⟨A, c, h1, h2⟩ := h.at_ k hk
    exact ⟨A, c, by rw [hb.cell (p := ⟨0, k, none⟩) h.lt]; exact h1, h2.below hb⟩⟩

section
variable {H : Type} {enc : TypeId × Value → H} {W : World}
set_option maxRecDepth 100000 in
theorem seenP_lits {sp : Nat → Bool} {held : Bool} {fuel : Nat} {cs : List Value} {ys : List (Int × Int × Int)} {pl : List MemPlace} (h : DataW.trod enc Tryd.prog W 0 sp held fuel 70 cs = some (.slice (ys.map offD) [], pl)) :
    ∃ A c, cs = [.slice A ys.length c] ∧ SeenP W (.slice A ys.length c) ys.length (flat3 (fun i => ys.getD i (0, 0, 0)) ys.length) := by
  rcases open_slice Tryd.underlying70 h with ⟨_, hx⟩ | ⟨a, len, cap, m, k, D, Pl, rfl, _, hl, hm, hmm, hx, hi⟩
  · simp at hx
  · have k3 : Tryd.prog.cellsOf 133 = 3 := by kernel_rfl
    have ki : Tryd.prog.cellsOf 3 = 1 := by kernel_rfl
    have hD : ys.map (offD (H := H)) = (List.range len).map D := by
      have := congrArg Prod.fst hx
      simp at this
      exact this.1
    have hlen : len = ys.length := by
      have := congrArg List.length hD
      simp at this
      exact this.symm
    subst hlen
    have hle : ys.length ≤ m := by rw [hmm]; split <;> omega
    have hDi : ∀ i, i < ys.length → D i = offD (ys.getD i (0, 0, 0)) := fun i hi => by
      have := congrArg (fun l => l[i]?) hD
      simp [hi] at this
      rw [← this]
      simp [List.getD_eq_getElem?_getD, hi]
    have hc : ∀ i, i < ys.length → W.cell? (a.add (i * 3)) = some (.int .i64 (ys.getD i (0, 0, 0)).1) ∧ W.cell? ((a.add (i * 3)).add 1) = some (.int .i64 (ys.getD i (0, 0, 0)).2.1) ∧ W.cell? ((a.add (i * 3)).add 2) = some (.int .i64 (ys.getD i (0, 0, 0)).2.2) := fun i hil => by
      obtain ⟨cs', hcs, ht⟩ := hi i (by omega)
      rw [k3] at hcs
      rw [hDi i hil] at ht
      obtain ⟨_, hcl, hat⟩ := World.cells?_some hcs
      obtain ⟨z0, z1, z2, n', hz, _, g0, g1, g2⟩ := trod_struct3 Tryd.underlying133 ht
      match cs', hcl with
      | [c0, c1, c2], _ =>
        simp [ki] at g0 g1 g2
        obtain ⟨t, e0, y0, _⟩ := DataW.trod_int Tryd.underlying3 g0
        obtain ⟨m', e1, y1, _⟩ := DataW.trod_int Tryd.underlying3 g1
        obtain ⟨r, e2, y2, _⟩ := DataW.trod_int Tryd.underlying3 g2
        subst y0 y1 y2
        simp [offD] at hz
        obtain ⟨⟨hz0, hz1, hz2⟩, _⟩ := hz
        simp at e0 e1 e2
        subst e0 e1 e2
        have a0 := hat 0 (by omega)
        have a1 := hat 1 (by omega)
        have a2 := hat 2 (by omega)
        simp at a1 a2
        rw [show (a.add (i * 3)).add 0 = a.add (i * 3) by unfold Addr.add; simp] at a0
        simp only [List.getD_eq_getElem?_getD]
        rw [hz0, hz1, hz2]
        exact ⟨by simpa using a0, a1, a2⟩
    refine ⟨some a, cap, rfl, some a, cap, rfl, by omega, flat3_len _ _, fun h0 => ?_⟩
    obtain ⟨b, off, spot⟩ := a
    have hspot : spot = none := by simpa [Addr.add] using World.cell?_spot (hc 0 h0).1
    subst hspot
    have h00 := (hc 0 h0).1
    rw [add_at] at h00
    refine ⟨b, off, rfl, lt_of_cell h00, fun k hk => ?_⟩
    have hq : k / 3 < ys.length := by omega
    obtain ⟨x0, x1, x2⟩ := hc (k / 3) hq
    obtain ⟨y0, y1, y2⟩ := flat3_at (fun i => ys.getD i (0, 0, 0)) ys.length hq
    rw [add_at] at x0
    rw [add_at, add_at] at x1
    rw [add_at, add_at] at x2
    have h3 : k % 3 < 3 := Nat.mod_lt _ (by omega)
    match hr : k % 3, h3 with
    | 0, _ =>
      have e : k = k / 3 * 3 := by omega
      rw [← e] at x0 y0
      rw [x0, y0]
    | 1, _ =>
      have e : k = k / 3 * 3 + 1 := by omega
      rw [Nat.add_assoc, ← e] at x1
      rw [← e] at y1
      rw [x1, y1]
    | 2, _ =>
      have e : k = k / 3 * 3 + 2 := by omega
      rw [Nat.add_assoc, ← e] at x2
      rw [← e] at y2
      rw [x2, y2]
set_option maxRecDepth 100000 in
theorem tab_of_laid {rest : List (String × DataW Unit)} (h : laidMet Tryd.prog (("loop.example/g00914/impl.standardTemplates", stdD) :: rest) W) : TAB W := by
  obtain ⟨ps, ⟨g', t', cs, fuel, p, q, hg', ht', hvar, hd, _, _⟩, _⟩ := h
  obtain rfl := Option.some.inj ((show Tryd.prog.globalNamed "loop.example/g00914/impl.standardTemplates" = some 0 by kernel_rfl).symm.trans hg')
  obtain rfl := Option.some.inj ((show (Tryd.prog.globals[0]?).map (·.type) = some 134 by kernel_rfl).symm.trans ht')
  have ke : Tryd.prog.cellsOf 70 = 1 := by kernel_rfl
  obtain ⟨xs, m, _, hx, hcl, hxl, hel⟩ := DataW.trod_array Tryd.underlying134 hd
  have hct : Tryd.prog.cellsOf 134 = 4 := by kernel_rfl
  rw [hct] at hcl
  have hxs : xs.map (·.1) = [.slice ((stdT 1).map offD) [], .slice ((stdT 2).map offD) [], .slice ((stdT 3).map offD) [], .slice ((stdT 4).map offD) []] := by
    have := congrArg Prod.fst hx
    simp [stdD] at this
    exact this.symm
  clear hx
  match xs, hxl, hxs, hel with
  | [y0, y1, y2, y3], _, hxs, hel =>
    simp only [List.map_cons, List.map_nil, List.cons.injEq, and_true] at hxs
    obtain ⟨e0, e1, e2, e3⟩ := hxs
    have cell : ∀ k c, cs.toList[k]? = some c → W.cell? ⟨0, k, none⟩ = some c := fun k c hc => by
      have := World.var?_cell (show Tryd.prog.globalNamed "loop.example/g00914/impl.standardTemplates" = some 0 by kernel_rfl) hvar k
      rw [this]
      simpa using hc
    have one : ∀ k (y : DataW Unit × List MemPlace) (ys : List (Int × Int × Int)), k < 4 → [y0, y1, y2, y3][k]? = some y → y.1 = .slice (ys.map offD) [] → ∃ A c, W.cell? ⟨0, k, none⟩ = some (.slice A ys.length c) ∧ SeenP W (.slice A ys.length c) ys.length (flat3 (fun i => ys.getD i (0, 0, 0)) ys.length) := fun k y ys hk hy he => by
      have h1 := hel k hk
      rw [hy, ke, Nat.mul_one] at h1
      obtain ⟨y', pl⟩ := y
      subst he
      obtain ⟨A, c, hcs, hs⟩ := seenP_lits h1
      have : cs.toList[k]? = some (.slice A ys.length c) := by
        have := congrArg (·[0]?) hcs
        simpa [List.getElem?_take, List.getElem?_drop] using this
      exact ⟨A, c, cell k _ this, hs⟩
    refine ⟨?_, fun k hk => ?_⟩
    · obtain ⟨A, c, h1, _⟩ := one 0 y0 (stdT 1) (by omega) rfl e0
      exact lt_of_cell h1
    · match k, hk with
      | 0, _ => exact one 0 y0 (stdT 1) (by omega) rfl e0
      | 1, _ => exact one 1 y1 (stdT 2) (by omega) rfl e1
      | 2, _ => exact one 2 y2 (stdT 3) (by omega) rfl e2
      | 3, _ => exact one 3 y3 (stdT 4) (by omega) rfl e3
end
end Go.Proofs.YtmimilchldjkbaaDoor
