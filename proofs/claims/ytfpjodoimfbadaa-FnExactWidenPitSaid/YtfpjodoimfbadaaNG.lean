/-
  Contracts: the model's answers on closures.
-/
import Derived.Test.YtfpjodoimfbadaaNF
import Derived.Test.YtfpjodoimfbadaaNC
namespace Go.Proofs.Ytfpjodoimfbadaa
open Go.RowKit
set_option linter.unusedVariables false

set_option maxHeartbeats 1000000 in
theorem c_clGood (xss : List (List Int)) (l : List Int) (v u : Value) (w : World) (hs : ShortL xss) (hl : l.length ≤ 4000000) (h : SeenL w v xss) (hu : Seen w u l) :
    Calls Try.prog 33 #[v, u] w fun e w' => e = .returned (.bool (gB xss l)) ∧ Below w.heap.size w w' := by
  have C0 := Lib.hid (c_clBlocks xss l v u w hs hl h hu)
  have HG : Hid (gB xss l = (vB xss l && closB xss l)) := rfl
  cases hv : vB xss l
  · rw [hv] at C0 HG
    obtain ⟨A, c, rfl, _⟩ := h.shape
    obtain ⟨A2, c2, rfl⟩ := hu.shape
    clear h hu hs hv
    generalize gB xss l = g at *
    go_enter Try.func33, Try.ntmps33
    go_wp2_with fail
    refine C0.out.mono ?_
    rintro e w1 ⟨rfl, rfl⟩
    go_wp2
    go_ret
    exact ⟨ret_bool (by rw [HG.out]; rfl), Below.refl _ _⟩
  · rw [hv] at C0 HG
    obtain ⟨ha, hr⟩ := vB_iff.1 hv
    have C1 := Lib.hid (c_clIs xss l v u w ha (InN.ris hr) hl h hu)
    obtain ⟨A, c, rfl, _⟩ := h.shape
    obtain ⟨A2, c2, rfl⟩ := hu.shape
    clear h hu hs hv ha hr
    generalize gB xss l = g at *
    generalize closB xss l = g2 at *
    go_enter Try.func33, Try.ntmps33
    go_wp2_with fail
    refine C0.out.mono ?_
    rintro e w1 ⟨rfl, rfl⟩
    go_wp2_with fail
    refine C1.out.mono ?_
    rintro e w1 ⟨rfl, hb⟩
    have HB := Lib.hid hb
    clear hb
    go_wp2
    go_ret
    exact ⟨ret_bool (by rw [HG.out]; simp), HB.out⟩

end Go.Proofs.Ytfpjodoimfbadaa
