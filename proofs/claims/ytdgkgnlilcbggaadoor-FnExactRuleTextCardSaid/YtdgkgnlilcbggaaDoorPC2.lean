/-
  Contract: RuleText, in the model.
-/
import Derived.Test.YtdgkgnlilcbggaaDoorPC1
import Derived.Test.YtdgkgnlilcbggaaDoorPB2
namespace Go.Proofs.YtdgkgnlilcbggaaDoor
open Go.RowKit
set_option linter.unusedVariables false

set_option maxHeartbeats 4000000 in
set_option maxRecDepth 100000 in
/-- The model's text of a list of parts that is a tree. -/
theorem c_ruText (n : Nat) (xs : List Int) (v : Value) (w : World) (h0 : 0 < n) (hl : n ≤ 39) (h : SeenP w v n xs) (hp : ParTo xs n) (hfull : FullTo (kdf xs) n) (t : Tr) (hA : At (kdf xs) t (n - 1)) (hs : t.size = n) (hone : (stk (kdf xs) n).length = 1) :
    Calls Tryd.prog 10 #[v] w fun e w' => e = .returned (.string (tx (kdf xs) (vdf xs) t (n - 1))) ∧ Below w.heap.size w w' := by
  have HS := Lib.hid h
  have CT : Hid (∀ u, Below w.heap.size w u → Calls Tryd.prog 16 #[v] u (GivesTree u (kidsTo (kdf xs) n) true true)) := fun u hu => by
    have := c_ruTree n xs v u hl (by omega) (HS.out.below hu)
    rw [treeB_of hp hfull hone, parAll_true hp, fullB_true hfull] at this
    exact this
  obtain ⟨b, off, c, rfl, hb, hcell⟩ := seen_cells h h0
  have CV : Hid (∀ (tv : Value) (B : Nat) (u : World), Below w.heap.size w u → Rows u B u.heap.size tv (kidsTo (kdf xs) n) → Calls Tryd.prog 18 #[.slice (some ⟨b, off, none⟩) n c, tv, .int .i64 ((n - 1 : Nat) : Int), .int .i64 0] u fun e w' => e = .returned (.string (tx (kdf xs) (vdf xs) t (n - 1))) ∧ Below u.heap.size u w') := fun tv B u hu hrs => by
    obtain ⟨g, gc, rfl, hg, hrows⟩ := rows_read hrs (by rw [kidsTo_len]; omega)
    rw [kidsTo_len] at hrows ⊢
    have := c_ruShow (kdf xs) (vdf xs) n g gc b off c n hl (fun j hj => parB_kind (hp j hj)) (fun j hj => parB_val (hp j hj)) t (n - 1) 0 u (by have := hA.size_le; omega) hA (by omega) ⟨fun j hj => (hcell u hu j hj).1, fun j hj => (hcell u hu j hj).2, fun i hi => ?_⟩
    · rw [decide_eq_false (bindK_nonneg _)] at this
      exact this
    obtain ⟨A, c', h1, h2⟩ := hrows i hi
    rw [kidsTo_at (kdf xs) hi] at h1 h2
    refine ⟨A, c', _, rfl, h1, fun j hj => ?_⟩
    obtain ⟨g', e', _, hc⟩ := h2 j hj
    exact ⟨g', e', hc⟩
  clear hA hp hfull hone hcell h HS hs
  generalize kidsTo (kdf xs) n = KT at *
  generalize tx (kdf xs) (vdf xs) t (n - 1) = o at *
  obtain ⟨p, rfl⟩ : ∃ p, n = p + 1 := ⟨n - 1, by omega⟩
  simp only [Nat.add_sub_cancel] at CV
  go_enter Tryd.func10, Tryd.ntmps10
  go_wp2_with fail
  refine (CT.out w (Below.refl _ _)).mono ?_
  rintro e w2 ⟨tv, rfl, hrs, hb2⟩
  have CV2 := Lib.hid (CV.out tv _ w2 hb2 (hrs rfl))
  have HB2 := Lib.hid hb2
  clear hrs hb2
  go_wp2_with fail
  refine CV2.out.mono ?_
  rintro e w3 ⟨rfl, hb3⟩
  have HB3 : Hid (Below w.heap.size w w3) := HB2.out.trans (hb3.mono HB2.out.size)
  clear hb3
  go_wp2
  go_ret
  exact ⟨rfl, HB3.out⟩

set_option maxHeartbeats 4000000 in
theorem c_RuleTextS (n : Nat) (xs : List Int) (v : Value) (w : World) (hl : n ≤ 1048576) (h : SeenC w v n xs) :
    Calls Tryd.prog 5 #[v] w fun e w' => e = .returned (.tuple #[.string (rtS n xs), .bool (ruleB n xs)]) ∧ Below w.heap.size w w' := by
  have C1 := Lib.hid (c_ruGood n xs v w hl h.1)
  have HS := Lib.hid h.1
  cases hr : ruleB n xs
  · rw [hr] at C1
    rw [show rtS n xs = ⟨#[]⟩ by unfold rtS; rw [dif_neg (by rw [hr]; decide)]]
    obtain ⟨A, c, rfl, _, _, _⟩ := h.1
    clear hr h HS
    go_enter Tryd.func5, Tryd.ntmps5
    go_wp2_with fail
    refine C1.out.mono ?_
    rintro e w1 ⟨rfl, hb1⟩
    have HB1 := Lib.hid hb1
    clear hb1
    go_wp2
    go_ret2
    exact ⟨rfl, HB1.out⟩
  · rw [hr] at C1
    obtain ⟨hA, hs, n1, n2, hp, f, hd⟩ := Classical.choose_spec (rule_tree hr)
    rw [show rtS n xs = tx (kdf xs) (vdf xs) (Classical.choose (rule_tree hr)) (n - 1) by unfold rtS; rw [dif_pos hr]]
    have hone := (treeB_true (rule_size hr).2.2.1).2.2
    generalize Classical.choose (rule_tree hr) = t at *
    have CT : Hid (∀ u, Below w.heap.size w u → Calls Tryd.prog 10 #[v] u fun e w' => e = .returned (.string (tx (kdf xs) (vdf xs) t (n - 1))) ∧ Below u.heap.size u w') := fun u hu => c_ruText n xs v u (by omega) n2 (HS.out.below hu) hp f t hA hs hone
    obtain ⟨A, c, rfl, _, _, _⟩ := h.1
    clear hA hs hp f hd hr h HS hone
    generalize tx (kdf xs) (vdf xs) t (n - 1) = S at *
    go_enter Tryd.func5, Tryd.ntmps5
    go_wp2_with fail
    refine C1.out.mono ?_
    rintro e w1 ⟨rfl, hb1⟩
    have HB1 := Lib.hid hb1
    clear hb1
    go_wp2_with fail
    refine (CT.out w1 HB1.out).mono ?_
    rintro e w2 ⟨rfl, hb2⟩
    have HB2 : Hid (Below w.heap.size w w2) := HB1.out.trans (hb2.mono HB1.out.size)
    clear hb2
    go_wp2
    go_ret2
    exact ⟨rfl, HB2.out⟩
end Go.Proofs.YtdgkgnlilcbggaaDoor
