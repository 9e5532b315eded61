/-
  Contracts: EvalRule, in the program and in the model of it.
-/
import Derived.Test.YtdodmcmkelegoaaF6
import Derived.Test.YtdodmcmkelegoaaF7
import Derived.Test.YtdodmcmkelegoaaE11
import Derived.Test.YtdodmcmkelegoaaM3
namespace Go.Proofs.Ytdodmcmkelegoaa
open Go.RowKit
set_option linter.unusedVariables false
set_option linter.unusedSimpArgs false

def vdf (xs : List Int) (j : Nat) : Int := xs.getD (j * 2 + 1) 0
/-- The tree of a valid rule. -/
noncomputable def treeOf (n : Nat) (xs : List Int) : Tr := by
  classical
  exact if h : ∃ t, At (kdf xs) t (n - 1) ∧ t.size = n then h.choose else .leaf
theorem treeOf_spec {n : Nat} {xs : List Int} (h : ruleB n xs = true) : At (kdf xs) (treeOf n xs) (n - 1) ∧ (treeOf n xs).size = n := by
  obtain ⟨t, hA, hs, _⟩ := rule_tree h
  have : ∃ t, At (kdf xs) t (n - 1) ∧ t.size = n := ⟨t, hA, hs⟩
  unfold treeOf
  rw [dif_pos this]
  exact this.choose_spec
/-- The value of a rule for given fields. -/
noncomputable def evR (n : Nat) (xs fs : List Int) : Option Int := ev (kdf xs) (vdf xs) fs (treeOf n xs) (n - 1)
def evB (n : Nat) (xs fs : List Int) : Bool := ruleB n xs && areB 5 10000000 fs
noncomputable def evO (n : Nat) (xs fs : List Int) : Option Int := if evB n xs fs then evR n xs fs else none
theorem evO_no {n : Nat} {xs fs : List Int} (h : evB n xs fs = false) : evO n xs fs = none := by unfold evO; rw [h]; rfl
theorem evO_yes {n : Nat} {xs fs : List Int} (h : evB n xs fs = true) : evO n xs fs = evR n xs fs := by unfold evO; rw [h]; rfl
theorem are_box {fs : List Int} (h : areB 5 10000000 fs = true) : fs.length = 5 ∧ ∀ j : Nat, 0 ≤ fs.getD j 0 ∧ fs.getD j 0 ≤ 10000000 := by
  unfold areB at h
  simp only [Bool.and_eq_true, decide_eq_true_eq] at h
  refine ⟨by omega, fun j => ?_⟩
  by_cases hj : j < fs.length
  · exact all_at h.2 hj
  · rw [List.getD_eq_getElem?_getD, List.getElem?_eq_none (by omega)]
    simp
theorem par_num {n : Nat} {xs : List Int} (h : ParTo xs n) (j : Nat) (hj : j < n) : (kdf xs j = 0 → 0 ≤ vdf xs j ∧ vdf xs j ≤ 1000000) ∧ (kdf xs j = 1 → 0 ≤ vdf xs j ∧ vdf xs j ≤ 4) := by
  have := h j hj
  unfold parB at this
  unfold kdf vdf
  refine ⟨fun e => ?_, fun e => ?_⟩
  · rw [if_pos e] at this
    simpa using this
  · rw [if_neg (by omega), if_pos e] at this
    simpa using this

set_option maxHeartbeats 1000000 in
/-- A valid rule becomes its function. -/
theorem c_formulaR (nf : Bool) (n : Nat) (xs : List Int) (v : Value) (w : World) (hl : n ≤ 1048576) (h : SeenC w v n xs) (hr : ruleB n xs = true) (hnf : nf = true → ∀ j, j < n → kdf xs j ≠ 1) :
    Calls Try.prog 68 #[v] w (GivesF nf w.heap.size w (fun fs => evR n xs fs)) := by
  obtain ⟨hA, hs⟩ := treeOf_spec hr
  obtain ⟨_, _, _, n1, n2, hp, _, _⟩ := rule_tree hr
  obtain ⟨b, off, c, rfl, hb, hcell⟩ := seen_cells h.1 (by omega)
  have hnc := h.2 _ _ _ rfl
  have := c_formulaOf nf (kdf xs) (vdf xs) b n (treeOf n xs) off 0 c (n - 1) w (by omega) hA (by omega) (by omega) (by omega) hb
    (by rw [hs]; intro j hj; rw [Nat.zero_add]; exact parB_kind (hp j hj))
    (by
      rw [hs]; intro j hj; rw [Nat.zero_add]
      refine ⟨(par_num hp j hj).1, fun e => ⟨?_, (par_num hp j hj).2 e⟩⟩
      cases nf with
      | false => rfl
      | true => exact absurd e (hnf rfl j hj))
    (by rw [hs]; intro j hj; rw [Nat.zero_add]; exact hcell w (Below.refl _ _) j hj)
  rw [hs] at this
  exact this

set_option maxHeartbeats 4000000 in
set_option maxRecDepth 100000 in
theorem c_EvalRule (n : Nat) (xs : List Int) (v : Value) (fs : List Int) (fv : Value) (w : World) (hl : n ≤ 1048576) (lf : fs.length ≤ 4000000) (h : SeenC w v n xs) (hf : Seen w fv fs) :
    Calls Try.prog 47 #[v, fv] w fun e w' => e = .returned (.tuple #[.int .i64 (tvV (evO n xs fs)), .bool (evO n xs fs).isSome]) ∧ Below w.heap.size w w' := by
  have C1 := Lib.hid (c_IsRule n xs v w hl h.1 h.2)
  have C2 : Hid (∀ u, Below w.heap.size w u → Calls Try.prog 97 #[fv, .int .i64 5, .int .i64 10000000] u fun e w' => e = .returned (.bool (areB 5 10000000 fs)) ∧ u = w') := fun u hu => c_areNumbers fs fv 5 10000000 u lf (hf.below hu)
  have HS := Lib.hid h
  have HF := Lib.hid hf
  cases hr : ruleB n xs
  · have e : evB n xs fs = false := by unfold evB; rw [hr]; rfl
    rw [evO_no e]
    rw [hr] at C1
    obtain ⟨A, c, rfl, _, _, _⟩ := h.1
    clear hr h e C2 HS hf HF
    go_enter Try.func47, Try.ntmps47
    go_wp2_with fail
    refine C1.out.mono ?_
    rintro e w1 ⟨rfl, hb1⟩
    have HB1 := Lib.hid hb1
    clear hb1
    go_wp2
    go_ret2
    exact ⟨rfl, HB1.out⟩
  · cases ha : areB 5 10000000 fs
    · have e : evB n xs fs = false := by unfold evB; rw [hr, ha]; rfl
      rw [evO_no e]
      rw [hr] at C1
      rw [ha] at C2
      obtain ⟨A, c, rfl, _, _, _⟩ := h.1
      clear hr ha h e HS hf HF
      go_enter Try.func47, Try.ntmps47
      go_wp2_with fail
      refine C1.out.mono ?_
      rintro e w1 ⟨rfl, hb1⟩
      have HB1 := Lib.hid hb1
      clear hb1
      go_wp2_with fail
      refine (C2.out _ HB1.out).mono ?_
      rintro e w2 ⟨rfl, rfl⟩
      go_wp2
      go_ret2
      exact ⟨rfl, HB1.out⟩
    · have e : evB n xs fs = true := by unfold evB; rw [hr, ha]; rfl
      rw [evO_yes e]
      have CF : Hid (∀ u, Below w.heap.size w u → Calls Try.prog 68 #[v] u (GivesF false u.heap.size u (fun fs => evR n xs fs))) := fun u hu => c_formulaR false n xs v u hl (HS.out.below hu) hr (fun h => by cases h)
      have FO : FldOk false fs := are_box ha
      have CT : Hid (∀ (F : Value) (lo hi : Nat) (u : World), Below w.heap.size w u → FnV false lo hi u F (fun fs => evR n xs fs) → Calls Try.prog 98 #[F, fv] u fun e w' => e = .returned (.tuple #[.int .i64 (tvV (evR n xs fs)), .bool (evR n xs fs).isSome]) ∧ Below u.heap.size u w') := fun F lo hi u hu hF => c_tryFormula false _ _ F fv fs _ u hF (HF.out.below hu) FO
      rw [hr] at C1
      rw [ha] at C2
      obtain ⟨A, c, rfl, _, _, _⟩ := h.1
      clear hr ha h e HS hf HF FO
      generalize evR n xs fs = o at *
      go_enter Try.func47, Try.ntmps47
      go_wp2_with fail
      refine C1.out.mono ?_
      rintro e w1 ⟨rfl, hb1⟩
      have HB1 := Lib.hid hb1
      clear hb1
      go_wp2_with fail
      refine (C2.out _ HB1.out).mono ?_
      rintro e w2 ⟨rfl, rfl⟩
      go_wp2_with fail
      refine (CF.out _ HB1.out).mono ?_
      rintro e w3 ⟨F, rfl, hF, hb3⟩
      have HB3 : Hid (Below w.heap.size w w3) := HB1.out.trans (hb3.mono HB1.out.size)
      have CT3 := Lib.hid (CT.out F _ _ w3 HB3.out hF)
      clear hF hb3 CT
      go_wp2_with fail
      refine CT3.out.mono ?_
      rintro e w4 ⟨rfl, hb4⟩
      have HB4 : Hid (Below w.heap.size w w4) := HB3.out.trans (hb4.mono HB3.out.size)
      clear hb4 CT3
      go_wp2
      go_ret2
      exact ⟨rfl, HB4.out⟩

set_option maxHeartbeats 4000000 in
set_option maxRecDepth 100000 in
/-- The model's value of a list of parts that is a tree. -/
theorem c_ruEval (n : Nat) (xs : List Int) (v : Value) (fs : List Int) (fv : Value) (w : World) (h0 : 0 < n) (hl : n ≤ 39) (h : SeenP w v n xs) (hf : Seen w fv fs) (hp : ParTo xs n) (hfull : FullTo (kdf xs) n) (h5 : fs.length = 5) (hF : ∀ j : Nat, 0 ≤ fs.getD j 0 ∧ fs.getD j 0 ≤ 10000000) (t : Tr) (hA : At (kdf xs) t (n - 1)) (hone : (stk (kdf xs) n).length = 1) :
    Calls Try.prog 60 #[v, fv] w fun e w' => e = .returned (.tuple #[.int .i64 (tvV (ev (kdf xs) (vdf xs) fs t (n - 1))), .bool (ev (kdf xs) (vdf xs) fs t (n - 1)).isSome]) ∧ Below w.heap.size w w' := by
  have HS := Lib.hid h
  have CT : Hid (∀ u, Below w.heap.size w u → Calls Try.prog 99 #[v] u (GivesTree u (kidsTo (kdf xs) n) true true)) := fun u hu => by
    have := c_ruTree n xs v u hl (by omega) (HS.out.below hu)
    rw [treeB_of hp hfull hone, parAll_true hp, fullB_true hfull] at this
    exact this
  obtain ⟨b, off, c, rfl, hb, hcell⟩ := seen_cells h h0
  obtain ⟨fA, fc, rfl, _, hfc⟩ := hf
  obtain ⟨fb, fo, rfl, hfb, hfcell⟩ := hfc (by omega)
  have CV : Hid (∀ (tv : Value) (B : Nat) (u : World), Below w.heap.size w u → Rows u B u.heap.size tv (kidsTo (kdf xs) n) → Calls Try.prog 111 #[.slice (some ⟨b, off, none⟩) n c, tv, .int .i64 ((n - 1 : Nat) : Int), .slice (some ⟨fb, fo, none⟩) 5 fc] u (GivesO u (ev (kdf xs) (vdf xs) fs t (n - 1)))) := fun tv B u hu hrs => by
    obtain ⟨g, gc, rfl, hg, hrows⟩ := rows_read hrs (by rw [kidsTo_len]; omega)
    rw [kidsTo_len] at hrows ⊢
    refine c_ruValue (kdf xs) (vdf xs) fs n g gc b off c fb fo fc n hl (fun j hj => parB_kind (hp j hj)) (fun j hj => par_num hp j hj) hF t (n - 1) u (by have := hA.size_le; omega) hA (by omega) ⟨fun j hj => (hcell u hu j hj).1, fun j hj => (hcell u hu j hj).2, fun i hi => ?_, fun j hj => cell_at hu (hfcell j (by omega))⟩
    obtain ⟨A, c', h1, h2⟩ := hrows i hi
    rw [kidsTo_at (kdf xs) hi] at h1 h2
    refine ⟨A, c', _, rfl, h1, fun j hj => ?_⟩
    obtain ⟨g', e', _, hc⟩ := h2 j hj
    exact ⟨g', e', hc⟩
  rw [h5]
  clear hA hp hfull hone hcell hfcell hfc hF h HS h5
  generalize kidsTo (kdf xs) n = KT at *
  generalize ev (kdf xs) (vdf xs) fs t (n - 1) = o at *
  obtain ⟨p, rfl⟩ : ∃ p, n = p + 1 := ⟨n - 1, by omega⟩
  simp only [Nat.add_sub_cancel] at CV
  cases o with
  | none =>
    go_enter Try.func60, Try.ntmps60
    go_wp2_with fail
    refine (CT.out w (Below.refl _ _)).mono ?_
    rintro e w2 ⟨tv, rfl, hrs, hb2⟩
    have CV2 := Lib.hid (CV.out tv _ w2 hb2 (hrs rfl))
    have HB2 := Lib.hid hb2
    clear hrs hb2
    go_wp2_with fail
    refine CV2.out.mono ?_
    intro e w3 hgo
    obtain ⟨⟨x, rfl⟩, hb3⟩ := hgo.no
    have HB3 : Hid (Below w.heap.size w w3) := HB2.out.trans (hb3.mono HB2.out.size)
    clear hgo hb3
    go_wp2
    go_ret2
    exact ⟨rfl, HB3.out⟩
  | some y =>
    go_enter Try.func60, Try.ntmps60
    go_wp2_with fail
    refine (CT.out w (Below.refl _ _)).mono ?_
    rintro e w2 ⟨tv, rfl, hrs, hb2⟩
    have CV2 := Lib.hid (CV.out tv _ w2 hb2 (hrs rfl))
    have HB2 := Lib.hid hb2
    clear hrs hb2
    go_wp2_with fail
    refine CV2.out.mono ?_
    intro e w3 hgo
    obtain ⟨rfl, hb3⟩ := hgo.yes
    have HB3 : Hid (Below w.heap.size w w3) := HB2.out.trans (hb3.mono HB2.out.size)
    clear hgo hb3
    go_wp2
    go_ret2
    exact ⟨rfl, HB3.out⟩

set_option maxHeartbeats 4000000 in
set_option maxRecDepth 100000 in
theorem c_EvalRuleS (n : Nat) (xs : List Int) (v : Value) (fs : List Int) (fv : Value) (w : World) (hl : n ≤ 1048576) (lf : fs.length ≤ 4000000) (h : SeenC w v n xs) (hf : Seen w fv fs) :
    Calls Try.prog 45 #[v, fv] w fun e w' => e = .returned (.tuple #[.int .i64 (tvV (evO n xs fs)), .bool (evO n xs fs).isSome]) ∧ Below w.heap.size w w' := by
  have C1 := Lib.hid (c_ruGood n xs v w hl h.1)
  have C2 : Hid (∀ u, Below w.heap.size w u → Calls Try.prog 96 #[fv, .int .i64 0, .int .i64 10000000] u fun e w' => e = .returned (.bool (allB 10000000 fs)) ∧ u = w') := fun u hu => c_l1All fs fv 10000000 u lf (hf.below hu)
  have HS := Lib.hid h
  have HF := Lib.hid hf
  cases hr : ruleB n xs
  · have e : evB n xs fs = false := by unfold evB; rw [hr]; rfl
    rw [evO_no e]
    rw [hr] at C1
    obtain ⟨A, c, rfl, _, _, _⟩ := h.1
    obtain ⟨fA, fc, rfl, _⟩ := hf
    clear hr h e C2 HS HF
    go_enter Try.func45, Try.ntmps45
    go_wp2_with fail
    refine C1.out.mono ?_
    rintro e w1 ⟨rfl, hb1⟩
    have HB1 := Lib.hid hb1
    clear hb1
    go_wp2
    go_ret2
    exact ⟨rfl, HB1.out⟩
  · rw [hr] at C1
    by_cases h5 : fs.length = 5
    · cases ha : allB 10000000 fs
      · have e : evB n xs fs = false := by unfold evB areB; rw [ha]; simp
        rw [evO_no e]
        rw [ha] at C2
        obtain ⟨A, c, rfl, _, _, _⟩ := h.1
        obtain ⟨fA, fc, rfl, _⟩ := hf
        rw [h5] at C2 ⊢
        clear hr ha h e HS HF
        go_enter Try.func45, Try.ntmps45
        go_wp2_with fail
        refine C1.out.mono ?_
        rintro e w1 ⟨rfl, hb1⟩
        have HB1 := Lib.hid hb1
        clear hb1
        go_wp2_with fail
        refine (C2.out _ HB1.out).mono ?_
        rintro e w2 ⟨rfl, rfl⟩
        go_wp2
        go_ret2
        exact ⟨rfl, HB1.out⟩
      · have hab : areB 5 10000000 fs = true := by unfold areB; rw [ha, decide_eq_true (by omega)]; rfl
        have e : evB n xs fs = true := by unfold evB; rw [hr, hab]; rfl
        rw [evO_yes e]
        obtain ⟨_, hF⟩ := are_box hab
        obtain ⟨_, _, _, n1, n2, hp, hfull, _⟩ := rule_tree hr
        obtain ⟨hA, hs⟩ := treeOf_spec hr
        obtain ⟨_, _, hone⟩ := treeB_true (rule_size hr).2.2.1
        have CE : Hid (∀ u, Below w.heap.size w u → Calls Try.prog 60 #[v, fv] u fun e w' => e = .returned (.tuple #[.int .i64 (tvV (evR n xs fs)), .bool (evR n xs fs).isSome]) ∧ Below u.heap.size u w') := fun u hu =>
          c_ruEval n xs v fs fv u (by omega) n2 (HS.out.1.below hu) (HF.out.below hu) hp hfull h5 hF (treeOf n xs) hA hone
        rw [ha] at C2
        obtain ⟨A, c, rfl, _, _, _⟩ := h.1
        obtain ⟨fA, fc, rfl, _⟩ := hf
        rw [h5] at C2 CE ⊢
        clear hr ha h e HS HF hab hF hp hfull hA hs hone n1 n2
        generalize evR n xs fs = o at *
        go_enter Try.func45, Try.ntmps45
        go_wp2_with fail
        refine C1.out.mono ?_
        rintro e w1 ⟨rfl, hb1⟩
        have HB1 := Lib.hid hb1
        clear hb1
        go_wp2_with fail
        refine (C2.out _ HB1.out).mono ?_
        rintro e w2 ⟨rfl, rfl⟩
        go_wp2_with fail
        refine (CE.out _ HB1.out).mono ?_
        rintro e w3 ⟨rfl, hb3⟩
        have HB3 : Hid (Below w.heap.size w w3) := HB1.out.trans (hb3.mono HB1.out.size)
        clear hb3
        go_wp2
        go_ret2
        exact ⟨rfl, HB3.out⟩
    · have e : evB n xs fs = false := by unfold evB areB; rw [decide_eq_false (by omega)]; simp
      rw [evO_no e]
      obtain ⟨A, c, rfl, _, _, _⟩ := h.1
      obtain ⟨fA, fc, rfl, _⟩ := hf
      have hne : ((fs.length : Int) != 5) = true := by simp; omega
      generalize fs.length = nf at *
      clear hr h e HS HF C2
      go_enter Try.func45, Try.ntmps45
      go_wp2_with fail
      refine C1.out.mono ?_
      rintro e w1 ⟨rfl, hb1⟩
      have HB1 := Lib.hid hb1
      clear hb1
      go_wp2
      go_ret2
      exact ⟨rfl, HB1.out⟩
end Go.Proofs.Ytdodmcmkelegoaa
