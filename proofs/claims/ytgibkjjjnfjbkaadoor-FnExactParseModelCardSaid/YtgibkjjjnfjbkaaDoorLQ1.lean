/-
  Plain: the model and the program answer the same.
-/
import Derived.Test.YtgibkjjjnfjbkaaDoorLM1
import Derived.Test.YtgibkjjjnfjbkaaDoorLP3
namespace Go.Proofs.YtgibkjjjnfjbkaaDoor
set_option linter.unusedVariables false

theorem mt_list {x y z : Int} {ts gs rs : List Int} {l : List UInt8} (h : moB x y z ts gs rs = true) (h2 : mtS x y z ts gs rs = ⟨l.toArray⟩) : (mtT x y z ts gs rs ts.length).data.toList = l := by
  unfold mtS at h2
  rw [h, if_pos rfl] at h2
  rw [h2]
theorem pp_parts {l : List UInt8} (h : ppB l = true) : rmB (wsP l) = true ∧ moB (rmX 0 (wsP l)) (rmX 1 (wsP l)) (rmX 2 (wsP l)) (rmL 0 (wsP l)) (rmL 1 (wsP l)) (rmL 2 (wsP l)) = true ∧ mtS (rmX 0 (wsP l)) (rmX 1 (wsP l)) (rmX 2 (wsP l)) (rmL 0 (wsP l)) (rmL 1 (wsP l)) (rmL 2 (wsP l)) = ⟨l.toArray⟩ := by
  unfold ppB at h
  rw [Bool.and_eq_true, Bool.and_eq_true, decide_eq_true_eq] at h
  exact h
theorem mp_parts {l : List UInt8} (h : mpB l = true) : mdB l = true ∧ moB (mdX 0 l) (mdX 1 l) (mdX 2 l) (mdT 0 l) (mdT 1 l) (mdT 2 l) = true ∧ mtS (mdX 0 l) (mdX 1 l) (mdX 2 l) (mdT 0 l) (mdT 1 l) (mdT 2 l) = ⟨l.toArray⟩ := by
  unfold mpB at h
  rw [Bool.and_eq_true, Bool.and_eq_true, decide_eq_true_eq] at h
  exact h
/-- A text that the program reads is read by the model, as the same model. -/
theorem md_of_pp {l : List UInt8} (h : ppB l = true) : mpB l = true ∧ (mdX 0 l = rmX 0 (wsP l) ∧ mdX 1 l = rmX 1 (wsP l) ∧ mdX 2 l = rmX 2 (wsP l)) ∧ mdT 0 l = rmL 0 (wsP l) ∧ mdT 1 l = rmL 1 (wsP l) ∧ mdT 2 l = rmL 2 (wsP l) := by
  obtain ⟨h1, h2, h3⟩ := pp_parts h
  have hl := mt_list h2 h3
  obtain ⟨b, x, y, z, t, g, r⟩ := model_back h2
  rw [hl] at b x y z t g r
  refine ⟨?_, ⟨x, y, z⟩, t, g, r⟩
  unfold mpB
  rw [b, x, y, z, t, g, r, h2, h3, decide_eq_true rfl]
  rfl
theorem pp_of_mp {l : List UInt8} (h : mpB l = true) : ppB l = true := by
  obtain ⟨h1, h2, h3⟩ := mp_parts h
  have hl := mt_list h2 h3
  have hw : wsP l = wdT (mdX 0 l) (mdX 1 l) (mdX 2 l) (mdT 0 l) (mdT 1 l) (mdT 2 l) (mdT 0 l).length := by
    have := tx_fieldsD (mtOk h2)
    rw [hl] at this
    exact this
  obtain ⟨b, x, y, z, t, g, r⟩ := prog_back h2
  unfold ppB
  rw [hw, b, x, y, z, t, g, r, h2, h3, decide_eq_true rfl]
  rfl
/-- BOTH SIDES ANSWER THE SAME. -/
theorem same_all (l : List UInt8) : mpB l = ppB l ∧ (mpX 0 l = ppX 0 l ∧ mpX 1 l = ppX 1 l ∧ mpX 2 l = ppX 2 l) ∧ mpL 0 l = ppL 0 l ∧ mpL 1 l = ppL 1 l ∧ mpL 2 l = ppL 2 l := by
  cases h : ppB l
  · have hm : mpB l = false := by
      cases hm : mpB l
      · rfl
      · have := pp_of_mp hm
        rw [h] at this
        cases this
    refine ⟨hm, ⟨?_, ?_, ?_⟩, ?_, ?_, ?_⟩
    · rw [(mp_no hm).1, (pp_no h).1]
    · rw [(mp_no hm).1, (pp_no h).1]
    · rw [(mp_no hm).1, (pp_no h).1]
    · rw [(mp_no hm).2, (pp_no h).2]
    · rw [(mp_no hm).2, (pp_no h).2]
    · rw [(mp_no hm).2, (pp_no h).2]
  · obtain ⟨hm, ⟨x, y, z⟩, t, g, r⟩ := md_of_pp h
    have a : ∀ j, ppX j l = rmX j (wsP l) := fun j => by unfold ppX; rw [h, if_pos rfl]
    have b : ∀ j, ppL j l = rmL j (wsP l) := fun j => by unfold ppL; rw [h, if_pos rfl]
    have c : ∀ j, mpX j l = mdX j l := fun j => by unfold mpX; rw [hm, if_pos rfl]
    have d : ∀ j, mpL j l = mdT j l := fun j => by unfold mpL; rw [hm, if_pos rfl]
    refine ⟨hm, ⟨?_, ?_, ?_⟩, ?_, ?_, ?_⟩
    · rw [a, c, x]
    · rw [a, c, y]
    · rw [a, c, z]
    · rw [b, d, t]
    · rw [b, d, g]
    · rw [b, d, r]
theorem ppL_len (j : Nat) (l : List UInt8) : (ppL j l).length ≤ 4000000 := by
  unfold ppL
  split
  · exact rm_len j
  · simp
theorem c_ParseModelT (s : ByteArray) (w : World) (hs : s.size ≤ 1048576) :
    Calls Tryd.prog 4 #[.string s] w (GivesMB w (ppX 0 s.data.toList) (ppX 1 s.data.toList) (ppX 2 s.data.toList) (ppL 0 s.data.toList) (ppL 1 s.data.toList) (ppL 2 s.data.toList) (ppB s.data.toList)) := by
  obtain ⟨h1, ⟨h2, h3, h4⟩, h5, h6, h7⟩ := same_all s.data.toList
  have := c_ParseModelS s w hs
  rw [h1, h2, h3, h4, h5, h6, h7] at this
  exact this
end Go.Proofs.YtgibkjjjnfjbkaaDoor
