/-
  Contracts: SizeOfPart, in the program and in the model.
-/
import Derived.Test.YtdodmcmkelegoaaE11
namespace Go.Proofs.Ytdodmcmkelegoaa
open Go.RowKit
set_option linter.unusedVariables false

theorem tree_at {ks : Nat → Int} {n e : Nat} (h : FullTo ks n) (he : e < n) : ∃ t, At ks t e := by
  obtain ⟨ts, hf⟩ := forest (e + 1) (fun j hj => h j (by omega))
  match ts, hf with
  | [], ⟨h0, _⟩ => omega
  | t :: ts, ⟨s', _, _, hA, _, _⟩ => exact ⟨t, by simpa using hA⟩
/-- The number of parts that part e is made of. -/
noncomputable def sizeAt (ks : Nat → Int) (e : Nat) : Nat := (lastIs_ex ks e (e + 1)).choose
theorem At.sizeAt {ks : Nat → Int} {t : Tr} {e : Nat} (h : At ks t e) : sizeAt ks e = t.size :=
  (lastIs_ex ks e (e + 1)).choose_spec.unique (h.last h.size_le)
def sizB (n : Nat) (xs : List Int) (a : Int) : Bool := ruleB n xs && decide (0 ≤ a ∧ a < (n : Int))
noncomputable def sizV (n : Nat) (xs : List Int) (a : Int) : Int := if sizB n xs a then (sizeAt (kdf xs) a.toNat : Int) else 0
theorem siz_no {n : Nat} {xs : List Int} {a : Int} (h : ruleB n xs = false ∨ ¬ (0 ≤ a ∧ a < (n : Int))) : sizB n xs a = false ∧ sizV n xs a = 0 := by
  have : sizB n xs a = false := by
    unfold sizB
    rcases h with h | h
    · rw [h]; rfl
    · rw [decide_eq_false h, Bool.and_false]
  exact ⟨this, by unfold sizV; rw [this]; rfl⟩
theorem siz_yes {n : Nat} {xs : List Int} {e : Nat} (h : ruleB n xs = true) (he : e < n) : ∃ t, At (kdf xs) t e ∧ sizB n xs e = true ∧ sizV n xs e = (t.size : Int) := by
  obtain ⟨_, _, _, _, _, _, f, _⟩ := rule_tree h
  obtain ⟨t, hA⟩ := tree_at f he
  have : sizB n xs e = true := by unfold sizB; rw [h, decide_eq_true (by omega)]; rfl
  exact ⟨t, hA, this, by unfold sizV; rw [this, if_pos rfl, Int.toNat_natCast, hA.sizeAt]⟩

theorem smz_le (kd : Nat → Tr) {j m : Nat} (h : j ≤ m) : smz kd j ≤ smz kd m := by
  induction m with
  | zero => obtain rfl : j = 0 := by omega
            exact Nat.le_refl _
  | succ m ih =>
    by_cases e : j = m + 1
    · rw [e]; exact Nat.le_refl _
    · exact Nat.le_trans (ih (by omega)) (Nat.le_add_right _ _)

set_option maxHeartbeats 4000000 in
set_option maxRecDepth 100000 in
theorem c_ruSize (ks : Nat → Int) (n g gc K : Nat) : ∀ (t : Tr) (e : Nat) (w : World), t.size ≤ K → At ks t e → e < n → n ≤ 39 →
    (∀ i, i < n → ∃ A c' m, m = (kidI ks i).length ∧ w.cell? ⟨g, i, none⟩ = some (.slice A m c') ∧ ∀ j, j < m → ∃ g', A = some ⟨g', 0, none⟩ ∧ w.cell? ⟨g', j, none⟩ = some (.int .i64 ((kidI ks i).getD j 0))) →
    Calls Try.prog 142 #[.slice (some ⟨g, 0, none⟩) n gc, .int .i64 (e : Int)] w fun e' w' => e' = .returned (.int .i64 (t.size : Int)) ∧ w = w' := by
  induction K with
  | zero =>
    intro t e w hK
    have := t.size_pos
    omega
  | succ K IHK =>
    intro t e w hK hA he hn hcells
    have hse := hA.size_le
    obtain ⟨m, kd, of, S, hm4, hsm, _, hsz, hkid⟩ := split_ex (lo := e + 1 - t.size) hA (by omega)
    have hk : kidI ks e = (List.range m).map (fun j => (((e + 1 - t.size) + of (j + 1) - 1 : Nat) : Int)) := by unfold kidI; rw [hkid, List.map_map]; rfl
    obtain ⟨A, c', m', hm', q0, hc⟩ := hcells e he
    have hmm : m' = m := by rw [hm', hk]; simp
    subst hmm
    have HE : Hid (∀ j, j < m' → ∃ x : Nat, x < n ∧ (∃ g', A = some ⟨g', 0, none⟩ ∧ w.cell? ⟨g', j, none⟩ = some (.int .i64 (x : Int))) ∧ Calls Try.prog 142 #[.slice (some ⟨g, 0, none⟩) n gc, .int .i64 (x : Int)] w fun e' w' => e' = .returned (.int .i64 ((kd j).size : Int)) ∧ w = w') := fun j hj => by
      have h1 := hsm j hj
      have h2 := S.next j hj
      have h3 := S.le (j := j + 1) (by omega)
      have h4 := (kd j).size_pos
      refine ⟨(e + 1 - t.size) + of (j + 1) - 1, by omega, ?_, IHK (kd j) _ w (by omega) (S.at_ j hj) (by omega) hn hcells⟩
      obtain ⟨g', e', hg⟩ := hc j hj
      refine ⟨g', e', ?_⟩
      rw [hg, hk]
      simp [List.getD_eq_getElem?_getD, hj]
    have HX : Hid (∀ j, smz kd (j + 1) = smz kd j + (kd j).size) := fun j => rfl
    have H0 : Hid (smz kd 0 = 0) := rfl
    have HBx : Hid (∀ j, j ≤ m' → smz kd j ≤ 39) := fun j hj => by have := smz_le kd hj; omega
    have hts : (t.size : Int) = ((smz kd m' + 1 : Nat) : Int) := by omega
    rw [hts]
    have i1 : (0 : Int) ≤ (e : Int) := by omega
    have i2 : (e : Int) < (n : Int) := by omega
    clear hK hA hcells S hsm hsz hkid hk hm' hc IHK hts hse
    generalize smz kd = D at *
    go_enter Try.func142, Try.ntmps142
    go_wp2_with fail
    go_loop [5, 13] (fun q i => ∃ j : Nat, j ≤ m' ∧ i = .int .i64 j ∧ q = .int .i64 ((D j + 1 : Nat) : Int)) (fun _ i => m' - (intOf i).toNat)
    case atStart => exact ⟨0, Nat.zero_le _, rfl, by rw [H0.out]; rfl⟩
    case round =>
      obtain ⟨j, hj, rfl, rfl⟩ := hrel
      by_cases hlt : j < m'
      · obtain ⟨x, hx, ⟨g', rfl, c1⟩, hcall⟩ := HE.out j hlt
        have C := Lib.hid hcall
        have X := Lib.hid (HX.out j)
        have bx := HBx.out j hj
        have bx2 := HBx.out (j + 1) (by omega)
        rw [X.out] at bx2
        have j1 : (0 : Int) ≤ (j : Int) := by omega
        have j2 : (j : Int) < (m' : Int) := by omega
        clear hcall
        generalize (kd j).size = z at *
        go_wp2_with fail
        refine C.out.mono ?_
        rintro e w2 ⟨rfl, rfl⟩
        go_wp2
        go_round
        case rel => exact ⟨j + 1, by omega, by go_num, by rw [X.out]; congr 1; push_cast; omega⟩
        case measure => simp [intOf]; omega
      · obtain rfl : j = m' := by omega
        go_wp2
        go_ret
        exact ⟨ret_int (by push_cast; rfl), rfl⟩

end Go.Proofs.Ytdodmcmkelegoaa
