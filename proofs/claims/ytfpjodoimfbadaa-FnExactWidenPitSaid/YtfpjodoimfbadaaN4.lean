/-
  Sets of block numbers in a map of marks.
-/
import Derived.Test.YtfpjodoimfbadaaM1
import Derived.Maps.OwnSet
import Derived.Maps.Range
import Derived.Lib.SlKeysI
import Derived.WalkArith
namespace Go.Proofs.Ytfpjodoimfbadaa
open Go Go.RowKit
set_option linter.unusedVariables false

/-- Whether x is below n and p holds. -/
def inr (N : Nat) (p : Int → Bool) (x : Int) : Bool := decide (0 ≤ x ∧ x < (N : Int)) && p x
theorem mem_sel {p : Int → Bool} {x : Int} : ∀ {N : Nat}, x ∈ sel p N ↔ inr N p x = true
  | 0 => by simp [sel, inr]; omega
  | n + 1 => by
    have ih := mem_sel (p := p) (x := x) (N := n)
    unfold sel
    rw [List.mem_append, ih]
    unfold inr
    by_cases e : x = (n : Int)
    · subst e
      cases h : p (n : Int)
      · simp
      · simp; omega
    · have e2 : x ∉ (if p (n : Int) = true then [(n : Int)] else []) := by split <;> simp [e]
      simp only [e2, or_false, Bool.and_eq_true, decide_eq_true_eq]
      constructor
      · rintro ⟨⟨h1, h2⟩, h3⟩; exact ⟨⟨h1, by omega⟩, h3⟩
      · rintro ⟨⟨h1, h2⟩, h3⟩; exact ⟨⟨h1, by omega⟩, h3⟩
theorem sel_rising (p : Int → Bool) : ∀ N : Nat, (sel p N).Pairwise (· < ·)
  | 0 => List.Pairwise.nil
  | n + 1 => by
    unfold sel
    rw [List.pairwise_append]
    refine ⟨sel_rising p n, by split <;> simp, fun a ha b hb => ?_⟩
    have h1 := mem_sel.1 ha
    simp only [inr, Bool.and_eq_true, decide_eq_true_eq] at h1
    split at hb
    · simp at hb; omega
    · simp at hb
theorem sel_nodup (p : Int → Bool) (N : Nat) : (sel p N).Nodup := (sel_rising p N).imp fun h => by omega
/-- Sorting a list that has what is marked below n. -/
theorem sort_sel {p : Int → Bool} {N : Nat} {l : List Int} (h : l.Perm (sel p N)) : l.mergeSort (fun x y => decide (x ≤ y)) = sel p N := by
  have e := mergeSort_of_perm_i h
  refine (show l.mergeSort (fun x y => decide (x ≤ y)) = (sel p N).mergeSort (fun x y => decide (x ≤ y)) from e).trans ?_
  exact List.mergeSort_of_pairwise ((sel_rising p N).imp fun h => by simpa using Int.le_of_lt h)

theorem lawM : Maps.Keyed Try.prog 3 := Maps.int_keyed Try.underlying3
theorem zeroB (w : World) : (zeroValue 4).run Try.prog w = .ok (.bool false) w := by kernel_rfl
theorem keyM (x : Int) (h0 : -1000000 ≤ x) (h1 : x ≤ 1000000) : keyOf Try.prog 3 (.int .i64 x) = some (.int .i64 x) := Maps.keyOf_int_mk Try.underlying3 (WalkArith.wf_i64 (by omega))
theorem plainElem_bool_inv {P : Program} {e : TypeId} (he : P.underlying e = some .bool) {v : Value} {c : Bool} {ps : List MemPlace} (h : plainElem (H := Unit) P e v = some (.lit (.bool c), ps)) : v = .bool c := by
  unfold plainElem at h
  rw [he] at h
  cases v <;> simp at h
  rw [h.1]

/-- Block b is a map of marks: true at those numbers below n for which p holds. -/
def SetM (w : World) (b N : Nat) (p : Int → Bool) : Prop :=
  ∃ D : DataW Unit, w.ownsMap Try.prog 3 (plainElem Try.prog 4) b N D ∧ (∀ kl zd, Maps.has D kl = true → D.atKey kl zd = .lit (.bool true)) ∧ (∀ x : Int, Maps.has D (.int .i64 x) = inr N p x)
theorem keys_perm {w : World} {b n N : Nat} {p : Int → Bool} {D : DataW Unit} {R : Value → Option (DataW Unit × List MemPlace)} (ho : w.ownsMap Try.prog 3 R b n D) (hh : ∀ x : Int, Maps.has D (.int .i64 x) = inr N p x) : (sel p N).Perm (intKeys D) := by
  obtain ⟨es, hD, hpw, _⟩ := ho.entries lawM
  obtain ⟨es', hD', hko⟩ := ho.keysOf
  obtain rfl : es = es' := by rw [hD] at hD'; simpa using hD'
  subst hD
  exact perm_intKeys hpw (fun p hp => by obtain ⟨v, hv⟩ := hko p hp; obtain ⟨x, _, hx, _⟩ := Maps.keyOf_i64 Try.underlying3 hv; exact ⟨x, hx⟩) (sel_nodup p N) (fun x => by rw [hh x]; exact mem_sel)
theorem keys_size {w : World} {b n N : Nat} {p : Int → Bool} {D : DataW Unit} {R : Value → Option (DataW Unit × List MemPlace)} (ho : w.ownsMap Try.prog 3 R b n D) (hh : ∀ x : Int, Maps.has D (.int .i64 x) = inr N p x) : Maps.size D ≤ N := by
  have h1 := (keys_perm ho hh).length_eq
  have h2 := sel_len p N
  obtain ⟨es, rfl⟩ := ho.isMap
  simp [intKeys] at h1
  simp [Maps.size]
  omega
theorem owns_fit {w : World} {b n m : Nat} {D : DataW Unit} {R : Value → Option (DataW Unit × List MemPlace)} (ho : w.ownsMap Try.prog 3 R b n D) (hs : Maps.size D ≤ m) : w.ownsMap Try.prog 3 R b m D := by
  obtain ⟨es, clock, hb, F, _, rfl⟩ := ho
  refine ⟨es, clock, hb, F, ?_, rfl⟩
  simpa [Maps.size, length_sorted] using hs
theorem SetM.lt {w : World} {b N : Nat} {p : Int → Bool} (h : SetM w b N p) : b < w.heap.size := by
  obtain ⟨D, ho, _⟩ := h
  exact ho.lt
theorem SetM.new (w : World) (N : Nat) : SetM (w.alloc (.map #[] 0)) w.heap.size N (fun _ => false) :=
  ⟨.map [], (World.ownsMap_made w _ _ _).mono (Nat.zero_le _), fun kl zd h => by simp [Maps.has] at h, fun x => by simp [Maps.has, inr]⟩
theorem SetM.congr {w : World} {b N : Nat} {p q : Int → Bool} (h : SetM w b N p) (e : ∀ k : Nat, k < N → p k = q k) : SetM w b N q := by
  obtain ⟨D, ho, ht, hh⟩ := h
  refine ⟨D, ho, ht, fun x => ?_⟩
  rw [hh x]
  unfold inr
  by_cases hx : 0 ≤ x ∧ x < (N : Int)
  · have := e x.toNat (by omega)
    rw [Int.toNat_of_nonneg hx.1] at this
    rw [this]
  · simp [hx]
theorem SetM.kept {w w' : World} {b N : Nat} {p : Int → Bool} {row : Option Nat} (h : SetM w b N p) (hg : w.grownBy w' row) (hne : some b ≠ row) : SetM w' b N p := by
  obtain ⟨D, ho, r⟩ := h
  exact ⟨D, ho.kept hg hne, r⟩
theorem SetM.below {w w' : World} {b N M : Nat} {p : Int → Bool} (h : SetM w b N p) (hb : Below M w w') (hM : b < M) : SetM w' b N p := by
  obtain ⟨D, ⟨es, clock, hb1, r1⟩, r⟩ := h
  exact ⟨D, ⟨es, clock, (hb.block b hM).trans hb1, r1⟩, r⟩
theorem SetM.look {w : World} {b N : Nat} {p : Int → Bool} (h : SetM w b N p) (x : Int) (h0 : 0 ≤ x) (h1 : x < (N : Int)) (hN : N ≤ 1000) :
    (Instr.lookup 58 (.map (some b)) (.int .i64 x) false).run Try.prog w = .ok (.bool (p x)) w := by
  obtain ⟨D, ho, ht, hh⟩ := h
  obtain ⟨v, ps, hrun, hv⟩ := ho.lookup lawM Try.underlying58 (zeroB w) (plainElem_bool Try.underlying4 false) (keyM x (by omega) (by omega))
  have hx := hh x
  rw [show inr N p x = p x by simp [inr, h0, h1]] at hx
  rw [hrun]
  have e : v = .bool (p x) := by
    cases hp : p x
    · rw [Maps.atKey_of_not_has (by rw [hx, hp])] at hv
      exact plainElem_bool_inv Try.underlying4 hv
    · rw [ht _ _ (by rw [hx, hp])] at hv
      exact plainElem_bool_inv Try.underlying4 hv
  rw [e]
theorem SetM.put {w : World} {b N : Nat} {p : Int → Bool} (h : SetM w b N p) (x : Int) (h0 : 0 ≤ x) (h1 : x < (N : Int)) (hN : N ≤ 1000) :
    ∃ w', (Instr.mapUpdate 58 (.map (some b)) (.int .i64 x) (.bool true)).run Try.prog w = .ok () w' ∧ SetM w' b N (fun y => y == x || p y) ∧ w.grownBy w' (some b) := by
  obtain ⟨D, ho, ht, hh⟩ := h
  obtain ⟨w', hrun, ho', hg⟩ := ho.update lawM Try.underlying58 (by unfold maxLen; omega) (keyM x (by omega) (by omega)) (plainElem_bool Try.underlying4 true)
  have hD : Maps.IsMap D := ho.isMap
  have hh' : ∀ y : Int, Maps.has (D.put (.int .i64 x) (.lit (.bool true))) (.int .i64 y) = inr N (fun y => y == x || p y) y := fun y => by
    by_cases e : y = x
    · subst e
      rw [Maps.has_put_same hD (k := .int .i64 y) trivial]
      simp [inr, h0, h1]
    · rw [Maps.has_put_other (k := .int .i64 x) (k' := .int .i64 y) (by simp [e]), hh y]
      have e2 : (y == x) = false := beq_eq_false_iff_ne.2 e
      simp [inr, e2]
  refine ⟨w', hrun, ⟨_, owns_fit ho' (keys_size ho' hh'), fun kl zd hk => ?_, hh'⟩, hg⟩
  by_cases e : kl = .int .i64 x
  · subst e
    exact Maps.atKey_put_same hD (k := .int .i64 x) trivial _ _
  · rw [Maps.atKey_put_other e]
    rw [Maps.has_put_other e] at hk
    exact ht _ _ hk
theorem SetM.del {w : World} {b N : Nat} {p : Int → Bool} (h : SetM w b N p) (x : Int) (h0 : 0 ≤ x) (h1 : x < (N : Int)) (hN : N ≤ 1000) (ty : TypeId) :
    ∃ w', (Builtin.delete_ #[58, 3] ty #[.map (some b), .int .i64 x]).run Try.prog w = .ok (.tuple #[]) w' ∧ SetM w' b N (fun y => !(y == x) && p y) ∧ w.grownBy w' (some b) := by
  obtain ⟨D, ho, ht, hh⟩ := h
  obtain ⟨w', hrun, ho', hg⟩ := ho.drop lawM Try.underlying58 (keyM x (by omega) (by omega)) ty
  refine ⟨w', hrun, ⟨_, ho', fun kl zd hk => ?_, fun y => ?_⟩, hg.grown⟩
  · by_cases e : kl = .int .i64 x
    · subst e
      rw [Maps.has_del_same] at hk; cases hk
    · rw [Maps.has_del_other e] at hk
      rw [Maps.atKey_del_other e]
      exact ht _ _ hk
  · by_cases e : y = x
    · subst e
      rw [Maps.has_del_same]
      simp [inr]
    · rw [Maps.has_del_other (k := .int .i64 x) (k' := .int .i64 y) (by simp [e]), hh y]
      have e2 : (y == x) = false := beq_eq_false_iff_ne.2 e
      simp [inr, e2]
end Go.Proofs.Ytfpjodoimfbadaa
