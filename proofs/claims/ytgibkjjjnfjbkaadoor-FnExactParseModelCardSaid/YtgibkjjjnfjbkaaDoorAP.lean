/-
  Appending, to a list of the call's own, what another slice reads as: nil, empty or not.
-/
import Derived.Test.YtgibkjjjnfjbkaaDoorM1
import Derived.Maps.AppendAt
import Derived.Laws.OwnMore
import Derived.RegionTactic
namespace Go.Proofs.YtgibkjjjnfjbkaaDoor
open Go.RowKit
set_option linter.unusedVariables false

/-- The source: m elements, vals their cells. -/
def Src (w : World) (size : Nat) (A : Option Addr) (m c : Nat) (vals : List Value) : Prop :=
  vals.length = m * size ∧ (A = none → c = 0) ∧ (0 < m → ∃ ad, A = some ad ∧ ∀ j u, vals[j]? = some u → w.cell? (ad.add j) = some u)
section
variable {P : Program} {w : World}
theorem run_append_src {base : Nat} {t e : TypeId} (ty : TypeId) {i : TypeInfo} {z : Value} {size bytes : Nat} (ht : P.underlying t = some (.slice e)) (hi : P.info? e = some i) (hz : i.zero = some z)
    (hsize : i.size = size) (hby : i.bytes = bytes) (hzs : z.cells.size = size) (hsz : 0 < size) {v : Value} {n : Nat} {xs : List Value} (hown : w.ownsRow base e size v n xs)
    {A : Option Addr} {m c : Nat} {vals : List Value} (hs : Src w size A m c vals) (h1 : ∀ u ∈ vals, u.oneCell' = true) (h63 : n + m ≤ maxLen) (hb : (n + m) * bytes ≤ 140737488355328) (hbase : base ≤ w.heap.size) :
    ∃ v' w', (Builtin.append_ #[t, t] ty #[v, .slice A m c]).run P w = .ok v' w' ∧ w'.ownsRow base e size v' (n + m) (xs ++ vals) ∧ w.grownBy w' v.ownBlock ∧ (v'.ownBlock = v.ownBlock ∨ v'.ownBlock = some w.heap.size) := by
  obtain ⟨hl, hc, hA⟩ := hs
  cases A with
  | none =>
    have h0 : m = 0 := Nat.eq_zero_of_not_pos fun h => by obtain ⟨ad, e, _⟩ := hA h; cases e
    obtain rfl : vals = [] := List.eq_nil_of_length_eq_zero (by rw [hl, h0, Nat.zero_mul])
    rw [hc rfl, h0]
    exact ⟨v, w, run_append_owned_none (P := P) (w := w) base t ty e i size ht hi v n xs hown, by simpa using hown, World.grownBy.refl _ _, .inl rfl⟩
  | some ad =>
    have hcell : ∀ j u, vals[j]? = some u → w.cell? (ad.add j) = some u := fun j u hu => by
      by_cases h0 : m = 0
      · obtain rfl : vals = [] := List.eq_nil_of_length_eq_zero (by rw [hl, h0, Nat.zero_mul])
        simp at hu
      · obtain ⟨ad', e, h⟩ := hA (by omega)
        cases e
        exact h j u hu
    obtain ⟨v', w', hr, a1, a2, _, a3⟩ := run_append_own_at (P := P) w base t ty e i z size bytes ht hi hz hsize hby hzs hsz v n xs hown ad m c vals hl hcell h1 h63 hb hbase
    exact ⟨v', w', hr, a1, a2, a3⟩
variable {ops : Array Oper} {o : Oper} {a : Act} {Q : Exit → Act → World → Prop}
theorem wp_append_src {K : Act → World → Prop} (s x : Operand) (t : TypeId) (ho : o.op = .call { callee := .builtin .append, args := #[s, x], argTypes := #[t, t] })
    {base : Nat} {e : TypeId} {i : TypeInfo} {z : Value} {size bytes : Nat} (ht : P.underlying t = some (.slice e)) (hi : P.info? e = some i) (hz : i.zero = some z)
    (hsize : i.size = size) (hby : i.bytes = bytes) (hzs : z.cells.size = size) (hsz : 0 < size) {v : Value} {n : Nat} {xs : List Value} (hv : a.eval s = v) (hown : w.ownsRow base e size v n xs)
    {A : Option Addr} {m c : Nat} {vals : List Value} (hx : a.eval x = .slice A m c) (hs : Src w size A m c vals) (h1 : ∀ u ∈ vals, u.oneCell' = true) (h63 : n + m ≤ maxLen) (hb : (n + m) * bytes ≤ 140737488355328) (hbase : base ≤ w.heap.size)
    (h : ∀ v' w', w'.ownsRow base e size v' (n + m) (xs ++ vals) → w.grownBy w' v.ownBlock → (v'.ownBlock = v.ownBlock ∨ v'.ownBlock = some w.heap.size) → K (a.put o.dst v') w') : o.wp P a w K Q := by
  obtain ⟨v', w', hr, h2, h3, h4⟩ := run_append_src o.type ht hi hz hsize hby hzs hsz hown hs h1 h63 hb hbase
  unfold Oper.wp execOp
  simp only [ho, resolve, invoke, builtin, Sem.run_bind, Sem.run_pure, Result.andThen_ok, List.map_toArray, List.map_cons, List.map_nil, hv, hx, hr]
  exact h v' w' h2 h3 h4
theorem wpList_append_src {rest : List Oper} (hgd : o.guard = none) (s x : Operand) (t : TypeId) (ho : o.op = .call { callee := .builtin .append, args := #[s, x], argTypes := #[t, t] })
    {base : Nat} {e : TypeId} {i : TypeInfo} {z : Value} {size bytes : Nat} (ht : P.underlying t = some (.slice e)) (hi : P.info? e = some i) (hz : i.zero = some z)
    (hsize : i.size = size) (hby : i.bytes = bytes) (hzs : z.cells.size = size) (hsz : 0 < size) {v : Value} {n : Nat} {xs : List Value} (hv : a.eval s = v) (hown : w.ownsRow base e size v n xs)
    {A : Option Addr} {m c : Nat} {vals : List Value} (hx : a.eval x = .slice A m c) (hs : Src w size A m c vals) (h1 : ∀ u ∈ vals, u.oneCell' = true) (h63 : n + m ≤ maxLen) (hb : (n + m) * bytes ≤ 140737488355328) (hbase : base ≤ w.heap.size)
    (h : ∀ v' w', w'.ownsRow base e size v' (n + m) (xs ++ vals) → w.grownBy w' v.ownBlock → (v'.ownBlock = v.ownBlock ∨ v'.ownBlock = some w.heap.size) → wpList P ops Q rest (a.put o.dst v') w') : wpList P ops Q (o :: rest) a w :=
  wpList_plain hgd fun _ hK => wp_append_src s x t ho ht hi hz hsize hby hzs hsz hv hown hx hs h1 h63 hb hbase fun v' w' h2 h3 h4 => hK _ _ (h v' w' h2 h3 h4)
theorem step_append_src {K : Act → World → Prop} {E : Prop} (hgd : o.guard = none) (s x : Operand) (t : TypeId) (ho : o.op = .call { callee := .builtin .append, args := #[s, x], argTypes := #[t, t] })
    {base : Nat} {e : TypeId} {i : TypeInfo} {z : Value} {size bytes : Nat} (ht : P.underlying t = some (.slice e)) (hi : P.info? e = some i) (hz : i.zero = some z)
    (hsize : i.size = size) (hby : i.bytes = bytes) (hzs : z.cells.size = size) (hsz : 0 < size) {v : Value} {n : Nat} {xs : List Value} (hv : a.eval s = v) (hown : w.ownsRow base e size v n xs)
    {A : Option Addr} {m c : Nat} {vals : List Value} (hx : a.eval x = .slice A m c) (hs : Src w size A m c vals) (h1 : ∀ u ∈ vals, u.oneCell' = true) (h63 : n + m ≤ maxLen) (hb : (n + m) * bytes ≤ 140737488355328) (hbase : base ≤ w.heap.size)
    (h : ∀ v' w', w'.ownsRow base e size v' (n + m) (xs ++ vals) → w.grownBy w' v.ownBlock → (v'.ownBlock = v.ownBlock ∨ v'.ownBlock = some w.heap.size) → K (a.put o.dst v') w') :
    if Region.wanted o (yielded ops a.tmps) = true then Oper.wp P o a w K Q else E := by
  rw [if_pos (by simp [Region.wanted, hgd])]
  exact wp_append_src s x t ho ht hi hz hsize hby hzs hsz hv hown hx hs h1 h63 hb hbase h
end

theorem apart_row {w w' : World} {B B' e e' s s' n n' : Nat} {v v' : Value} {xs ys : List Value} (h1 : w.ownsRow B e s v n xs) (h2 : w'.ownsRow B' e' s' v' n' ys) (h : w.heap.size ≤ B') : Apart v.ownBlock v'.ownBlock := by
  cases e1 : v.ownBlock with
  | none => exact .inl rfl
  | some g =>
    refine .inr fun h4 => ?_
    have l2 := (World.ownsRow.lt h1 g e1).2
    have l4 := (World.ownsRow.lt h2 g h4.symm).1
    omega

/-! ### Lists of ints -/
theorem addr_add (b off k : Nat) : (Addr.mk b off none).add k = ⟨b, off + k, none⟩ := by
  unfold Addr.add
  split
  · rename_i h; subst h; rfl
  · rfl
theorem ints_get {xs : List Int} {j : Nat} {u : Value} (h : (ints xs)[j]? = some u) : j < xs.length ∧ u = .int .i64 (xs.getD j 0) := by
  have hj : j < xs.length := by
    rcases Nat.lt_or_ge j xs.length with h' | h'
    · exact h'
    · rw [List.getElem?_eq_none (by rw [ints_len]; exact h')] at h; cases h
  refine ⟨hj, ?_⟩
  simp [ints, hj] at h
  simp [hj, ← h]
theorem ints_ones {xs : List Int} : ∀ u ∈ ints xs, u.oneCell' = true := by
  intro u hu
  simp [ints] at hu
  obtain ⟨x, _, rfl⟩ := hu
  rfl
/-- What stands in cells one behind the other is a source. -/
theorem src_cells {w : World} {A : Option Addr} {m c : Nat} {xs : List Int} (size : Nat) (hl : xs.length = m * size) (hc : A = none → c = 0) (h : 0 < m → ∃ b off, A = some ⟨b, off, none⟩ ∧ ∀ k : Nat, k < xs.length → w.cell? ⟨b, off + k, none⟩ = some (.int .i64 (xs.getD k 0))) : Src w size A m c (ints xs) := by
  refine ⟨by rw [ints_len]; exact hl, hc, fun h0 => ?_⟩
  obtain ⟨b, off, rfl, hk⟩ := h h0
  refine ⟨_, rfl, fun j u hu => ?_⟩
  obtain ⟨hj, rfl⟩ := ints_get hu
  rw [addr_add]
  exact hk j hj
/-- One number in a block of its own. -/
theorem src_one {w : World} {b : Nat} {x : Int} (h : w.cell? ⟨b, 0, none⟩ = some (.int .i64 x)) : Src w 1 (some ⟨b, 0, none⟩) 1 1 (ints [x]) :=
  src_cells 1 rfl (fun e => by cases e) (fun _ => ⟨b, 0, rfl, fun k hk => by
    obtain rfl : k = 0 := by simpa using hk
    exact h⟩)
theorem row_app {w : World} {B : Nat} {v : Value} {xs ys : List Int} {n : Nat} (hn : n = xs.length + ys.length) (h : w.ownsRow B 3 1 v n (ints xs ++ ints ys)) : Row w B v (xs ++ ys) := by
  unfold Row
  rw [List.length_append, show ints (xs ++ ys) = ints xs ++ ints ys by simp [ints], ← hn]
  exact h
end Go.Proofs.YtgibkjjjnfjbkaaDoor
