/-
  Contracts: the greatest of some numbers, and the depths of a section, in the model; rows of a call's own that lie apart.
-/
import Derived.Test.YtmkbjkmpincogaaSX
import Derived.Test.YtmkbjkmpincogaaSG
import Derived.Test.YtmkbjkmpincogaaR1
namespace Go.Proofs.Ytmkbjkmpincogaa
open Go.RowKit
set_option linter.unusedVariables false

/-- Block k holds cells of type T. -/
def TyAt (w : World) (k : Nat) (T : TypeId) : Prop := ∃ cs fr, w.heap[k]? = some (.cells cs T fr)
theorem TyAt.lt {w : World} {k : Nat} {T : TypeId} (h : TyAt w k T) : k < w.heap.size := by
  obtain ⟨cs, fr, h⟩ := h
  exact (Array.getElem?_eq_some_iff.1 h).1
theorem TyAt.new (w : World) (cs : Array Value) (T : TypeId) : TyAt (w.alloc (.cells cs T)) w.heap.size T := ⟨cs, (0, 0), heap_alloc_new w _⟩
theorem TyAt.same {w w' : World} {k : Nat} {T : TypeId} (h : TyAt w k T) (e : w'.heap[k]? = w.heap[k]?) : TyAt w' k T := by
  obtain ⟨cs, fr, h⟩ := h
  exact ⟨cs, fr, by rw [e]; exact h⟩
theorem TyAt.below {w w' : World} {k B : Nat} {T : TypeId} (h : TyAt w k T) (hb : Below B w w') (hk : k < B) : TyAt w' k T := h.same (hb.block k hk)
theorem TyAt.grown {w w' : World} {k : Nat} {o : Option Nat} {T : TypeId} (h : TyAt w k T) (hg : w.grownBy w' o) (hk : o ≠ some k) : TyAt w' k T := h.same (hg.block k h.lt (fun e => hk e.symm))
theorem TyAt.setCell {w : World} {k : Nat} {T : TypeId} (h : TyAt w k T) (a : Addr) (u : Value) : TyAt (w.setCell a u) k T := by
  obtain ⟨cs, fr, h⟩ := h
  by_cases e : k = a.block
  · subst e
    unfold TyAt
    simp only [World.setCell, Array.getElem?_modify, if_true, h, Option.map_some]
    exact ⟨_, _, rfl⟩
  · exact ⟨cs, fr, by rw [Below.heap_setCell _ _ _ _ e]; exact h⟩
theorem own_off {w : World} {B k s n : Nat} {e T : TypeId} {v : Value} {xs : List Value} (h : w.ownsRow B e s v n xs) (ht : TyAt w k T) (hne : T ≠ e) : v.ownBlock ≠ some k := by
  obtain ⟨cs, fr, ht⟩ := ht
  intro hk
  rcases h.2 with ⟨rfl, _⟩ | ⟨g, cap, cur, rfl, hb, hg, rest⟩
  · simp [Value.ownBlock] at hk
  · simp [Value.ownBlock] at hk
    subst hk
    rw [hg] at ht
    simp at ht
    exact hne ht.2.1.symm
theorem set_grown (w : World) (a : Addr) (u : Value) : w.grownBy (w.setCell a u) (some a.block) :=
  ⟨rfl, rfl, rfl, by simp [World.setCell], fun k hk hne => Below.heap_setCell _ _ _ _ (fun e => hne (by rw [e]))⟩
theorem grown_trans {a b c : World} {o : Option Nat} (h : a.grownBy b o) (k : b.grownBy c o) : a.grownBy c o :=
  ⟨k.os.trans h.os, k.tape.trans h.tape, k.output.trans h.output, Nat.le_trans h.size k.size, fun i hi hne => (k.block i (Nat.lt_of_lt_of_le hi h.size) hne).trans (h.block i hi hne)⟩

def upd {α : Type} (f : Nat → α) (i : Nat) (x : α) : Nat → α := fun j => if j = i then x else f j
theorem upd_same {α : Type} (f : Nat → α) (i : Nat) (x : α) : upd f i x i = x := by simp [upd]
theorem upd_far {α : Type} (f : Nat → α) {i j : Nat} (x : α) (h : j ≠ i) : upd f i x j = f j := by simp [upd, h]

/-- The slices vs 0 .. vs (N - 1) are rows xs 0 .. of the call's own, apart from each other. -/
structure Fam (w : World) (B N : Nat) (vs : Nat → Value) (xs : Nat → List Int) : Prop where
  row : ∀ i, i < N → Row w B (vs i) (xs i)
  apart : ∀ i j, i < N → j < N → i ≠ j → Apart (vs i).ownBlock (vs j).ownBlock
theorem Fam.below {w w' : World} {B N : Nat} {vs : Nat → Value} {xs : Nat → List Int} (h : Fam w B N vs xs) (hb : Below w.heap.size w w') : Fam w' B N vs xs :=
  ⟨fun i hi => (h.row i hi).below hb, h.apart⟩
theorem Fam.congr {w : World} {B N : Nat} {vs : Nat → Value} {xs ys : Nat → List Int} (h : Fam w B N vs xs) (e : ∀ i, i < N → xs i = ys i) : Fam w B N vs ys :=
  ⟨fun i hi => by rw [← e i hi]; exact h.row i hi, h.apart⟩
theorem Fam.far {w w' : World} {B N k : Nat} {T : TypeId} {vs : Nat → Value} {xs : Nat → List Int} (h : Fam w B N vs xs) (ht : TyAt w k T) (hT : T ≠ 3) (hg : w.grownBy w' (some k)) : Fam w' B N vs xs :=
  ⟨fun i hi => World.ownsRow.kept (h.row i hi) hg (.inr (own_off (h.row i hi) ht hT)), h.apart⟩
/-- One row has turned in its place. -/
theorem Fam.turn {w w' : World} {B N i : Nat} {vs : Nat → Value} {xs : Nat → List Int} {ys : List Int} (h : Fam w B N vs xs) (hi : i < N) (hr : Row w' B (vs i) ys) (hg : w.grownBy w' (vs i).ownBlock) : Fam w' B N vs (upd xs i ys) :=
  ⟨fun j hj => by
    by_cases e : j = i
    · subst e; rw [upd_same]; exact hr
    · rw [upd_far _ _ e]; exact World.ownsRow.kept (h.row j hj) hg (h.apart j i hj hi e), h.apart⟩
/-- One row has grown, in its place or in a new block. -/
theorem Fam.app {w w' : World} {B N i : Nat} {vs : Nat → Value} {xs : Nat → List Int} {v' : Value} {ys : List Int} (h : Fam w B N vs xs) (hi : i < N) (hr : Row w' B v' ys) (hg : w.grownBy w' (vs i).ownBlock) (ho : (vs i).ownBlock = v'.ownBlock ∨ v'.ownBlock = some w.heap.size) : Fam w' B N (upd vs i v') (upd xs i ys) := by
  have hrow : ∀ j, j < N → Row w' B (upd vs i v' j) (upd xs i ys j) := fun j hj => by
    by_cases e : j = i
    · subst e; rw [upd_same, upd_same]; exact hr
    · rw [upd_far _ _ e, upd_far _ _ e]; exact World.ownsRow.kept (h.row j hj) hg (h.apart j i hj hi e)
  have key : ∀ j, j < N → j ≠ i → Apart (vs j).ownBlock v'.ownBlock := fun j hj hne => by
    rcases ho with ho | ho
    · rw [← ho]; exact h.apart j i hj hi hne
    · cases e : (vs j).ownBlock with
      | none => exact .inl rfl
      | some k =>
        refine .inr fun e' => ?_
        have := (World.ownsRow.lt (h.row j hj) k e).2
        rw [ho] at e'
        simp at e'
        omega
  refine ⟨hrow, fun a b ha hb hne => ?_⟩
  by_cases ea : a = i
  · subst ea
    rw [upd_same, upd_far _ _ (Ne.symm hne)]
    exact (key b hb (Ne.symm hne)).symm
  · rw [upd_far _ _ ea]
    by_cases eb : b = i
    · subst eb; rw [upd_same]; exact key a ha hne
    · rw [upd_far _ _ eb]; exact h.apart a b ha hb hne

set_option maxHeartbeats 2000000 in
theorem c_seMost (xs : List Int) (v : Value) (lo hi : Int) (Lo K : Nat) (w : World) (hl : xs.length ≤ 1000) (h0 : max lo 0 = (Lo : Int)) (h1 : Lo + K < xs.length) (h2 : ((Lo + K : Nat) : Int) ≤ hi) (h3 : Lo + K + 1 = xs.length ∨ hi = ((Lo + K : Nat) : Int)) (h : Seen w v xs) :
    Calls Try.prog 80 #[v, .int .i64 lo, .int .i64 hi] w fun e w' => e = .returned (.int .i64 (maxF (fun i => xs.getD i 0) Lo K)) ∧ w = w' := by
  obtain ⟨A, c, rfl, _, hA⟩ := h
  obtain ⟨b, off, rfl, hb, hc⟩ := hA (by omega)
  have E1 : Hid (∀ k : Nat, k < xs.length → w.cell? ⟨b, off + k, none⟩ = some (.int .i64 (xs.getD k 0))) := hc
  have ES : Hid (∀ k, maxF (fun i => xs.getD i 0) Lo (k + 1 - 1) = max (maxF (fun i => xs.getD i 0) Lo (k - 1)) (xs.getD (Lo + k) 0)) := fun k => by
    cases k with
    | zero => simp [maxF]
    | succ k => simp only [Nat.add_sub_cancel]; rfl
  have E0 : Hid (maxF (fun i => xs.getD i 0) Lo 0 = xs.getD Lo 0) := rfl
  have q0 := E1.out Lo (by omega)
  rw [← E0.out] at q0
  have H0 := Lib.hid h0
  clear hA hc h0
  obtain ⟨R, hR⟩ : ∃ R, maxF (fun i => xs.getD i 0) Lo K = R := ⟨_, rfl⟩
  rw [hR]
  have HR := Lib.hid hR
  clear hR
  generalize maxF (fun i => xs.getD i 0) Lo = F at *
  generalize xs.length = n at *
  have c1 : (0 : Int) ≤ (Lo : Int) := by omega
  have c2 : (Lo : Int) < (n : Int) := by omega
  go_enter Try.func80, Try.ntmps80
  go_wp2_with fail
  refine (c_l1MostE _ _ _).mono ?_
  rintro e w1 ⟨rfl, rfl⟩
  rw [H0.out]
  go_wp2_with fail
  refine (c_l1MostE _ _ _).mono ?_
  rintro e w2 ⟨rfl, rfl⟩
  rw [H0.out]
  go_wp2_with fail
  clear q0
  go_loop [7, 8] (fun q i => ∃ k : Nat, k ≤ K + 1 ∧ i = .int .i64 ((Lo : Int) + (k : Int)) ∧ q = .int .i64 (F (k - 1))) (fun _ i => 2000 - (intOf i).toNat)
  case atStart => exact ⟨0, by omega, by simp, rfl⟩
  case round =>
    obtain ⟨k, hk, rfl, rfl⟩ := hrel
    by_cases hlt : k ≤ K
    · have q1 := E1.out (Lo + k) (by omega)
      have X := Lib.hid (ES.out k)
      generalize xs.getD (Lo + k) 0 = t at *
      have b1 : (0 : Int) ≤ (Lo : Int) + (k : Int) := by omega
      have b2 : (Lo : Int) + (k : Int) < (n : Int) := by omega
      have b3 : (Lo : Int) + (k : Int) ≤ hi := by omega
      have b5 : ((Lo : Int) + (k : Int)).toNat = Lo + k := by omega
      go_wp2_with fail
      refine (c_l1MostE _ _ _).mono ?_
      rintro e w3 ⟨rfl, rfl⟩
      rw [← X.out]
      go_wp2
      go_round
      case rel => exact ⟨k + 1, by omega, by go_num, rfl⟩
      case measure => simp [intOf]; omega
    · obtain rfl : k = K + 1 := by omega
      rw [show K + 1 - 1 = K from rfl, HR.out]
      by_cases hh : (Lo : Int) + ((K + 1 : Nat) : Int) ≤ hi
      · have b2 : ¬ (Lo : Int) + ((K + 1 : Nat) : Int) < (n : Int) := by omega
        go_wp2
        go_ret
        exact ⟨rfl, rfl⟩
      · go_wp2
        go_ret
        exact ⟨rfl, rfl⟩

set_option maxHeartbeats 2000000 in
theorem c_seFull (xss : List (List Int)) (n D : Nat) (v : Value) (w : World) (S : Sec xss n D) (h : SeenL w v xss) :
    Calls Try.prog 53 #[v] w (GivesRow w (List.replicate n (D : Int))) := by
  obtain ⟨A, c, rfl, hm⟩ := h.shape
  have ECol : Hid (∀ k : Nat, k < n → ∃ b off A' c', A = some ⟨b, off, none⟩ ∧ b < w.heap.size ∧ w.cell? ⟨b, off + k, none⟩ = some (.slice A' D c')) := fun k hk => by
    obtain ⟨b, off, A', c', e, h1, _⟩ := h.col (k := k) (by rw [S.len]; exact hk)
    rw [S.col k hk] at h1
    exact ⟨b, off, A', c', e, lt_of_cell h1, h1⟩
  have n2 := S.n2
  have m2 := S.d2
  rw [S.len]
  have EU : Hid (∀ k, List.replicate k (D : Int) ++ [(D : Int)] = List.replicate (k + 1) (D : Int)) := fun k => by rw [List.replicate_succ']
  have EL : Hid (∀ k, (List.replicate k (D : Int)).length = k) := fun k => by simp
  have E0 : Hid (List.replicate 0 (D : Int) = []) := rfl
  obtain ⟨i0, hi0, hz0, hz1, hz2⟩ := info_parts int_info
  have HI := Lib.hid hi0
  clear hi0 S h hm
  obtain ⟨U, hU⟩ : ∃ U : Nat → List Int, U = fun k => List.replicate k (D : Int) := ⟨_, rfl⟩
  have hU' : ∀ k, List.replicate k (D : Int) = U k := fun k => by rw [hU]
  simp only [hU'] at EU EL E0 ⊢
  clear hU hU'
  go_enter Try.func53, Try.ntmps53
  go_wp2_with fail
  go_loopw [3, 8] (fun q i wr => ∃ k : Nat, k ≤ n ∧ i = .int .i64 k ∧ Row wr w.heap.size q (U k) ∧ Below w.heap.size w wr) (fun _ i _ => n - (intOf i).toNat)
  case atStart => exact ⟨0, Nat.zero_le _, rfl, by rw [E0.out]; exact Row.nil _ _, Below.refl _ _⟩
  case round =>
    obtain ⟨k, hk, rfl, hr, hb⟩ := hrel
    have HR := Lib.hid hr
    have HB := Lib.hid hb
    clear hr hb
    by_cases hlt : k < n
    · obtain ⟨bb, off, A', c', rfl, hbl, q1⟩ := ECol.out k hlt
      rw [← HB.out.cell (p := ⟨bb, off + k, none⟩) hbl] at q1
      have b1 : (0 : Int) ≤ (k : Int) := by omega
      have b2 : (k : Int) < (n : Int) := by omega
      have hL := EL.out k
      have hU2 := Lib.hid (EU.out k)
      have sw := HB.out.size
      go_wp2_with (at_builtin; refine wpList_append_own _ rfl _ _ 27 rfl (w.heap.size) 3 i0 (.int .i64 0) 1 8 Try.underlying27 HI.out hz0 hz1 hz2 rfl (by decide) _ _ _ rfl (World.ownsRow.alloc HR.out _) ⟨wr.heap.size, 0, none⟩ 1 1 [.int .i64 (D : Int)] rfl rfl (new_cell wr _ _) (by intro u hu; simp at hu; subst hu; rfl) (by unfold maxLen; omega) (by omega) (by simp; omega) ?_)
      intro v' w4 hown' hgrow _
      have R1 : Hid (Row w4 w.heap.size v' (U (k + 1))) := by rw [← hU2.out]; exact row_at hown' (by rw [hL])
      have R2 : Hid (Below w.heap.size w w4) := (HB.out.alloc sw _).grown hgrow (by simp; omega) (fun g hg => (World.ownsRow.lt HR.out g hg).1)
      clear hown' hgrow
      go_wp2
      go_roundw
      case rel => exact ⟨k + 1, by omega, by go_num, R1.out, R2.out⟩
      case measure => simp [intOf]; omega
    · obtain rfl : k = n := by omega
      go_wp2
      go_ret
      exact ⟨_, rfl, HR.out, HB.out⟩
end Go.Proofs.Ytmkbjkmpincogaa
