/-
  A queue: a slice in the midst of its block, taken from in front and appended to.
-/
import Derived.Test.YtdgkgnlilcbggaaZF
import Derived.Test.YtdgkgnlilcbggaaZP
import Derived.Deep.AppendSrc
namespace Go.Proofs.Ytdgkgnlilcbggaa
open Go.RowKit
set_option linter.unusedVariables false

/-- The slice v is a queue of the integers xs, in a block from B on. -/
def RowQ (w : World) (B : Nat) (v : Value) (xs : List Int) : Prop :=
  ∃ g off cap, v = .slice (some ⟨g, off, none⟩) xs.length cap ∧ B ≤ g ∧ g < w.heap.size ∧ xs.length ≤ cap ∧ cap ≤ maxLen ∧ (∀ k, k < xs.length → w.cell? ⟨g, off + k, none⟩ = some (.int .i64 (xs.getD k 0))) ∧ (∀ k, k < cap → (w.cell? ⟨g, off + k, none⟩).isSome = true) ∧ (∀ k, k < cap → w.frozen? ⟨g, off + k, none⟩ = false)
theorem RowQ.kept {w w' : World} {B : Nat} {v : Value} {xs : List Int} {o : Option Nat} (h : RowQ w B v xs) (hg : w.grownBy w' o) (hne : v.ownBlock ≠ o) : RowQ w' B v xs := by
  obtain ⟨g, off, cap, rfl, h1, h2, h3, h4, h5, h6, h7⟩ := h
  have hn : some g ≠ o := hne
  have hb := hg.block g h2 hn
  refine ⟨g, off, cap, rfl, h1, Nat.lt_of_lt_of_le h2 hg.size, h3, h4, fun k hk => ?_, fun k hk => ?_, fun k hk => ?_⟩
  · rw [World.cell?_of_block (w := w) (a := ⟨g, off + k, none⟩) hb]; exact h5 k hk
  · rw [World.cell?_of_block (w := w) (a := ⟨g, off + k, none⟩) hb]; exact h6 k hk
  · rw [World.frozen?_of_block (w := w) (a := ⟨g, off + k, none⟩) hb]; exact h7 k hk
theorem RowQ.below {w w' : World} {B : Nat} {v : Value} {xs : List Int} (h : RowQ w B v xs) (hb : Below w.heap.size w w') : RowQ w' B v xs := by
  refine h.kept (o := none) ⟨hb.os, hb.tape, hb.output, hb.size, fun k hk _ => hb.block k hk⟩ ?_
  obtain ⟨g, off, cap, rfl, _⟩ := h
  simp [Value.ownBlock]
theorem Row.queue {w : World} {B : Nat} {v : Value} {xs : List Int} (h : Row w B v xs) (h0 : 0 < xs.length) : RowQ w B v xs := by
  rcases h.2 with ⟨_, e⟩ | ⟨g, cap, cur, rfl, hb, hg, hn, hm, hs, ht⟩
  · omega
  · refine ⟨g, 0, cap, rfl, hb, (Array.getElem?_eq_some_iff.1 hg).1, hn, hm, fun k hk => by rw [Nat.zero_add]; exact h.cell k hk, fun k hk => ?_, fun k hk => ?_⟩
    · rw [Nat.zero_add]
      have : k < cur.size := by omega
      simp [World.cell?, hg, this]
    · rw [Nat.zero_add]; exact h.frozen k
/-- The first is taken. -/
theorem RowQ.tail {w : World} {B g off n cap : Nat} {x : Int} {xs : List Int} (h : RowQ w B (.slice (some ⟨g, off, none⟩) n cap) (x :: xs)) (hn : n = xs.length + 1) : (cap = 1 → RowQ w B (.slice (some ⟨g, off, none⟩) (n - 1) (cap - 1)) xs) ∧ RowQ w B (.slice (some ⟨g, off + 1, none⟩) (n - 1) (cap - 1)) xs := by
  subst hn
  obtain ⟨g', off', cap', e, h1, h2, h3, h4, h5, h6, h7⟩ := h
  simp at e
  obtain ⟨⟨rfl, rfl⟩, rfl⟩ := e
  simp at h3
  refine ⟨fun hc => ?_, ?_⟩
  · have h0 : xs = [] := List.eq_nil_of_length_eq_zero (by omega)
    subst h0
    subst hc
    exact ⟨g, off, 0, rfl, h1, h2, by simp, by omega, fun k hk => by simp at hk, fun k hk => by omega, fun k hk => by omega⟩
  · refine ⟨g, off + 1, cap - 1, by simp, h1, h2, by omega, by omega, fun k hk => ?_, fun k hk => ?_, fun k hk => ?_⟩
    · have := h5 (k + 1) (by simp; omega)
      rw [show off + 1 + k = off + (k + 1) by omega, this]
      simp
    · rw [show off + 1 + k = off + (k + 1) by omega]; exact h6 (k + 1) (by omega)
    · rw [show off + 1 + k = off + (k + 1) by omega]; exact h7 (k + 1) (by omega)

theorem run_append_queue {w : World} {B : Nat} {v : Value} {xs : List Int} {x : Int} {b c : Nat} {t ty e : TypeId} {i : TypeInfo} (ht : Try.prog.underlying t = some (.slice e)) (he : e = 3) (hi : Try.prog.info? e = some i) (hz : i.zero = some (.int .i64 0)) (hs : i.size = 1) (hby : i.bytes = 8) (h : RowQ w B v xs) (hB : B ≤ w.heap.size) (hl : xs.length ≤ 4000000) (hc : w.cell? ⟨b, 0, none⟩ = some (.int .i64 x)) :
    ∃ v' w', (Builtin.append_ #[t, t] ty #[v, .slice (some ⟨b, 0, none⟩) 1 c]).run Try.prog w = .ok v' w' ∧ RowQ w' B v' (xs ++ [x]) ∧ w.grownBy w' v.ownBlock := by
  obtain ⟨g, off, cap, rfl, h1, h2, h3, h4, h5, h6, h7⟩ := h
  have hsrc : _root_.Go.Src Try.prog i.size t (.slice (some ⟨b, 0, none⟩) 1 c) 1 [.int .i64 x] w := _root_.Go.Src.ofSlice w ht ⟨b, 0, none⟩ 1 c [.int .i64 x] (by rw [hs]; rfl) (fun j u hj => by
    match j, hj with
    | 0, hj => simp at hj; subst hj; simpa [Addr.add] using hc) (fun u hu => by simp at hu; subst hu; rfl)
  by_cases hr : xs.length + 1 ≤ cap
  · have hrun := run_append_room_src (P := Try.prog) w t t ty e i ht hi g off xs.length cap (.slice (some ⟨b, 0, none⟩) 1 c) 1 [.int .i64 x] hsrc hr (fun j hj => by
      have : j = 0 := by simpa using hj
      subst this
      rw [hs, Nat.mul_one, Nat.add_zero]; exact h6 _ (by omega)) (fun j hj => by
      have : j = 0 := by simpa using hj
      subst this
      rw [hs, Nat.mul_one, Nat.add_zero]; exact h7 _ (by omega))
    rw [hs, Nat.mul_one] at hrun
    have hw : w.setCells g (off + xs.length) [.int .i64 x] = w.setCell ⟨g, off + xs.length, none⟩ (.int .i64 x) := rfl
    rw [hw] at hrun
    have hsame : ∀ k, k ≠ xs.length → (w.setCell ⟨g, off + xs.length, none⟩ (.int .i64 x)).cell? ⟨g, off + k, none⟩ = w.cell? ⟨g, off + k, none⟩ := fun k hk => by
      have hne : (⟨g, off + xs.length, none⟩ : Addr) ≠ ⟨g, off + k, none⟩ := fun e => by have := congrArg Addr.off e; simp at this; omega
      first
        | exact World.cell?_setCell_other _ _ _ _ hne
        | exact World.cell?_setCell_other _ _ _ hne
    obtain ⟨u, hu⟩ := Option.isSome_iff_exists.1 (h6 xs.length (by omega))
    have hnew := World.cell?_setCell_same w ⟨g, off + xs.length, none⟩ (.int .i64 x) hu
    refine ⟨_, _, hrun, ⟨g, off, cap, by simp, h1, by simpa [World.setCell] using h2, by simpa using hr, h4, fun k hk => ?_, fun k hk => ?_, fun k hk => by rw [World.frozen?_setCell]; exact h7 k hk⟩, set_grown w ⟨g, off + xs.length, none⟩ (.int .i64 x)⟩
    · rw [List.length_append, List.length_singleton] at hk
      rw [getD_snoc]
      by_cases e : k = xs.length
      · subst e; rw [if_neg (by omega), if_pos rfl]; exact hnew
      · rw [hsame k e, if_pos (by omega)]; exact h5 k (by omega)
    · by_cases e : k = xs.length
      · subst e; rw [hnew]; rfl
      · rw [hsame k e]; exact h6 k hk
  · have hold := run_firstCells_some (P := Try.prog) w.drew i.size xs.length ⟨g, off, none⟩ xs.length cap (ints xs) (by rw [hs, Nat.mul_one, ints_len]) (fun j u hj => by
      have hjl : j < xs.length := by
        have := (List.getElem?_eq_some_iff.1 hj).1
        rwa [ints_len] at this
      have e1 : (⟨g, off, none⟩ : Addr).add j = ⟨g, off + j, none⟩ := by
        unfold Addr.add
        split <;> simp_all
      have e2 : (ints xs)[j]? = some (.int .i64 (xs.getD j 0)) := by simp [ints, hjl]
      rw [e2] at hj
      rw [e1]
      show w.cell? ⟨g, off + j, none⟩ = some u
      rw [h5 j hjl]; exact hj)
    have hrun := run_append_grow_src (P := Try.prog) w t t ty e i (.int .i64 0) ht hi hz (some ⟨g, off, none⟩) xs.length cap (ints xs) hold (.slice (some ⟨b, 0, none⟩) 1 c) 1 [.int .i64 x] hsrc (by omega) (by omega) (by rw [hby]; exact growslice_fits (by omega) (by omega))
    have hge := grownCap_ge w (xs.length + 1) cap e
    have hcm : grownCap w (xs.length + 1) cap e ≤ maxLen := grownCap_le_maxLen w (xs.length + 1) cap e (by unfold maxLen; omega)
    have hlen : (ints xs ++ [Value.int .i64 x]).length = xs.length + 1 := by simp [ints]
    have hown : (w.drew.alloc (.cells ((ints xs ++ [Value.int .i64 x]).toArray ++ Builtin.zeroCells (Value.int .i64 0).cells (grownCap w (xs.length + 1) cap e - (xs.length + 1))) e)).ownsRow B e 1 (.slice (some ⟨w.heap.size, 0, none⟩) (xs.length + 1) (grownCap w (xs.length + 1) cap e)) (xs.length + 1) (ints xs ++ [Value.int .i64 x]) := by
      refine ⟨by rw [hlen, Nat.mul_one], .inr ⟨w.heap.size, _, _, rfl, hB, heap_alloc_new w.drew _, hge, hcm, ?_, ?_⟩⟩
      · rw [Array.size_append, size_zeroCells, List.size_toArray, hlen]
        show xs.length + 1 + (grownCap w (xs.length + 1) cap e - (xs.length + 1)) * 1 = _
        omega
      · rw [Array.toList_append, Nat.mul_one, ← hlen]
        exact List.take_left
    subst he
    have hrow := row_one hown rfl
    exact ⟨_, _, hrun, by
      have := hrow.queue (by simp)
      simpa using this, ⟨rfl, rfl, rfl, by simp, fun k hk _ => Below.heap_alloc w.drew _ k hk⟩⟩

theorem wpList_append_queue {w : World} {ops : Array Oper} {rest : List Oper} {o : Oper} {a : Act} {Q : Exit → Act → World → Prop} (hgd : o.guard = none) (s y : Operand) (ho : o.op = .call { callee := .builtin .append, args := #[s, y], argTypes := #[23, 23] })
    {i : TypeInfo} (hi : Try.prog.info? 3 = some i) (hz : i.zero = some (.int .i64 0)) (hs : i.size = 1) (hby : i.bytes = 8) {B b c : Nat} {v : Value} {xs : List Int} {x : Int} (hv : a.eval s = v) (hy : a.eval y = .slice (some ⟨b, 0, none⟩) 1 c) (h : RowQ w B v xs) (hB : B ≤ w.heap.size) (hl : xs.length ≤ 4000000) (hc : w.cell? ⟨b, 0, none⟩ = some (.int .i64 x))
    (k : ∀ v' w', RowQ w' B v' (xs ++ [x]) → w.grownBy w' v.ownBlock → wpList Try.prog ops Q rest (a.put o.dst v') w') : wpList Try.prog ops Q (o :: rest) a w :=
  wpList_plain hgd fun _ hK => by
    obtain ⟨v', w', hr, h2, h3⟩ := run_append_queue (ty := o.type) (c := c) Try.underlying23 rfl hi hz hs hby h hB hl hc
    unfold Oper.wp execOp
    simp only [ho, resolve, invoke, builtin, Sem.run_bind, Sem.run_pure, Result.andThen_ok, List.map_toArray, List.map_cons, List.map_nil, hv, hy, hr]
    exact hK _ _ (k v' w' h2 h3)
end Go.Proofs.Ytdgkgnlilcbggaa
