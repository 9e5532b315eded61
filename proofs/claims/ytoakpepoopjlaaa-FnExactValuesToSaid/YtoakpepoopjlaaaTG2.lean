/-
Contracts: PitsTo, in the program.
Contract: a list of n times a rune by slices.Repeat.
Contracts: growth's marks, in the program.
Contracts: FirstFactors, ShellsOf and ChangesOf, in the program.
Contracts: FirstFactors, in the program.
Contracts: ShellsOf, in the program.
Contracts: ChangesOf, in the program.
The law of GR where the assignment to the loop's left sides makes memory.
Contracts: ValuesTo, in the program.
Contracts: NearestPit, in the program.
Contracts: ValuesTo and NearestPit of the model; two lists compared, the amount of a number.
Contracts: ChangesOf, FirstFactors and ShellsOf of the model.
Contracts: FirstFactors of the model.
Contracts: ShellsOf of the model.
-/
import Derived.RangeFuncBox
import Derived.Test.YtoakpepoopjlaaaTG1
import Derived.Test.YtoakpepoopjlaaaTD
import Derived.Test.YtoakpepoopjlaaaR1
import Derived.Laws.CopyOwn
import Derived.BigRegion
import Derived.Shelf.RegionOpen
import Derived.Test.YtoakpepoopjlaaaZL
import Derived.Deep.RegionHeld3
import Derived.Test.YtoakpepoopjlaaaAP
namespace Go.Proofs.Ytoakpepoopjlaaa
open Go.RowKit
set_option linter.unusedVariables false
attribute [local go_sem] Oper.semAt_some

theorem own_calm {w w' : World} {B s n : Nat} {e : TypeId} {v : Value} {xs : List Value} {row : Option Nat} (h : w.ownsRow B e s v n xs) (hg : w.grownBy w' row) (hr : ∀ r, row = some r → ∃ o : Obj, w.heap[r]? = some o ∧ o.isCells = false) : w'.ownsRow B e s v n xs := by
  refine own_stays h fun k hk => hg.block k (World.ownsRow.lt h k hk).2 fun e => ?_
  obtain ⟨o, ho, hc⟩ := hr k e.symm
  obtain ⟨g, cap, cur, rfl, _, hg', _⟩ := h.2.resolve_left (fun hn => by rw [hn.1] at hk; simp [Value.ownBlock] at hk)
  simp [Value.ownBlock] at hk
  subst hk
  rw [hg'] at ho
  simp at ho
  rw [← ho] at hc
  cases hc
theorem Rows.calm {w w' : World} {B U : Nat} {v : Value} {xss : List (List Int)} {row : Option Nat} (h : Rows w B U v xss) (hg : w.grownBy w' row) (hr : ∀ r, row = some r → ∃ o : Obj, w.heap[r]? = some o ∧ o.isCells = false) : Rows w' B U v xss := by
  obtain ⟨vs, h⟩ := h
  exact ⟨vs, h.len, own_calm h.own hg hr, h.top, fun i hi => own_calm (h.row i hi) hg hr, h.rtop, h.apart⟩
theorem boxed_calm {w w' : World} {b : Nat} {t : TypeId} {v : Value} {row : Option Nat} (h : Boxed w b t v) (hg : w.grownBy w' row) (hr : ∀ r, row = some r → ∃ o : Obj, w.heap[r]? = some o ∧ o.isCells = false) : Boxed w' b t v := by
  refine h.kept hg fun e => ?_
  obtain ⟨o, ho, hc⟩ := hr b e.symm
  have h' : w.heap[b]? = some (.cells #[v] t (0, 0)) := h
  rw [h'] at ho
  simp at ho
  rw [← ho] at hc
  cases hc
theorem mk_lists (w : World) (n : Nat) (hn : n ≤ 1000) : (Instr.makeSlice 29 (.int .i64 (n : Int)) (.int .i64 (n : Int))).run Try.prog w = .ok (.slice (some ⟨w.heap.size, 0, none⟩) n n) (w.alloc (.cells (madeCells #[.slice none 0 0] n) 22)) := by
  obtain ⟨i0, hi0, hz0, hz1, hz2⟩ := info_parts list_info
  have := run_make (P := Try.prog) w 29 22 i0 (.slice none 0 0) Try.underlying29 hi0 hz0 .i64 .i64 (n : Int) (n : Int) (by omega) (by omega) (by rw [hz2]; omega) (by omega)
  simpa [hz1, Value.cells] using this

theorem rows_up {w : World} {B U U' : Nat} {v : Value} {xss : List (List Int)} (h : Rows w B U v xss) (hU : U ≤ U') : Rows w B U' v xss := by
  obtain ⟨vs, h⟩ := h
  exact ⟨vs, h.len, h.own, fun k e => Nat.lt_of_lt_of_le (h.top k e) hU, h.row, fun i k hi e => Nat.lt_of_lt_of_le (h.rtop i k hi e) hU, h.apart⟩
/-- What the loop of PitsTo keeps. -/
def KeepTo (w : World) (b g M : Nat) (O : List (List Int)) (s : Nat × Nat) (W : World) : Prop :=
  Rows W w.heap.size s.2 (.slice (some ⟨g, 0, none⟩) (M + 1) (M + 1)) (stg O s.1) ∧ Boxed W b 29 (.slice (some ⟨g, 0, none⟩) (M + 1) (M + 1)) ∧ w.heap.size ≤ s.2 ∧ s.2 ≤ W.heap.size ∧ Below w.heap.size w W
theorem KeepTo.own (w : World) (b g M B : Nat) (O : List (List Int)) (hB : w.heap.size ≤ B) : OwnFrom B (KeepTo w b g M O) := fun s X Y row h hg hr =>
  ⟨h.1.calm hg (fun r e => (hr r e).2), boxed_calm h.2.1 hg (fun r e => (hr r e).2), h.2.2.1, Nat.le_trans h.2.2.2.1 hg.size, h.2.2.2.2.grown hg h.2.2.2.2.size (fun k e => by have := (hr k e).1; omega)⟩

set_option maxHeartbeats 8000000 in
set_option maxRecDepth 100000 in
theorem c_PitsTo (xss : List (List Int)) (gs cs : List Int) (m : Int) (v u t : Value) (w : World) (hs : ShortL xss) (l1 : gs.length ≤ 4000000) (l2 : cs.length ≤ 4000000) (h : SeenL w v xss) (hu : Seen w u gs) (ht : Seen w t cs) :
    Calls Try.prog 28 #[v, u, t, .int .i64 m] w (GivesRows2 w (toA xss gs cs m) (asB xss gs cs m)) := by
  have CV : Hid (∀ w1, Below w.heap.size w w1 → Calls Try.prog 53 #[.agg #[v, u, t, .int .i64 m]] w1 fun e w' => e = .returned (.bool (asB xss gs cs m)) ∧ Below w1.heap.size w1 w') := fun w1 hb => c_isValid xss gs cs m v u t w1 hs l1 l2 (h.below hb) (hu.below hb) (ht.below hb)
  have HB0 : Hid (Below w.heap.size w (w.alloc (.cells #[v, u, t, .int .i64 m] 51))) := (Below.refl _ _).alloc (Nat.le_refl _) _
  cases hA : asB xss gs cs m
  · have e1 : toA xss gs cs m = [] := by unfold toA; rw [hA]; rfl
    rw [e1]
    rw [hA] at CV
    obtain ⟨A, c, rfl, hm⟩ := h.shape
    obtain ⟨A2, c2, rfl⟩ := hu.shape
    obtain ⟨A3, c3, rfl⟩ := ht.shape
    clear h hu ht hs l1 l2 hm hA e1
    generalize xss.length = n at *
    generalize gs.length = n2 at *
    generalize cs.length = n3 at *
    go_enter Try.func28, Try.ntmps28
    go_wp2_with fail
    refine (CV.out _ HB0.out).mono ?_
    rintro e w1 ⟨rfl, hb⟩
    have HB1 : Hid (Below w.heap.size w w1) := HB0.out.trans (hb.mono HB0.out.size)
    clear hb
    go_wp2
    go_ret2
    exact ⟨_, rfl, Rows.nil _ _ _, HB1.out⟩
  · have K := Asked.of hA
    obtain ⟨M, rfl⟩ := Int.eq_ofNat_of_zero_le K.f0
    have e1 : toA xss gs cs M = ptsL xss gs cs (M + 1) := by unfold toA; rw [hA]; rfl
    rw [e1]
    rw [hA] at CV
    have M1 : M ≤ 60 := by have := K.f1; omega
    have HT : Hid (∀ w1, Below w.heap.size w w1 → Tells Fence.wide 9 Try.prog 54 (.agg #[v, u, t, .int .i64 M]) w.heap.size (PitRow (ptF xss gs cs)) (M + 1) w1) := fun w1 hb => c_pits xss gs cs M v u t w w1 9 (by omega) hs K hA hb h hu ht
    have OL : Hid ((ptsL xss gs cs (M + 1)).length = M + 1) := pts_len xss gs cs _
    have OA : Hid (∀ f, f < M + 1 → (ptsL xss gs cs (M + 1)).getD f [] = ptF xss gs cs f) := fun f hf => pts_at hf
    obtain ⟨A, c, rfl, hm⟩ := h.shape
    obtain ⟨A2, c2, rfl⟩ := hu.shape
    obtain ⟨A3, c3, rfl⟩ := ht.shape
    clear h hu ht hs l1 l2 hm hA e1 K
    generalize xss.length = n at *
    generalize gs.length = n2 at *
    generalize cs.length = n3 at *
    generalize ptsL xss gs cs (M + 1) = O at *
    generalize ptF xss gs cs = P at *
    have HX0 : Hid ((w.alloc (.cells #[.slice A n c, .slice A2 n2 c2, .slice A3 n3 c3, .int .i64 M] 51)).heap[w.heap.size]? = some (.cells #[.slice A n c, .slice A2 n2 c2, .slice A3 n3 c3, .int .i64 M] 51 (0, 0))) := World.alloc_heap_new _ _
    have e2 : IntKind.i64.wrap ((M : Int) + 1) = (M : Int) + 1 := IntWalk.i64_in _ (by omega)
    refine (callsIn_wide (n := 10)).1 ?_
    refine callsIn_of_wp_marks Try.func28 rfl trivial ?_ rfl
    simp only [Try.ntmps28, List.size_toArray, List.length_cons, List.length_nil, Nat.reduceAdd, Nat.reduceSub, Array.replicate_succ, Array.replicate_zero, List.push_toArray, List.append_toArray, List.nil_append, List.cons_append]
    gi_wp2_with fail
    refine ⟨trivial, ?_⟩
    refine (callsIn_wide.2 (CV.out _ HB0.out)).mono ?_
    rintro e w1 ⟨rfl, hb⟩
    have HB1 : Hid (Below w.heap.size w w1) := HB0.out.trans (hb.mono HB0.out.size)
    have HX1 : Hid (w1.heap[w.heap.size]? = some (.cells #[.slice A n c, .slice A2 n2 c2, .slice A3 n3 c3, .int .i64 M] 51 (0, 0))) := (hb.block _ (by simp)).trans HX0.out
    have hz1 : w.heap.size < w1.heap.size := (Array.getElem?_eq_some_iff.1 HX1.out).1
    have x0 : w1.cell? ⟨w.heap.size, 0, none⟩ = some (.slice A n c) := by have := HX1.out; simp [World.cell?, this]
    have x1 : w1.cell? ⟨w.heap.size, 1, none⟩ = some (.slice A2 n2 c2) := by have := HX1.out; simp [World.cell?, this]
    have x2 : w1.cell? ⟨w.heap.size, 2, none⟩ = some (.slice A3 n3 c3) := by have := HX1.out; simp [World.cell?, this]
    have x3 : w1.cell? ⟨w.heap.size, 3, none⟩ = some (.int .i64 M) := by have := HX1.out; simp [World.cell?, this]
    clear hb HX0 HB0 CV
    have hmk : (Instr.makeSlice 29 (.int .i64 ((M : Int) + 1)) (.int .i64 ((M : Int) + 1))).run Try.prog w1 = _ := mk_lists w1 (M + 1) (by omega)
    gi_wp2_with fail
    have HB2 : Hid (Below w.heap.size w ((w1.alloc (.cells (madeCells #[.slice none 0 0] (M + 1)) 22)).alloc (.cells #[.slice (some ⟨w1.heap.size, 0, none⟩) (M + 1) (M + 1)] 29))) := (HB1.out.alloc HB1.out.size _).alloc (by simp; omega) _
    have HK2 : Hid (KeepTo w (w1.heap.size + 1) w1.heap.size M O (0, w1.heap.size + 1) ((w1.alloc (.cells (madeCells #[.slice none 0 0] (M + 1)) 22)).alloc (.cells #[.slice (some ⟨w1.heap.size, 0, none⟩) (M + 1) (M + 1)] 29))) := by
      have r0 := rows_nils w1 (M + 1) (by unfold maxLen; omega)
      refine ⟨?_, ?_, by show w.heap.size ≤ w1.heap.size + 1; omega, by simp, HB2.out⟩
      · show Rows _ _ (w1.heap.size + 1) _ (stg O 0)
        rw [stg_zero, OL.out]
        have r1 := (r0.mono (B' := w.heap.size) (by omega)).below ((Below.refl (w1.alloc (.cells (madeCells #[.slice none 0 0] (M + 1)) 22)).heap.size (w1.alloc (.cells (madeCells #[.slice none 0 0] (M + 1)) 22))).alloc (Nat.le_refl _) (.cells #[.slice (some ⟨w1.heap.size, 0, none⟩) (M + 1) (M + 1)] 29)) (Nat.le_refl _)
        simpa using r1
      · have := Boxed.new (w1.alloc (.cells (madeCells #[.slice none 0 0] (M + 1)) 22)) 29 (.slice (some ⟨w1.heap.size, 0, none⟩) (M + 1) (M + 1))
        simpa using this
    have hz2 : ((w1.alloc (.cells (madeCells #[.slice none 0 0] (M + 1)) 22)).alloc (.cells #[.slice (some ⟨w1.heap.size, 0, none⟩) (M + 1) (M + 1)] 29)).heap.size = w1.heap.size + 2 := by simp
    clear hmk x0 x1 x2 x3 HX1 HB1
    generalize ((w1.alloc (.cells (madeCells #[.slice none 0 0] (M + 1)) 22)).alloc (.cells #[.slice (some ⟨w1.heap.size, 0, none⟩) (M + 1) (M + 1)] 29)) = w2 at *
    generalize w1.heap.size = g at *
    refine wpIn_range_tells rfl (by omega) (gf := 54) (gv := .agg #[.slice A n c, .slice A2 n2 c2, .slice A3 n3 c3, .int .i64 M]) rfl trivial (enters_of Try.func54 (by kernel_rfl) rfl)
      (HT.out w2 HB2.out) (by omega) rfl (KeepTo w (g + 1) g M O) (fun _ _ _ => False) (KeepTo.own w (g + 1) g M w2.heap.size O (by omega)) (fun s X h => ⟨h.2.2.1, h.2.2.2.1⟩) (fun _ _ _ _ _ h _ _ => h.elim) (fun T f => PitRow.own _ P T f) ⟨_, HK2.out⟩
      (fun f x => { tmps := #[.slice A n c, .slice A2 n2 c2, .slice A3 n3 c3, .int .i64 M, undef, undef, undef, undef, .slice none 0 0, .bool false, .pointer (some ⟨w.heap.size, 0, none⟩), .pointer (some ⟨g + 1, 0, none⟩), .int .i64 (f : Int), x, .slice A n c, .slice A2 n2 c2, .slice A3 n3 c3, .int .i64 M, .agg #[.slice A n c, .slice A2 n2 c2, .slice A3 n3 c3, .int .i64 M], .agg #[.slice A n c, .slice A2 n2 c2, .slice A3 n3 c3, .int .i64 M], .bool true, .bool false, .int .i64 M, .int .i64 (↑M + 1), .slice (some ⟨g, 0, none⟩) (M + 1) (M + 1), .agg #[.slice A n c, .slice A2 n2 c2, .slice A3 n3 c3, .int .i64 M], .func (.func 54) #[.agg #[.slice A n c, .slice A2 n2 c2, .slice A3 n3 c3, .int .i64 M]] #[], .int .i64 (f : Int), x, undef, undef, undef, undef, undef], defers := [] }) ?assign ?body ?done ?stop
    case assign =>
      intro l f x W K hK
      gi_wp2
      exact hK
    case body =>
      rintro l f T x W hf hz ⟨hr, hbx, hT1, hT2, hb⟩ hx
      have hx' : Row W T x (P f) := hx
      obtain ⟨Ax, cx, rfl⟩ := hx'.shape
      have hr' : Rows W w.heap.size T (.slice (some ⟨g, 0, none⟩) (M + 1) (M + 1)) (stg O f) := hr
      have hT1' : w.heap.size ≤ T := hT1
      obtain ⟨vs, hv⟩ := hr'
      have HV := Lib.hid hv
      have HX := Lib.hid hx'
      have HBx := Lib.hid hbx
      have HB := Lib.hid hb
      have hsl : (stg O f).length = M + 1 := by rw [stg_len O f (by rw [OL.out]; omega)]; exact OL.out
      have q0 := hbx.cell
      have q1 : W.cell? ⟨g, f, none⟩ = some (vs.getD f (.slice none 0 0)) := by
        have := hv
        rw [← hsl] at this
        exact this.cell (by omega)
      have ho := hv.own
      rw [hsl] at ho
      have q2 : W.frozen? ⟨g, f, none⟩ = false := World.ownsRow.frozenAt ho f
      have hgz := (World.ownsRow.lt ho g rfl).2
      have b1 : (0 : Int) ≤ (f : Int) := by omega
      have b2 : (f : Int) < (M : Int) + 1 := by omega
      have HP := Lib.hid (hv.put (j := f) (ys := P f) (p := .slice Ax (P f).length cx) hsl.symm (by omega) (hx'.mono hT1') (fun k hk => (World.ownsRow.lt hx' k hk).1))
      rw [show (stg O f).set f (P f) = stg O (f + 1) by rw [← OA.out f hf]; exact stg_set O f (by rw [OL.out]; exact hf)] at HP
      clear hr hv hx hx' hbx hb ho
      generalize vs.getD f (.slice none 0 0) = old at *
      gi_wp2
      have hg := set_grownG W ⟨g, f, none⟩ (.slice Ax (P f).length cx)
      have hgB : w.heap.size ≤ g := by omega
      exact ⟨Outside.grown hg (fun r e => by cases e; exact ⟨hgB, by show g < _; omega⟩), _, ⟨_, HP.out⟩, HBx.out.kept hg (by simp), by show w.heap.size ≤ (W.setCell ⟨g, f, none⟩ (.slice Ax (P f).length cx)).heap.size; have := hg.size; omega, Nat.le_refl _, HB.out.grown hg HB.out.size (fun k e => by cases e; exact hgB)⟩
    case done =>
      rintro D T W hD ⟨hr, hbx, hT1, hT2, hb⟩ hK
      have q0 := hbx.cell
      have hr' : Rows W w.heap.size T (.slice (some ⟨g, 0, none⟩) (M + 1) (M + 1)) (stg O (M + 1)) := hr
      rw [show stg O (M + 1) = O by rw [← OL.out]; exact stg_all O] at hr'
      have HR := Lib.hid hr'
      have hT3 : T ≤ W.heap.size := hT2
      clear hr hr'
      gi_wp2
      refine ⟨by simp, .inl ⟨_, _, rfl, run_takeDeferred hK, ?_⟩⟩
      refine ⟨_, results_tmp2 rfl _ _ _, _, rfl, rows_up (HR.out.calm (grownBy_putObj' W D (.deferred none)) (fun r e => by cases e; exact ⟨_, hK, rfl⟩)) (by rw [World.putObj_size]; exact hT3), hb.trans (belowK_b (w := w) (Nat.le_refl _) W D _ _ (by omega) hK rfl rfl)⟩
    case stop =>
      rintro D c1 k W _ _ h _
      exact h.elim
end Go.Proofs.Ytoakpepoopjlaaa

namespace Go.Proofs.Ytoakpepoopjlaaa
open Go.RowKit
set_option linter.unusedVariables false


def runes (xs : List Int) : List Value := xs.map (Value.int .i32)
theorem runes_len (xs : List Int) : (runes xs).length = xs.length := by simp [runes]
/-- The slice v has the runes xs, in memory of its own from B on. -/
def RowU (w : World) (B : Nat) (v : Value) (xs : List Int) : Prop := w.ownsRow B 21 1 v xs.length (runes xs)
def GivesRowU (w : World) (xs : List Int) (e : Ending) (w' : World) : Prop := ∃ v, e = .returned v ∧ RowU w' w.heap.size v xs ∧ Below w.heap.size w w'
theorem rune_info : (Try.prog.info? 21).map (fun i => (i.zero, i.size, i.bytes)) = some (some (.int .i32 0), 1, 4) := by kernel_rfl
theorem RowU.shape {w : World} {B : Nat} {v : Value} {xs : List Int} (h : RowU w B v xs) : ∃ A c, v = .slice A xs.length c := by
  rcases h.2 with ⟨rfl, h0⟩ | ⟨g, cap, cur, rfl, _⟩
  · exact ⟨none, 0, by rw [h0]⟩
  · exact ⟨_, _, rfl⟩
theorem RowU.below {w w' : World} {B : Nat} {v : Value} {xs : List Int} (h : RowU w B v xs) (hb : Below w.heap.size w w') : RowU w' B v xs := own_stays h fun k hk => hb.block k (World.ownsRow.lt h k hk).2
theorem RowU.mono {w : World} {B B' : Nat} {v : Value} {xs : List Int} (h : RowU w B v xs) (hB : B' ≤ B) : RowU w B' v xs := World.ownsRow.mono h hB
/-- The first k of n are X, the others 0. -/
def rxLU (X : Int) (n k : Nat) : List Int := List.replicate k X ++ List.replicate (n - k) 0
theorem rxL_lenU (X : Int) (n k : Nat) (h : k ≤ n) : (rxLU X n k).length = n := by simp [rxLU]; omega
/-- The first k of n are X, as values. -/
def rpLU (X : Int) (n k : Nat) : List Value := runes (rxLU X n k)
theorem rpL_lenU (X : Int) (n k : Nat) (h : k ≤ n) : (rpLU X n k).length = n := by unfold rpLU runes; rw [List.length_map, rxL_lenU X n k h]
theorem rpL_moreU (X : Int) (n k c : Nat) (h : k + c ≤ n) : splice (rpLU X n k) k (List.replicate c (.int .i32 X)) = rpLU X n (k + c) := by
  unfold splice rpLU runes rxLU
  rw [List.length_replicate, List.map_append, List.map_append, List.map_replicate, List.map_replicate, List.map_replicate, List.map_replicate]
  rw [List.take_append_of_le_length (by simp), List.take_of_length_le (by simp), List.drop_append, List.drop_eq_nil_of_le (by simp), List.nil_append, List.drop_replicate, List.length_replicate]
  rw [show k + c - k = c by omega, show n - k - c = n - (k + c) by omega, ← List.append_assoc, List.replicate_append_replicate]
theorem rpL_atU {X : Int} {w : World} {g n k j : Nat} (hg : w.heap[g]? = some (.cells (rpLU X n k).toArray 21 (0, 0))) (hk : k ≤ n) (hj : j < k) : w.cell? ⟨g, j, none⟩ = some (.int .i32 X) := by
  have hl := rpL_lenU X n k hk
  have : (rpLU X n k)[j]? = some (.int .i32 X) := by
    unfold rpLU runes rxLU
    rw [List.map_append, List.getElem?_append_left (by simp; omega)]
    simp [hj]
  simp [World.cell?, hg, this]
theorem rpL_rowU {X : Int} {w : World} {B g n : Nat} (hB : B ≤ g) (hn : n ≤ 130) (hg : w.heap[g]? = some (.cells (rpLU X n n).toArray 21 (0, 0))) : RowU w B (.slice (some ⟨g, 0, none⟩) n n) (List.replicate n X) := by
  have e : rpLU X n n = runes (List.replicate n X) := by unfold rpLU rxLU; simp
  have hl := rpL_lenU X n n (Nat.le_refl _)
  unfold RowU
  rw [List.length_replicate]
  refine ⟨by unfold runes; simp, .inr ⟨g, n, _, rfl, hB, hg, Nat.le_refl _, by unfold maxLen; omega, by simp [hl], ?_⟩⟩
  rw [e]
  simp [runes]

set_option maxHeartbeats 8000000 in
set_option maxRecDepth 100000 in
theorem c_RepeatU (X : Int) (n bx : Nat) (w : World) (n1 : 1 ≤ n) (n2 : n ≤ 130) (hbx : bx < w.heap.size) (hx : w.cell? ⟨bx, 0, none⟩ = some (.int .i32 X)) :
    Calls Try.prog 80 #[.slice (some ⟨bx, 0, none⟩) 1 1, .int .i64 n] w (GivesRowU w (List.replicate n X)) := by
  obtain ⟨i0, hi0, hz0, hz1, hz2⟩ := info_parts rune_info
  have HSz : Hid ((Try.prog.info? 21).map (·.size) = some 1) := by show _ = _; rw [hi0]; simp [hz1]
  have hmk : (Instr.makeSlice 56 (.int .i64 (n : Int)) (.int .i64 (n : Int))).run Try.prog w = .ok (.slice (some ⟨w.heap.size, 0, none⟩) n n) (w.alloc (.cells (madeCells #[.int .i32 0] n) 21)) := by
    have := run_make (P := Try.prog) w 56 21 i0 (.int .i32 0) Try.underlying56 hi0 hz0 .i64 .i64 (n : Int) (n : Int) (by omega) (by omega) (by rw [hz2]; omega) (by omega)
    simpa [hz1, Value.cells] using this
  have hmc : madeCells #[.int .i32 0] n = (rpLU X n 0).toArray := by
    apply Array.ext'
    rw [toList_madeCells_one]
    unfold rpLU rxLU runes
    simp
  rw [hmc] at hmk
  have CM : Hid (Calls Try.prog 92 #[.int .u64 1, .int .u64 n] w fun e w' => e = .returned (.tuple #[.int .u64 0, .int .u64 n]) ∧ w' = w) := by
    refine (Try.bits_Mul 1 n (by omega) (by omega) w).mono fun e w' ⟨h1, h2⟩ => ⟨?_, h2⟩
    rw [h1, Nat.one_mul, Nat.div_eq_of_lt (by omega), Nat.mod_eq_of_lt (by omega)]
    rfl
  have HX : Hid ((w.alloc (.cells (rpLU X n 0).toArray 21)).cell? ⟨bx, 0, none⟩ = some (.int .i32 X)) := by
    show _ = _
    rw [(Below.refl w.heap.size w |>.alloc (Nat.le_refl _) (.cells (rpLU X n 0).toArray 21)).cell (p := ⟨bx, 0, none⟩) hbx]
    exact hx
  have HXW : Hid (w.cell? ⟨bx, 0, none⟩ = some (.int .i32 X)) := hx
  have HG : Hid ((w.alloc (.cells (rpLU X n 0).toArray 21)).heap[w.heap.size]? = some (.cells (rpLU X n 0).toArray 21 (0, 0))) := heap_alloc_new w _
  have HB0 : Hid (Below w.heap.size w (w.alloc (.cells (rpLU X n 0).toArray 21))) := (Below.refl _ _).alloc (Nat.le_refl _) _
  have L1 : (rpLU X n 0).length = n := rpL_lenU X n 0 (by omega)
  have b1 : (1 : Int) ≤ (n : Int) := by omega
  have b2 : (n : Int) ≤ 130 := by omega
  clear hi0 hx hmc
  go_enter Try.func80, Try.ntmps80
  go_wp2_with fail
  refine CM.out.mono ?_
  rintro e w1 ⟨rfl, rfl⟩
  clear CM
  have L2 : ([.int .i32 X] : List Value).length = 1 := rfl
  have nb : 1 ≤ n := by omega
  go_wp2_with (with_reducible refine wpList_copy_splice rfl (.tmp 31) (.tmp 32) 56 56 rfl 21 Try.underlying56 HSz.out (some ⟨w1.heap.size, 0, none⟩) (some ⟨bx, 0, none⟩) n n 1 1 rfl rfl w1.heap.size 0 (rpLU X n 0) 21 HG.out [.int .i32 X] ?c1 ?c2 ?c3 ?c4 w1.heap.size w1 HB0.out (Nat.le_refl _) ?_)
  case c1 => simp [Nat.min_eq_left nb]
  case c2 =>
    intro j v hj
    match j, hj with
    | 0, hj => simp at hj; subst hj; simpa [Addr.add] using HXW.out
  case c3 => rw [L1]; simp; omega
  case c4 => intro v hv; simp at hv; subst hv; rfl
  intro w2 hg2 hb2
  have HG2 : Hid (w2.heap[w1.heap.size]? = some (.cells (rpLU X n 1).toArray 21 (0, 0))) := by
    have := rpL_moreU X n 0 1 (by omega)
    show _ = _
    rw [show 0 + 1 = 1 from rfl] at this
    rw [← this]
    exact hg2.out
  have HB2 := Lib.hid hb2
  clear hg2 hb2 HG HB0 HX HXW hmk L1 L2 hbx
  go_wp2_with fail
  go_loopw [8] (fun i wr => ∃ k : Nat, 1 ≤ k ∧ k ≤ n ∧ i = .int .i64 k ∧ wr.heap[w1.heap.size]? = some (.cells (rpLU X n k).toArray 21 (0, 0)) ∧ Below w1.heap.size w1 wr) (fun i _ => n - (RowKit.intOf i).toNat)
  case atStart => exact ⟨1, Nat.le_refl _, nb, rfl, HG2.out, HB2.out⟩
  case round =>
    obtain ⟨k, k1, hk, rfl, hg, hb⟩ := hrel
    have HG := Lib.hid hg
    have HB := Lib.hid hb
    clear hg hb HG2 HB2
    have b3 : (1 : Int) ≤ (k : Int) := by omega
    by_cases hlt : k < n
    · have b4 : (k : Int) < (n : Int) := by omega
      obtain ⟨c, hc⟩ : ∃ c, c = min k (n - k) := ⟨_, rfl⟩
      have hc1 : c = Nat.min k (n - k) := hc
      have hc2 : k + c ≤ n := by omega
      have hc3 : 1 ≤ c := by omega
      have hc4 : c ≤ k := by omega
      clear hc
      have LK : Hid ((rpLU X n k).length = n) := rpL_lenU X n k hk
      have M : Hid (splice (rpLU X n k) k (List.replicate c (.int .i32 X)) = rpLU X n (k + c)) := rpL_moreU X n k c hc2
      have hnk : ¬ n = k := by omega
      have HGd : Hid (wr.drew.heap[w1.heap.size]? = some (.cells (rpLU X n k).toArray 21 (0, 0))) := HG.out
      have HBd : Hid (Below w1.heap.size w1 wr.drew) := HB.out.drew
      have SRC : Hid (∀ (j : Nat) (v : Value), (List.replicate c (Value.int .i32 X))[j]? = some v → wr.drew.cell? ((⟨w1.heap.size, 0, none⟩ : Addr).add j) = some v) := fun j v hj => by
        rw [List.getElem?_replicate] at hj
        split at hj
        · simp at hj
          subst hj
          have q := rpL_atU (X := X) (n := n) (k := k) (j := j) HGd.out hk (by omega)
          have e : (⟨w1.heap.size, 0, none⟩ : Addr).add j = ⟨w1.heap.size, j, none⟩ := by
            unfold Addr.add
            split
            · rename_i h; subst h; rfl
            · simp
          rw [e]
          exact q
        · simp at hj
      have H1 : Hid (∀ v ∈ List.replicate c (Value.int .i32 X), v.oneCell' = true) := fun v hv => by rw [List.mem_replicate] at hv; rw [hv.2]; rfl
      have CL : Hid ((List.replicate c (Value.int .i32 X)).length = Nat.min k (n - k)) := by show _ = _; rw [List.length_replicate]; exact hc1
      have CF : Hid (k + (List.replicate c (Value.int .i32 X)).length ≤ (rpLU X n k).length) := by show _ ≤ _; rw [LK.out, List.length_replicate]; exact hc2
      have CI : Hid (((List.replicate c (Value.int .i32 X)).length : Int) = c) := by show _ = _; rw [List.length_replicate]
      clear hc1
      generalize List.replicate c (Value.int .i32 X) = cs at *
      go_wp2_with fail
      go_region_law (refine step_copy_splice rfl (.tmp 41) (.tmp 44) 56 56 rfl 21 Try.underlying56 HSz.out (some ⟨w1.heap.size, k, none⟩) (some ⟨w1.heap.size, 0, none⟩) (n - k) (n - k) k n (by simp [Act.eval, Act.put]) (by simp [Act.eval, Act.put]) w1.heap.size k (rpLU X n k) 21 HGd.out cs CL.out (fun _ => ⟨rfl, _, rfl, SRC.out⟩) CF.out H1.out w1.heap.size w1 HBd.out (Nat.le_refl _) ?_; intro w4 hg4 hb4)
      rw [M.out] at hg4
      have CN : cs.length = c := by have := CI.out; omega
      have G4 := Lib.hid hg4.out
      have B4 := Lib.hid hb4
      clear hg4 hb4 HG HB HGd HBd SRC H1 CL CF CI M LK
      rw [CN]
      clear CN
      go_simp
      rw [show IntKind.i64.wrap ((k : Int) + (c : Int)) = ((k + c : Nat) : Int) by rw [IntKind.wrap_i64]; omega]
      go_wp2
      go_roundw
      case rel => exact ⟨k + c, by omega, hc2, rfl, G4.out, B4.out⟩
      case measure => simp [RowKit.intOf]; omega
    · obtain rfl : k = n := by omega
      have R1 := Lib.hid (rpL_rowU (Nat.le_refl _) n2 HG.out)
      go_wp2
      go_ret
      exact ⟨_, rfl, R1.out, HB.out⟩
end Go.Proofs.Ytoakpepoopjlaaa

namespace Go.Proofs.Ytoakpepoopjlaaa
open Go.RowKit
set_option linter.unusedVariables false
attribute [local go_sem] Oper.semAt_some

theorem c_markOf (f : Nat) (w : World) (h : f ≤ 60) : Calls Try.prog 62 #[.int .i64 f] w fun e w' => e = .returned (.int .i32 (48 + (f : Int))) ∧ w = w' := by
  have e1 : IntKind.i32.wrap (f : Int) = (f : Int) := by rw [IntKind.wrap_i32]; omega
  have e2 : IntKind.i32.wrap (48 + (f : Int)) = 48 + (f : Int) := by rw [IntKind.wrap_i32]; omega
  go_enter Try.func62, Try.ntmps62
  go_wp2
  go_ret
  exact ⟨by first | rfl | simp [e1, e2], rfl⟩

/-! ### Plain: the marks -/
theorem ifc {a b : Prop} [Decidable a] [Decidable b] {α : Type} {x y : α} (h : a ↔ b) : (if a then x else y) = if b then x else y := by
  by_cases c : a
  · rw [if_pos c, if_pos (h.1 c)]
  · rw [if_neg c, if_neg (fun d => c (h.2 d))]
/-- The marks when the pits at the factors below f are through, and of the pit at f the first blocks. -/
def mkE (P : Nat → Int → Bool) (n f j : Nat) (i : Int) : Int := if fiI P f i < 0 ∧ i ∈ (sel (P f) n).take j then f else fiI P f i
def mkL (P : Nat → Int → Bool) (n f j : Nat) : List Int := (List.range n).map fun (i : Nat) => 48 + mkE P n f j i
theorem mk_len (P : Nat → Int → Bool) (n f j : Nat) : (mkL P n f j).length = n := by simp [mkL]
theorem mk_at {P : Nat → Int → Bool} {n f j i : Nat} (h : i < n) : (mkL P n f j).getD i 0 = 48 + mkE P n f j i := by simp [mkL, h]
theorem mk_zero (P : Nat → Int → Bool) (n : Nat) : mkL P n 0 0 = List.replicate n 47 := by
  apply List.ext_getElem
  · simp [mkL]
  · intro i h1 h2
    simp [mkL, mkE, fiI]
theorem mk_all (P : Nat → Int → Bool) (n f : Nat) : mkL P n f (sel (P f) n).length = mkL P n (f + 1) 0 := by
  unfold mkL
  refine List.map_congr_left fun i hi => ?_
  rw [List.mem_range] at hi
  have e : ((i : Int) ∈ (sel (P f) n).take (sel (P f) n).length) ↔ P f i = true := by
    rw [List.take_length, mem_sel]
    unfold inr
    rw [Bool.and_eq_true, decide_eq_true_eq]
    exact ⟨fun h => h.2, fun h => ⟨⟨by omega, by omega⟩, h⟩⟩
  have e0 : ∀ g, mkE P n g 0 i = fiI P g i := fun g => by simp [mkE]
  rw [e0]
  unfold mkE
  exact congrArg (48 + ·) (ifc (and_congr_right fun _ => e))
theorem mk_next {P : Nat → Int → Bool} {n f j x : Nat} (hj : j < (sel (P f) n).length) (hx : (sel (P f) n).getD j 0 = (x : Int)) (hn : x < n) :
    mkL P n f (j + 1) = if (mkL P n f j).getD x 0 = 47 then (mkL P n f j).set x (48 + (f : Int)) else mkL P n f j := by
  have et : (sel (P f) n).take (j + 1) = (sel (P f) n).take j ++ [(x : Int)] := by
    rw [List.take_succ_eq_append_getElem hj]
    congr 2
    simpa [List.getD_eq_getElem?_getD, hj] using hx
  have em : ∀ i : Int, i ∈ (sel (P f) n).take (j + 1) ↔ (i ∈ (sel (P f) n).take j ∨ i = x) := fun i => by rw [et]; simp
  rw [mk_at hn]
  have hb := fi_box P x f
  split
  · rename_i c
    apply List.ext_getElem
    · simp [mkL]
    · intro i h1 h2
      rw [mk_len] at h1
      have a1 : (mkL P n f (j + 1))[i]'(by rw [mk_len]; exact h1) = 48 + mkE P n f (j + 1) i := by simp [mkL]
      rw [a1, List.getElem_set]
      by_cases e : x = i
      · subst e
        rw [if_pos rfl]
        have h0 : fiI P f x < 0 := by
          unfold mkE at c
          split at c <;> omega
        unfold mkE
        rw [if_pos ⟨h0, (em x).2 (.inr rfl)⟩]
      · rw [if_neg e]
        have a2 : (mkL P n f j)[i]'(by rw [mk_len]; exact h1) = 48 + mkE P n f j i := by simp [mkL]
        rw [a2]
        unfold mkE
        have : ((i : Int) ∈ (sel (P f) n).take (j + 1)) ↔ ((i : Int) ∈ (sel (P f) n).take j) := by
          rw [em]
          exact ⟨fun h => h.resolve_right (by omega), .inl⟩
        exact congrArg (48 + ·) (ifc (and_congr_right fun _ => this))
  · rename_i c
    unfold mkL
    refine List.map_congr_left fun i hi => ?_
    congr 1
    unfold mkE
    by_cases e : i = x
    · subst e
      by_cases h0 : fiI P f i < 0
      · have h1 : (i : Int) ∈ (sel (P f) n).take j := by
          refine Classical.byContradiction fun hc => c ?_
          unfold mkE
          rw [if_neg (fun h => hc h.2)]
          omega
        rw [if_pos ⟨h0, (em i).2 (.inl h1)⟩, if_pos ⟨h0, h1⟩]
      · rw [if_neg (fun h => h0 h.1), if_neg (fun h => h0 h.1)]
    · have : ((i : Int) ∈ (sel (P f) n).take (j + 1)) ↔ ((i : Int) ∈ (sel (P f) n).take j) := by
        rw [em]
        exact ⟨fun h => h.resolve_right (by omega), .inl⟩
      exact ifc (and_congr_right fun _ => this)

/-- What the loop of marks keeps. -/
def KeepMk (w : World) (P : Nat → Int → Bool) (b g n cp : Nat) (s : Nat × Nat) (W : World) : Prop :=
  RowU W w.heap.size (.slice (some ⟨g, 0, none⟩) n cp) (mkL P n s.1 0) ∧ Boxed W b 56 (.slice (some ⟨g, 0, none⟩) n cp) ∧ (w.heap.size ≤ s.2 ∧ g < s.2 ∧ b < s.2) ∧ s.2 ≤ W.heap.size ∧ Below w.heap.size w W
theorem KeepMk.own (w : World) (P : Nat → Int → Bool) (b g n cp B : Nat) (hB : w.heap.size ≤ B) : OwnFrom B (KeepMk w P b g n cp) := fun s X Y row h hg hr =>
  ⟨own_calm h.1 hg (fun r e => (hr r e).2), boxed_calm h.2.1 hg (fun r e => (hr r e).2), h.2.2.1, Nat.le_trans h.2.2.2.1 hg.size, h.2.2.2.2.grown hg h.2.2.2.2.size (fun k e => by have := (hr k e).1; omega)⟩
theorem RowU.set_ {w : World} {B g c n : Nat} {xs : List Int} (hn : n = xs.length) (h : RowU w B (.slice (some ⟨g, 0, none⟩) n c) xs) (j : Nat) (u : Int) :
    RowU (w.setCell ⟨g, j, none⟩ (.int .i32 u)) B (.slice (some ⟨g, 0, none⟩) n c) (xs.set j u) ∧ w.grownBy (w.setCell ⟨g, j, none⟩ (.int .i32 u)) (some g) := by
  subst hn
  have := World.ownsRow.stored h j (.int .i32 u)
  refine ⟨?_, this.2⟩
  unfold RowU
  rw [List.length_set, show runes (xs.set j u) = (runes xs).set j (.int .i32 u) by simp [runes, List.map_set]]
  exact this.1
theorem RowU.cell {w : World} {B g c n : Nat} {xs : List Int} (hn : n = xs.length) (h : RowU w B (.slice (some ⟨g, 0, none⟩) n c) xs) {j : Nat} (hj : j < n) : w.cell? ⟨g, j, none⟩ = some (.int .i32 (xs.getD j 0)) ∧ w.frozen? ⟨g, j, none⟩ = false := by
  subst hn
  refine ⟨?_, World.ownsRow.frozenAt h j⟩
  rw [World.ownsRow.cellAt h j (by omega)]
  simp [runes, List.getD_eq_getElem?_getD, hj]

theorem pit_at {w : World} {T L : Nat} {A : Option Addr} {c : Nat} {xs : List Int} (hl : L = xs.length) (h : Row w T (.slice A L c) xs) {j : Nat} (hj : j < L) : ∃ gp, A = some ⟨gp, 0, none⟩ ∧ T ≤ gp ∧ gp < w.heap.size ∧ w.cell? ⟨gp, j, none⟩ = some (.int .i64 (xs.getD j 0)) := by
  subst hl
  obtain ⟨gp, c', e, h1, h2⟩ := h.form (by omega)
  simp at e
  obtain ⟨rfl, rfl⟩ := e
  exact ⟨gp, rfl, h1, h2, h.cell j hj⟩

set_option maxHeartbeats 8000000 in
set_option maxRecDepth 100000 in
theorem c_marks (xss : List (List Int)) (gs cs : List Int) (M : Nat) (v u t : Value) (w : World) (hs : ShortL xss) (K : Asked xss gs cs M) (hA : asB xss gs cs M = true) (h : SeenL w v xss) (hu : Seen w u gs) (ht : Seen w t cs) :
    Calls Try.prog 58 #[.agg #[v, u, t, .int .i64 M]] w (GivesRowU w (mkL (ptP xss gs cs) xss.length (M + 1) 0)) := by
  have hN := arc_len K.arcs
  have M1 : M ≤ 60 := by have := K.f1; omega
  have HT : Hid (∀ w1, Below w.heap.size w w1 → Tells Fence.wide 9 Try.prog 54 (.agg #[v, u, t, .int .i64 M]) w.heap.size (PitRow (ptF xss gs cs)) (M + 1) w1) := fun w1 hb => c_pits xss gs cs M v u t w w1 9 (by omega) hs K hA hb h hu ht
  have PF : Hid (∀ f, ptF xss gs cs f = sel (ptP xss gs cs f) xss.length) := ptF_sel xss gs cs
  obtain ⟨A, c, rfl, hm⟩ := h.shape
  obtain ⟨A2, c2, rfl⟩ := hu.shape
  obtain ⟨A3, c3, rfl⟩ := ht.shape
  clear h hu ht hs hm hA K
  generalize ptF xss gs cs = F at *
  generalize ptP xss gs cs = P at *
  generalize xss.length = n at *
  generalize gs.length = n2 at *
  generalize cs.length = n3 at *
  obtain ⟨n1, n4⟩ := hN
  have HB0 : Hid (Below w.heap.size w ((w.alloc (.cells #[.slice A n c, .slice A2 n2 c2, .slice A3 n3 c3, .int .i64 M] 51)).alloc (.cells #[.int .i32 47] 21))) := ((Below.refl _ _).alloc (Nat.le_refl _) _).alloc (by simp) _
  have HX0 : Hid (((w.alloc (.cells #[.slice A n c, .slice A2 n2 c2, .slice A3 n3 c3, .int .i64 M] 51)).alloc (.cells #[.int .i32 47] 21)).heap[w.heap.size]? = some (.cells #[.slice A n c, .slice A2 n2 c2, .slice A3 n3 c3, .int .i64 M] 51 (0, 0))) := by
    show _ = _
    rw [Below.heap_alloc _ _ _ (by simp)]
    exact World.alloc_heap_new _ _
  have CR := Lib.hid (c_RepeatU 47 n (w.heap.size + 1) ((w.alloc (.cells #[.slice A n c, .slice A2 n2 c2, .slice A3 n3 c3, .int .i64 M] 51)).alloc (.cells #[.int .i32 47] 21)) n1 (by omega) (by simp) (by simp))
  have hz0 : ((w.alloc (.cells #[.slice A n c, .slice A2 n2 c2, .slice A3 n3 c3, .int .i64 M] 51)).alloc (.cells #[.int .i32 47] 21)).heap.size = w.heap.size + 2 := by simp
  refine (callsIn_wide (n := 10)).1 ?_
  refine callsIn_of_wp_marks Try.func58 rfl trivial ?_ rfl
  simp only [Try.ntmps58, List.size_toArray, List.length_cons, List.length_nil, Nat.reduceAdd, Nat.reduceSub, Array.replicate_succ, Array.replicate_zero, List.push_toArray, List.append_toArray, List.nil_append, List.cons_append]
  gi_wp2_with fail
  refine ⟨trivial, ?_⟩
  refine (callsIn_wide.2 CR.out).mono ?_
  rintro e w1 ⟨v1, rfl, hr, hb⟩
  have HB1 : Hid (Below w.heap.size w w1) := HB0.out.trans (hb.mono HB0.out.size)
  have HX1 : Hid (w1.heap[w.heap.size]? = some (.cells #[.slice A n c, .slice A2 n2 c2, .slice A3 n3 c3, .int .i64 M] 51 (0, 0))) := (hb.block _ (by rw [hz0]; omega)).trans HX0.out
  have hr1 : RowU w1 (w.heap.size + 2) v1 (List.replicate n 47) := by have := hr; rwa [hz0] at this
  obtain ⟨g, cp, rfl, hg1, hg2⟩ := World.ownsRow.form hr1 (by simp; omega)
  rw [List.length_replicate] at hr1
  have HR1 := Lib.hid hr1
  have x0 : w1.cell? ⟨w.heap.size, 0, none⟩ = some (.slice A n c) := by have := HX1.out; simp [World.cell?, this]
  have x1 : w1.cell? ⟨w.heap.size, 1, none⟩ = some (.slice A2 n2 c2) := by have := HX1.out; simp [World.cell?, this]
  have x2 : w1.cell? ⟨w.heap.size, 2, none⟩ = some (.slice A3 n3 c3) := by have := HX1.out; simp [World.cell?, this]
  have x3 : w1.cell? ⟨w.heap.size, 3, none⟩ = some (.int .i64 M) := by have := HX1.out; simp [World.cell?, this]
  have hz1 : w.heap.size + 2 ≤ w1.heap.size := by have := hb.size; omega
  have hz1' : w.heap.size < w1.heap.size := by omega
  rw [List.length_replicate]
  clear hr hr1 hb HB0 HX0 CR hz0
  gi_wp2_with fail
  have HB2 : Hid (Below w.heap.size w (w1.alloc (.cells #[.slice (some ⟨g, 0, none⟩) n cp] 56))) := HB1.out.alloc HB1.out.size _
  have HK2 : Hid (KeepMk w P w1.heap.size g n cp (0, w1.heap.size + 1) (w1.alloc (.cells #[.slice (some ⟨g, 0, none⟩) n cp] 56))) := by
    refine ⟨?_, Boxed.new _ _ _, ⟨by show w.heap.size ≤ w1.heap.size + 1; omega, by show g < w1.heap.size + 1; omega, by show w1.heap.size < w1.heap.size + 1; omega⟩, by simp, HB2.out⟩
    show RowU _ _ _ (mkL P n 0 0)
    rw [mk_zero]
    exact (HR1.out.mono (by omega)).below ((Below.refl _ _).alloc (Nat.le_refl _) _)
  have hz2 : (w1.alloc (.cells #[.slice (some ⟨g, 0, none⟩) n cp] 56)).heap.size = w1.heap.size + 1 := by simp
  clear x0 x1 x2 x3 HX1 HB1 HR1
  generalize (w1.alloc (.cells #[.slice (some ⟨g, 0, none⟩) n cp] 56)) = wb at *
  generalize w1.heap.size = b at *
  refine wpIn_range_tells rfl (by omega) (gf := 54) (gv := .agg #[.slice A n c, .slice A2 n2 c2, .slice A3 n3 c3, .int .i64 M]) rfl trivial (enters_of Try.func54 (by kernel_rfl) rfl)
    (HT.out wb HB2.out) (by omega) rfl (KeepMk w P b g n cp) (fun _ _ _ => False) (KeepMk.own w P b g n cp wb.heap.size (by omega)) (fun s X h => ⟨h.2.2.1.1, h.2.2.2.1⟩) (fun _ _ _ _ _ h _ _ => h.elim) (fun T f => PitRow.own _ F T f) ⟨_, HK2.out⟩
    (fun f x => { tmps := #[.agg #[.slice A n c, .slice A2 n2 c2, .slice A3 n3 c3, .int .i64 M], .pointer (some ⟨w.heap.size, 0, none⟩), .slice none 0 0, .pointer (some ⟨b, 0, none⟩), .int .i64 (f : Int), x, undef, undef, .slice (some ⟨w.heap.size + 1, 0, none⟩) 1 1, .pointer (some ⟨w.heap.size, 0, none⟩), .slice A n c, .int .i64 n, .slice (some ⟨g, 0, none⟩) n cp, .agg #[.slice A n c, .slice A2 n2 c2, .slice A3 n3 c3, .int .i64 M], .func (.func 54) #[.agg #[.slice A n c, .slice A2 n2 c2, .slice A3 n3 c3, .int .i64 M]] #[], .int .i64 (f : Int), x, undef, undef, undef, undef, undef, undef, undef, undef, undef, undef, undef, undef, undef, undef, undef, undef, undef, undef], defers := [] }) ?assign ?body ?done ?stop
  case assign =>
    intro l f x W K hK
    gi_wp2
    exact hK
  case body =>
    rintro l f T x W hf hz ⟨hr, hbx, ⟨hT1, hT2, hT3⟩, hT4, hb⟩ hx
    have hx' : Row W T x (sel (P f) n) := by have : Row W T x (F f) := hx; rwa [PF.out] at this
    have hT2' : g < T := hT2
    have hT3' : b < T := hT3
    have hT1' : w.heap.size ≤ T := hT1
    have hr' : RowU W w.heap.size (.slice (some ⟨g, 0, none⟩) n cp) (mkL P n f 0) := hr
    obtain ⟨Ax, cx, rfl⟩ := hx'.shape
    have HX := Lib.hid hx'
    have HBx := Lib.hid hbx
    have HB := Lib.hid hb
    have HR := Lib.hid hr'
    have NX : Hid (∀ j X : Nat, j < (sel (P f) n).length → (sel (P f) n).getD j 0 = (X : Int) → X < n → mkL P n f (j + 1) = if (mkL P n f j).getD X 0 = 47 then (mkL P n f j).set X (48 + (f : Int)) else mkL P n f j) := fun j X h1 h2 h3 => mk_next h1 h2 h3
    have NA : Hid (mkL P n f (sel (P f) n).length = mkL P n (f + 1) 0) := mk_all P n f
    have NL : Hid (∀ j, (mkL P n f j).length = n) := fun j => mk_len P n f j
    have SA : Hid (∀ j, j < (sel (P f) n).length → 0 ≤ (sel (P f) n).getD j 0 ∧ (sel (P f) n).getD j 0 < n) := fun j h => sel_at h
    have hL : (sel (P f) n).length ≤ 120 := by have := sel_len (P f) n; omega
    have RA : Hid (∀ (wr : World) (j : Nat), Row wr T (.slice Ax (sel (P f) n).length cx) (sel (P f) n) → j < (sel (P f) n).length → ∃ gp, Ax = some ⟨gp, 0, none⟩ ∧ T ≤ gp ∧ gp < wr.heap.size ∧ wr.cell? ⟨gp, j, none⟩ = some (.int .i64 ((sel (P f) n).getD j 0))) := fun wr j h hj => pit_at rfl h hj
    have CM := Lib.hid (fun (wz : World) => c_markOf f wz (by omega))
    clear hr hr' hx hx' hbx hb hT1 hT2 hT3
    have hmx : Try.prog.follows .mixedOrders = true := by kernel_rfl
    obtain ⟨MK', hMK⟩ : ∃ m, mkL P n (f + 1) 0 = m := ⟨_, rfl⟩
    have HMK := Lib.hid hMK
    rw [hMK] at NA
    clear hMK
    generalize mkL P n f = MK at *
    generalize sel (P f) n = xs at *
    generalize hxl : xs.length = L at *
    gi_wp2_with fail
    gi_loopw [19] (fun i wr => ∃ j : Nat, j ≤ L ∧ i = .int .i64 j ∧ RowU wr w.heap.size (.slice (some ⟨g, 0, none⟩) n cp) (MK j) ∧ Boxed wr b 56 (.slice (some ⟨g, 0, none⟩) n cp) ∧ Row wr T (.slice Ax L cx) xs ∧ Outside w.heap.size (b + 1) W wr ∧ Below w.heap.size w wr) (fun i _ => L - (RowKit.intOf i).toNat)
    case atStart => exact ⟨0, Nat.zero_le _, rfl, HR.out, HBx.out, HX.out, Outside.refl _ _ _, HB.out⟩
    case round =>
      obtain ⟨j, hj, rfl, hr, hbx, hx, ho, hb⟩ := hrel
      have HRj := Lib.hid hr
      have HBj := Lib.hid hbx
      have HXj := Lib.hid hx
      have HOj := Lib.hid ho
      have HWj := Lib.hid hb
      have q0 := hbx.cell
      clear hr hbx hx ho hb
      by_cases hlt : j < L
      · obtain ⟨gp, rfl, hgp, hgz, q1⟩ := RA.out wr j HXj.out hlt
        obtain ⟨s1, s2⟩ := SA.out j hlt
        obtain ⟨X, hX⟩ := Int.eq_ofNat_of_zero_le s1
        have NXj := Lib.hid (NX.out j X hlt hX (by omega))
        rw [hX] at q1 s2
        have b1 : (0 : Int) ≤ (j : Int) := by omega
        have b2 : (j : Int) < (L : Int) := by omega
        have b3 : (0 : Int) ≤ (X : Int) := by omega
        obtain ⟨q2, q3⟩ := HRj.out.cell (NL.out j).symm (j := X) (by omega)
        have ST : Hid (RowU (wr.setCell ⟨g, X, none⟩ (.int .i32 (48 + (f : Int)))) w.heap.size (.slice (some ⟨g, 0, none⟩) n cp) ((MK j).set X (48 + (f : Int))) ∧ wr.grownBy (wr.setCell ⟨g, X, none⟩ (.int .i32 (48 + (f : Int)))) (some g)) := HRj.out.set_ (NL.out j).symm X (48 + (f : Int))
        have hgB : w.heap.size ≤ g := (World.ownsRow.lt HRj.out g rfl).1
        generalize (MK j).getD X 0 = e at *
        by_cases he : e = 47
        · have G : Hid (MK (j + 1) = (MK j).set X (48 + (f : Int))) := by have := NXj.out; rwa [if_pos he] at this
          subst he
          clear NXj hX
          have hg := ST.out.2
          have F1 : Hid (RowU (wr.setCell ⟨g, X, none⟩ (.int .i32 (48 + (f : Int)))) w.heap.size (.slice (some ⟨g, 0, none⟩) n cp) (MK (j + 1))) := by show RowU _ _ _ _; rw [G.out]; exact ST.out.1
          have F2 : Hid (Boxed (wr.setCell ⟨g, X, none⟩ (.int .i32 (48 + (f : Int)))) b 56 (.slice (some ⟨g, 0, none⟩) n cp)) := Boxed.kept HBj.out hg (Boxed.not_row HBj.out (by decide) HRj.out)
          have F3 : Hid (Row (wr.setCell ⟨g, X, none⟩ (.int .i32 (48 + (f : Int)))) T (.slice (some ⟨gp, 0, none⟩) L cx) xs) := World.ownsRow.kept HXj.out hg (.inr (by simp [Value.ownBlock]; omega))
          have F4 : Hid (Outside w.heap.size (b + 1) W (wr.setCell ⟨g, X, none⟩ (.int .i32 (48 + (f : Int))))) := HOj.out.trans (Outside.grown hg (fun r e => by cases e; exact ⟨hgB, by omega⟩))
          have F5 : Hid (Below w.heap.size w (wr.setCell ⟨g, X, none⟩ (.int .i32 (48 + (f : Int))))) := HWj.out.setCell hgB _
          clear hg ST
          gi_wp2_with fail
          gi_region_with_o (refine ⟨trivial, ?_⟩; gi_at_call 62; refine (CallsIn.inRound l (callsIn_wide.2 (CM.out _))).mono ?_; rintro e wd ⟨rfl, rfl⟩)
          all_goals gi_wp2
          all_goals exact ⟨⟨j + 1, by omega, by go_num, F1.out, F2.out, F3.out, F4.out.trans (Outside.below (Below.refl _ _).drew), F5.out.drew⟩, by simp [RowKit.intOf]; omega⟩
        · have G : Hid (MK (j + 1) = MK j) := by have := NXj.out; rwa [if_neg he] at this
          clear NXj hX ST
          have he2 : (e == 47) = false := by simpa using he
          gi_wp2
          go_roundw
          case rel => exact ⟨j + 1, by omega, by go_num, by rw [G.out]; exact HRj.out, HBj.out, HXj.out, HOj.out, HWj.out⟩
          case measure => simp [RowKit.intOf]; omega
      · obtain rfl : j = L := by omega
        gi_wp2
        refine ⟨by rw [hz2]; exact HOj.out, T, ?_, HBj.out, ⟨hT1', hT2', hT3'⟩, Nat.le_trans hT4 HOj.out.size, HWj.out⟩
        show RowU _ _ _ (mkL P n (f + 1) 0)
        rw [HMK.out, ← NA.out]
        exact HRj.out
  case done =>
    rintro D T W hD ⟨hr, hbx, ⟨hT1, hT2, hT3⟩, hT4, hb⟩ hK
    have q0 := hbx.cell
    have HR := Lib.hid hr
    clear hr
    gi_wp2
    refine ⟨by simp, .inl ⟨_, _, rfl, run_takeDeferred hK, ?_⟩⟩
    have hU : RowU (W.putObj D (.deferred none)) w.heap.size (.slice (some ⟨g, 0, none⟩) n cp) (mkL P n (M + 1) 0) := own_calm HR.out (grownBy_putObj' W D (.deferred none)) (fun r e => by cases e; exact ⟨_, hK, rfl⟩)
    exact ⟨_, results_tmp rfl _ _ _, .slice (some ⟨g, 0, none⟩) n cp, rfl, hU, hb.trans (belowK_b (w := w) (Nat.le_refl _) W D _ _ (by omega) hK rfl rfl)⟩
  case stop =>
    rintro D c1 k W _ _ h _
    exact h.elim
end Go.Proofs.Ytoakpepoopjlaaa

namespace Go.Proofs.Ytoakpepoopjlaaa
open Go.RowKit
set_option linter.unusedVariables false

theorem c_whereMk1 (x : Int) (f bx : Nat) (w : World) (hf : f ≤ 60) (hb : w.cell? ⟨bx, 0, none⟩ = some (.int .i64 f)) : Calls Try.prog 61 #[.int .i32 x, .pointer (some ⟨bx, 0, none⟩)] w fun e w' => e = .returned (.bool (decide (x = 48 + (f : Int)))) ∧ w = w' := by
  have C := Lib.hid (c_markOf f w hf)
  by_cases h : x = 48 + (f : Int)
  · have h' : (x == 48 + (f : Int)) = true := by simpa using h
    rw [decide_eq_true h]
    go_enter Try.func61, Try.ntmps61
    go_wp2_with fail
    refine C.out.mono ?_
    rintro e w1 ⟨rfl, rfl⟩
    go_wp2
    go_ret
    exact ⟨by first | rfl | simp [h'], rfl⟩
  · have h' : (x == 48 + (f : Int)) = false := by simpa using h
    rw [decide_eq_false h]
    go_enter Try.func61, Try.ntmps61
    go_wp2_with fail
    refine C.out.mono ?_
    rintro e w1 ⟨rfl, rfl⟩
    go_wp2
    go_ret
    exact ⟨by first | rfl | simp [h'], rfl⟩
theorem c_whereSh1 (A : Option Addr) (n c : Nat) (w : World) : Calls Try.prog 57 #[.slice A n c] w fun e w' => e = .returned (.bool (decide (0 < n))) ∧ w = w' := by
  by_cases h : 0 < n
  · have h' : (n : Int) > 0 := by omega
    rw [decide_eq_true h]
    go_enter Try.func57, Try.ntmps57
    go_wp2
    go_ret
    exact ⟨rfl, rfl⟩
  · have h' : ¬ (n : Int) > 0 := by omega
    rw [decide_eq_false h]
    go_enter Try.func57, Try.ntmps57
    go_wp2
    go_ret
    exact ⟨rfl, rfl⟩

set_option maxHeartbeats 1000000 in
theorem c_whereMk (xs : List Int) (B bx : Nat) (v : Value) (q : Int → Bool) (w : World) (hl : xs.length ≤ 4000000) (h : RowU w B v xs)
    (H : Hid (∀ (k : Nat) (u : World), k < xs.length → Below w.heap.size w u → Calls Try.prog 61 #[.int .i32 (xs.getD k 0), .pointer (some ⟨bx, 0, none⟩)] u fun e u' => e = .returned (.bool (q (xs.getD k 0))) ∧ u = u')) :
    Calls Try.prog 60 #[v, .func (.func 61) #[] #[.pointer (some ⟨bx, 0, none⟩)]] w (GivesRow w (sel (pAtR q xs) xs.length)) := by
  obtain ⟨i0, hi0, hz0, hz1, hz2⟩ := info_parts int_info
  have HI := Lib.hid hi0
  clear hi0
  have E1 : Hid (∀ k : Nat, k < xs.length → ∃ b c, v = .slice (some ⟨b, 0, none⟩) xs.length c ∧ b < w.heap.size ∧ w.cell? ⟨b, k, none⟩ = some (.int .i32 (xs.getD k 0))) := fun k hk => by
    obtain ⟨b, c, rfl, _, hb⟩ := World.ownsRow.form h (by omega)
    exact ⟨b, c, rfl, hb, (h.cell rfl hk).1⟩
  obtain ⟨A, c, rfl⟩ := h.shape
  clear h
  have HP : Hid (∀ k : Nat, pAtR q xs k = q (xs.getD k 0)) := fun k => rfl
  generalize pAtR q xs = p at *
  generalize hn : xs.length = n at *
  clear hn
  go_enter Try.func60, Try.ntmps60
  go_wp2_with fail
  go_loopw [5, 10] (fun v i wr => ∃ k : Nat, k ≤ n ∧ i = .int .i64 k ∧ Row wr w.heap.size v (sel p k) ∧ Below w.heap.size w wr) (fun _ i _ => n - (RowKit.intOf i).toNat)
  case atStart => exact ⟨0, Nat.zero_le _, rfl, Row.nil _ _, Below.refl _ _⟩
  case round =>
    obtain ⟨k, hk, rfl, hr, hbw⟩ := hrel
    have HR := Lib.hid hr
    have HB := Lib.hid hbw
    clear hr hbw
    by_cases hlt : k < n
    · obtain ⟨b, c', e, hbl, hcc⟩ := E1.out k hlt
      simp at e
      obtain ⟨rfl, rfl⟩ := e
      have q1 : wr.cell? ⟨b, k, none⟩ = some (.int .i32 (xs.getD k 0)) := by rw [HB.out.cell (p := ⟨b, k, none⟩) hbl]; exact hcc
      have HC := Lib.hid (H.out k wr hlt HB.out)
      have hp : Hid (p k = q (xs.getD k 0)) := HP.out k
      clear hcc hbl
      generalize xs.getD k 0 = t at *
      have b1 : (0 : Int) ≤ (k : Int) := by omega
      have b2 : (k : Int) < (n : Int) := by omega
      have hlen := sel_len p k
      have sw := HB.out.size
      go_wp2_with fail
      refine HC.out.mono ?_
      rintro e w2 ⟨rfl, rfl⟩
      cases hq : q t
      · have HQ : Hid (p k = false) := hp.out.trans hq
        clear hq
        go_wp2
        go_roundw
        case rel => exact ⟨k + 1, by omega, by go_num, by rw [sel_miss HQ.out]; exact HR.out, HB.out⟩
        case measure => simp [RowKit.intOf]; omega
      · have HQ : Hid (p k = true) := hp.out.trans hq
        clear hq
        go_wp2_with (at_builtin; refine wpList_append_own _ rfl _ _ 22 rfl (w.heap.size) 3 i0 (.int .i64 0) 1 8 Try.underlying22 HI.out hz0 hz1 hz2 rfl (by decide) _ _ _ rfl (World.ownsRow.alloc HR.out _) ⟨wr.heap.size, 0, none⟩ 1 1 [.int .i64 k] rfl rfl ?c1 ?c2 ?c3 ?c4 ?c5 ?_)
        case c1 =>
          intro j u hj
          match j, hj with
          | 0, hj => simp at hj; subst hj; simp [Addr.add]
        case c2 => intro u hu; simp at hu; subst hu; rfl
        case c3 => unfold maxLen; omega
        case c4 => omega
        case c5 => simp; omega
        intro v' w4 hown' hgrow _
        have R1 : Hid (Row w4 w.heap.size v' (sel p (k + 1))) := by rw [sel_hit HQ.out]; exact row_more hown'
        have R2 : Hid (Below w.heap.size w w4) := (HB.out.alloc sw _).grown hgrow (by simp; omega) (fun g hg => (World.ownsRow.lt HR.out g hg).1)
        clear hown' hgrow
        go_wp2
        go_roundw
        case rel => exact ⟨k + 1, by omega, by go_num, R1.out, R2.out⟩
        case measure => simp [RowKit.intOf]; omega
    · obtain rfl : k = n := by omega
      go_wp2
      go_ret
      exact ⟨_, rfl, HR.out, HB.out⟩

set_option maxHeartbeats 1000000 in
theorem c_whereSh (xss : List (List Int)) (v : Value) (w : World) (hl : xss.length ≤ 4000000) (h : SeenL w v xss) :
    Calls Try.prog 56 #[v, .func (.func 57) #[] #[]] w (GivesRow w (sel (fun i => decide (0 < (xss.getD i.toNat []).length)) xss.length)) := by
  obtain ⟨i0, hi0, hz0, hz1, hz2⟩ := info_parts int_info
  have HI := Lib.hid hi0
  clear hi0
  have HS := Lib.hid h
  obtain ⟨A, c, rfl, hm⟩ := h.shape
  have E1 : Hid (∀ k : Nat, k < xss.length → ∃ b off A' c', A = some ⟨b, off, none⟩ ∧ b < w.heap.size ∧ w.cell? ⟨b, off + k, none⟩ = some (.slice A' (xss.getD k []).length c')) := fun k hk => by
    obtain ⟨b, off, A', c', e, h1, h2, _⟩ := HS.out.rowAt hk
    exact ⟨b, off, A', c', e, h1, h2⟩
  have HP : Hid (∀ k : Nat, (fun i : Int => decide (0 < (xss.getD i.toNat []).length)) (k : Int) = decide (0 < (xss.getD k []).length)) := fun k => rfl
  clear h hm
  generalize (fun i : Int => decide (0 < (xss.getD i.toNat []).length)) = p at *
  generalize hn : xss.length = n at *
  clear hn
  go_enter Try.func56, Try.ntmps56
  go_wp2_with fail
  go_loopw [5, 10] (fun v i wr => ∃ k : Nat, k ≤ n ∧ i = .int .i64 k ∧ Row wr w.heap.size v (sel p k) ∧ Below w.heap.size w wr) (fun _ i _ => n - (RowKit.intOf i).toNat)
  case atStart => exact ⟨0, Nat.zero_le _, rfl, Row.nil _ _, Below.refl _ _⟩
  case round =>
    obtain ⟨k, hk, rfl, hr, hbw⟩ := hrel
    have HR := Lib.hid hr
    have HB := Lib.hid hbw
    clear hr hbw
    by_cases hlt : k < n
    · obtain ⟨b, off, A', c', rfl, hbl, hcc⟩ := E1.out k hlt
      have q1 : wr.cell? ⟨b, off + k, none⟩ = some (.slice A' (xss.getD k []).length c') := by rw [HB.out.cell (p := ⟨b, off + k, none⟩) hbl]; exact hcc
      have hp : Hid (p k = decide (0 < (xss.getD k []).length)) := HP.out k
      clear hcc hbl
      generalize (xss.getD k []).length = t at *
      have HC := Lib.hid (c_whereSh1 A' t c' wr)
      have b1 : (0 : Int) ≤ (k : Int) := by omega
      have b2 : (k : Int) < (n : Int) := by omega
      have hlen := sel_len p k
      have sw := HB.out.size
      go_wp2_with fail
      refine HC.out.mono ?_
      rintro e w2 ⟨rfl, rfl⟩
      cases hq : decide (0 < t)
      · have HQ : Hid (p k = false) := hp.out.trans hq
        clear hq
        go_wp2
        go_roundw
        case rel => exact ⟨k + 1, by omega, by go_num, by rw [sel_miss HQ.out]; exact HR.out, HB.out⟩
        case measure => simp [RowKit.intOf]; omega
      · have HQ : Hid (p k = true) := hp.out.trans hq
        clear hq
        go_wp2_with (at_builtin; refine wpList_append_own _ rfl _ _ 22 rfl (w.heap.size) 3 i0 (.int .i64 0) 1 8 Try.underlying22 HI.out hz0 hz1 hz2 rfl (by decide) _ _ _ rfl (World.ownsRow.alloc HR.out _) ⟨wr.heap.size, 0, none⟩ 1 1 [.int .i64 k] rfl rfl ?c1 ?c2 ?c3 ?c4 ?c5 ?_)
        case c1 =>
          intro j u hj
          match j, hj with
          | 0, hj => simp at hj; subst hj; simp [Addr.add]
        case c2 => intro u hu; simp at hu; subst hu; rfl
        case c3 => unfold maxLen; omega
        case c4 => omega
        case c5 => simp; omega
        intro v' w4 hown' hgrow _
        have R1 : Hid (Row w4 w.heap.size v' (sel p (k + 1))) := by rw [sel_hit HQ.out]; exact row_more hown'
        have R2 : Hid (Below w.heap.size w w4) := (HB.out.alloc sw _).grown hgrow (by simp; omega) (fun g hg => (World.ownsRow.lt HR.out g hg).1)
        clear hown' hgrow
        go_wp2
        go_roundw
        case rel => exact ⟨k + 1, by omega, by go_num, R1.out, R2.out⟩
        case measure => simp [RowKit.intOf]; omega
    · obtain rfl : k = n := by omega
      go_wp2
      go_ret
      exact ⟨_, rfl, HR.out, HB.out⟩
end Go.Proofs.Ytoakpepoopjlaaa

namespace Go.Proofs.Ytoakpepoopjlaaa
open Go.RowKit
set_option linter.unusedVariables false

/-- The first factors. -/
def ffL (P : Nat → Int → Bool) (n M : Nat) : List Int := (List.range n).map fun (i : Nat) => fiI P (M + 1) i
theorem ffL_len (P : Nat → Int → Bool) (n M : Nat) : (ffL P n M).length = n := by simp [ffL]
theorem ffL_at {P : Nat → Int → Bool} {n M i : Nat} (h : i < n) : (ffL P n M).getD i 0 = fiI P (M + 1) i := by simp [ffL, h]
theorem mk_fi {P : Nat → Int → Bool} {n f i : Nat} (h : i < n) : (mkL P n f 0).getD i 0 = 48 + fiI P f i := by rw [mk_at h]; simp [mkE]
noncomputable def ffA (xss : List (List Int)) (gs cs : List Int) (m : Int) : List Int := if asB xss gs cs m then ffL (ptP xss gs cs) xss.length m.toNat else []
theorem ffA_len (xss : List (List Int)) (gs cs : List Int) (m : Int) : (ffA xss gs cs m).length ≤ 4000000 := by
  unfold ffA
  split
  · rename_i h
    have := arc_len (Asked.of h).arcs
    rw [ffL_len]
    omega
  · simp

theorem RowU.open_ {w : World} {B n : Nat} {v : Value} {xs : List Int} (h : RowU w B v xs) (hn : xs.length = n) (h0 : 0 < n) : ∃ g c, v = .slice (some ⟨g, 0, none⟩) n c ∧ B ≤ g ∧ g < w.heap.size ∧ RowU w B (.slice (some ⟨g, 0, none⟩) n c) xs := by
  subst hn
  obtain ⟨g, c, rfl, h1, h2⟩ := World.ownsRow.form h h0
  exact ⟨g, c, rfl, h1, h2, h⟩

set_option maxHeartbeats 4000000 in
set_option maxRecDepth 100000 in
theorem c_FirstFactors (xss : List (List Int)) (gs cs : List Int) (m : Int) (v u t : Value) (w : World) (hs : ShortL xss) (l1 : gs.length ≤ 4000000) (l2 : cs.length ≤ 4000000) (h : SeenL w v xss) (hu : Seen w u gs) (ht : Seen w t cs) :
    Calls Try.prog 33 #[v, u, t, .int .i64 m] w (GivesRow2 w (ffA xss gs cs m) (asB xss gs cs m)) := by
  have CV : Hid (∀ w1, Below w.heap.size w w1 → Calls Try.prog 53 #[.agg #[v, u, t, .int .i64 m]] w1 fun e w' => e = .returned (.bool (asB xss gs cs m)) ∧ Below w1.heap.size w1 w') := fun w1 hb => c_isValid xss gs cs m v u t w1 hs l1 l2 (h.below hb) (hu.below hb) (ht.below hb)
  have HB0 : Hid (Below w.heap.size w (w.alloc (.cells #[v, u, t, .int .i64 m] 51))) := (Below.refl _ _).alloc (Nat.le_refl _) _
  cases hA : asB xss gs cs m
  · have e1 : ffA xss gs cs m = [] := by unfold ffA; rw [hA]; rfl
    rw [e1]
    rw [hA] at CV
    obtain ⟨A, c, rfl, hm⟩ := h.shape
    obtain ⟨A2, c2, rfl⟩ := hu.shape
    obtain ⟨A3, c3, rfl⟩ := ht.shape
    clear h hu ht hs l1 l2 hm hA e1
    generalize xss.length = n at *
    generalize gs.length = n2 at *
    generalize cs.length = n3 at *
    go_enter Try.func33, Try.ntmps33
    go_wp2_with fail
    refine (CV.out _ HB0.out).mono ?_
    rintro e w1 ⟨rfl, hb⟩
    have HB1 : Hid (Below w.heap.size w w1) := HB0.out.trans (hb.mono HB0.out.size)
    clear hb
    go_wp2
    go_ret2
    exact ⟨_, rfl, Row.nil _ _, HB1.out⟩
  · have K := Asked.of hA
    obtain ⟨M, rfl⟩ := Int.eq_ofNat_of_zero_le K.f0
    have e1 : ffA xss gs cs M = ffL (ptP xss gs cs) xss.length M := by unfold ffA; rw [hA]; rfl
    rw [e1]
    rw [hA] at CV
    have M1 : M ≤ 60 := by have := K.f1; omega
    have hN := arc_len K.arcs
    have CM : Hid (∀ w1, Below w.heap.size w w1 → Calls Try.prog 58 #[.agg #[v, u, t, .int .i64 M]] w1 (GivesRowU w1 (mkL (ptP xss gs cs) xss.length (M + 1) 0))) := fun w1 hb => c_marks xss gs cs M v u t w1 hs K hA (h.below hb) (hu.below hb) (ht.below hb)
    obtain ⟨A, c, rfl, hm⟩ := h.shape
    obtain ⟨A2, c2, rfl⟩ := hu.shape
    obtain ⟨A3, c3, rfl⟩ := ht.shape
    clear h hu ht hs l1 l2 hm hA e1 K
    generalize ptP xss gs cs = P at *
    generalize xss.length = n at *
    generalize gs.length = n2 at *
    generalize cs.length = n3 at *
    obtain ⟨n1, n4⟩ := hN
    have FI : Hid (∀ i, i < n → (mkL P n (M + 1) 0).getD i 0 = 48 + (ffL P n M).getD i 0 ∧ -1 ≤ (ffL P n M).getD i 0 ∧ (ffL P n M).getD i 0 ≤ 61) := fun i hi => by
      have := fi_box P i (M + 1)
      rw [mk_fi hi, ffL_at hi]
      exact ⟨rfl, by omega, by omega⟩
    have YL : (ffL P n M).length = n := ffL_len P n M
    have ML : Hid ((mkL P n (M + 1) 0).length = n) := mk_len P n _ _
    have HS : Hid (∀ j, j < n → (half (ffL P n M) j).set j ((ffL P n M).getD j 0) = half (ffL P n M) (j + 1)) := fun j hj => half_set _ j (by omega)
    have HL : Hid (∀ j, j ≤ n → (half (ffL P n M) j).length = n) := fun j hj => by rw [half_len _ j (by omega), YL]
    have H0 : Hid (half (ffL P n M) 0 = List.replicate n 0) := by show _ = _; rw [half_zero, YL]
    have HN : Hid (half (ffL P n M) n = ffL P n M) := by
      have := half_all (ffL P n M)
      rwa [YL] at this
    have HX0 : Hid ((w.alloc (.cells #[.slice A n c, .slice A2 n2 c2, .slice A3 n3 c3, .int .i64 M] 51)).heap[w.heap.size]? = some (.cells #[.slice A n c, .slice A2 n2 c2, .slice A3 n3 c3, .int .i64 M] 51 (0, 0))) := World.alloc_heap_new _ _
    go_enter Try.func33, Try.ntmps33
    go_wp2_with fail
    refine (CV.out _ HB0.out).mono ?_
    rintro e w1 ⟨rfl, hb⟩
    have HB1 : Hid (Below w.heap.size w w1) := HB0.out.trans (hb.mono HB0.out.size)
    have HX1 : Hid (w1.heap[w.heap.size]? = some (.cells #[.slice A n c, .slice A2 n2 c2, .slice A3 n3 c3, .int .i64 M] 51 (0, 0))) := (hb.block _ (by simp)).trans HX0.out
    have hz1 : w.heap.size < w1.heap.size := (Array.getElem?_eq_some_iff.1 HX1.out).1
    have x0 : w1.cell? ⟨w.heap.size, 0, none⟩ = some (.slice A n c) := by have := HX1.out; simp [World.cell?, this]
    have x1 : w1.cell? ⟨w.heap.size, 1, none⟩ = some (.slice A2 n2 c2) := by have := HX1.out; simp [World.cell?, this]
    have x2 : w1.cell? ⟨w.heap.size, 2, none⟩ = some (.slice A3 n3 c3) := by have := HX1.out; simp [World.cell?, this]
    have x3 : w1.cell? ⟨w.heap.size, 3, none⟩ = some (.int .i64 M) := by have := HX1.out; simp [World.cell?, this]
    have hmk := mk_ints w1 n (by omega)
    have HB2 : Hid (Below w.heap.size w (w1.alloc (.cells (madeCells #[.int .i64 0] n) 3))) := HB1.out.alloc HB1.out.size _
    have HZ : Hid (Row (w1.alloc (.cells (madeCells #[.int .i64 0] n) 3)) w1.heap.size (.slice (some ⟨w1.heap.size, 0, none⟩) n n) (List.replicate n 0)) := row_zeros w1 n (by unfold maxLen; omega)
    have CM2 := Lib.hid (CM.out _ HB2.out)
    clear hb HX0 HB0 CV CM
    go_wp2_with fail
    refine CM2.out.mono ?_
    rintro e w2 ⟨v2, rfl, hr, hb⟩
    have HB3 : Hid (Below w.heap.size w w2) := HB2.out.trans (hb.mono HB2.out.size)
    have HR3 : Hid (Row w2 w.heap.size (.slice (some ⟨w1.heap.size, 0, none⟩) n n) (half (ffL P n M) 0)) := by show Row _ _ _ _; rw [H0.out]; exact (HZ.out.below hb).mono HB1.out.size
    have hz3 : w1.heap.size + 1 ≤ w2.heap.size := by have := hb.size; simpa using this
    obtain ⟨gm, cm, rfl, hg1, hg2, hr2⟩ := RowU.open_ hr ML.out (by omega)
    have hg1' : w1.heap.size + 1 ≤ gm := by simpa using hg1
    have HU3 : Hid (RowU w2 (w1.heap.size + 1) (.slice (some ⟨gm, 0, none⟩) n cm) (mkL P n (M + 1) 0)) := hr2.mono (by simp)
    have hB1 := HB1.out.size
    clear hr hr2 hb HB2 HZ hmk x0 x1 x2 x3 HX1 hg1 CM2 HB1
    generalize mkL P n (M + 1) 0 = MK at *
    generalize ffL P n M = FF at *
    generalize w1.heap.size = g at *
    go_wp2_with fail
    go_loopw [28] (fun i wr => ∃ k : Nat, k ≤ n ∧ i = .int .i64 k ∧ Row wr w.heap.size (.slice (some ⟨g, 0, none⟩) n n) (half FF k) ∧ RowU wr (g + 1) (.slice (some ⟨gm, 0, none⟩) n cm) MK ∧ Below w.heap.size w wr) (fun i _ => n - (RowKit.intOf i).toNat)
    case atStart => exact ⟨0, Nat.zero_le _, rfl, HR3.out, HU3.out, HB3.out⟩
    case round =>
      obtain ⟨k, hk, rfl, hr, hu, hb⟩ := hrel
      have HR := Lib.hid hr
      have HU := Lib.hid hu
      have HB := Lib.hid hb
      clear hr hu hb
      by_cases hlt : k < n
      · obtain ⟨f1, f2, f3⟩ := FI.out k hlt
        obtain ⟨q1, _⟩ := HU.out.cell ML.out.symm (j := k) hlt
        rw [f1] at q1
        have hkl : k < (half FF k).length := by rw [HL.out k hk]; exact hlt
        have q2 : wr.cell? ⟨g, k, none⟩ = some (.int .i64 ((half FF k).getD k 0)) := by
          have hr := HR.out
          rw [← HL.out k hk] at hr
          exact hr.cell k hkl
        have q3 : wr.frozen? ⟨g, k, none⟩ = false := by
          have hr := HR.out
          rw [← HL.out k hk] at hr
          exact hr.frozen k
        have N1 : Hid (Row (wr.setCell ⟨g, k, none⟩ (.int .i64 (FF.getD k 0))) w.heap.size (.slice (some ⟨g, 0, none⟩) n n) (half FF (k + 1)) ∧ wr.grownBy (wr.setCell ⟨g, k, none⟩ (.int .i64 (FF.getD k 0))) (some g)) := by
          have := Row.set_ (HL.out k hk).symm HR.out k (FF.getD k 0)
          rw [HS.out k hlt] at this
          exact this
        have N2 : Hid (RowU (wr.setCell ⟨g, k, none⟩ (.int .i64 (FF.getD k 0))) (g + 1) (.slice (some ⟨gm, 0, none⟩) n cm) MK) := World.ownsRow.kept HU.out N1.out.2 (.inr (by simp [Value.ownBlock]; omega))
        generalize (half FF k).getD k 0 = z at q2
        generalize FF.getD k 0 = e at *
        have e1 : IntKind.i32.wrap (48 + e - 48) = e := by rw [IntKind.wrap_i32]; omega
        have e2 : IntKind.i64.wrap e = e := IntWalk.i64_in _ (by omega)
        have b1 : (0 : Int) ≤ (k : Int) := by omega
        have b3 : (k : Int) < (n : Int) := by omega
        clear hkl f1
        go_wp2
        go_roundw
        case rel => exact ⟨k + 1, by omega, by go_num, N1.out.1, N2.out, HB.out.setCell (by omega) _⟩
        case measure => simp [RowKit.intOf]; omega
      · obtain rfl : k = n := by omega
        go_wp2
        go_ret2
        exact ⟨_, rfl, by have := HR.out; rw [HN.out] at this; exact this, HB.out⟩
end Go.Proofs.Ytoakpepoopjlaaa

namespace Go.Proofs.Ytoakpepoopjlaaa
open Go.RowKit
set_option linter.unusedVariables false

/-- The shells. -/
def shsL (P : Nat → Int → Bool) (n k : Nat) : List (List Int) := (List.range k).map (shL P n)
theorem shs_len (P : Nat → Int → Bool) (n k : Nat) : (shsL P n k).length = k := by simp [shsL]
theorem shs_at {P : Nat → Int → Bool} {n k f : Nat} (h : f < k) : (shsL P n k).getD f [] = shL P n f := by simp [shsL, h]
noncomputable def shA (xss : List (List Int)) (gs cs : List Int) (m : Int) : List (List Int) := if asB xss gs cs m then shsL (ptP xss gs cs) xss.length (m.toNat + 1) else []

set_option maxHeartbeats 4000000 in
set_option maxRecDepth 100000 in
theorem c_ShellsOf (xss : List (List Int)) (gs cs : List Int) (m : Int) (v u t : Value) (w : World) (hs : ShortL xss) (l1 : gs.length ≤ 4000000) (l2 : cs.length ≤ 4000000) (h : SeenL w v xss) (hu : Seen w u gs) (ht : Seen w t cs) :
    Calls Try.prog 35 #[v, u, t, .int .i64 m] w (GivesRows2 w (shA xss gs cs m) (asB xss gs cs m)) := by
  have CV : Hid (∀ w1, Below w.heap.size w w1 → Calls Try.prog 53 #[.agg #[v, u, t, .int .i64 m]] w1 fun e w' => e = .returned (.bool (asB xss gs cs m)) ∧ Below w1.heap.size w1 w') := fun w1 hb => c_isValid xss gs cs m v u t w1 hs l1 l2 (h.below hb) (hu.below hb) (ht.below hb)
  have HB0 : Hid (Below w.heap.size w (w.alloc (.cells #[v, u, t, .int .i64 m] 51))) := (Below.refl _ _).alloc (Nat.le_refl _) _
  cases hA : asB xss gs cs m
  · have e1 : shA xss gs cs m = [] := by unfold shA; rw [hA]; rfl
    rw [e1]
    rw [hA] at CV
    obtain ⟨A, c, rfl, hm⟩ := h.shape
    obtain ⟨A2, c2, rfl⟩ := hu.shape
    obtain ⟨A3, c3, rfl⟩ := ht.shape
    clear h hu ht hs l1 l2 hm hA e1
    generalize xss.length = n at *
    generalize gs.length = n2 at *
    generalize cs.length = n3 at *
    go_enter Try.func35, Try.ntmps35
    go_wp2_with fail
    refine (CV.out _ HB0.out).mono ?_
    rintro e w1 ⟨rfl, hb⟩
    have HB1 : Hid (Below w.heap.size w w1) := HB0.out.trans (hb.mono HB0.out.size)
    clear hb
    go_wp2
    go_ret2
    exact ⟨_, rfl, Rows.nil _ _ _, HB1.out⟩
  · have K := Asked.of hA
    obtain ⟨M, rfl⟩ := Int.eq_ofNat_of_zero_le K.f0
    have e1 : shA xss gs cs M = shsL (ptP xss gs cs) xss.length (M + 1) := by unfold shA; rw [hA]; rfl
    rw [e1]
    rw [hA] at CV
    have G := K.grow w
    have M1 : M ≤ 60 := by have := K.f1; omega
    have hN := arc_len K.arcs
    have CM : Hid (∀ w1, Below w.heap.size w w1 → Calls Try.prog 58 #[.agg #[v, u, t, .int .i64 M]] w1 (GivesRowU w1 (mkL (ptP xss gs cs) xss.length (M + 1) 0))) := fun w1 hb => c_marks xss gs cs M v u t w1 hs K hA (h.below hb) (hu.below hb) (ht.below hb)
    obtain ⟨A, c, rfl, hm⟩ := h.shape
    obtain ⟨A2, c2, rfl⟩ := hu.shape
    obtain ⟨A3, c3, rfl⟩ := ht.shape
    clear h hu ht hs l1 l2 hm hA e1 K
    generalize ptP xss gs cs = P at *
    generalize xss.length = n at *
    generalize gs.length = n2 at *
    generalize cs.length = n3 at *
    obtain ⟨n1, n4⟩ := hN
    have ML : Hid ((mkL P n (M + 1) 0).length = n) := mk_len P n _ _
    have OL : Hid ((shsL P n (M + 1)).length = M + 1) := shs_len P n _
    have OA : Hid (∀ k, k < M + 1 → (shsL P n (M + 1)).getD k [] = shL P n k) := fun k hk => shs_at hk
    have SM : Hid (∀ k, k < M + 1 → sel (pAtR (fun x => decide (x = 48 + (k : Int))) (mkL P n (M + 1) 0)) n = shL P n k) := fun k hk => by
      refine sel_congr fun i hi => ?_
      unfold pAtR
      rw [Int.toNat_natCast, mk_fi hi]
      have := fi_at G hi (show k ≤ M by omega)
      unfold shP
      rw [← this]
      exact decide_eq_decide.2 (by omega)
    have HX0 : Hid ((w.alloc (.cells #[.slice A n c, .slice A2 n2 c2, .slice A3 n3 c3, .int .i64 M] 51)).heap[w.heap.size]? = some (.cells #[.slice A n c, .slice A2 n2 c2, .slice A3 n3 c3, .int .i64 M] 51 (0, 0))) := World.alloc_heap_new _ _
    go_enter Try.func35, Try.ntmps35
    go_wp2_with fail
    refine (CV.out _ HB0.out).mono ?_
    rintro e w1 ⟨rfl, hb⟩
    have HB1 : Hid (Below w.heap.size w w1) := HB0.out.trans (hb.mono HB0.out.size)
    have HX1 : Hid (w1.heap[w.heap.size]? = some (.cells #[.slice A n c, .slice A2 n2 c2, .slice A3 n3 c3, .int .i64 M] 51 (0, 0))) := (hb.block _ (by simp)).trans HX0.out
    have hz1 : w.heap.size < w1.heap.size := (Array.getElem?_eq_some_iff.1 HX1.out).1
    have x0 : w1.cell? ⟨w.heap.size, 0, none⟩ = some (.slice A n c) := by have := HX1.out; simp [World.cell?, this]
    have x1 : w1.cell? ⟨w.heap.size, 1, none⟩ = some (.slice A2 n2 c2) := by have := HX1.out; simp [World.cell?, this]
    have x2 : w1.cell? ⟨w.heap.size, 2, none⟩ = some (.slice A3 n3 c3) := by have := HX1.out; simp [World.cell?, this]
    have x3 : w1.cell? ⟨w.heap.size, 3, none⟩ = some (.int .i64 M) := by have := HX1.out; simp [World.cell?, this]
    have CM2 := Lib.hid (CM.out _ HB1.out)
    clear hb HX0 HB0 CV CM G
    go_wp2_with fail
    refine CM2.out.mono ?_
    rintro e w2 ⟨v2, rfl, hr, hb⟩
    have HB2 : Hid (Below w.heap.size w w2) := HB1.out.trans (hb.mono HB1.out.size)
    obtain ⟨gm, cm, rfl, hg1, hg2, hr2⟩ := RowU.open_ hr ML.out (by omega)
    have hmk : (Instr.makeSlice 29 (.int .i64 ((M : Int) + 1)) (.int .i64 ((M : Int) + 1))).run Try.prog w2 = _ := mk_lists w2 (M + 1) (by omega)
    have e2 : IntKind.i64.wrap ((M : Int) + 1) = (M : Int) + 1 := IntWalk.i64_in _ (by omega)
    have HB3 : Hid (Below w.heap.size w (w2.alloc (.cells (madeCells #[.slice none 0 0] (M + 1)) 22))) := HB2.out.alloc HB2.out.size _
    have HZ : Hid (Rows (w2.alloc (.cells (madeCells #[.slice none 0 0] (M + 1)) 22)) w.heap.size (w2.alloc (.cells (madeCells #[.slice none 0 0] (M + 1)) 22)).heap.size (.slice (some ⟨w2.heap.size, 0, none⟩) (M + 1) (M + 1)) (stg (shsL P n (M + 1)) 0)) := by
      show Rows _ _ _ _ _
      rw [stg_zero, OL.out]
      exact (rows_nils w2 (M + 1) (by unfold maxLen; omega)).mono HB2.out.size
    have HU3 : Hid (RowU (w2.alloc (.cells (madeCells #[.slice none 0 0] (M + 1)) 22)) w.heap.size (.slice (some ⟨gm, 0, none⟩) n cm) (mkL P n (M + 1) 0)) := (hr2.mono HB1.out.size).below ((Below.refl _ _).alloc (Nat.le_refl _) _)
    have hB2 := HB2.out.size
    have ST : Hid (∀ k, k < M + 1 → (stg (shsL P n (M + 1)) k).set k (shL P n k) = stg (shsL P n (M + 1)) (k + 1)) := fun k hk => by rw [← OA.out k hk]; exact stg_set _ k (by rw [OL.out]; exact hk)
    have SL : Hid (∀ k, k ≤ M + 1 → (stg (shsL P n (M + 1)) k).length = M + 1) := fun k hk => by rw [stg_len _ k (by rw [OL.out]; exact hk)]; exact OL.out
    have SA : Hid (stg (shsL P n (M + 1)) (M + 1) = shsL P n (M + 1)) := by
      have := stg_all (shsL P n (M + 1))
      rwa [OL.out] at this
    have HMK : Hid (∀ i, (mkL P n (M + 1) 0).getD i 0 = (mkL P n (M + 1) 0).getD i 0) := fun i => rfl
    clear hr hr2 hb HB2 x0 x1 x2 x3 HX1 hg1 CM2 HB1 HMK
    generalize mkL P n (M + 1) 0 = MK at *
    generalize stg (shsL P n (M + 1)) = SG at *
    generalize shsL P n (M + 1) = O at *
    generalize shL P n = SH at *
    go_wp2_with fail
    clear hmk
    generalize w2.alloc (.cells (madeCells #[.slice none 0 0] (M + 1)) 22) = w3 at *
    generalize w2.heap.size = g at *
    go_loopw [29] (fun i wr => ∃ k : Nat, k ≤ M + 1 ∧ i = .int .i64 k ∧ Rows wr w.heap.size wr.heap.size (.slice (some ⟨g, 0, none⟩) (M + 1) (M + 1)) (SG k) ∧ RowU wr w.heap.size (.slice (some ⟨gm, 0, none⟩) n cm) MK ∧ Below w.heap.size w wr) (fun i _ => M + 1 - (RowKit.intOf i).toNat)
    case atStart => exact ⟨0, Nat.zero_le _, rfl, HZ.out, HU3.out, HB3.out⟩
    case round =>
      obtain ⟨k, hk, rfl, hr, hu, hb⟩ := hrel
      by_cases hlt : k < M + 1
      · have b1 : (0 : Int) ≤ (k : Int) := by omega
        have b2 : (k : Int) < (M : Int) + 1 := by omega
        obtain ⟨bk, hbk⟩ : ∃ bk, wr.heap.size = bk := ⟨_, rfl⟩
        have hbb : Below wr.heap.size wr (wr.alloc (.cells #[.int .i64 k] 3)).drew := ((Below.refl _ _).alloc (Nat.le_refl _) _).drew
        have HBd : Hid (Below w.heap.size w (wr.alloc (.cells #[.int .i64 k] 3)).drew) := hb.trans (hbb.mono hb.size)
        have HXd : Hid ((wr.alloc (.cells #[.int .i64 k] 3)).drew.cell? ⟨bk, 0, none⟩ = some (.int .i64 (k : Int))) := by rw [← hbk]; simp [Hid]
        have HZk : Hid (bk < (wr.alloc (.cells #[.int .i64 k] 3)).drew.heap.size) := by rw [← hbk]; simp [Hid]
        have hud : RowU (wr.alloc (.cells #[.int .i64 k] 3)).drew w.heap.size (.slice (some ⟨gm, 0, none⟩) n cm) MK := hu.below hbb
        have CW : Hid (Calls Try.prog 60 #[.slice (some ⟨gm, 0, none⟩) n cm, .func (.func 61) #[] #[.pointer (some ⟨bk, 0, none⟩)]] (wr.alloc (.cells #[.int .i64 k] 3)).drew (GivesRow (wr.alloc (.cells #[.int .i64 k] 3)).drew (SH k))) := by
          have := c_whereMk MK _ bk _ (fun x => decide (x = 48 + (k : Int))) (wr.alloc (.cells #[.int .i64 k] 3)).drew (by rw [ML.out]; omega) hud (fun j u hj hu' => c_whereMk1 _ k bk u (by omega) ((hu'.cell (p := ⟨bk, 0, none⟩) HZk.out).trans HXd.out))
          rwa [ML.out, SM.out k hlt] at this
        have HP : Hid (∀ (wz : World) (p : Value), Below (wr.alloc (.cells #[.int .i64 k] 3)).drew.heap.size (wr.alloc (.cells #[.int .i64 k] 3)).drew wz → Row wz (wr.alloc (.cells #[.int .i64 k] 3)).drew.heap.size p (SH k) →
            (∃ old, wz.cell? ⟨g, k, none⟩ = some old) ∧ wz.frozen? ⟨g, k, none⟩ = false ∧ Rows (wz.setCell ⟨g, k, none⟩ p) w.heap.size (wz.setCell ⟨g, k, none⟩ p).heap.size (.slice (some ⟨g, 0, none⟩) (M + 1) (M + 1)) (SG (k + 1)) ∧ RowU (wz.setCell ⟨g, k, none⟩ p) w.heap.size (.slice (some ⟨gm, 0, none⟩) n cm) MK ∧ Below w.heap.size w (wz.setCell ⟨g, k, none⟩ p)) := fun wz p hbz hrz => by
          have hrz2 := (hr.below hbb (Nat.le_refl _)).below hbz (by have := hbb.size; omega)
          obtain ⟨vs, hv⟩ := hrz2
          have hsl := SL.out k hk
          have ho := hv.own
          rw [hsl] at ho
          have hput := hv.put (j := k) (ys := SH k) (p := p) hsl.symm (by omega) (hrz.mono (by have := hbb.size; have := hb.size; omega)) (fun i hi => by have := (World.ownsRow.lt hrz i hi).1; have := hbb.size; omega)
          rw [ST.out k hlt] at hput
          have hg := set_grownG wz ⟨g, k, none⟩ p
          have hgB := (World.ownsRow.lt ho g rfl).1
          refine ⟨⟨vs.getD k (.slice none 0 0), ?_⟩, World.ownsRow.frozenAt ho k, ⟨_, hput⟩, ?_, (hb.trans ((hbb.mono hb.size).trans (hbz.mono (by have := hbb.size; have := hb.size; omega)))).setCell hgB p⟩
          · have := hv
            rw [← hsl] at this
            exact this.cell (by omega)
          · refine World.ownsRow.kept (hud.below hbz) hg (.inr fun e => ?_)
            simp [Value.ownBlock] at e
            have h1 := own_types ho (hud.below hbz) (by decide) (k := g) rfl
            simp [Value.ownBlock] at h1
            exact h1 e
        clear hr hu hud hbb
        go_wp2_with fail
        obtain ⟨Sa, hSa⟩ : ∃ S : World → Prop, S = (fun u => u.cell? ⟨bk, 0, none⟩ = some (.int .i64 (k : Int))) := ⟨_, rfl⟩
        refine region_till Sa 6 (by kernel_rfl) (by rw [hSa]; exact HXd.out) (fun hHeld => ?_)
        refine till_take (i := 0) (v := ?va_0) rfl (by kernel_rfl) (by kernel_rfl) (by kernel_rfl) (by kernel_rfl) (fun _ _ _ h => h) (Or.inl ⟨by rfl, ?hya_0⟩) (by assumption) ?resta_0
        case hya_0 =>
          intro u hSw
          rw [hSa] at hSw; have x0 := hSw
          go_simp
          try with_reducible rfl
        case resta_0 =>
          refine till_take (i := 1) (v := ?va_1) rfl (by kernel_rfl) (by kernel_rfl) (by kernel_rfl) (by kernel_rfl) (fun _ _ _ h => h) (Or.inl ⟨by rfl, ?hya_1⟩) (by assumption) ?resta_1
          case hya_1 =>
            intro u hSw
            rw [hSa] at hSw; have x0 := hSw
            go_simp
            try with_reducible rfl
          case resta_1 =>
            refine till_take (i := 2) (v := ?va_2) rfl (by kernel_rfl) (by kernel_rfl) (by kernel_rfl) (by kernel_rfl) (fun _ _ _ h => h) (Or.inl ⟨by rfl, ?hya_2⟩) (by assumption) ?resta_2
            case hya_2 =>
              intro u hSw
              rw [hSa] at hSw; have x0 := hSw
              go_simp
              try with_reducible rfl
            case resta_2 =>
              refine till_take (i := 3) (v := ?va_3) rfl (by kernel_rfl) (by kernel_rfl) (by kernel_rfl) (by kernel_rfl) (fun _ _ _ h => h) (Or.inl ⟨by rfl, ?hya_3⟩) (by assumption) ?resta_3
              case hya_3 =>
                intro u hSw
                rw [hSa] at hSw; have x0 := hSw
                go_simp
                try with_reducible rfl
              case resta_3 =>
                simp only [List.getElem_toArray, List.getElem_cons_zero, List.getElem_cons_succ, Act.put, List.setIfInBounds_toArray, List.set_cons_zero, List.set_cons_succ]
                refine till_one (i := 4) rfl (by kernel_rfl) (fun K hK => ?_)
                go_simp
                refine (CW.out).mono ?_
                rintro e wz ⟨v4, rfl, hr4, hb4⟩
                have HBz : Hid (Below w.heap.size w wz) := HBd.out.trans (hb4.mono HBd.out.size)
                have HXz : Hid (wz.cell? ⟨bk, 0, none⟩ = some (.int .i64 (k : Int))) := (hb4.cell (p := ⟨bk, 0, none⟩) HZk.out).trans HXd.out
                have HPz := Lib.hid (HP.out wz v4 hb4 hr4)
                obtain ⟨A4, c4, rfl⟩ := hr4.shape
                clear hr4 hb4
                refine hK.out _ _ (fun hz => by rw [hSa]; exact HXz.out) (fun hH => ?_)
                have hHeld := hH (by omega)
                clear hK K hH
                refine till_take (i := 5) (v := ?va_5) rfl (by kernel_rfl) (by kernel_rfl) (by kernel_rfl) (by kernel_rfl) (fun _ _ _ h => h) (Or.inl ⟨by rfl, ?hya_5⟩) (by assumption) ?resta_5
                case hya_5 =>
                  intro u hSw
                  rw [hSa] at hSw; have x0 := hSw
                  go_simp
                  try with_reducible rfl
                case resta_5 =>
                  simp only [List.getElem_toArray, List.getElem_cons_zero, List.getElem_cons_succ, Act.put, List.setIfInBounds_toArray, List.set_cons_zero, List.set_cons_succ]
                  refine till_one (i := 6) rfl (by kernel_rfl) (fun K hK => ?_)
                  obtain ⟨⟨old, q2⟩, q3, HPut, HMz, HBn⟩ := HPz.out
                  go_simp
                  refine hK.out _ _ (fun hz => absurd rfl hz) (fun hH => ?_)
                  clear hK K hH
                  refine till_done (by kernel_rfl) ?_ _
                  go_wp2
                  go_roundw
                  case rel => exact ⟨k + 1, by omega, by go_num, HPut, HMz, HBn⟩
                  case measure => simp [RowKit.intOf]; omega
      · obtain rfl : k = M + 1 := by omega
        have b1 : ¬ ((M : Int) + 1 < (M : Int) + 1) := by omega
        have HR := Lib.hid hr
        have HB := Lib.hid hb
        clear hr hu hb
        go_wp2
        go_ret2
        exact ⟨_, rfl, by have := HR.out; rw [SA.out] at this; exact this, HB.out⟩
end Go.Proofs.Ytoakpepoopjlaaa

namespace Go.Proofs.Ytoakpepoopjlaaa
open Go.RowKit
set_option linter.unusedVariables false

/-- The factors at which the pit changes. -/
def cgP (P : Nat → Int → Bool) (n : Nat) (i : Int) : Bool := decide (0 < i.toNat) && !decide (sel (P i.toNat) n = sel (P (i.toNat - 1)) n)
noncomputable def cgA (xss : List (List Int)) (gs cs : List Int) (m : Int) : List Int := if asB xss gs cs m then sel (cgP (ptP xss gs cs) xss.length) (m.toNat + 1) else []
theorem cgA_len (xss : List (List Int)) (gs cs : List Int) (m : Int) : (cgA xss gs cs m).length ≤ 4000000 := by
  unfold cgA
  split
  · rename_i h
    have := (Asked.of h).f1
    have := sel_len (cgP (ptP xss gs cs) xss.length) (m.toNat + 1)
    omega
  · simp

set_option maxHeartbeats 1000000 in
theorem c_ChangesOf (xss : List (List Int)) (gs cs : List Int) (m : Int) (v u t : Value) (w : World) (hs : ShortL xss) (l1 : gs.length ≤ 4000000) (l2 : cs.length ≤ 4000000) (h : SeenL w v xss) (hu : Seen w u gs) (ht : Seen w t cs) :
    Calls Try.prog 31 #[v, u, t, .int .i64 m] w (GivesRow2 w (cgA xss gs cs m) (asB xss gs cs m)) := by
  have C0 := Lib.hid (c_ShellsOf xss gs cs m v u t w hs l1 l2 h hu ht)
  have CN : Hid (asB xss gs cs m = false → cgA xss gs cs m = []) := fun e => by unfold cgA; rw [e]; rfl
  have CY : Hid (asB xss gs cs m = true → ∀ (x : Value) (w1 : World), SeenL w1 x (shA xss gs cs m) → Calls Try.prog 56 #[x, .func (.func 57) #[] #[]] w1 (GivesRow w1 (cgA xss gs cs m))) := fun e x w1 hx => by
    have K := Asked.of e
    obtain ⟨M, rfl⟩ := Int.eq_ofNat_of_zero_le K.f0
    have G := K.grow w
    have e1 : shA xss gs cs M = shsL (ptP xss gs cs) xss.length (M + 1) := by unfold shA; rw [e]; rfl
    have e2 : cgA xss gs cs M = sel (cgP (ptP xss gs cs) xss.length) (M + 1) := by unfold cgA; rw [e]; rfl
    have hl : (shA xss gs cs M).length = M + 1 := by rw [e1, shs_len]
    have hM : M ≤ 60 := by have := K.f1; omega
    have := c_whereSh (shA xss gs cs M) x w1 (by rw [hl]; omega) hx
    rw [hl] at this
    rw [e2]
    rwa [show sel (fun i => decide (0 < ((shA xss gs cs M).getD i.toNat []).length)) (M + 1) = sel (cgP (ptP xss gs cs) xss.length) (M + 1) from sel_congr fun k hk => by
      rw [e1, Int.toNat_natCast, shs_at hk, sh_empty G (by omega)]
      unfold cgP
      rw [Int.toNat_natCast]] at this
  obtain ⟨A, c, rfl, hm⟩ := h.shape
  obtain ⟨A2, c2, rfl⟩ := hu.shape
  obtain ⟨A3, c3, rfl⟩ := ht.shape
  clear h hu ht hs l1 l2 hm
  generalize shA xss gs cs m = S at *
  generalize cgA xss gs cs m = X at *
  generalize asB xss gs cs m = R at *
  generalize xss.length = n at *
  cases R
  · have e1 := CN.out rfl
    subst e1
    go_enter Try.func31, Try.ntmps31
    go_wp2_with fail
    refine C0.out.mono ?_
    rintro e w1 ⟨v1, rfl, hr, hb⟩
    have HB := Lib.hid hb
    obtain ⟨A4, c4, rfl⟩ := hr.shape
    clear hr hb
    go_wp2
    go_ret2
    exact ⟨_, rfl, Row.nil _ _, HB.out⟩
  · have CY2 := Lib.hid (CY.out rfl)
    clear CY CN
    go_enter Try.func31, Try.ntmps31
    go_wp2_with fail
    refine C0.out.mono ?_
    rintro e w1 ⟨v1, rfl, hr, hb⟩
    have HB := Lib.hid hb
    have C1 := Lib.hid (CY2.out _ _ hr.seen)
    obtain ⟨A4, c4, rfl⟩ := hr.shape
    clear hr hb C0 CY2
    go_wp2_with fail
    refine C1.out.mono ?_
    rintro e w2 ⟨v2, rfl, hr, hb⟩
    have HR := Lib.hid (hr.mono HB.out.size)
    have HB2 : Hid (Below w.heap.size w w2) := HB.out.trans (hb.mono HB.out.size)
    clear hr hb
    go_wp2
    go_ret2
    exact ⟨_, rfl, HR.out, HB2.out⟩
end Go.Proofs.Ytoakpepoopjlaaa

namespace Go.Proofs.Ytoakpepoopjlaaa
open Go.RowKit
set_option linter.unusedVariables false

theorem wpIn_range_tellsA {F : Fence} {n : Nat} {P : Program} {g : Operand} {ps : Array Tmp} {assign body : Code} {Q : Exit → Act → World → Prop} {a : Act} {w : World}
    (hro : F.round = none) (h1 : 1 ≤ n) {gf : Nat} {gv : Value} (hg : a.eval g = .func (.func gf) #[gv] #[]) (hFg : F.fn gf) (eg : ∀ args w, (callFunc gf args).run P w = .ok (.enter gf args) w)
    {B N : Nat} {Rx : Nat → Nat → Value → World → Prop} (hT : Tells F (n - 1) P gf gv B Rx N w) (hB : B ≤ w.heap.size) (hps : ps.size = 2)
    (I : Nat × Nat → World → Prop) (Ix : Code → Nat → World → Prop) (hI : OwnFrom w.heap.size I) (hIT : ∀ s X, I s X → B ≤ s.2 ∧ s.2 ≤ X.heap.size) (hIx : ∀ c, OwnFrom w.heap.size (Ix c)) (hRx : ∀ T f, OwnFrom w.heap.size (Rx T f)) (h0 : ∃ T, I (0, T) w) (Ax : Nat → Nat → Value → Act → World → Prop) (hAx : ∀ T f v a', OwnFrom w.heap.size (fun (_ : Unit) W => Ax T f v a' W))
    (hassign : ∀ (l f T : Nat) (v : Value) (W : World) (K : Act → World → Prop), f < N → I (f, T) W → Rx T f v W → (∀ a' W', Outside B w.heap.size W W' → I (f, T) W' → Rx T f v W' → Ax T f v a' W' → K a' W') →
      assign.wpIn (F.inRound l) (n - 1 - 1) P (Exit.then K (fun _ _ _ => False)) { tmps := (ps.zip #[.int .i64 (f : Int), v]).foldl (fun t (p, v) => t.setIfInBounds p v) a.tmps, defers := [] } W)
    (hbody : ∀ (l f T : Nat) (v : Value) (a' : Act) (W : World), f < N → w.heap.size + 2 ≤ W.heap.size → I (f, T) W → Rx T f v W → Ax T f v a' W → body.wpIn (F.inRound l) (n - 1 - 1) P (tellPost B w.heap.size I Ix (f + 1) W) a' W)
    (hdone : ∀ (D T : Nat) (W : World), w.heap.size ≤ D → I (N, T) W → W.heap[D]? = some (.deferred (some [])) → Q .normal { a with defers := { target := .collected D, args := #[] } :: a.defers } W)
    (hstop : ∀ (D : Nat) (c : Code) (k : Nat) (W : World), w.heap.size ≤ D → k ≤ N → Ix c k W → W.heap[D]? = some (.deferred (some [])) → c.wpIn F n P Q { a with defers := { target := .collected D, args := #[] } :: a.defers } W) :
    (Code.rangeFunc g ps assign body).wpIn F n P Q a w := by
  refine wpIn_rangeFunc fun fn hfn => ?_
  rw [hro]
  obtain ⟨S, hS⟩ : ∃ S, w.heap.size = S := ⟨_, rfl⟩
  obtain ⟨rc, hrc⟩ : ∃ rc : LoopState → Option Code → Obj, rc = fun st pe => .loop { state := st, pending := pe, fn, tmps := a.tmps, params := ps, assign, body, defers := S } := ⟨_, rfl⟩
  obtain ⟨W1, hW1⟩ : ∃ W1, (w.alloc (.deferred (some []))).alloc (rc .ready none) = W1 := ⟨_, rfl⟩
  have z1 : W1.heap.size = S + 2 := by rw [← hW1]; simp [hS]
  have L1 : W1.heap[S + 1]? = some (rc .ready none) := by
    have := World.alloc_heap_new (w.alloc (.deferred (some []))) (rc .ready none)
    rwa [World.size_alloc, hW1, hS] at this
  have D1 : W1.heap[S]? = some (.deferred (some [])) := by
    have := World.alloc_heap_new w (.deferred (some []))
    rw [hS] at this
    rw [← hW1]
    exact (Below.heap_alloc _ _ _ (by simp; omega)).trans this
  have b1 : Below w.heap.size w W1 := by
    rw [← hW1]
    exact ((Below.refl _ w).alloc (Nat.le_refl _) _).alloc (by simp) _
  obtain ⟨T0, h0⟩ := h0
  have i1 : I (0, T0) W1 := by rw [← hW1]; exact hI.alloc _ (hI.alloc _ h0)
  -- the record and the block behind the rounds lie as they are to lie
  have stay : ∀ (st : LoopState) (pe : Option Code) (X Y : World), X.heap[S + 1]? = some (rc st pe) ∧ X.heap[S]? = some (.deferred (some [])) → Below X.heap.size X Y → Y.heap[S + 1]? = some (rc st pe) ∧ Y.heap[S]? = some (.deferred (some [])) := fun st pe X Y h hb =>
    ⟨(hb.block _ (Array.getElem?_eq_some_iff.1 h.1).1).trans h.1, (hb.block _ (Array.getElem?_eq_some_iff.1 h.2).1).trans h.2⟩
  have still : ∀ {β : Type} {J : β → World → Prop} (s : β) (X Y : World), OwnFrom w.heap.size J → J s X → Below X.heap.size X Y → J s Y := fun s X Y hJ h hb => hJ s X Y none h (grow_below hb none) (fun r e => by cases e)
  refine ⟨S + 1, [{ target := .collected S, args := #[] }], W1, { target := .fn (.func gf) #[], args := #[gv, .func (.yield (S + 1)) #[] #[]] }, W1, gf, #[gv, .func (.yield (S + 1)) #[] #[]], W1, ?_, ?_, ?_, ?_, fun _ => h1, ?_⟩
  · have := run_enterLoop_outer (P := P) (w := w) fn a.tmps ps assign body
    rw [hS] at this
    rw [this, ← hW1, hrc]
  · simp only [resolve, hg]
    simp [go_sem]
  · intro f' hf'
    simp [Target.leads] at hf'
    subst hf'
    exact hFg
  · simp [invoke, go_sem, eg]
  · refine (hT (S + 1) (fun s X => I s X ∧ X.heap[S + 1]? = some (rc .ready none) ∧ X.heap[S]? = some (.deferred (some [])))
      (fun k X => ∃ c, Ix c k X ∧ X.heap[S + 1]? = some (rc .done (some c)) ∧ X.heap[S]? = some (.deferred (some [])))
      W1 b1 (by rw [z1, hS])
      (fun s X Y h hb => ⟨still s X Y hI h.1 hb, stay _ _ X Y h.2 hb⟩)
      (fun s X h => hIT s X h.1)
      ?_ ⟨T0, i1, L1, D1⟩).mono ?_
    · rintro f T v X hf ⟨hi, hl, hd⟩ hr
      have zX : S + 1 < X.heap.size := (Array.getElem?_eq_some_iff.1 hl).1
      have hlo : X.heap[S + 1]? = some (.loop { state := .ready, pending := none, fn, tmps := a.tmps, params := ps, assign, body, defers := S }) := by rw [hl, hrc]
      have hy := run_yield (P := P) (args := #[.int .i64 (f : Int), v]) hlo (by rw [hps]; rfl)
      refine ⟨fn, _, assign, body, hy, roundIn_of_wpIn hfn (hassign _ f T v X _ hf hi hr fun a' X1 ho1 hi1 hr1 hx1 => ?_)⟩
      have lx : X1.heap[S + 1]? = some (rc .ready none) := (ho1.same _ zX (by omega)).trans hl
      have dx : X1.heap[S]? = some (.deferred (some [])) := (ho1.same _ (Array.getElem?_eq_some_iff.1 hd).1 (by omega)).trans hd
      have z1 : S + 1 < X1.heap.size := (Array.getElem?_eq_some_iff.1 lx).1
      have hlo1 : X1.heap[S + 1]? = some (.loop { state := .ready, pending := none, fn, tmps := a.tmps, params := ps, assign, body, defers := S }) := by rw [lx, hrc]
      refine ⟨_, run_beginRound hlo1 rfl, ?_⟩
      obtain ⟨X2, hX2⟩ : ∃ X2, X1.putObj (S + 1) (rc .busy none) = X2 := ⟨_, rfl⟩
      have e2 : X1.putObj (S + 1) (.loop { state := .busy, pending := none, fn, tmps := a.tmps, params := ps, assign, body, defers := S }) = X2 := by rw [← hX2, hrc]
      have l2 : X2.heap[S + 1]? = some (rc .busy none) := by rw [← hX2]; exact World.putObj_heap_same z1
      have d2 : X2.heap[S]? = some (.deferred (some [])) := by rw [← hX2]; exact (World.putObj_heap_other (by omega)).trans dx
      have o2 : Outside B (S + 2) X X2 := (ho1.mono (Nat.le_refl _) (by omega)).trans (by rw [← hX2]; exact Outside.put _ (by omega) (by omega))
      have nc : ∀ st pe, (rc st pe).isCells = false := fun st pe => by rw [hrc]; rfl
      have i2 : I (f, T) X2 := by rw [← hX2]; exact hI.putObj _ hi1 (by omega) lx (nc _ _)
      have r2 : Rx T f v X2 := by rw [← hX2]; exact (hRx T f).putObj _ hr1 (by omega) lx (nc _ _)
      have x2 : Ax T f v a' X2 := by rw [← hX2]; exact (hAx T f v a').putObj (s := ()) _ hx1 (by omega) lx (nc _ _)
      rw [e2]
      refine wpIn_mono (hbody _ f T v a' X2 hf (by rw [← hX2, World.putObj_size]; omega) i2 r2 x2) ?_
      have fin : ∀ (jump : Option Code) (Y : World), Outside B w.heap.size X2 Y →
          (Instr.endRound (S + 1) jump).run P Y = .ok (.bool jump.isNone) (Y.putObj (S + 1) (rc (if jump.isNone then .ready else .done) jump)) ∧ Y.heap[S + 1]? = some (rc .busy none) ∧
          (Y.putObj (S + 1) (rc (if jump.isNone then .ready else .done) jump)).heap[S + 1]? = some (rc (if jump.isNone then .ready else .done) jump) ∧
          (Y.putObj (S + 1) (rc (if jump.isNone then .ready else .done) jump)).heap[S]? = some (.deferred (some [])) := fun jump Y ho => by
        have y1 : Y.heap[S + 1]? = some (rc .busy none) := (ho.same _ (Array.getElem?_eq_some_iff.1 l2).1 (by omega)).trans l2
        have y2 : Y.heap[S]? = some (.deferred (some [])) := (ho.same _ (Array.getElem?_eq_some_iff.1 d2).1 (by omega)).trans d2
        have y3 : Y.heap[S + 1]? = some (.loop { state := .busy, pending := none, fn, tmps := a.tmps, params := ps, assign, body, defers := S }) := by rw [y1, hrc]
        have := run_endRound (P := P) jump y3
        refine ⟨by rw [this, hrc], y1, World.putObj_heap_same (Array.getElem?_eq_some_iff.1 y1).1, (World.putObj_heap_other (by omega)).trans y2⟩
      have out : ∀ (jump : Option Code) (Y : World), Outside B w.heap.size X2 Y → Outside B (w.heap.size + 2) X (Y.putObj (S + 1) (rc (if jump.isNone then .ready else .done) jump)) := fun jump Y ho =>
        (by rw [hS]; exact o2 : Outside B (w.heap.size + 2) X X2).trans ((ho.mono (Nat.le_refl _) (by omega)).trans (Outside.put _ (by omega) (by omega)))
      rintro e a3 Y hp
      cases e with
      | normal =>
        obtain ⟨ho, T3, hi3⟩ := hp
        obtain ⟨q, l3, l4, d4⟩ := fin none Y ho
        exact ⟨_, _, q, .inl ⟨rfl, ⟨T3, hI.putObj _ hi3 (by omega) l3 (nc _ _), l4, d4⟩, out none Y ho⟩⟩
      | ret =>
        obtain ⟨ho, hi3⟩ := hp
        obtain ⟨q, l3, l4, d4⟩ := fin (some .ret) Y ho
        exact ⟨_, _, q, .inr ⟨rfl, .ret, (hIx _).putObj _ hi3 (by omega) l3 (nc _ _), l4, d4⟩⟩
      | exit id =>
        obtain ⟨ho, hi3⟩ := hp
        obtain ⟨q, l3, l4, d4⟩ := fin (some (.exit id)) Y ho
        exact ⟨_, _, q, .inr ⟨rfl, .exit id, (hIx _).putObj _ hi3 (by omega) l3 (nc _ _), l4, d4⟩⟩
      | goto t =>
        obtain ⟨ho, hi3⟩ := hp
        obtain ⟨q, l3, l4, d4⟩ := fin (some (.goto t)) Y ho
        exact ⟨_, _, q, .inr ⟨rfl, .goto t, (hIx _).putObj _ hi3 (by omega) l3 (nc _ _), l4, d4⟩⟩
      | panic ch => exact hp.elim
      | outgrown => exact hp.elim
    · have nc : ∀ st pe, (rc st pe).isCells = false := fun st pe => by rw [hrc]; rfl
      have ends : ∀ (st : LoopState) (pe : Option Code) (Y : World), st ≠ .busy → Y.heap[S + 1]? = some (rc st pe) → (Instr.endLoop (S + 1)).run P Y = .ok pe (Y.putObj (S + 1) (rc .exhausted pe)) := fun st pe Y hst hl => by
        have hlo : Y.heap[S + 1]? = some (.loop { state := st, pending := pe, fn, tmps := a.tmps, params := ps, assign, body, defers := S }) := by rw [hl, hrc]
        have := run_endLoop (P := P) hlo hst
        rw [this, hrc]
      rintro e Y ⟨⟨v, rfl⟩, (⟨T, hi, hl, hd⟩ | ⟨k, hk, c, hi, hl, hd⟩)⟩
      · exact ⟨none, _, ends _ _ Y (by simp) hl, hdone S T _ (by omega) (hI.putObj _ hi (by omega) hl (nc _ _)) ((World.putObj_heap_other (by omega)).trans hd)⟩
      · exact ⟨some c, _, ends _ _ Y (by simp) hl, hstop S c k _ (by omega) hk ((hIx c).putObj _ hi (by omega) hl (nc _ _)) ((World.putObj_heap_other (by omega)).trans hd)⟩
end Go.Proofs.Ytoakpepoopjlaaa

namespace Go.Proofs.Ytoakpepoopjlaaa
open Go.RowKit
set_option linter.unusedVariables false
attribute [local go_sem] Oper.semAt_some

set_option maxHeartbeats 1000000 in
theorem c_fnWorth (b1 b2 b3 : Nat) (f i : Nat) (gs cs : List Int) (u t : Value) (n : Nat) (w : World) (G : Gains gs cs n) (hf : f ≤ 60) (hi : i < n) (h1 : w.cell? ⟨b1, 0, none⟩ = some u) (h2 : w.cell? ⟨b2, 0, none⟩ = some t) (h3 : w.cell? ⟨b3, 0, none⟩ = some (.int .i64 f)) (hu : Seen w u gs) (ht : Seen w t cs) :
    Calls Try.prog 65 #[.int .i64 i, .pointer (some ⟨b1, 0, none⟩), .pointer (some ⟨b2, 0, none⟩), .pointer (some ⟨b3, 0, none⟩)] w fun e w' => e = .returned (.int .i64 (gs.getD i 0 * (f : Int) - cs.getD i 0)) ∧ Below w.heap.size w w' := by
  have CV : Hid (∀ wz, Calls Try.prog 47 #[.int .i64 (gs.getD i 0), .int .i64 (cs.getD i 0), .int .i64 f] wz fun e w' => e = .returned (.int .i64 (gs.getD i 0 * (f : Int) - cs.getD i 0)) ∧ wz = w') := fun wz => c_valueAt _ _ _ wz (G.gb i hi).1 (G.gb i hi).2 (G.cb i hi).1 (G.cb i hi).2 (by omega) (by omega)
  obtain ⟨A, c, rfl, _, hA⟩ := hu
  obtain ⟨A2, c2, rfl, _, hA2⟩ := ht
  have g1 := G.gl
  have g2 := G.cl
  obtain ⟨p1, o1, rfl, hp1, hc1⟩ := hA (by omega)
  obtain ⟨p2, o2, rfl, hp2, hc2⟩ := hA2 (by omega)
  have q1 := hc1 i (by omega)
  have q2 := hc2 i (by omega)
  have hB : Hid (Below w.heap.size w w.drew) := (Below.refl _ _).drew
  rw [g1, g2] at *
  clear hA hA2 hc1 hc2 G g1 g2
  generalize gs.getD i 0 * (f : Int) - cs.getD i 0 = r at *
  generalize gs.getD i 0 = x at *
  generalize cs.getD i 0 = y at *
  have b4 : (0 : Int) ≤ (i : Int) := by omega
  have b5 : (i : Int) < (n : Int) := by omega
  have KS : Hid (w.drew.cell? ⟨b1, 0, none⟩ = some (.slice (some ⟨p1, o1, none⟩) n c) ∧ w.drew.cell? ⟨b2, 0, none⟩ = some (.slice (some ⟨p2, o2, none⟩) n c2) ∧ w.drew.cell? ⟨b3, 0, none⟩ = some (.int .i64 (f : Int)) ∧ w.drew.cell? ⟨p1, o1 + i, none⟩ = some (.int .i64 x) ∧ w.drew.cell? ⟨p2, o2 + i, none⟩ = some (.int .i64 y)) := ⟨h1, h2, h3, q1, q2⟩
  go_enter Try.func65, Try.ntmps65
  go_wp2_with fail
  go_region_held3 (fun v => v.cell? ⟨b1, 0, none⟩ = some (.slice (some ⟨p1, o1, none⟩) n c) ∧ v.cell? ⟨b2, 0, none⟩ = some (.slice (some ⟨p2, o2, none⟩) n c2) ∧ v.cell? ⟨b3, 0, none⟩ = some (.int .i64 (f : Int)) ∧ v.cell? ⟨p1, o1 + i, none⟩ = some (.int .i64 x) ∧ v.cell? ⟨p2, o2 + i, none⟩ = some (.int .i64 y)) (first | with_reducible exact KS.out) (first | (go_at_call 47; refine (CV.out _).mono ?_; rintro e w1 ⟨rfl, rfl⟩))
  all_goals go_wp2
  all_goals go_ret
  all_goals exact ⟨rfl, hB.out⟩

set_option maxHeartbeats 1000000 in
theorem c_sumOverWorth (bs : List Int) (v : Value) (b1 b2 b3 : Nat) (f : Nat → Int) (w : World) (hl : bs.length ≤ 4000000) (h : Seen w v bs) (hf : ∀ k : Nat, k < bs.length → -1000000 ≤ f k ∧ f k ≤ 1000000)
    (H : Hid (∀ (k : Nat) (w' : World), k < bs.length → Below w.heap.size w w' → Calls Try.prog 65 #[.int .i64 (bs.getD k 0), .pointer (some ⟨b1, 0, none⟩), .pointer (some ⟨b2, 0, none⟩), .pointer (some ⟨b3, 0, none⟩)] w' fun e w'' => e = .returned (.int .i64 (f k)) ∧ Below w'.heap.size w' w'')) :
    Calls Try.prog 64 #[v, .func (.func 65) #[] #[.pointer (some ⟨b1, 0, none⟩), .pointer (some ⟨b2, 0, none⟩), .pointer (some ⟨b3, 0, none⟩)]] w fun e w' => e = .returned (.int .i64 (sumN f bs.length)) ∧ Below w.heap.size w w' := by
  have HS := Lib.hid h
  obtain ⟨A, c, rfl, hm, hA⟩ := h
  clear hm
  have E1 : Hid (∀ k : Nat, k < bs.length → ∃ b off, A = some ⟨b, off, none⟩ ∧ b < w.heap.size ∧ w.cell? ⟨b, off + k, none⟩ = some (.int .i64 (bs.getD k 0))) := fun k hk => by
    obtain ⟨b, off, rfl, hb, hc⟩ := hA (by omega)
    exact ⟨b, off, rfl, hb, hc k hk⟩
  have F1 : Hid (∀ k : Nat, k ≤ bs.length → -(1000000 * (k : Int)) ≤ sumN f k ∧ sumN f k ≤ 1000000 * k) := sumN_abs hf
  have F2 : Hid (∀ k : Nat, k < bs.length → -1000000 ≤ f k ∧ f k ≤ 1000000) := hf
  have F3 : Hid (∀ k : Nat, sumN f k + f k = sumN f (k + 1)) := fun k => rfl
  have F0 : Hid (sumN f 0 = 0) := rfl
  clear hA hf HS
  generalize sumN f = S at *
  generalize hn : bs.length = n at *
  clear hn
  go_enter Try.func64, Try.ntmps64
  go_wp2_with fail
  go_loopw [5, 10] (fun q i wr => ∃ k : Nat, k ≤ n ∧ i = .int .i64 k ∧ q = .int .i64 (S k) ∧ Below w.heap.size w wr) (fun _ i _ => n - (RowKit.intOf i).toNat)
  case atStart => exact ⟨0, Nat.zero_le _, rfl, by rw [F0.out], Below.refl _ _⟩
  case round =>
    obtain ⟨k, hk, rfl, rfl, hbw⟩ := hrel
    have HB := Lib.hid hbw
    clear hbw
    by_cases hlt : k < n
    · obtain ⟨b, off, rfl, hbl, hcc⟩ := E1.out k hlt
      have q1 : wr.cell? ⟨b, off + k, none⟩ = some (.int .i64 (bs.getD k 0)) := by rw [HB.out.cell (p := ⟨b, off + k, none⟩) hbl]; exact hcc
      have HC := Lib.hid (H.out k wr hlt HB.out)
      obtain ⟨s0, s1⟩ := F1.out k hk
      obtain ⟨t0, t1⟩ := F2.out k hlt
      have f3 : Hid (S k + f k = S (k + 1)) := F3.out k
      clear hcc hbl
      generalize bs.getD k 0 = i at *
      generalize f k = t at *
      generalize S k = s at *
      have b1 : (0 : Int) ≤ (k : Int) := by omega
      have b2 : (k : Int) < (n : Int) := by omega
      have b3 : s ≤ 4000000000000 := by omega
      have b4 : -4000000000000 ≤ s := by omega
      clear s0 s1
      go_wp2_with fail
      refine HC.out.mono ?_
      rintro e w2 ⟨rfl, hb2⟩
      have HB2 : Hid (Below w.heap.size w w2) := HB.out.trans (hb2.mono HB.out.size)
      clear hb2
      go_wp2
      go_roundw
      case rel => exact ⟨k + 1, by omega, by go_num, by rw [← f3.out], HB2.out⟩
      case measure => simp [RowKit.intOf]; omega
    · obtain rfl : k = n := by omega
      go_wp2
      go_ret
      exact ⟨rfl, HB.out⟩

/-- The values of the pits. -/
noncomputable def vtX (xss : List (List Int)) (gs cs : List Int) (k : Nat) : Int := sumN (valF (faL gs cs k) (ptF xss gs cs k)) (ptF xss gs cs k).length
noncomputable def vtL (xss : List (List Int)) (gs cs : List Int) (k : Nat) : List Int := (List.range k).map (vtX xss gs cs)
theorem vtL_len (xss : List (List Int)) (gs cs : List Int) (k : Nat) : (vtL xss gs cs k).length = k := by simp [vtL]
theorem vtL_at {xss : List (List Int)} {gs cs : List Int} {k i : Nat} (h : i < k) : (vtL xss gs cs k).getD i 0 = vtX xss gs cs i := by simp [vtL, h]
noncomputable def vtA (xss : List (List Int)) (gs cs : List Int) (m : Int) : List Int := if asB xss gs cs m then vtL xss gs cs (m.toNat + 1) else []
theorem vtA_len (xss : List (List Int)) (gs cs : List Int) (m : Int) : (vtA xss gs cs m).length ≤ 4000000 := by
  unfold vtA
  split
  · rename_i h
    have := (Asked.of h).f1
    rw [vtL_len]
    omega
  · simp

/-- What the loop of ValuesTo keeps. -/
def KeepVt (w : World) (u t : Value) (b1 b2 b g M : Nat) (O : List Int) (s : Nat × Nat) (W : World) : Prop :=
  Row W w.heap.size (.slice (some ⟨g, 0, none⟩) (M + 1) (M + 1)) (half O s.1) ∧ Boxed W b 22 (.slice (some ⟨g, 0, none⟩) (M + 1) (M + 1)) ∧ (Boxed W b1 22 u ∧ Boxed W b2 22 t) ∧ (w.heap.size ≤ s.2 ∧ g < s.2 ∧ b < s.2) ∧ s.2 ≤ W.heap.size ∧ Below w.heap.size w W
theorem KeepVt.own (w : World) (u t : Value) (b1 b2 b g M B : Nat) (O : List Int) (hB : w.heap.size ≤ B) : OwnFrom B (KeepVt w u t b1 b2 b g M O) := fun s X Y row h hg hr =>
  ⟨own_calm h.1 hg (fun r e => (hr r e).2), boxed_calm h.2.1 hg (fun r e => (hr r e).2), ⟨boxed_calm h.2.2.1.1 hg (fun r e => (hr r e).2), boxed_calm h.2.2.1.2 hg (fun r e => (hr r e).2)⟩, h.2.2.2.1, Nat.le_trans h.2.2.2.2.1 hg.size, h.2.2.2.2.2.grown hg h.2.2.2.2.2.size (fun k e => by have := (hr k e).1; omega)⟩

set_option maxHeartbeats 8000000 in
set_option maxRecDepth 100000 in
theorem c_ValuesTo (xss : List (List Int)) (gs cs : List Int) (m : Int) (v u t : Value) (w : World) (hs : ShortL xss) (l1 : gs.length ≤ 4000000) (l2 : cs.length ≤ 4000000) (h : SeenL w v xss) (hu : Seen w u gs) (ht : Seen w t cs) :
    Calls Try.prog 37 #[v, u, t, .int .i64 m] w (GivesRow2 w (vtA xss gs cs m) (asB xss gs cs m)) := by
  obtain ⟨wx, hwx⟩ : ∃ wx, (w.alloc (.cells #[u] 22)).alloc (.cells #[t] 22) = wx := ⟨_, rfl⟩
  have CV : Hid (∀ w1, Below w.heap.size w w1 → Calls Try.prog 53 #[.agg #[v, u, t, .int .i64 m]] w1 fun e w' => e = .returned (.bool (asB xss gs cs m)) ∧ Below w1.heap.size w1 w') := fun w1 hb => c_isValid xss gs cs m v u t w1 hs l1 l2 (h.below hb) (hu.below hb) (ht.below hb)
  have HBx : Hid (Below w.heap.size w wx) := by rw [← hwx]; exact ((Below.refl _ _).alloc (Nat.le_refl _) _).alloc (by simp) _
  obtain ⟨bg, hbg⟩ : ∃ bg, wx.heap.size = bg := ⟨_, rfl⟩
  have HZG : Hid (bg = w.heap.size + 2) := by show _ = _; rw [← hbg, ← hwx]; simp
  have HX1 : Hid (Boxed wx w.heap.size 22 u) := by rw [← hwx]; exact (Boxed.new w 22 u).alloc _
  have HX2 : Hid (Boxed wx (w.heap.size + 1) 22 t) := by
    have := Boxed.new (w.alloc (.cells #[u] 22)) 22 t
    rw [← hwx]
    show Boxed _ _ _ _
    simpa using this
  have HB0 : Hid (Below w.heap.size w (wx.alloc (.cells #[v, u, t, .int .i64 m] 51))) := HBx.out.alloc HBx.out.size _
  have y1 : wx.cell? ⟨w.heap.size, 0, none⟩ = some u := HX1.out.cell
  have y2 : wx.cell? ⟨w.heap.size + 1, 0, none⟩ = some t := HX2.out.cell
  have HX0 : Hid ((wx.alloc (.cells #[v, u, t, .int .i64 m] 51)).heap[bg]? = some (.cells #[v, u, t, .int .i64 m] 51 (0, 0))) := by rw [← hbg]; exact World.alloc_heap_new _ _
  have HX1' : Hid (Boxed (wx.alloc (.cells #[v, u, t, .int .i64 m] 51)) w.heap.size 22 u) := HX1.out.alloc _
  have HX2' : Hid (Boxed (wx.alloc (.cells #[v, u, t, .int .i64 m] 51)) (w.heap.size + 1) 22 t) := HX2.out.alloc _
  have hgz : bg < (wx.alloc (.cells #[v, u, t, .int .i64 m] 51)).heap.size := (Array.getElem?_eq_some_iff.1 HX0.out).1
  have HGZ := Lib.hid hgz
  clear hgz HX1 HX2
  cases hA : asB xss gs cs m
  · have e1 : vtA xss gs cs m = [] := by unfold vtA; rw [hA]; rfl
    rw [e1]
    rw [hA] at CV
    obtain ⟨A, c, rfl, hm⟩ := h.shape
    obtain ⟨A2, c2, rfl⟩ := hu.shape
    obtain ⟨A3, c3, rfl⟩ := ht.shape
    clear h hu ht hs l1 l2 hm hA e1
    generalize xss.length = n at *
    generalize gs.length = n2 at *
    generalize cs.length = n3 at *
    go_enter Try.func37, Try.ntmps37
    go_wp2_with fail
    refine (CV.out _ HB0.out).mono ?_
    rintro e w1 ⟨rfl, hb⟩
    have HB1 : Hid (Below w.heap.size w w1) := HB0.out.trans (hb.mono HB0.out.size)
    clear hb
    go_wp2
    go_ret2
    exact ⟨_, rfl, Row.nil _ _, HB1.out⟩
  · have K := Asked.of hA
    obtain ⟨M, rfl⟩ := Int.eq_ofNat_of_zero_le K.f0
    have e1 : vtA xss gs cs M = vtL xss gs cs (M + 1) := by unfold vtA; rw [hA]; rfl
    rw [e1]
    rw [hA] at CV
    have M1 : M ≤ 60 := by have := K.f1; omega
    have HT : Hid (∀ w1, Below w.heap.size w w1 → Tells Fence.wide 9 Try.prog 54 (.agg #[v, u, t, .int .i64 M]) w.heap.size (PitRow (ptF xss gs cs)) (M + 1) w1) := fun w1 hb => c_pits xss gs cs M v u t w w1 9 (by omega) hs K hA hb h hu ht
    have CS : Hid (∀ (f b1 b2 b3 T : Nat) (x : Value) (W : World), f < M + 1 → Below w.heap.size w W → Boxed W b1 22 u → Boxed W b2 22 t → Boxed W b3 3 (.int .i64 f) → Row W T x (ptF xss gs cs f) →
        Calls Try.prog 64 #[x, .func (.func 65) #[] #[.pointer (some ⟨b1, 0, none⟩), .pointer (some ⟨b2, 0, none⟩), .pointer (some ⟨b3, 0, none⟩)]] W fun e w' => e = .returned (.int .i64 (vtX xss gs cs f)) ∧ Below W.heap.size W w') := fun f b1 b2 b3 T x W hf hb x1 x2 x3 hx => by
      have Kf := K.down (g := (f : Int)) (by omega) (by omega)
      have hv := (pg_true Kf.pg).2
      have hr : risB xss.length (ptF xss gs cs f) = true := sel_risB _ rfl
      have hl := pt_len K.arcs gs cs f
      refine c_sumOverWorth (ptF xss gs cs f) x b1 b2 b3 (valF (faL gs cs f) (ptF xss gs cs f)) W (by omega) hx.seen (fun k hk => valF_box hv hr hk) fun k w' hk hb' => ?_
      obtain ⟨i, e1, e2, e3⟩ := sumv_at hv hr hk
      rw [faL_len] at e2
      rw [e1, e3, faL_at e2]
      have hG := K.gains.gl
      exact c_fnWorth b1 b2 b3 f i gs cs u t xss.length w' K.gains (by omega) (by omega) ((hb'.cell (p := ⟨b1, 0, none⟩) x1.lt).trans x1.cell) ((hb'.cell (p := ⟨b2, 0, none⟩) x2.lt).trans x2.cell) ((hb'.cell (p := ⟨b3, 0, none⟩) x3.lt).trans x3.cell) ((hu.below hb).below hb') ((ht.below hb).below hb')
    have OL : (vtL xss gs cs (M + 1)).length = M + 1 := vtL_len xss gs cs _
    have OA : Hid (∀ f, f < M + 1 → (vtL xss gs cs (M + 1)).getD f 0 = vtX xss gs cs f) := fun f hf => vtL_at hf
    have HSt : Hid (∀ j, j < M + 1 → (half (vtL xss gs cs (M + 1)) j).set j (vtX xss gs cs j) = half (vtL xss gs cs (M + 1)) (j + 1)) := fun j hj => by rw [← OA.out j hj]; exact half_set _ j (by omega)
    have HL : Hid (∀ j, j ≤ M + 1 → (half (vtL xss gs cs (M + 1)) j).length = M + 1) := fun j hj => by rw [half_len _ j (by omega), OL]
    have H0 : Hid (half (vtL xss gs cs (M + 1)) 0 = List.replicate (M + 1) 0) := by show _ = _; rw [half_zero, OL]
    have HN : Hid (half (vtL xss gs cs (M + 1)) (M + 1) = vtL xss gs cs (M + 1)) := by
      have := half_all (vtL xss gs cs (M + 1))
      rwa [OL] at this
    obtain ⟨A, c, rfl, hm⟩ := h.shape
    obtain ⟨A2, c2, rfl⟩ := hu.shape
    obtain ⟨A3, c3, rfl⟩ := ht.shape
    clear h hu ht hs l1 l2 hm hA e1 K OL OA
    generalize xss.length = n at *
    generalize gs.length = n2 at *
    generalize cs.length = n3 at *
    generalize vtL xss gs cs (M + 1) = O at *
    generalize vtX xss gs cs = VX at *
    generalize ptF xss gs cs = P at *
    have e2 : IntKind.i64.wrap ((M : Int) + 1) = (M : Int) + 1 := IntWalk.i64_in _ (by omega)
    refine (callsIn_wide (n := 10)).1 ?_
    refine callsIn_of_wp_marks Try.func37 rfl trivial ?_ rfl
    simp only [Try.ntmps37, List.size_toArray, List.length_cons, List.length_nil, Nat.reduceAdd, Nat.reduceSub, Array.replicate_succ, Array.replicate_zero, List.push_toArray, List.append_toArray, List.nil_append, List.cons_append]
    gi_wp2_with fail
    refine ⟨trivial, ?_⟩
    refine (callsIn_wide.2 (CV.out _ HB0.out)).mono ?_
    rintro e w1 ⟨rfl, hb⟩
    have HB1 : Hid (Below w.heap.size w w1) := HB0.out.trans (hb.mono HB0.out.size)
    have HX1 : Hid (w1.heap[bg]? = some (.cells #[.slice A n c, .slice A2 n2 c2, .slice A3 n3 c3, .int .i64 M] 51 (0, 0))) := (hb.block _ HGZ.out).trans HX0.out
    have HY1 : Hid (Boxed w1 w.heap.size 22 (.slice A2 n2 c2)) := (hb.block _ HX1'.out.lt).trans HX1'.out
    have HY2 : Hid (Boxed w1 (w.heap.size + 1) 22 (.slice A3 n3 c3)) := (hb.block _ HX2'.out.lt).trans HX2'.out
    have hz1 : bg < w1.heap.size := (Array.getElem?_eq_some_iff.1 HX1.out).1
    have x0 : w1.cell? ⟨bg, 0, none⟩ = some (.slice A n c) := by have := HX1.out; simp [World.cell?, this]
    have x1 : w1.cell? ⟨bg, 1, none⟩ = some (.slice A2 n2 c2) := by have := HX1.out; simp [World.cell?, this]
    have x2 : w1.cell? ⟨bg, 2, none⟩ = some (.slice A3 n3 c3) := by have := HX1.out; simp [World.cell?, this]
    have x3 : w1.cell? ⟨bg, 3, none⟩ = some (.int .i64 M) := by have := HX1.out; simp [World.cell?, this]
    have hmk : (Instr.makeSlice 22 (.int .i64 ((M : Int) + 1)) (.int .i64 ((M : Int) + 1))).run Try.prog w1 = _ := mk_ints w1 (M + 1) (by omega)
    clear hb HX0 HB0 CV HX1' HX2' HGZ y1 y2 hwx hbg HBx
    gi_wp2_with fail
    have HB2 : Hid (Below w.heap.size w ((w1.alloc (.cells (madeCells #[.int .i64 0] (M + 1)) 3)).alloc (.cells #[.slice (some ⟨w1.heap.size, 0, none⟩) (M + 1) (M + 1)] 22))) := (HB1.out.alloc HB1.out.size _).alloc (by simp; have := HB1.out.size; omega) _
    have HK2 : Hid (KeepVt w (.slice A2 n2 c2) (.slice A3 n3 c3) w.heap.size (w.heap.size + 1) (w1.heap.size + 1) w1.heap.size M O (0, w1.heap.size + 2) ((w1.alloc (.cells (madeCells #[.int .i64 0] (M + 1)) 3)).alloc (.cells #[.slice (some ⟨w1.heap.size, 0, none⟩) (M + 1) (M + 1)] 22))) := by
      have hs1 := HB1.out.size
      refine ⟨?_, ?_, ⟨(HY1.out.alloc _).alloc _, (HY2.out.alloc _).alloc _⟩, ⟨by show w.heap.size ≤ w1.heap.size + 2; omega, by show w1.heap.size < w1.heap.size + 2; omega, by show w1.heap.size + 1 < w1.heap.size + 2; omega⟩, by simp, HB2.out⟩
      · show Row _ _ _ (half O 0)
        rw [H0.out]
        exact ((row_zeros w1 (M + 1) (by unfold maxLen; omega)).mono hs1).below ((Below.refl _ _).alloc (Nat.le_refl _) _)
      · have := Boxed.new (w1.alloc (.cells (madeCells #[.int .i64 0] (M + 1)) 3)) 22 (.slice (some ⟨w1.heap.size, 0, none⟩) (M + 1) (M + 1))
        simpa using this
    have hz2 : ((w1.alloc (.cells (madeCells #[.int .i64 0] (M + 1)) 3)).alloc (.cells #[.slice (some ⟨w1.heap.size, 0, none⟩) (M + 1) (M + 1)] 22)).heap.size = w1.heap.size + 2 := by simp
    have hgw : w.heap.size + 2 < w1.heap.size := by have := HZG.out; omega
    clear hmk x0 x1 x2 x3 HX1 HB1 HY1 HY2 hz1
    generalize ((w1.alloc (.cells (madeCells #[.int .i64 0] (M + 1)) 3)).alloc (.cells #[.slice (some ⟨w1.heap.size, 0, none⟩) (M + 1) (M + 1)] 22)) = w2 at *
    generalize w1.heap.size = g at *
    have hmx : Try.prog.follows .mixedOrders = true := by kernel_rfl
    refine wpIn_range_tellsA rfl (by omega) (gf := 54) (gv := .agg #[.slice A n c, .slice A2 n2 c2, .slice A3 n3 c3, .int .i64 M]) rfl trivial (enters_of Try.func54 (by kernel_rfl) rfl)
      (HT.out w2 HB2.out) (by omega) rfl (KeepVt w (.slice A2 n2 c2) (.slice A3 n3 c3) w.heap.size (w.heap.size + 1) (g + 1) g M O) (fun _ _ _ => False) (KeepVt.own w _ _ _ _ (g + 1) g M w2.heap.size O (by omega)) (fun s X h => ⟨h.2.2.2.1.1, h.2.2.2.2.1⟩) (fun _ _ _ _ _ h _ _ => h.elim) (fun T f => PitRow.own _ P T f) ⟨_, HK2.out⟩
      (fun T f x a' W => ∃ b3, T ≤ b3 ∧ Boxed W b3 3 (.int .i64 (f : Int)) ∧ a' = { tmps := #[.slice A n c, .slice A2 n2 c2, .slice A3 n3 c3, .int .i64 M, undef, .pointer (some ⟨w.heap.size, 0, none⟩), .pointer (some ⟨w.heap.size + 1, 0, none⟩), undef, .slice none 0 0, .bool false, .pointer (some ⟨bg, 0, none⟩), .pointer (some ⟨g + 1, 0, none⟩), .pointer (some ⟨b3, 0, none⟩), x, .slice A n c, .slice A2 n2 c2, .slice A3 n3 c3, .int .i64 M, .agg #[.slice A n c, .slice A2 n2 c2, .slice A3 n3 c3, .int .i64 M], .agg #[.slice A n c, .slice A2 n2 c2, .slice A3 n3 c3, .int .i64 M], .bool true, .bool false, .int .i64 M, .int .i64 (↑M + 1), .slice (some ⟨g, 0, none⟩) (M + 1) (M + 1), .agg #[.slice A n c, .slice A2 n2 c2, .slice A3 n3 c3, .int .i64 M], .func (.func 54) #[.agg #[.slice A n c, .slice A2 n2 c2, .slice A3 n3 c3, .int .i64 M]] #[], .int .i64 (f : Int), x, undef, undef, undef, undef, undef, undef, undef], defers := [] })
      (fun T f x a' s X Y row h hg hr => by obtain ⟨b3, h1, h2, h3⟩ := h; exact ⟨b3, h1, boxed_calm h2 hg (fun r e => (hr r e).2), h3⟩) ?assign ?body ?done ?stop
    case assign =>
      intro l f T x W K hf hi hr hK
      obtain ⟨b3, hb3⟩ : ∃ b3, W.heap.size = b3 := ⟨_, rfl⟩
      have hbb : Below W.heap.size W (W.alloc (.cells #[.int .i64 (f : Int)] 3)) := (Below.refl _ _).alloc (Nat.le_refl _) _
      have KK := Lib.hid (hK { tmps := #[.slice A n c, .slice A2 n2 c2, .slice A3 n3 c3, .int .i64 M, undef, .pointer (some ⟨w.heap.size, 0, none⟩), .pointer (some ⟨w.heap.size + 1, 0, none⟩), undef, .slice none 0 0, .bool false, .pointer (some ⟨bg, 0, none⟩), .pointer (some ⟨g + 1, 0, none⟩), .pointer (some ⟨b3, 0, none⟩), x, .slice A n c, .slice A2 n2 c2, .slice A3 n3 c3, .int .i64 M, .agg #[.slice A n c, .slice A2 n2 c2, .slice A3 n3 c3, .int .i64 M], .agg #[.slice A n c, .slice A2 n2 c2, .slice A3 n3 c3, .int .i64 M], .bool true, .bool false, .int .i64 M, .int .i64 (↑M + 1), .slice (some ⟨g, 0, none⟩) (M + 1) (M + 1), .agg #[.slice A n c, .slice A2 n2 c2, .slice A3 n3 c3, .int .i64 M], .func (.func 54) #[.agg #[.slice A n c, .slice A2 n2 c2, .slice A3 n3 c3, .int .i64 M]] #[], .int .i64 (f : Int), x, undef, undef, undef, undef, undef, undef, undef], defers := [] } _ (Outside.below hbb) (KeepVt.own w _ _ _ _ (g + 1) g M w2.heap.size O (by omega) _ _ _ none hi (grow_below hbb none) (fun r e => by cases e)) (PitRow.own 0 P T f _ _ _ none hr (grow_below hbb none) (fun r e => by cases e)) ⟨b3, by rw [← hb3]; exact hi.2.2.2.2.1, by rw [← hb3]; exact Boxed.new _ _ _, rfl⟩)
      clear hK hi hr hbb
      gi_wp2
      exact KK.out
    case body =>
      rintro l f T x a' W hf hz ⟨hr, hbx, ⟨hy1, hy2⟩, ⟨hT1, hT2, hT3⟩, hT4, hb⟩ hx ⟨b3, hb3, hx3, rfl⟩
      have hx' : Row W T x (P f) := hx
      have hT2' : g < T := hT2
      have hT3' : g + 1 < T := hT3
      have hr' : Row W w.heap.size (.slice (some ⟨g, 0, none⟩) (M + 1) (M + 1)) (half O f) := hr
      have hd : Below W.heap.size W W.drew := (Below.refl _ _).drew
      have C := Lib.hid (CS.out f w.heap.size (w.heap.size + 1) b3 T x W.drew hf hb.drew hy1 hy2 hx3 (hx'.below hd))
      obtain ⟨Ax, cx, rfl⟩ := hx'.shape
      have q0 := hbx.cell
      have q3 := hx3.cell
      have hl := HL.out f (by omega)
      have hst := fun (W2 : World) (hw : Below W.heap.size W W2) => (hr'.below hw)
      have b1 : (0 : Int) ≤ (f : Int) := by omega
      have b2 : (f : Int) < (M : Int) + 1 := by omega
      have HP : Hid (∀ W2, Below W.heap.size W W2 → W2.cell? ⟨g + 1, 0, none⟩ = some (.slice (some ⟨g, 0, none⟩) (M + 1) (M + 1)) ∧ W2.cell? ⟨b3, 0, none⟩ = some (.int .i64 (f : Int)) ∧ (∃ old, W2.cell? ⟨g, f, none⟩ = some old) ∧ W2.frozen? ⟨g, f, none⟩ = false ∧ tellPost w.heap.size w2.heap.size (KeepVt w (.slice A2 n2 c2) (.slice A3 n3 c3) w.heap.size (w.heap.size + 1) (g + 1) g M O) (fun _ _ _ => False) (f + 1) W .normal { tmps := #[], defers := [] } (W2.setCell ⟨g, f, none⟩ (.int .i64 (VX f)))) := fun W2 hw => by
        have hrz := hst W2 hw
        have hcell := hrz
        unfold Row at hcell
        rw [hl] at hcell
        have hg := set_grownG W2 ⟨g, f, none⟩ (.int .i64 (VX f))
        have hgB := (World.ownsRow.lt hcell g rfl).1
        have hsz := hw.size
        have hbx2 : Boxed W2 (g + 1) 22 (.slice (some ⟨g, 0, none⟩) (M + 1) (M + 1)) := (hw.block _ hbx.lt).trans hbx
        have hy1' : Boxed W2 w.heap.size 22 (.slice A2 n2 c2) := (hw.block _ hy1.lt).trans hy1
        have hy2' : Boxed W2 (w.heap.size + 1) 22 (.slice A3 n3 c3) := (hw.block _ hy2.lt).trans hy2
        refine ⟨hbx2.cell, (hw.cell (p := ⟨b3, 0, none⟩) hx3.lt).trans q3, ⟨.int .i64 ((half O f).getD f 0), ?_⟩, World.ownsRow.frozenAt hcell f, ?_, T, ?_, hbx2.kept hg (by simp), ⟨hy1'.kept hg (by simp; omega), hy2'.kept hg (by simp; omega)⟩, ⟨hT1, hT2, hT3⟩, ?_, ?_⟩
        · rw [World.ownsRow.cellAt hcell f (by omega)]
          have : f < (half O f).length := by omega
          simp [ints, List.getD_eq_getElem?_getD, this]
        · exact (Outside.below hw).trans (Outside.grown hg (fun r e => by cases e; exact ⟨hgB, by show g < _; omega⟩))
        · show Row _ _ _ (half O (f + 1))
          have := Row.set_ hl.symm hrz f (VX f)
          rw [HSt.out f hf] at this
          exact this.1
        · show T ≤ _
          have := hg.size
          omega
        · exact (hb.trans (hw.mono (by omega))).setCell hgB _
      clear hr hr' hx hx' hst hbx hy1 hy2 hx3 hb CS HT hT1 hT2 hT3
      have HD := Lib.hid hd
      clear hd
      gi_wp2_with fail
      gi_region_with_o (refine ⟨trivial, ?_⟩; gi_at_call 64; refine (CallsIn.inRound l (callsIn_wide.2 C.out)).mono ?_; rintro e wd ⟨rfl, hbd⟩; obtain ⟨p0, p3, ⟨old, pq⟩, pf, hpo⟩ := HP.out wd (Below.trans HD.out hbd); have HPo := Lib.hid hpo; clear hpo hbd)
      all_goals gi_wp2
      all_goals exact HPo.out
    case done =>
      rintro D T W hD ⟨hr, hbx, _, _, hT2, hb⟩ hK
      have q0 := hbx.cell
      have HR := Lib.hid hr
      clear hr
      gi_wp2
      refine ⟨by simp, .inl ⟨_, _, rfl, run_takeDeferred hK, ?_⟩⟩
      have hU : Row (W.putObj D (.deferred none)) w.heap.size (.slice (some ⟨g, 0, none⟩) (M + 1) (M + 1)) O := by
        have := HR.out
        have this : Row W w.heap.size (.slice (some ⟨g, 0, none⟩) (M + 1) (M + 1)) (half O (M + 1)) := this
        rw [HN.out] at this
        exact own_calm this (grownBy_putObj' W D (.deferred none)) (fun r e => by cases e; exact ⟨_, hK, rfl⟩)
      exact ⟨_, results_tmp2 rfl _ _ _, .slice (some ⟨g, 0, none⟩) (M + 1) (M + 1), rfl, hU, hb.trans (belowK_b (w := w) (Nat.le_refl _) W D _ _ (by omega) hK rfl rfl)⟩
    case stop =>
      rintro D c1 k W _ _ h _
      exact h.elim
end Go.Proofs.Ytoakpepoopjlaaa

namespace Go.Proofs.Ytoakpepoopjlaaa
open Go.RowKit
set_option linter.unusedVariables false
attribute [local go_sem] Oper.semAt_some

theorem c_differenceOf (a b : Int) (w : World) (h1 : -1000000 ≤ a) (h2 : a ≤ 1000000) (h3 : -1000000 ≤ b) (h4 : b ≤ 1000000) : Calls Try.prog 73 #[.int .i64 a, .int .i64 b] w fun e w' => e = .returned (.int .i64 (max (a - b) (b - a))) ∧ w = w' := by
  have e1 : IntKind.i64.wrap (b - a) = b - a := IntWalk.i64_in _ (by omega)
  have e2 : IntKind.i64.wrap (a - b) = a - b := IntWalk.i64_in _ (by omega)
  by_cases h : a < b
  · rw [show max (a - b) (b - a) = b - a by omega]
    go_enter Try.func73, Try.ntmps73
    go_wp2
    go_ret
    exact ⟨by first | rfl | simp [e1], rfl⟩
  · rw [show max (a - b) (b - a) = a - b by omega]
    go_enter Try.func73, Try.ntmps73
    go_wp2
    go_ret
    exact ⟨by first | rfl | simp [e2], rfl⟩

noncomputable def npA (xss : List (List Int)) (gs cs : List Int) (m s : Int) : Int := if asB xss gs cs m && decide (0 ≤ s ∧ s ≤ 120) then (neB (fun f => (ptF xss gs cs f).length) s (m.toNat + 1)).1 else 0
def npB (xss : List (List Int)) (gs cs : List Int) (m s : Int) : Bool := asB xss gs cs m && decide (0 ≤ s ∧ s ≤ 120)
/-- The least gap so far, as the program has it. -/
def lgI (L : Nat → Nat) (s : Int) (k : Nat) : Int := if k = 0 then 121 else (neB L s k).2

/-- What the loop of NearestPit keeps. -/
def KeepNp (w : World) (L : Nat → Nat) (s : Int) (bn bl bs : Nat) (t : Nat × Nat) (W : World) : Prop :=
  Boxed W bn 3 (.int .i64 (neB L s t.1).1) ∧ Boxed W bl 3 (.int .i64 (lgI L s t.1)) ∧ Boxed W bs 3 (.int .i64 s) ∧ w.heap.size ≤ t.2 ∧ t.2 ≤ W.heap.size ∧ Below w.heap.size w W
theorem KeepNp.own (w : World) (L : Nat → Nat) (s : Int) (bn bl bs B : Nat) (hB : w.heap.size ≤ B) : OwnFrom B (KeepNp w L s bn bl bs) := fun t X Y row h hg hr =>
  ⟨boxed_calm h.1 hg (fun r e => (hr r e).2), boxed_calm h.2.1 hg (fun r e => (hr r e).2), boxed_calm h.2.2.1 hg (fun r e => (hr r e).2), h.2.2.2.1, Nat.le_trans h.2.2.2.2.1 hg.size, h.2.2.2.2.2.grown hg h.2.2.2.2.2.size (fun k e => by have := (hr k e).1; omega)⟩
/-- What holds when a round has left the loop. -/
def StopNp (w : World) (z : Int) (bn : Nat) (c : Code) (k : Nat) (W : World) : Prop := c = .exit 0 ∧ Boxed W bn 3 (.int .i64 z) ∧ Below w.heap.size w W
theorem StopNp.own (w : World) (z : Int) (bn B : Nat) (hB : w.heap.size ≤ B) (c : Code) : OwnFrom B (StopNp w z bn c) := fun t X Y row h hg hr =>
  ⟨h.1, boxed_calm h.2.1 hg (fun r e => (hr r e).2), h.2.2.grown hg h.2.2.size (fun k e => by have := (hr k e).1; omega)⟩

set_option maxHeartbeats 8000000 in
set_option maxRecDepth 100000 in
theorem c_NearestPit (xss : List (List Int)) (gs cs : List Int) (m s : Int) (v u t : Value) (w : World) (hs : ShortL xss) (l1 : gs.length ≤ 4000000) (l2 : cs.length ≤ 4000000) (h : SeenL w v xss) (hu : Seen w u gs) (ht : Seen w t cs) :
    Calls Try.prog 41 #[v, u, t, .int .i64 m, .int .i64 s] w fun e w' => e = .returned (.tuple #[.int .i64 (npA xss gs cs m s), .bool (npB xss gs cs m s)]) ∧ Below w.heap.size w w' := by
  obtain ⟨wx, hwx⟩ : ∃ wx, w.alloc (.cells #[.int .i64 s] 3) = wx := ⟨_, rfl⟩
  have CV : Hid (∀ w1, Below w.heap.size w w1 → Calls Try.prog 53 #[.agg #[v, u, t, .int .i64 m]] w1 fun e w' => e = .returned (.bool (asB xss gs cs m)) ∧ Below w1.heap.size w1 w') := fun w1 hb => c_isValid xss gs cs m v u t w1 hs l1 l2 (h.below hb) (hu.below hb) (ht.below hb)
  have HBx : Hid (Below w.heap.size w wx) := by rw [← hwx]; exact (Below.refl _ _).alloc (Nat.le_refl _) _
  obtain ⟨bg, hbg⟩ : ∃ bg, wx.heap.size = bg := ⟨_, rfl⟩
  have HZG : Hid (bg = w.heap.size + 1) := by show _ = _; rw [← hbg, ← hwx]; simp
  have HXs : Hid (Boxed wx w.heap.size 3 (.int .i64 s)) := by rw [← hwx]; exact Boxed.new w 3 (.int .i64 s)
  have HB0 : Hid (Below w.heap.size w (wx.alloc (.cells #[v, u, t, .int .i64 m] 51))) := HBx.out.alloc HBx.out.size _
  have HX0 : Hid ((wx.alloc (.cells #[v, u, t, .int .i64 m] 51)).heap[bg]? = some (.cells #[v, u, t, .int .i64 m] 51 (0, 0))) := by rw [← hbg]; exact World.alloc_heap_new _ _
  have HXs' : Hid (Boxed (wx.alloc (.cells #[v, u, t, .int .i64 m] 51)) w.heap.size 3 (.int .i64 s)) := HXs.out.alloc _
  have hgz : bg < (wx.alloc (.cells #[v, u, t, .int .i64 m] 51)).heap.size := (Array.getElem?_eq_some_iff.1 HX0.out).1
  have HGZ := Lib.hid hgz
  clear hgz HXs
  unfold npA npB
  cases hA : asB xss gs cs m
  · rw [Bool.false_and, if_neg (by simp)]
    rw [hA] at CV
    obtain ⟨A, c, rfl, hm⟩ := h.shape
    obtain ⟨A2, c2, rfl⟩ := hu.shape
    obtain ⟨A3, c3, rfl⟩ := ht.shape
    clear h hu ht hs l1 l2 hm hA
    generalize xss.length = n at *
    generalize gs.length = n2 at *
    generalize cs.length = n3 at *
    go_enter Try.func41, Try.ntmps41
    go_wp2_with fail
    refine (CV.out _ HB0.out).mono ?_
    rintro e w1 ⟨rfl, hb⟩
    have HB1 : Hid (Below w.heap.size w w1) := HB0.out.trans (hb.mono HB0.out.size)
    clear hb
    go_wp2
    go_ret2
    exact ⟨rfl, HB1.out⟩
  · have K := Asked.of hA
    rw [Bool.true_and]
    rw [hA] at CV
    by_cases hsz : 0 ≤ s ∧ s ≤ 120
    case neg =>
      rw [decide_eq_false hsz, if_neg (by simp)]
      obtain ⟨A, c, rfl, hm⟩ := h.shape
      obtain ⟨A2, c2, rfl⟩ := hu.shape
      obtain ⟨A3, c3, rfl⟩ := ht.shape
      clear h hu ht hs l1 l2 hm hA K
      generalize xss.length = n at *
      generalize gs.length = n2 at *
      generalize cs.length = n3 at *
      rcases Int.lt_or_le s 0 with s0 | s0
      · go_enter Try.func41, Try.ntmps41
        go_wp2_with fail
        refine (CV.out _ HB0.out).mono ?_
        rintro e w1 ⟨rfl, hb⟩
        have HB1 : Hid (Below w.heap.size w w1) := HB0.out.trans (hb.mono HB0.out.size)
        have y1 : w1.cell? ⟨w.heap.size, 0, none⟩ = some (.int .i64 s) := (hb.cell (p := ⟨w.heap.size, 0, none⟩) HXs'.out.lt).trans HXs'.out.cell
        clear hb
        go_wp2
        go_ret2
        exact ⟨rfl, HB1.out⟩
      · have s1 : ¬ s < 0 := by omega
        have s2 : s > 120 := by omega
        go_enter Try.func41, Try.ntmps41
        go_wp2_with fail
        refine (CV.out _ HB0.out).mono ?_
        rintro e w1 ⟨rfl, hb⟩
        have HB1 : Hid (Below w.heap.size w w1) := HB0.out.trans (hb.mono HB0.out.size)
        have y1 : w1.cell? ⟨w.heap.size, 0, none⟩ = some (.int .i64 s) := (hb.cell (p := ⟨w.heap.size, 0, none⟩) HXs'.out.lt).trans HXs'.out.cell
        clear hb
        go_wp2
        go_ret2
        exact ⟨rfl, HB1.out⟩
    case pos =>
    rw [decide_eq_true hsz, if_pos rfl]
    obtain ⟨s0, s1⟩ := hsz
    obtain ⟨M, rfl⟩ := Int.eq_ofNat_of_zero_le K.f0
    have M1 : M ≤ 60 := by have := K.f1; omega
    have HT : Hid (∀ w1, Below w.heap.size w w1 → Tells Fence.wide 9 Try.prog 54 (.agg #[v, u, t, .int .i64 M]) w.heap.size (PitRow (ptF xss gs cs)) (M + 1) w1) := fun w1 hb => c_pits xss gs cs M v u t w w1 9 (by omega) hs K hA hb h hu ht
    have HM : Hid (∀ f g, f ≤ g → g ≤ M → (ptF xss gs cs f).length ≤ (ptF xss gs cs g).length) := (K.grow w).len
    have HL : Hid (∀ f, (ptF xss gs cs f).length ≤ 120) := fun f => pt_len K.arcs gs cs f
    rw [Int.toNat_natCast]
    obtain ⟨L, hLd⟩ : ∃ L : Nat → Nat, (fun f => (ptF xss gs cs f).length) = L := ⟨_, rfl⟩
    have HLd : Hid (∀ f, (ptF xss gs cs f).length = L f) := fun f => congrFun hLd f
    rw [hLd]
    have ST : Hid (∀ f, f ≤ M → s ≤ (L f : Int) → neB L s (M + 1) = neB L s (f + 1)) := fun f hf hx => ne_stop (M := M) (fun a b h1 h2 => by rw [← HLd.out, ← HLd.out]; exact HM.out a b h1 h2) hx (by omega) (Nat.le_refl _)
    have HL2 : Hid (∀ f, L f ≤ 120) := fun f => by rw [← HLd.out]; exact HL.out f
    have NX : Hid (∀ k, (gpI L s k < lgI L s k → neB L s (k + 1) = ((k : Int), gpI L s k)) ∧ (¬ gpI L s k < lgI L s k → neB L s (k + 1) = neB L s k ∧ lgI L s (k + 1) = lgI L s k) ∧ lgI L s (k + 1) = (neB L s (k + 1)).2) := fun k => by
      have hg : gpI L s k ≤ 120 := by unfold gpI; have := HL2.out k; omega
      have hb := ne_box L s k
      refine ⟨fun hx => ?_, fun hx => ?_, by unfold lgI; rw [if_neg (by omega)]⟩
      · show (if (neB L s k).2 < 0 ∨ gpI L s k < (neB L s k).2 then ((k : Int), gpI L s k) else neB L s k) = _
        rw [if_pos]
        unfold lgI at hx
        split at hx
        · rename_i e; left; have := hb.1 e; omega
        · right; exact hx
      · have hk : k ≠ 0 := fun e => hx (by unfold lgI; rw [if_pos e]; omega)
        have e1 : neB L s (k + 1) = neB L s k := by
          show (if (neB L s k).2 < 0 ∨ gpI L s k < (neB L s k).2 then ((k : Int), gpI L s k) else neB L s k) = _
          rw [if_neg]
          unfold lgI at hx
          rw [if_neg hk] at hx
          have := hb.2.1 (by omega)
          omega
        exact ⟨e1, by unfold lgI; rw [if_neg (by omega), if_neg hk, e1]⟩
    have H0 : Hid (neB L s 0 = (0, -1) ∧ lgI L s 0 = 121) := ⟨rfl, rfl⟩
    have HGP : Hid (∀ k, gpI L s k = max ((L k : Int) - s) (s - (L k : Int))) := fun k => rfl
    obtain ⟨Z, hZ⟩ : ∃ Z, (neB L s (M + 1)).1 = Z := ⟨_, rfl⟩
    rw [hZ]
    have HZ := Lib.hid hZ
    clear hZ
    obtain ⟨A, c, rfl, hm⟩ := h.shape
    obtain ⟨A2, c2, rfl⟩ := hu.shape
    obtain ⟨A3, c3, rfl⟩ := ht.shape
    clear h hu ht hs l1 l2 hm hA K HM HL hLd
    generalize xss.length = n at *
    generalize gs.length = n2 at *
    generalize cs.length = n3 at *
    generalize ptF xss gs cs = P at *
    have t1 : ¬ s < 0 := by omega
    have t2 : ¬ s > 120 := by omega
    refine (callsIn_wide (n := 10)).1 ?_
    refine callsIn_of_wp_marks Try.func41 rfl trivial ?_ rfl
    simp only [Try.ntmps41, List.size_toArray, List.length_cons, List.length_nil, Nat.reduceAdd, Nat.reduceSub, Array.replicate_succ, Array.replicate_zero, List.push_toArray, List.append_toArray, List.nil_append, List.cons_append]
    gi_wp2_with fail
    refine ⟨trivial, ?_⟩
    refine (callsIn_wide.2 (CV.out _ HB0.out)).mono ?_
    rintro e w1 ⟨rfl, hb⟩
    have HB1 : Hid (Below w.heap.size w w1) := HB0.out.trans (hb.mono HB0.out.size)
    have HX1 : Hid (w1.heap[bg]? = some (.cells #[.slice A n c, .slice A2 n2 c2, .slice A3 n3 c3, .int .i64 M] 51 (0, 0))) := (hb.block _ HGZ.out).trans HX0.out
    have HY1 : Hid (Boxed w1 w.heap.size 3 (.int .i64 s)) := (hb.block _ HXs'.out.lt).trans HXs'.out
    have hz1 : bg < w1.heap.size := (Array.getElem?_eq_some_iff.1 HX1.out).1
    have x0 : w1.cell? ⟨bg, 0, none⟩ = some (.slice A n c) := by have := HX1.out; simp [World.cell?, this]
    have x1 : w1.cell? ⟨bg, 1, none⟩ = some (.slice A2 n2 c2) := by have := HX1.out; simp [World.cell?, this]
    have x2 : w1.cell? ⟨bg, 2, none⟩ = some (.slice A3 n3 c3) := by have := HX1.out; simp [World.cell?, this]
    have x3 : w1.cell? ⟨bg, 3, none⟩ = some (.int .i64 M) := by have := HX1.out; simp [World.cell?, this]
    have y1 : w1.cell? ⟨w.heap.size, 0, none⟩ = some (.int .i64 s) := HY1.out.cell
    clear hb HX0 HB0 CV HXs' HGZ hwx hbg HBx
    gi_wp2_with fail
    have HB2 : Hid (Below w.heap.size w ((w1.alloc (.cells #[.int .i64 0] 3)).alloc (.cells #[.int .i64 121] 3))) := (HB1.out.alloc HB1.out.size _).alloc (by simp; have := HB1.out.size; omega) _
    have HK2 : Hid (KeepNp w L s w1.heap.size (w1.heap.size + 1) w.heap.size (0, w1.heap.size + 2) ((w1.alloc (.cells #[.int .i64 0] 3)).alloc (.cells #[.int .i64 121] 3))) := by
      have hs1 := HB1.out.size
      refine ⟨?_, ?_, (HY1.out.alloc _).alloc _, by show w.heap.size ≤ w1.heap.size + 2; omega, by simp, HB2.out⟩
      · show Boxed _ _ _ (.int .i64 (neB L s 0).1)
        rw [H0.out.1]
        exact (Boxed.new w1 3 (.int .i64 0)).alloc _
      · show Boxed _ _ _ (.int .i64 (lgI L s 0))
        rw [H0.out.2]
        have := Boxed.new (w1.alloc (.cells #[.int .i64 0] 3)) 3 (.int .i64 121)
        simpa using this
    have hz2 : ((w1.alloc (.cells #[.int .i64 0] 3)).alloc (.cells #[.int .i64 121] 3)).heap.size = w1.heap.size + 2 := by simp
    have hgw : w.heap.size + 1 < w1.heap.size := by have := HZG.out; omega
    clear x0 x1 x2 x3 y1 HX1 HB1 HY1 hz1
    generalize ((w1.alloc (.cells #[.int .i64 0] 3)).alloc (.cells #[.int .i64 121] 3)) = w2 at *
    generalize w1.heap.size = b at *
    refine wpIn_range_tells rfl (by omega) (gf := 54) (gv := .agg #[.slice A n c, .slice A2 n2 c2, .slice A3 n3 c3, .int .i64 M]) rfl trivial (enters_of Try.func54 (by kernel_rfl) rfl)
      (HT.out w2 HB2.out) (by omega) rfl (KeepNp w L s b (b + 1) w.heap.size) (StopNp w Z b) (KeepNp.own w L s b (b + 1) w.heap.size w2.heap.size (by omega)) (fun s X h => ⟨h.2.2.2.1, h.2.2.2.2.1⟩) (fun c => StopNp.own w Z b w2.heap.size (by omega) c) (fun T f => PitRow.own _ P T f) ⟨_, HK2.out⟩
      (fun f x => { tmps := #[.slice A n c, .slice A2 n2 c2, .slice A3 n3 c3, .int .i64 M, .int .i64 s, undef, undef, undef, undef, .pointer (some ⟨w.heap.size, 0, none⟩), .int .i64 0, .bool false, .pointer (some ⟨bg, 0, none⟩), .pointer (some ⟨b, 0, none⟩), .pointer (some ⟨b + 1, 0, none⟩), .int .i64 (f : Int), x, undef, .slice A n c, .slice A2 n2 c2, .slice A3 n3 c3, .int .i64 M, .agg #[.slice A n c, .slice A2 n2 c2, .slice A3 n3 c3, .int .i64 M], .agg #[.slice A n c, .slice A2 n2 c2, .slice A3 n3 c3, .int .i64 M], .bool true, .bool false, .bool false, .int .i64 s, .bool (decide (s < 0)), .bool (decide (s < 0)), .bool (decide (s < 0)), .int .i64 s, .bool (decide (120 < s)), .bool (decide (s < 0) || decide (120 < s)), .agg #[.slice A n c, .slice A2 n2 c2, .slice A3 n3 c3, .int .i64 M], .func (.func 54) #[.agg #[.slice A n c, .slice A2 n2 c2, .slice A3 n3 c3, .int .i64 M]] #[], .int .i64 (f : Int), x, undef, undef, undef, undef, undef, undef, undef, undef, undef, undef, undef, undef, undef, undef], defers := [] }) ?assign ?body ?done ?stop
    case assign =>
      intro l f x W K hK
      gi_wp2
      exact hK
    case body =>
      rintro l f T x W hf hz ⟨hn, hl, hs, hT1, hT2, hb⟩ hx
      have hx' : Row W T x (P f) := hx
      obtain ⟨Ax, cx, rfl⟩ := hx'.shape
      have hn' : Boxed W b 3 (.int .i64 (neB L s f).1) := hn
      have hl' : Boxed W (b + 1) 3 (.int .i64 (lgI L s f)) := hl
      have hs' : Boxed W w.heap.size 3 (.int .i64 s) := hs
      have hT1' : w.heap.size ≤ T := hT1
      have hT2' : T ≤ W.heap.size := hT2
      have q1 := hn'.cell
      have q2 := hl'.cell
      have q3 := hs'.cell
      have q4 := hn'.frozen
      have q5 := hl'.frozen
      have g1 : (W.setCell ⟨b, 0, none⟩ (.int .i64 (f : Int))).cell? ⟨b + 1, 0, none⟩ = some (.int .i64 (lgI L s f)) := (Boxed.kept hl' (set_grownG W ⟨b, 0, none⟩ _) (by simp)).cell
      have g2 : (W.setCell ⟨b, 0, none⟩ (.int .i64 (f : Int))).frozen? ⟨b + 1, 0, none⟩ = false := (Boxed.kept hl' (set_grownG W ⟨b, 0, none⟩ _) (by simp)).frozen
      have HS2 : Hid (Boxed ((W.setCell ⟨b, 0, none⟩ (.int .i64 (f : Int))).setCell ⟨b + 1, 0, none⟩ (.int .i64 (gpI L s f))) w.heap.size 3 (.int .i64 s)) := (hs'.kept (set_grownG W ⟨b, 0, none⟩ _) (by simp; omega)).kept (set_grownG _ ⟨b + 1, 0, none⟩ _) (by simp; omega)
      have q6 : ((W.setCell ⟨b, 0, none⟩ (.int .i64 (f : Int))).setCell ⟨b + 1, 0, none⟩ (.int .i64 (gpI L s f))).cell? ⟨w.heap.size, 0, none⟩ = some (.int .i64 s) := HS2.out.cell
      have HN2 : Hid (Boxed ((W.setCell ⟨b, 0, none⟩ (.int .i64 (f : Int))).setCell ⟨b + 1, 0, none⟩ (.int .i64 (gpI L s f))) b 3 (.int .i64 (f : Int))) := (hn'.set (.int .i64 (f : Int))).kept (set_grownG _ ⟨b + 1, 0, none⟩ _) (by simp)
      have HL3 : Hid (Boxed ((W.setCell ⟨b, 0, none⟩ (.int .i64 (f : Int))).setCell ⟨b + 1, 0, none⟩ (.int .i64 (gpI L s f))) (b + 1) 3 (.int .i64 (gpI L s f))) := (hl'.kept (set_grownG W ⟨b, 0, none⟩ (.int .i64 (f : Int))) (by simp)).set (.int .i64 (gpI L s f))
      have HO2 : Hid (Outside w.heap.size w2.heap.size W ((W.setCell ⟨b, 0, none⟩ (.int .i64 (f : Int))).setCell ⟨b + 1, 0, none⟩ (.int .i64 (gpI L s f)))) := (Outside.grown (set_grownG W ⟨b, 0, none⟩ _) (fun r e => by cases e; exact ⟨by show w.heap.size ≤ b; omega, by show b < _; omega⟩)).trans (Outside.grown (set_grownG _ ⟨b + 1, 0, none⟩ _) (fun r e => by cases e; exact ⟨by show w.heap.size ≤ b + 1; omega, by show b + 1 < _; omega⟩))
      have HB3 : Hid (Below w.heap.size w ((W.setCell ⟨b, 0, none⟩ (.int .i64 (f : Int))).setCell ⟨b + 1, 0, none⟩ (.int .i64 (gpI L s f)))) := (hb.setCell (show w.heap.size ≤ b by omega) _).setCell (show w.heap.size ≤ b + 1 by omega) _
      have HNx := Lib.hid hn'
      have HLx := Lib.hid hl'
      have HSx := Lib.hid hs'
      have HBx := Lib.hid hb
      have hL := HL2.out f
      have CD : Hid (∀ wz : World, Calls Try.prog 73 #[.int .i64 ((L f : Nat) : Int), .int .i64 s] wz fun e w' => e = .returned (.int .i64 (gpI L s f)) ∧ wz = w') := fun wz => by rw [HGP.out]; exact c_differenceOf _ _ wz (by omega) (by omega) (by omega) (by omega)
      obtain ⟨nx1, nx2, nx3⟩ := NX.out f
      have NX1 := Lib.hid nx1
      have NX2 := Lib.hid nx2
      have NX3 := Lib.hid nx3
      have STf : Hid (s ≤ (L f : Int) → (neB L s (f + 1)).1 = Z) := fun h => by rw [← ST.out f (by omega) h]; exact HZ.out
      rw [HLd.out]
      clear hn hl hs hT1 hT2 hb hx hx' hn' hl' hs' nx1 nx2 nx3 NX ST HGP HLd HT
      generalize gpI L s f = gp at *
      generalize lgI L s f = lg at *
      obtain ⟨ln, hln⟩ : ∃ ln, L f = ln := ⟨_, rfl⟩
      rw [hln] at hL CD STf ⊢
      clear hln
      by_cases hlt : gp < lg
      · have G1 := Lib.hid (NX1.out hlt)
        by_cases hge : s ≤ (ln : Int)
        · have hge' : (ln : Int) ≥ s := hge
          have G2 := Lib.hid (STf.out hge)
          gi_wp2_with fail
          refine ⟨trivial, ?_⟩
          refine (CallsIn.inRound l (callsIn_wide.2 (CD.out _))).mono ?_
          rintro e wd ⟨rfl, rfl⟩
          gi_wp2
          refine ⟨HO2.out, rfl, ?_, HB3.out⟩
          rw [← G2.out, G1.out]
          exact HN2.out
        · have hge' : ¬ (ln : Int) ≥ s := hge
          gi_wp2_with fail
          refine ⟨trivial, ?_⟩
          refine (CallsIn.inRound l (callsIn_wide.2 (CD.out _))).mono ?_
          rintro e wd ⟨rfl, rfl⟩
          gi_wp2
          refine ⟨HO2.out, T, ?_, ?_, HS2.out, hT1', Nat.le_trans hT2' HO2.out.size, HB3.out⟩
          · show Boxed _ _ _ (.int .i64 (neB L s (f + 1)).1)
            rw [G1.out]
            exact HN2.out
          · show Boxed _ _ _ (.int .i64 (lgI L s (f + 1)))
            rw [NX3.out, G1.out]
            exact HL3.out
      · obtain ⟨g3, g4⟩ := NX2.out (by omega)
        have G1 := Lib.hid g3
        have G3 := Lib.hid g4
        clear g3 g4
        by_cases hge : s ≤ (ln : Int)
        · have hge' : (ln : Int) ≥ s := hge
          have G2 := Lib.hid (STf.out hge)
          gi_wp2_with fail
          refine ⟨trivial, ?_⟩
          refine (CallsIn.inRound l (callsIn_wide.2 (CD.out _))).mono ?_
          rintro e wd ⟨rfl, rfl⟩
          gi_wp2
          refine ⟨Outside.refl _ _ _, rfl, ?_, HBx.out⟩
          rw [← G2.out, G1.out]
          exact HNx.out
        · have hge' : ¬ (ln : Int) ≥ s := hge
          gi_wp2_with fail
          refine ⟨trivial, ?_⟩
          refine (CallsIn.inRound l (callsIn_wide.2 (CD.out _))).mono ?_
          rintro e wd ⟨rfl, rfl⟩
          gi_wp2
          refine ⟨Outside.refl _ _ _, T, ?_, ?_, HSx.out, hT1', hT2', HBx.out⟩
          · show Boxed _ _ _ (.int .i64 (neB L s (f + 1)).1)
            rw [G1.out]
            exact HNx.out
          · show Boxed _ _ _ (.int .i64 (lgI L s (f + 1)))
            rw [G3.out]
            exact HLx.out
    case done =>
      rintro D T W hD ⟨hn, hl, hs, hT1, hT2, hb⟩ hK
      have hn' : Boxed W b 3 (.int .i64 (neB L s (M + 1)).1) := hn
      rw [HZ.out] at hn'
      have q1 := hn'.cell
      gi_wp2
      refine ⟨by simp, .inl ⟨_, _, rfl, run_takeDeferred hK, ?_⟩⟩
      exact ⟨_, results_tmp2 rfl _ _ _, rfl, hb.trans (belowK_b (w := w) (Nat.le_refl _) W D _ _ (by omega) hK rfl rfl)⟩
    case stop =>
      rintro D c1 k W hD hk ⟨rfl, hn, hb⟩ hK
      have q1 := hn.cell
      gi_wp2
      refine ⟨by simp, .inl ⟨_, _, rfl, run_takeDeferred hK, ?_⟩⟩
      exact ⟨_, results_tmp2 rfl _ _ _, rfl, hb.trans (belowK_b (w := w) (Nat.le_refl _) W D _ _ (by omega) hK rfl rfl)⟩
end Go.Proofs.Ytoakpepoopjlaaa

namespace Go.Proofs.Ytoakpepoopjlaaa
open Go.RowKit
set_option linter.unusedVariables false

theorem c_l1AbsG (n : Int) (w : World) (h1 : -1000000 ≤ n) (h2 : n ≤ 1000000) : Calls Try.prog 72 #[.int .i64 n] w fun e w' => e = .returned (.int .i64 (max n (-n))) ∧ w = w' := by
  have C := Lib.hid (c_l1MostG n (-n) w)
  have e1 : IntKind.i64.wrap (-n) = -n := IntWalk.i64_in _ (by omega)
  generalize max n (-n) = r at *
  go_enter Try.func72, Try.ntmps72
  go_wp2_with fail
  refine C.out.mono ?_
  rintro e w1 ⟨rfl, rfl⟩
  go_wp2
  go_ret
  exact ⟨rfl, rfl⟩

set_option maxHeartbeats 2000000 in
theorem c_l1Same (xs ys : List Int) (v u : Value) (w : World) (l1 : xs.length ≤ 4000000) (l2 : ys.length ≤ 4000000) (h : Seen w v xs) (hu : Seen w u ys) :
    Calls Try.prog 55 #[v, u] w fun e w' => e = .returned (.bool (decide (xs = ys))) ∧ Below w.heap.size w w' := by
  obtain ⟨A, c, rfl, hm, hA⟩ := h
  obtain ⟨A2, c2, rfl, hm2, hA2⟩ := hu
  clear hm hm2
  by_cases hq : xs.length = ys.length
  · have E1 : Hid (∀ k : Nat, k < xs.length → ∃ b off, A = some ⟨b, off, none⟩ ∧ b < w.heap.size ∧ w.cell? ⟨b, off + k, none⟩ = some (.int .i64 (xs.getD k 0))) := fun k hk => by
      obtain ⟨b, off, rfl, hb, hc⟩ := hA (by omega)
      exact ⟨b, off, rfl, hb, hc k hk⟩
    have E2 : Hid (∀ k : Nat, k < xs.length → ∃ b off, A2 = some ⟨b, off, none⟩ ∧ b < w.heap.size ∧ w.cell? ⟨b, off + k, none⟩ = some (.int .i64 (ys.getD k 0))) := fun k hk => by
      obtain ⟨b, off, rfl, hb, hc⟩ := hA2 (by omega)
      exact ⟨b, off, rfl, hb, hc k (by omega)⟩
    have F1 : Hid (∀ k, k < xs.length → xs.getD k 0 ≠ ys.getD k 0 → decide (xs = ys) = false) := fun k hk hne => decide_eq_false (fun e => hne (by rw [e]))
    have F2 : Hid ((∀ k, k < xs.length → xs.getD k 0 = ys.getD k 0) → decide (xs = ys) = true) := fun h => decide_eq_true (List.ext_getElem hq fun k h1 h2 => by
      have := h k h1
      simpa [List.getD_eq_getElem?_getD, h1, h2] using this)
    clear hA hA2
    have hne : ((xs.length : Int) != (ys.length : Int)) = false := by simp [hq]
    generalize decide (xs = ys) = R at *
    rw [← hq] at hne ⊢
    clear hq l2
    have hmx : Try.prog.follows .mixedOrders = true := by kernel_rfl
    generalize xs.length = n at *
    go_enter Try.func55, Try.ntmps55
    go_wp2_with fail
    go_loopw [13] (fun i wr => ∃ k : Nat, k ≤ n ∧ i = .int .i64 k ∧ Hid (∀ j, j < k → xs.getD j 0 = ys.getD j 0) ∧ ∃ m, wr = w.drewN m) (fun i _ => n - (RowKit.intOf i).toNat)
    case atStart => exact ⟨0, Nat.zero_le _, rfl, fun j hj => by omega, 0, rfl⟩
    case round =>
      obtain ⟨k, hk, rfl, HK, m, rfl⟩ := hrel
      by_cases hlt : k < n
      · obtain ⟨b, off, rfl, hbl, q1⟩ := E1.out k hlt
        obtain ⟨b', off', rfl, hbl', q2⟩ := E2.out k hlt
        have F1k := Lib.hid (F1.out k hlt)
        have HK2 : Hid (xs.getD k 0 = ys.getD k 0 → ∀ j, j < k + 1 → xs.getD j 0 = ys.getD j 0) := fun e j hj => by
          by_cases ej : j = k
          · rw [ej]; exact e
          · exact HK.out j (by omega)
        have b1 : (0 : Int) ≤ (k : Int) := by omega
        have b2 : (k : Int) < (n : Int) := by omega
        clear hbl hbl'
        generalize xs.getD k 0 = x at *
        generalize ys.getD k 0 = y at *
        by_cases he : x = y
        · have G := Lib.hid (HK2.out he)
          subst he
          have hnx : (x != x) = false := by simp
          go_wp2
          go_quiet (fail)
          go_wp2
          go_roundw
          case rel => exact ⟨k + 1, by omega, by go_num, G, _, rfl⟩
          case measure => simp [RowKit.intOf]; omega
        · have G := Lib.hid (F1k.out he)
          have hnx : (x != y) = true := by simpa using he
          go_wp2
          go_quiet (fail)
          go_wp2
          go_ret
          exact ⟨ret_bool G.out.symm, below_draws (below_draws (Below.refl _ _) _) _⟩
      · obtain rfl : k = n := by omega
        have G := Lib.hid (F2.out HK.out)
        go_wp2
        go_ret
        exact ⟨ret_bool G.out.symm, below_draws (Below.refl _ _) _⟩
  · have hne : ((xs.length : Int) != (ys.length : Int)) = true := by
      rw [bne_iff_ne]
      omega
    have G : decide (xs = ys) = false := decide_eq_false (fun e => hq (by rw [e]))
    rw [G]
    clear hA hA2 G
    generalize xs.length = n at *
    generalize ys.length = n2 at *
    go_enter Try.func55, Try.ntmps55
    go_wp2
    go_ret
    exact ⟨rfl, Below.refl _ _⟩

set_option maxHeartbeats 4000000 in
set_option maxRecDepth 100000 in
theorem c_ValuesToS (xss : List (List Int)) (gs cs : List Int) (m : Int) (v u t : Value) (w : World) (hs : ShortL xss) (l1 : gs.length ≤ 4000000) (l2 : cs.length ≤ 4000000) (h : SeenL w v xss) (hu : Seen w u gs) (ht : Seen w t cs) :
    Calls Try.prog 36 #[v, u, t, .int .i64 m] w (GivesRow2 w (vtA xss gs cs m) (asB xss gs cs m)) := by
  obtain ⟨i0, hi0, hz0, hz1, hz2⟩ := info_parts int_info
  have HI := Lib.hid hi0
  clear hi0
  have C0 := Lib.hid (c_neAsked xss gs cs m v u t w hs l1 l2 h hu ht)
  cases hA : asB xss gs cs m
  · have e1 : vtA xss gs cs m = [] := by unfold vtA; rw [hA]; rfl
    rw [e1]
    rw [hA] at C0
    obtain ⟨A, c, rfl, hm⟩ := h.shape
    obtain ⟨A2, c2, rfl⟩ := hu.shape
    obtain ⟨A3, c3, rfl⟩ := ht.shape
    clear h hu ht hs l1 l2 hm hA e1
    go_enter Try.func36, Try.ntmps36
    go_wp2_with fail
    refine C0.out.mono ?_
    rintro e w1 ⟨rfl, rfl⟩
    go_wp2
    go_ret2
    exact ⟨_, rfl, Row.nil _ _, Below.refl _ _⟩
  · have K := Asked.of hA
    obtain ⟨M, rfl⟩ := Int.eq_ofNat_of_zero_le K.f0
    have e1 : vtA xss gs cs M = vtL xss gs cs (M + 1) := by unfold vtA; rw [hA]; rfl
    rw [e1]
    rw [hA] at C0
    have hG : gnB gs cs xss.length = true := by have hx := hA; unfold asB at hx; rw [Bool.and_eq_true, Bool.and_eq_true] at hx; exact hx.2.1
    have M1 : M ≤ 60 := by have := K.f1; omega
    have CP := Lib.hid (c_nePits xss gs cs M v u t w K hG h hu ht)
    have CN : Hid (∀ (k : Nat) (w1 : World), k ≤ M → Below w.heap.size w w1 → Calls Try.prog 45 #[u, t, .int .i64 k] w1 (GivesRow w1 (faL gs cs k))) := fun k w1 hk hb => c_neValues gs cs k u t w1 (by rw [K.gains.gl]; exact hG) (by simp [fcB]; omega) (hu.below hb) (ht.below hb)
    have CS : Hid (∀ (k B : Nat) (a b : Value) (w1 : World), k ≤ M → Row w1 B a (faL gs cs k) → Seen w1 b (ptF xss gs cs k) → Calls Try.prog 63 #[a, b] w1 fun e w' => e = .returned (.int .i64 (vtX xss gs cs k)) ∧ w1 = w') := fun k B a b w1 hk ha hb => by
      have Kf := K.down (g := (k : Int)) (by omega) (by omega)
      exact c_vaSum (faL gs cs k) a (ptF xss gs cs k) b xss.length w1 (by rw [faL_len]; exact l1) (by have := pt_len K.arcs gs cs k; omega) ha.seen hb (pg_true Kf.pg).2 (sel_risB _ rfl)
    have OL : Hid ((ptsL xss gs cs (M + 1)).length = M + 1) := pts_len xss gs cs _
    have OA : Hid (∀ f, f < M + 1 → (ptsL xss gs cs (M + 1)).getD f [] = ptF xss gs cs f) := fun f hf => pts_at hf
    have V1 : Hid (∀ k, k < M + 1 → (vtL xss gs cs (M + 1)).take (k + 1) = (vtL xss gs cs (M + 1)).take k ++ [vtX xss gs cs k]) := fun k hk => by
      have hl := vtL_len xss gs cs (M + 1)
      rw [List.take_succ_eq_append_getElem (by omega)]
      have := vtL_at (xss := xss) (gs := gs) (cs := cs) hk
      have e : (vtL xss gs cs (M + 1))[k]'(by omega) = vtX xss gs cs k := by simpa [List.getD_eq_getElem?_getD, hl, hk] using this
      rw [e]
    have VL : Hid (∀ k, k ≤ M + 1 → ((vtL xss gs cs (M + 1)).take k).length = k) := fun k hk => by rw [List.length_take, vtL_len]; omega
    have VA : Hid ((vtL xss gs cs (M + 1)).take (M + 1) = vtL xss gs cs (M + 1)) := by
      show _ = _
      rw [List.take_of_length_le (by rw [vtL_len]; omega)]
    obtain ⟨A, c, rfl, hm⟩ := h.shape
    obtain ⟨A2, c2, rfl⟩ := hu.shape
    obtain ⟨A3, c3, rfl⟩ := ht.shape
    clear h hu ht hs l1 l2 hm hA e1 K hG
    generalize ptsL xss gs cs (M + 1) = O at *
    generalize vtL xss gs cs (M + 1) = VT at *
    generalize vtX xss gs cs = VX at *
    generalize ptF xss gs cs = P at *
    generalize faL gs cs = FA at *
    go_enter Try.func36, Try.ntmps36
    go_wp2_with fail
    refine C0.out.mono ?_
    rintro e w1 ⟨rfl, rfl⟩
    go_wp2_with fail
    refine CP.out.mono ?_
    rintro e w2 ⟨v2, rfl, hr, hb⟩
    have HB2 := Lib.hid hb
    have HR2 := Lib.hid hr
    obtain ⟨AO, cO, rfl⟩ := hr.shape
    rw [show O.length = M + 1 from OL.out] at HR2 ⊢
    clear hr hb C0 CP
    have e2 : ((M + 1 : Nat) : Int) = (M : Int) + 1 := rfl
    go_wp2_with fail
    go_loopw [10, 25] (fun q i wr => ∃ k : Nat, k ≤ M + 1 ∧ i = .int .i64 k ∧ Row wr w2.heap.size q (VT.take k) ∧ Below w2.heap.size w2 wr) (fun _ i _ => M + 1 - (RowKit.intOf i).toNat)
    case atStart => exact ⟨0, Nat.zero_le _, rfl, Row.nil _ _, Below.refl _ _⟩
    case round =>
      obtain ⟨k, hk, rfl, hr, hb⟩ := hrel
      have HR := Lib.hid hr
      have HB := Lib.hid hb
      clear hr hb
      by_cases hlt : k < M + 1
      · obtain ⟨b, off, A', c', rfl, hbl, q1, hsx⟩ := HR2.out.seen.rowAt (k := k) (by rw [OL.out]; exact hlt)
        rw [OA.out k hlt] at q1 hsx
        have q0 : wr.cell? ⟨b, off + k, none⟩ = some (.slice A' (P k).length c') := by rw [HB.out.cell (p := ⟨b, off + k, none⟩) hbl]; exact q1
        have HBw : Hid (Below w.heap.size w wr) := HB2.out.trans (HB.out.mono HB2.out.size)
        have C1 := Lib.hid (CN.out k wr (by omega) HBw.out)
        have HT1 := Lib.hid (V1.out k hlt)
        have hlen := VL.out k hk
        have hsp : Hid (Seen wr (.slice A' (P k).length c') (P k)) := hsx.below HB.out
        have CSk := Lib.hid (CS.out k)
        have b1 : (0 : Int) ≤ (k : Int) := by omega
        have b3 : (k : Int) < (M : Int) + 1 := by omega
        have hkM : k ≤ M := by omega
        clear q1 hsx
        generalize VT.take k = Y at *
        generalize P k = ps at *
        generalize VX k = val at *
        go_wp2_with fail
        refine C1.out.mono ?_
        rintro e w3 ⟨v3, rfl, hr3, hb3⟩
        have C2 := Lib.hid (CSk.out _ _ _ _ hkM hr3 (hsp.out.below hb3))
        have HB3 : Hid (Below w2.heap.size w2 w3) := HB.out.trans (hb3.mono HB.out.size)
        have HR3 : Hid (Row w3 w2.heap.size u10 Y) := HR.out.below hb3
        obtain ⟨A5, c5, rfl⟩ := hr3.shape
        clear hr3 hb3
        go_wp2_with fail
        refine C2.out.mono ?_
        rintro e w4 ⟨rfl, rfl⟩
        have sw := HB3.out.size
        go_wp2_with (at_builtin; refine wpList_append_own _ rfl _ _ 22 rfl (w2.heap.size) 3 i0 (.int .i64 0) 1 8 Try.underlying22 HI.out hz0 hz1 hz2 rfl (by decide) _ _ _ rfl (World.ownsRow.alloc HR3.out _) ⟨w3.heap.size, 0, none⟩ 1 1 [.int .i64 val] rfl rfl ?c1 ?c2 ?c3 ?c4 ?c5 ?_)
        case c1 =>
          intro j u hj
          match j, hj with
          | 0, hj => simp at hj; subst hj; simp [Addr.add]
        case c2 => intro u hu; simp at hu; subst hu; rfl
        case c3 => unfold maxLen; omega
        case c4 => omega
        case c5 => simp; omega
        intro v' w5 hown' hgrow _
        have R1 : Hid (Row w5 w2.heap.size v' (VT.take (k + 1))) := by rw [HT1.out]; exact row_more (by rw [hlen]; exact hown')
        have R2 : Hid (Below w2.heap.size w2 w5) := (HB3.out.alloc sw _).grown hgrow (by simp; omega) (fun g hg => (World.ownsRow.lt HR3.out g hg).1)
        clear hown' hgrow
        go_wp2
        go_roundw
        case rel => exact ⟨k + 1, by omega, by go_num, R1.out, R2.out⟩
        case measure => simp [RowKit.intOf]; omega
      · obtain rfl : k = M + 1 := by omega
        go_wp2
        go_ret2
        exact ⟨_, rfl, by have := HR.out.mono HB2.out.size; rw [VA.out] at this; exact this, HB2.out.trans (HB.out.mono HB2.out.size)⟩

set_option maxHeartbeats 4000000 in
set_option maxRecDepth 100000 in
theorem c_NearestPitS (xss : List (List Int)) (gs cs : List Int) (m s : Int) (v u t : Value) (w : World) (hs : ShortL xss) (l1 : gs.length ≤ 4000000) (l2 : cs.length ≤ 4000000) (h : SeenL w v xss) (hu : Seen w u gs) (ht : Seen w t cs) :
    Calls Try.prog 40 #[v, u, t, .int .i64 m, .int .i64 s] w fun e w' => e = .returned (.tuple #[.int .i64 (npA xss gs cs m s), .bool (npB xss gs cs m s)]) ∧ Below w.heap.size w w' := by
  have C0 := Lib.hid (c_neAsked xss gs cs m v u t w hs l1 l2 h hu ht)
  have CI := Lib.hid (c_l1In s 0 120 w)
  unfold npA npB
  cases hA : asB xss gs cs m
  · rw [Bool.false_and, if_neg (by simp)]
    rw [hA] at C0
    obtain ⟨A, c, rfl, hm⟩ := h.shape
    obtain ⟨A2, c2, rfl⟩ := hu.shape
    obtain ⟨A3, c3, rfl⟩ := ht.shape
    clear h hu ht hs l1 l2 hm hA
    go_enter Try.func40, Try.ntmps40
    go_wp2_with fail
    refine C0.out.mono ?_
    rintro e w1 ⟨rfl, rfl⟩
    go_wp2
    go_ret2
    exact ⟨rfl, Below.refl _ _⟩
  · have K := Asked.of hA
    rw [Bool.true_and]
    rw [hA] at C0
    by_cases hsz : 0 ≤ s ∧ s ≤ 120
    case neg =>
      rw [decide_eq_false hsz] at CI ⊢
      rw [if_neg (by simp)]
      obtain ⟨A, c, rfl, hm⟩ := h.shape
      obtain ⟨A2, c2, rfl⟩ := hu.shape
      obtain ⟨A3, c3, rfl⟩ := ht.shape
      clear h hu ht hs l1 l2 hm hA K
      go_enter Try.func40, Try.ntmps40
      go_wp2_with fail
      refine C0.out.mono ?_
      rintro e w1 ⟨rfl, rfl⟩
      go_wp2_with fail
      refine CI.out.mono ?_
      rintro e w1 ⟨rfl, rfl⟩
      go_wp2
      go_ret2
      exact ⟨rfl, Below.refl _ _⟩
    case pos =>
    rw [decide_eq_true hsz] at CI ⊢
    rw [if_pos rfl]
    obtain ⟨s0, s1⟩ := hsz
    obtain ⟨M, rfl⟩ := Int.eq_ofNat_of_zero_le K.f0
    have hG : gnB gs cs xss.length = true := by have hx := hA; unfold asB at hx; rw [Bool.and_eq_true, Bool.and_eq_true] at hx; exact hx.2.1
    have M1 : M ≤ 60 := by have := K.f1; omega
    have CP := Lib.hid (c_nePits xss gs cs M v u t w K hG h hu ht)
    have OL : Hid ((ptsL xss gs cs (M + 1)).length = M + 1) := pts_len xss gs cs _
    have OA : Hid (∀ f, f < M + 1 → (ptsL xss gs cs (M + 1)).getD f [] = ptF xss gs cs f) := fun f hf => pts_at hf
    have HL : Hid (∀ f, (ptF xss gs cs f).length ≤ 120) := fun f => pt_len K.arcs gs cs f
    rw [Int.toNat_natCast]
    obtain ⟨L, hLd⟩ : ∃ L : Nat → Nat, (fun f => (ptF xss gs cs f).length) = L := ⟨_, rfl⟩
    have HLd : Hid (∀ f, (ptF xss gs cs f).length = L f) := fun f => congrFun hLd f
    rw [hLd]
    have HL2 : Hid (∀ f, L f ≤ 120) := fun f => by rw [← HLd.out]; exact HL.out f
    have NX : Hid (∀ k, neB L s (k + 1) = if (neB L s k).2 < 0 ∨ gpI L s k < (neB L s k).2 then ((k : Int), gpI L s k) else neB L s k) := fun k => rfl
    have H0 : Hid (neB L s 0 = (0, -1)) := rfl
    have HGP : Hid (∀ k, max ((L k : Int) - s) (-((L k : Int) - s)) = gpI L s k) := fun k => by unfold gpI; omega
    obtain ⟨A, c, rfl, hm⟩ := h.shape
    obtain ⟨A2, c2, rfl⟩ := hu.shape
    obtain ⟨A3, c3, rfl⟩ := ht.shape
    clear h hu ht hs l1 l2 hm hA K hG HL hLd
    generalize ptsL xss gs cs (M + 1) = O at *
    generalize ptF xss gs cs = P at *
    generalize neB L s = NB at *
    go_enter Try.func40, Try.ntmps40
    go_wp2_with fail
    refine C0.out.mono ?_
    rintro e w1 ⟨rfl, rfl⟩
    go_wp2_with fail
    refine CI.out.mono ?_
    rintro e w1 ⟨rfl, rfl⟩
    go_wp2_with fail
    refine CP.out.mono ?_
    rintro e w2 ⟨v2, rfl, hr, hb⟩
    have HB2 := Lib.hid hb
    have HR2 := Lib.hid hr
    obtain ⟨AO, cO, rfl⟩ := hr.shape
    rw [show O.length = M + 1 from OL.out] at HR2 ⊢
    clear hr hb C0 CP CI
    go_wp2_with fail
    go_loop [12, 13, 34] (fun a g i => ∃ k : Nat, k ≤ M + 1 ∧ i = .int .i64 k ∧ a = .int .i64 (NB k).1 ∧ g = .int .i64 (NB k).2) (fun _ _ i => M + 1 - (RowKit.intOf i).toNat)
    case atStart => exact ⟨0, Nat.zero_le _, rfl, by rw [H0.out], by rw [H0.out]⟩
    case round =>
      obtain ⟨k, hk, rfl, rfl, rfl⟩ := hrel
      by_cases hlt : k < M + 1
      · obtain ⟨b, off, A', c', rfl, hbl, q1, _⟩ := HR2.out.seen.rowAt (k := k) (by rw [OL.out]; exact hlt)
        rw [OA.out k hlt, HLd.out] at q1
        have hl := HL2.out k
        have CA := Lib.hid (c_l1AbsG ((L k : Int) - s) w2 (by omega) (by omega))
        rw [HGP.out] at CA
        have NXk := Lib.hid (NX.out k)
        have b1 : (0 : Int) ≤ (k : Int) := by omega
        have b3 : (k : Int) < (M : Int) + 1 := by omega
        have e3 : IntKind.i64.wrap ((L k : Int) - s) = (L k : Int) - s := IntWalk.i64_in _ (by omega)
        generalize gpI L s k = gp at *
        generalize L k = lk at *
        by_cases hc : (NB k).2 < 0 ∨ gp < (NB k).2
        · have G := Lib.hid (NXk.out.trans (if_pos hc))
          clear NXk
          generalize (NB k).1 = x at *
          generalize (NB k).2 = y at *
          by_cases h1 : y < 0
          · go_wp2_with fail
            refine CA.out.mono ?_
            rintro e w3 ⟨rfl, rfl⟩
            go_wp2
            go_round
            case rel => exact ⟨k + 1, by omega, by go_num, by rw [G.out], by rw [G.out]⟩
            case measure => simp [RowKit.intOf]; omega
          · have h2 : gp < y := by omega
            go_wp2_with fail
            refine CA.out.mono ?_
            rintro e w3 ⟨rfl, rfl⟩
            go_wp2
            go_round
            case rel => exact ⟨k + 1, by omega, by go_num, by rw [G.out], by rw [G.out]⟩
            case measure => simp [RowKit.intOf]; omega
        · have G := Lib.hid (NXk.out.trans (if_neg hc))
          clear NXk
          have h1 : ¬ (NB k).2 < 0 := by omega
          have h2 : ¬ gp < (NB k).2 := by omega
          go_wp2_with fail
          refine CA.out.mono ?_
          rintro e w3 ⟨rfl, rfl⟩
          go_wp2
          go_round
          case rel => exact ⟨k + 1, by omega, by go_num, by rw [G.out], by rw [G.out]⟩
          case measure => simp [RowKit.intOf]; omega
      · obtain rfl : k = M + 1 := by omega
        go_wp2
        go_ret2
        exact ⟨rfl, HB2.out⟩
end Go.Proofs.Ytoakpepoopjlaaa

namespace Go.Proofs.Ytoakpepoopjlaaa
open Go.RowKit
set_option linter.unusedVariables false

theorem RowsV.grow {w w4 : World} {B U g c n j : Nat} {p : Value} {xss : List (List Int)} {vs : List Value} {ys : List Int} (h : RowsV w B U (.slice (some ⟨g, 0, none⟩) n c) xss vs) (hn : n = xss.length) (hj : j < xss.length) (hU : U ≤ w.heap.size)
    (hp : Row w4 B p ys) (hg : w.grownBy w4 (vs.getD j (.slice none 0 0)).ownBlock) (hpo : ∀ k, p.ownBlock = some k → (vs.getD j (.slice none 0 0)).ownBlock = some k ∨ w.heap.size ≤ k) :
    RowsV (w4.setCell ⟨g, j, none⟩ p) B (w4.setCell ⟨g, j, none⟩ p).heap.size (.slice (some ⟨g, 0, none⟩) n c) (xss.set j ys) (vs.set j p) := by
  have hl := h.len
  subst hn
  have ho4 : w4.ownsRow B 22 1 (.slice (some ⟨g, 0, none⟩) xss.length c) xss.length vs := World.ownsRow.kept h.own hg (by
    cases e : (vs.getD j (.slice none 0 0)).ownBlock with
    | none => exact .inr (by simp [Value.ownBlock])
    | some k => exact .inr fun e' => own_types h.own (h.row j hj) (by decide) e'  e)
  have hs := World.ownsRow.stored ho4 j p
  have hgs : w4.grownBy (w4.setCell ⟨g, j, none⟩ p) (some g) := hs.2
  have hrow4 : ∀ i, i < xss.length → i ≠ j → Row w4 B (vs.getD i (.slice none 0 0)) (xss.getD i []) := fun i hi hne => World.ownsRow.kept (h.row i hi) hg (h.apart i j hi hj hne)
  have ha : ∀ {B' : Nat} {q : Value} {zs : List Int}, Row w4 B' q zs → q.ownBlock = none ∨ q.ownBlock ≠ some g := fun {B' q zs} hq => by
    cases e : q.ownBlock with
    | none => exact .inl rfl
    | some k => exact .inr fun e' => own_types ho4 hq (by decide) (k := k) (by simp [Value.ownBlock]; injection e' with e'; exact e'.symm) e
  have hrow : ∀ i, i < (xss.set j ys).length → Row (w4.setCell ⟨g, j, none⟩ p) B ((vs.set j p).getD i (.slice none 0 0)) ((xss.set j ys).getD i []) := fun i hi => by
    rw [List.length_set] at hi
    by_cases e : j = i
    · subst e
      rw [show (vs.set j p).getD j (.slice none 0 0) = p by simp [hl, hi], show (xss.set j ys).getD j [] = ys by simp [hi]]
      exact World.ownsRow.kept hp hgs (ha hp)
    · rw [show (vs.set j p).getD i (.slice none 0 0) = vs.getD i (.slice none 0 0) by simp [List.getD_eq_getElem?_getD, e], show (xss.set j ys).getD i [] = xss.getD i [] by simp [List.getD_eq_getElem?_getD, e]]
      exact World.ownsRow.kept (hrow4 i hi (Ne.symm e)) hgs (ha (hrow4 i hi (Ne.symm e)))
  have new : ∀ a, a < xss.length → a ≠ j → ∀ k, (vs.getD a (.slice none 0 0)).ownBlock = some k → p.ownBlock ≠ some k := fun a hal hne k hk e => by
    rcases hpo k e with h1 | h1
    · rcases h.apart a j hal hj hne with h2 | h2
      · rw [hk] at h2; cases h2
      · exact h2 (hk.trans h1.symm)
    · have := h.rtop a k hal hk
      omega
  refine ⟨by simp [hl], by rw [List.length_set]; exact hs.1, fun k hk => (World.ownsRow.lt hs.1 k hk).2, hrow, fun i k hi hk => (World.ownsRow.lt (hrow i hi) k hk).2, fun a b ha hb hne => ?_⟩
  rw [List.length_set] at ha hb
  by_cases ea : j = a
  · subst ea
    rw [show (vs.set j p).getD j (.slice none 0 0) = p by simp [hl, ha], show (vs.set j p).getD b (.slice none 0 0) = vs.getD b (.slice none 0 0) by simp [List.getD_eq_getElem?_getD, hne]]
    cases e : p.ownBlock with
    | none => exact .inl rfl
    | some k => exact .inr fun e' => new b hb (Ne.symm hne) k e'.symm e
  · rw [show (vs.set j p).getD a (.slice none 0 0) = vs.getD a (.slice none 0 0) by simp [List.getD_eq_getElem?_getD, ea]]
    by_cases eb : j = b
    · subst eb
      rw [show (vs.set j p).getD j (.slice none 0 0) = p by simp [hl, hb]]
      cases e : (vs.getD a (.slice none 0 0)).ownBlock with
      | none => exact .inl rfl
      | some k => exact .inr fun e' => new a ha (Ne.symm ea) k e e'.symm
    · rw [show (vs.set j p).getD b (.slice none 0 0) = vs.getD b (.slice none 0 0) by simp [List.getD_eq_getElem?_getD, eb]]
      exact h.apart a b ha hb hne

set_option maxHeartbeats 4000000 in
set_option maxRecDepth 100000 in
theorem c_ChangesOfS (xss : List (List Int)) (gs cs : List Int) (m : Int) (v u t : Value) (w : World) (hs : ShortL xss) (l1 : gs.length ≤ 4000000) (l2 : cs.length ≤ 4000000) (h : SeenL w v xss) (hu : Seen w u gs) (ht : Seen w t cs) :
    Calls Try.prog 30 #[v, u, t, .int .i64 m] w (GivesRow2 w (cgA xss gs cs m) (asB xss gs cs m)) := by
  obtain ⟨i0, hi0, hz0, hz1, hz2⟩ := info_parts int_info
  have HI := Lib.hid hi0
  clear hi0
  have C0 := Lib.hid (c_neAsked xss gs cs m v u t w hs l1 l2 h hu ht)
  cases hA : asB xss gs cs m
  · have e1 : cgA xss gs cs m = [] := by unfold cgA; rw [hA]; rfl
    rw [e1]
    rw [hA] at C0
    obtain ⟨A, c, rfl, hm⟩ := h.shape
    obtain ⟨A2, c2, rfl⟩ := hu.shape
    obtain ⟨A3, c3, rfl⟩ := ht.shape
    clear h hu ht hs l1 l2 hm hA e1
    go_enter Try.func30, Try.ntmps30
    go_wp2_with fail
    refine C0.out.mono ?_
    rintro e w1 ⟨rfl, rfl⟩
    go_wp2
    go_ret2
    exact ⟨_, rfl, Row.nil _ _, Below.refl _ _⟩
  · have K := Asked.of hA
    obtain ⟨M, rfl⟩ := Int.eq_ofNat_of_zero_le K.f0
    have e1 : cgA xss gs cs M = sel (cgP (ptP xss gs cs) xss.length) (M + 1) := by unfold cgA; rw [hA]; rfl
    rw [e1]
    rw [hA] at C0
    have hG : gnB gs cs xss.length = true := by have hx := hA; unfold asB at hx; rw [Bool.and_eq_true, Bool.and_eq_true] at hx; exact hx.2.1
    have M1 : M ≤ 60 := by have := K.f1; omega
    have hN := arc_len K.arcs
    have CP : Hid (∀ w1, Below w.heap.size w w1 → Calls Try.prog 52 #[v, u, t, .int .i64 M] w1 (GivesLL w1 (ptsL xss gs cs (M + 1)))) := fun w1 hb => c_nePits xss gs cs M v u t w1 K hG (h.below hb) (hu.below hb) (ht.below hb)
    have OL : Hid ((ptsL xss gs cs (M + 1)).length = M + 1) := pts_len xss gs cs _
    have OA : Hid (∀ f, f < M + 1 → (ptsL xss gs cs (M + 1)).getD f [] = sel (ptP xss gs cs f) xss.length) := fun f hf => pts_at hf
    have HC : Hid (∀ k : Nat, 0 < k → cgP (ptP xss gs cs) xss.length (k : Int) = !decide (sel (ptP xss gs cs k) xss.length = sel (ptP xss gs cs (k - 1)) xss.length)) := fun k hk => by
      unfold cgP
      rw [Int.toNat_natCast, decide_eq_true hk, Bool.true_and]
    have HC0 : Hid (sel (cgP (ptP xss gs cs) xss.length) 1 = []) := by
      show _ = _
      rw [sel_miss (by simp [cgP])]
      rfl
    have HS : Hid (∀ f, (sel (ptP xss gs cs f) xss.length).length ≤ 120) := fun f => by have := sel_len (ptP xss gs cs f) xss.length; omega
    obtain ⟨A, c, rfl, hm⟩ := h.shape
    obtain ⟨A2, c2, rfl⟩ := hu.shape
    obtain ⟨A3, c3, rfl⟩ := ht.shape
    clear h hu ht hs l1 l2 hm hA e1 K hG
    have hcl : ∀ k, (sel (cgP (ptP xss gs cs) xss.length) k).length ≤ k := fun k => sel_len _ k
    have HCL := Lib.hid hcl
    clear hcl
    generalize ptsL xss gs cs (M + 1) = O at *
    generalize cgP (ptP xss gs cs) xss.length = cp at *
    generalize ptP xss gs cs = P at *
    generalize xss.length = n at *
    have hmx : Try.prog.follows .mixedOrders = true := by kernel_rfl
    go_enter Try.func30, Try.ntmps30
    go_wp2_with fail
    refine C0.out.mono ?_
    rintro e w1 ⟨rfl, rfl⟩
    go_wp2_with fail
    refine (CP.out _ (Below.refl _ _)).mono ?_
    rintro e w2 ⟨v2, rfl, hr, hb⟩
    have HB2 := Lib.hid hb
    have HR2 := Lib.hid hr
    obtain ⟨AO, cO, rfl⟩ := hr.shape
    rw [show O.length = M + 1 from OL.out] at HR2 ⊢
    clear hr hb C0 CP
    go_wp2_with fail
    go_loopw [11, 12] (fun q i wr => ∃ k : Nat, 1 ≤ k ∧ k ≤ M + 1 ∧ i = .int .i64 k ∧ Row wr w2.heap.size q (sel cp k) ∧ Below w2.heap.size w2 wr) (fun _ i _ => M + 1 - (RowKit.intOf i).toNat)
    case atStart => exact ⟨1, Nat.le_refl _, by omega, rfl, by rw [HC0.out]; exact Row.nil _ _, Below.refl _ _⟩
    case round =>
      obtain ⟨k, k1, hk, rfl, hr, hb⟩ := hrel
      have HR := Lib.hid hr
      have HB := Lib.hid hb
      clear hr hb
      by_cases hlt : k ≤ M
      · obtain ⟨b, off, A1, c1, rfl, hbl, q1, hs1⟩ := HR2.out.seen.rowAt (k := k) (by rw [OL.out]; omega)
        obtain ⟨b', off', A0, c0, e0, _, q0, hs0⟩ := HR2.out.seen.rowAt (k := k - 1) (by rw [OL.out]; omega)
        simp at e0
        obtain ⟨rfl, rfl⟩ := e0
        rw [OA.out k (by omega)] at q1 hs1
        rw [OA.out (k - 1) (by omega)] at q0 hs0
        have hl1 := HS.out k
        have hl0 := HS.out (k - 1)
        have HCk := Lib.hid (HC.out k (by omega))
        have CS : Hid (∀ u : World, Below w2.heap.size w2 u → Calls Try.prog 55 #[.slice A1 (sel (P k) n).length c1, .slice A0 (sel (P (k - 1)) n).length c0] u fun e w' => e = .returned (.bool (decide (sel (P k) n = sel (P (k - 1)) n))) ∧ Below u.heap.size u w') := fun u hu => c_l1Same _ _ _ _ u (by omega) (by omega) (hs1.below hu) (hs0.below hu)
        have KS : Hid (∀ u : World, Below w2.heap.size w2 u → u.cell? ⟨b, off + k, none⟩ = some (.slice A1 (sel (P k) n).length c1) ∧ u.cell? ⟨b, off + (k - 1), none⟩ = some (.slice A0 (sel (P (k - 1)) n).length c0)) := fun u hu => ⟨(hu.cell (p := ⟨b, off + k, none⟩) hbl).trans q1, (hu.cell (p := ⟨b, off + (k - 1), none⟩) hbl).trans q0⟩
        have HBd : Hid (Below w2.heap.size w2 wr.drew) := HB.out.drew
        have HRd : Hid (Row wr.drew w2.heap.size u11 (sel cp k)) := HR.out
        have hlen := HCL.out k
        have b1 : (0 : Int) ≤ (k : Int) := by omega
        have b2 : (k : Int) < (M : Int) + 1 := by omega
        have b2' : (k : Int) ≤ (M : Int) := by omega
        have b3 : (0 : Int) ≤ (k : Int) - 1 := by omega
        have b4 : (k : Int) - 1 < (M : Int) + 1 := by omega
        have b5 : ((k : Int) - 1).toNat = k - 1 := by omega
        have b6 : ((k : Int)).toNat = k := by omega
        have b7 : (1 : Int) ≤ (k : Int) := by omega
        have b9 : IntKind.i64.wrap ((k : Int) - 1) = (k : Int) - 1 := IntWalk.i64_in _ (by omega)
        have b10 : (k : Int) < (M : Int) + 1 + 1 := by omega
        clear q1 q0 hs1 hs0 HR
        generalize decide (sel (P k) n = sel (P (k - 1)) n) = D at *
        generalize (sel (P k) n).length = lk at *
        generalize (sel (P (k - 1)) n).length = l0 at *
        go_wp2_with fail
        go_region_held3 (fun u => u.cell? ⟨b, off + k, none⟩ = some (.slice A1 lk c1) ∧ u.cell? ⟨b, off + (k - 1), none⟩ = some (.slice A0 l0 c0))
          (first | with_reducible exact KS.out _ HBd.out | with_reducible exact KS1.out)
          (first
            | (go_at_call 55
               refine (CS.out _ HBd.out).mono ?_
               rintro e w4 ⟨rfl, hb4⟩
               have HB4 : Hid (Below w2.heap.size w2 w4) := HBd.out.trans (hb4.mono HBd.out.size)
               have KS1 := Lib.hid (KS.out _ HB4.out)
               have HR4 : Hid (Row w4 w2.heap.size u11 (sel cp k)) := HRd.out.below hb4
               clear hb4))
        have sw := HB4.out.size
        cases D
        · have HQ : Hid (cp k = true) := HCk.out
          go_wp2_with (at_builtin; refine wpList_append_own _ rfl _ _ 22 rfl (w2.heap.size) 3 i0 (.int .i64 0) 1 8 Try.underlying22 HI.out hz0 hz1 hz2 rfl (by decide) _ _ _ rfl (World.ownsRow.alloc HR4.out _) ⟨w4.heap.size, 0, none⟩ 1 1 [.int .i64 k] rfl rfl ?c1 ?c2 ?c3 ?c4 ?c5 ?_)
          case c1 =>
            intro j u hj
            match j, hj with
            | 0, hj => simp at hj; subst hj; simp [Addr.add]
          case c2 => intro u hu; simp at hu; subst hu; rfl
          case c3 => unfold maxLen; omega
          case c4 => omega
          case c5 => simp; omega
          intro v' w5 hown' hgrow _
          have R1 : Hid (Row w5 w2.heap.size v' (sel cp (k + 1))) := by rw [sel_hit HQ.out]; exact row_more hown'
          have R2 : Hid (Below w2.heap.size w2 w5) := (HB4.out.alloc sw _).grown hgrow (by simp; omega) (fun g hg => (World.ownsRow.lt HR4.out g hg).1)
          clear hown' hgrow
          go_wp2
          go_roundw
          case rel => exact ⟨k + 1, by omega, by omega, by go_num, R1.out, R2.out⟩
          case measure => simp [RowKit.intOf]; omega
        · have HQ : Hid (cp k = false) := HCk.out
          go_wp2
          go_roundw
          case rel => exact ⟨k + 1, by omega, by omega, by go_num, by rw [sel_miss HQ.out]; exact HR4.out, HB4.out⟩
          case measure => simp [RowKit.intOf]; omega
      · obtain rfl : k = M + 1 := by omega
        have b1 : ¬ ((M : Int) + 1 ≤ (M : Int)) := by omega
        go_wp2
        go_ret2
        exact ⟨_, rfl, HR.out.mono HB2.out.size, HB2.out.trans (HB.out.mono HB2.out.size)⟩
end Go.Proofs.Ytoakpepoopjlaaa

namespace Go.Proofs.Ytoakpepoopjlaaa
open Go.RowKit
set_option linter.unusedVariables false

/-! ### Plain -/
def fsL (P : Nat → Int → Bool) (n f j : Nat) : List Int := (List.range n).map fun (i : Nat) => mkE P n f j i
theorem fs_len (P : Nat → Int → Bool) (n f j : Nat) : (fsL P n f j).length = n := by simp [fsL]
theorem fs_at {P : Nat → Int → Bool} {n f j i : Nat} (h : i < n) : (fsL P n f j).getD i 0 = mkE P n f j i := by simp [fsL, h]
theorem mk_fs (P : Nat → Int → Bool) (n f j : Nat) : mkL P n f j = (fsL P n f j).map (48 + ·) := by simp [mkL, fsL]
theorem map_inj {xs ys : List Int} (h : xs.map (48 + ·) = ys.map (48 + ·)) : xs = ys := by
  have e : ∀ l : List Int, (l.map (48 + ·)).map (· - 48) = l := fun l => by
    rw [List.map_map]
    conv => rhs; rw [← List.map_id l]
    exact List.map_congr_left fun x _ => by show 48 + x - 48 = x; omega
  rw [← e xs, h, e ys]
theorem mkE_low (P : Nat → Int → Bool) (n f j : Nat) (i : Int) : -1 ≤ mkE P n f j i := by
  have := fi_box P i f
  unfold mkE
  split <;> omega
theorem fs_zero (P : Nat → Int → Bool) (n : Nat) : fsL P n 0 0 = List.replicate n (-1) := by
  apply List.ext_getElem
  · simp [fsL]
  · intro i h1 h2
    simp [fsL, mkE, fiI]
theorem fs_all (P : Nat → Int → Bool) (n f : Nat) : fsL P n f (sel (P f) n).length = fsL P n (f + 1) 0 := map_inj (by rw [← mk_fs, ← mk_fs]; exact mk_all P n f)
theorem fs_next {P : Nat → Int → Bool} {n f j x : Nat} (hj : j < (sel (P f) n).length) (hx : (sel (P f) n).getD j 0 = (x : Int)) (hn : x < n) :
    fsL P n f (j + 1) = if (fsL P n f j).getD x 0 < 0 then (fsL P n f j).set x (f : Int) else fsL P n f j := by
  have h := mk_next hj hx hn
  rw [mk_at hn] at h
  rw [fs_at hn]
  have hb := mkE_low P n f j x
  refine map_inj ?_
  rw [← mk_fs, h]
  by_cases c : mkE P n f j x < 0
  · rw [if_pos c, if_pos (by omega), List.map_set, mk_fs]
  · rw [if_neg c, if_neg (by omega), mk_fs]
theorem fs_end (P : Nat → Int → Bool) (n M : Nat) : fsL P n (M + 1) 0 = ffL P n M := by
  unfold fsL ffL
  refine List.map_congr_left fun i _ => ?_
  simp [mkE]
/-- The first k of n are -1. -/
def negL (n k : Nat) : List Int := List.replicate k (-1) ++ List.replicate (n - k) 0
theorem neg_len {n k : Nat} (h : k ≤ n) : (negL n k).length = n := by simp [negL]; omega
theorem neg_next {n k : Nat} (h : k < n) : (negL n k).set k (-1) = negL n (k + 1) := by
  unfold negL
  rw [List.set_append_right _ _ (by simp)]
  simp only [List.length_replicate, Nat.sub_self]
  obtain ⟨d, hd⟩ : ∃ d, n - k = d + 1 := ⟨n - k - 1, by omega⟩
  rw [hd, List.replicate_succ, List.set_cons_zero, show n - (k + 1) = d by omega, show List.replicate (k + 1) (-1 : Int) = List.replicate k (-1) ++ [-1] by rw [List.replicate_succ']]
  simp

theorem rows_row {w : World} {B U n c : Nat} {A : Option Addr} {xss : List (List Int)} (h : Rows w B U (.slice A n c) xss) {k : Nat} (hk : k < xss.length) :
    ∃ g A1 c1, A = some ⟨g, 0, none⟩ ∧ w.cell? ⟨g, k, none⟩ = some (.slice A1 (xss.getD k []).length c1) ∧ Row w B (.slice A1 (xss.getD k []).length c1) (xss.getD k []) ∧ B ≤ g ∧ g < w.heap.size := by
  obtain ⟨vs, h⟩ := h
  obtain ⟨g, cx, e, h1, h2⟩ := h.form (by omega)
  simp at e
  obtain ⟨rfl, rfl, rfl⟩ := e
  have hr := h.row k hk
  have hc := h.cell hk
  obtain ⟨A1, c1, e1⟩ := hr.shape
  rw [e1] at hr hc
  exact ⟨g, A1, c1, rfl, hc, hr, h1, h2⟩

set_option maxHeartbeats 4000000 in
set_option maxRecDepth 100000 in
theorem c_FirstFactorsS (xss : List (List Int)) (gs cs : List Int) (m : Int) (v u t : Value) (w : World) (hs : ShortL xss) (l1 : gs.length ≤ 4000000) (l2 : cs.length ≤ 4000000) (h : SeenL w v xss) (hu : Seen w u gs) (ht : Seen w t cs) :
    Calls Try.prog 32 #[v, u, t, .int .i64 m] w (GivesRow2 w (ffA xss gs cs m) (asB xss gs cs m)) := by
  have C0 := Lib.hid (c_neAsked xss gs cs m v u t w hs l1 l2 h hu ht)
  cases hA : asB xss gs cs m
  · have e1 : ffA xss gs cs m = [] := by unfold ffA; rw [hA]; rfl
    rw [e1]
    rw [hA] at C0
    obtain ⟨A, c, rfl, hm⟩ := h.shape
    obtain ⟨A2, c2, rfl⟩ := hu.shape
    obtain ⟨A3, c3, rfl⟩ := ht.shape
    clear h hu ht hs l1 l2 hm hA e1
    go_enter Try.func32, Try.ntmps32
    go_wp2_with fail
    refine C0.out.mono ?_
    rintro e w1 ⟨rfl, rfl⟩
    go_wp2
    go_ret2
    exact ⟨_, rfl, Row.nil _ _, Below.refl _ _⟩
  · have K := Asked.of hA
    obtain ⟨M, rfl⟩ := Int.eq_ofNat_of_zero_le K.f0
    have e1 : ffA xss gs cs M = ffL (ptP xss gs cs) xss.length M := by unfold ffA; rw [hA]; rfl
    rw [e1]
    rw [hA] at C0
    have hG : gnB gs cs xss.length = true := by have hx := hA; unfold asB at hx; rw [Bool.and_eq_true, Bool.and_eq_true] at hx; exact hx.2.1
    have M1 : M ≤ 60 := by have := K.f1; omega
    have hN := arc_len K.arcs
    have CP : Hid (∀ w1, Below w.heap.size w w1 → Calls Try.prog 52 #[v, u, t, .int .i64 M] w1 (GivesLL w1 (ptsL xss gs cs (M + 1)))) := fun w1 hb => c_nePits xss gs cs M v u t w1 K hG (h.below hb) (hu.below hb) (ht.below hb)
    have OL : Hid ((ptsL xss gs cs (M + 1)).length = M + 1) := pts_len xss gs cs _
    have OA : Hid (∀ f, f < M + 1 → (ptsL xss gs cs (M + 1)).getD f [] = sel (ptP xss gs cs f) xss.length) := fun f hf => pts_at hf
    have HS : Hid (∀ f, (sel (ptP xss gs cs f) xss.length).length ≤ 120) := fun f => by have := sel_len (ptP xss gs cs f) xss.length; omega
    have SA : Hid (∀ f j, j < (sel (ptP xss gs cs f) xss.length).length → 0 ≤ (sel (ptP xss gs cs f) xss.length).getD j 0 ∧ (sel (ptP xss gs cs f) xss.length).getD j 0 < xss.length) := fun f j h => sel_at h
    have NX : Hid (∀ f j X : Nat, j < (sel (ptP xss gs cs f) xss.length).length → (sel (ptP xss gs cs f) xss.length).getD j 0 = (X : Int) → X < xss.length → fsL (ptP xss gs cs) xss.length f (j + 1) = if (fsL (ptP xss gs cs) xss.length f j).getD X 0 < 0 then (fsL (ptP xss gs cs) xss.length f j).set X (f : Int) else fsL (ptP xss gs cs) xss.length f j) := fun f j X a b c => fs_next a b c
    have NA : Hid (∀ f, fsL (ptP xss gs cs) xss.length f (sel (ptP xss gs cs f) xss.length).length = fsL (ptP xss gs cs) xss.length (f + 1) 0) := fun f => fs_all _ _ f
    have NL : Hid (∀ f j, (fsL (ptP xss gs cs) xss.length f j).length = xss.length) := fun f j => fs_len _ _ f j
    have N0 : Hid (negL xss.length xss.length = fsL (ptP xss gs cs) xss.length 0 0) := by show _ = _; rw [fs_zero]; simp [negL]
    have NE : Hid (fsL (ptP xss gs cs) xss.length (M + 1) 0 = ffL (ptP xss gs cs) xss.length M) := fs_end _ _ _
    obtain ⟨A, c, rfl, hm⟩ := h.shape
    obtain ⟨A2, c2, rfl⟩ := hu.shape
    obtain ⟨A3, c3, rfl⟩ := ht.shape
    clear h hu ht hs l1 l2 hm hA e1 K hG
    generalize ptsL xss gs cs (M + 1) = O at *
    generalize fsL (ptP xss gs cs) xss.length = FS at *
    generalize ffL (ptP xss gs cs) xss.length M = FF at *
    generalize ptP xss gs cs = P at *
    generalize xss.length = n at *
    obtain ⟨n1, n4⟩ := hN
    have hmk := mk_ints w n (by omega)
    have HZ : Hid (Row (w.alloc (.cells (madeCells #[.int .i64 0] n) 3)) w.heap.size (.slice (some ⟨w.heap.size, 0, none⟩) n n) (negL n 0)) := by
      have := row_zeros w n (by unfold maxLen; omega)
      show Row _ _ _ _
      rwa [show negL n 0 = List.replicate n 0 by simp [negL]]
    go_enter Try.func32, Try.ntmps32
    go_wp2_with fail
    refine C0.out.mono ?_
    rintro e w1 ⟨rfl, rfl⟩
    go_wp2_with fail
    clear hmk
    go_loopw [27] (fun i wr => ∃ k : Nat, k ≤ n ∧ i = .int .i64 k ∧ Row wr w.heap.size (.slice (some ⟨w.heap.size, 0, none⟩) n n) (negL n k) ∧ Below w.heap.size w wr) (fun i _ => n - (RowKit.intOf i).toNat)
    case atStart => exact ⟨0, Nat.zero_le _, rfl, HZ.out, (Below.refl _ _).alloc (Nat.le_refl _) _⟩
    case round =>
      obtain ⟨k, hk, rfl, hr, hb⟩ := hrel
      have HR := Lib.hid hr
      have HB := Lib.hid hb
      clear hr hb
      by_cases hlt : k < n
      · have hl : (negL n k).length = n := neg_len hk
        have q1 : wr.cell? ⟨w.heap.size, k, none⟩ = some (.int .i64 ((negL n k).getD k 0)) := by
          have hr : Row wr w.heap.size (.slice (some ⟨w.heap.size, 0, none⟩) (negL n k).length n) (negL n k) := by rw [hl]; exact HR.out
          exact hr.cell k (by omega)
        have q2 : wr.frozen? ⟨w.heap.size, k, none⟩ = false := by
          have hr : Row wr w.heap.size (.slice (some ⟨w.heap.size, 0, none⟩) (negL n k).length n) (negL n k) := by rw [hl]; exact HR.out
          exact hr.frozen k
        have N1 : Hid (Row (wr.setCell ⟨w.heap.size, k, none⟩ (.int .i64 (-1))) w.heap.size (.slice (some ⟨w.heap.size, 0, none⟩) n n) (negL n (k + 1))) := by
          have := (Row.set_ hl.symm HR.out k (-1)).1
          rwa [neg_next hlt] at this
        generalize (negL n k).getD k 0 = z at q1
        have b1 : (0 : Int) ≤ (k : Int) := by omega
        have b2 : (k : Int) < (n : Int) := by omega
        clear hl
        go_wp2
        go_roundw
        case rel => exact ⟨k + 1, by omega, by go_num, N1.out, HB.out.setCell (Nat.le_refl _) _⟩
        case measure => simp [RowKit.intOf]; omega
      · obtain rfl : k = n := by omega
        have HRF : Hid (Row wr w.heap.size (.slice (some ⟨w.heap.size, 0, none⟩) k k) (FS 0 0)) := by have := HR.out; rwa [N0.out] at this
        have CPw := Lib.hid (CP.out wr HB.out)
        have hgz := (World.ownsRow.lt HRF.out w.heap.size rfl).2
        have HGZ := Lib.hid hgz
        clear hgz
        go_wp2_with fail
        refine CPw.out.mono ?_
        rintro e w2 ⟨v2, rfl, hr, hb⟩
        have HB2 : Hid (Below w.heap.size w w2) := HB.out.trans (hb.mono HB.out.size)
        have HR2 := Lib.hid hr
        have HF2 : Hid (Row w2 w.heap.size (.slice (some ⟨w.heap.size, 0, none⟩) k k) (FS 0 0)) := HRF.out.below hb
        obtain ⟨AO, cO, rfl⟩ := hr.shape
        rw [show O.length = M + 1 from OL.out] at HR2 ⊢
        obtain ⟨S1, hS1⟩ : ∃ S1, wr.heap.size = S1 := ⟨_, rfl⟩
        rw [hS1] at HR2 HGZ
        clear hr hb CPw CP HR HZ HRF HB hS1
        have e2 : ((M + 1 : Nat) : Int) = (M : Int) + 1 := rfl
        go_wp2_with fail
        go_loopw [40] (fun i wq => ∃ f : Nat, f ≤ M + 1 ∧ i = .int .i64 f ∧ Row wq w.heap.size (.slice (some ⟨w.heap.size, 0, none⟩) k k) (FS f 0) ∧ Rows wq S1 w2.heap.size (.slice AO (M + 1) cO) O ∧ Below w.heap.size w wq) (fun i _ => M + 1 - (RowKit.intOf i).toNat)
        case atStart => exact ⟨0, Nat.zero_le _, rfl, HF2.out, HR2.out, HB2.out⟩
        case round =>
          obtain ⟨f, hf, rfl, hr, ho, hb⟩ := hrel
          have HRf := Lib.hid hr
          have HOf := Lib.hid ho
          have HBf := Lib.hid hb
          clear hr ho hb
          by_cases hlt2 : f < M + 1
          · obtain ⟨go, A1, c1, rfl, q1, hs1, hgo1, _⟩ := rows_row HOf.out (k := f) (by rw [OL.out]; exact hlt2)
            rw [OA.out f hlt2] at q1 hs1
            have HS1 := Lib.hid hs1
            have hl1 := HS.out f
            have NXf := Lib.hid (NX.out f)
            have NAf := Lib.hid (NA.out f)
            have NLf := Lib.hid (NL.out f)
            have SAf := Lib.hid (SA.out f)
            have b1 : (0 : Int) ≤ (f : Int) := by omega
            have b2 : (f : Int) < (M : Int) + 1 := by omega
            clear hs1 NX NA NL SA HS
            generalize sel (P f) k = ps at *
            obtain ⟨FN, hFN⟩ : ∃ FN, FS (f + 1) 0 = FN := ⟨_, rfl⟩
            rw [hFN] at NAf
            have HFN : Hid (FN = FS (f + 1) 0) := hFN.symm
            clear hFN
            generalize FS f = F at *
            generalize hpl : ps.length = pl at *
            go_wp2_with fail
            go_loopw [47] (fun i wz => ∃ j : Nat, j ≤ pl ∧ i = .int .i64 j ∧ Row wz w.heap.size (.slice (some ⟨w.heap.size, 0, none⟩) k k) (F j) ∧ Rows wz S1 w2.heap.size (.slice (some ⟨go, 0, none⟩) (M + 1) cO) O ∧ Row wz S1 (.slice A1 pl c1) ps ∧ Below w.heap.size w wz) (fun i _ => pl - (RowKit.intOf i).toNat)
            case atStart => exact ⟨0, Nat.zero_le _, rfl, HRf.out, HOf.out, HS1.out, HBf.out⟩
            case round =>
              obtain ⟨j, hj, rfl, hr, ho, hs, hb⟩ := hrel
              have HRj := Lib.hid hr
              have HOj := Lib.hid ho
              have HSj := Lib.hid hs
              have HBj := Lib.hid hb
              clear hr ho hs hb
              by_cases hlt3 : j < pl
              · obtain ⟨gp, rfl, hgp, _, p1⟩ := pit_at hpl.symm HSj.out hlt3
                obtain ⟨s1, s2⟩ := SAf.out j hlt3
                obtain ⟨X, hX⟩ := Int.eq_ofNat_of_zero_le s1
                have NXj := Lib.hid (NXf.out j X hlt3 hX (by omega))
                rw [hX] at p1 s2
                have hl := NLf.out j
                have p2 : wr.cell? ⟨w.heap.size, X, none⟩ = some (.int .i64 ((F j).getD X 0)) := by
                  have hr : Row wr w.heap.size (.slice (some ⟨w.heap.size, 0, none⟩) (F j).length k) (F j) := by rw [hl]; exact HRj.out
                  exact hr.cell X (by omega)
                have p3 : wr.frozen? ⟨w.heap.size, X, none⟩ = false := by
                  have hr : Row wr w.heap.size (.slice (some ⟨w.heap.size, 0, none⟩) (F j).length k) (F j) := by rw [hl]; exact HRj.out
                  exact hr.frozen X
                have ST := Lib.hid (Row.set_ hl.symm HRj.out X (f : Int))
                have b3 : (0 : Int) ≤ (j : Int) := by omega
                have b4 : (j : Int) < (pl : Int) := by omega
                have b5 : (0 : Int) ≤ (X : Int) := by omega
                have hgz := HGZ.out
                generalize (F j).getD X 0 = e at *
                by_cases he : e < 0
                · have G : Hid (F (j + 1) = (F j).set X (f : Int)) := by have := NXj.out; rwa [if_pos he] at this
                  have hg := ST.out.2
                  have F1 : Hid (Row (wr.setCell ⟨w.heap.size, X, none⟩ (.int .i64 (f : Int))) w.heap.size (.slice (some ⟨w.heap.size, 0, none⟩) k k) (F (j + 1))) := by show Row _ _ _ _; rw [G.out]; exact ST.out.1
                  have F2 : Hid (Rows (wr.setCell ⟨w.heap.size, X, none⟩ (.int .i64 (f : Int))) S1 w2.heap.size (.slice (some ⟨go, 0, none⟩) (M + 1) cO) O) := HOj.out.stays fun i h1 _ => Below.heap_setCell _ _ _ _ (fun e => by simp at e; omega)
                  have F3 : Hid (Row (wr.setCell ⟨w.heap.size, X, none⟩ (.int .i64 (f : Int))) S1 (.slice (some ⟨gp, 0, none⟩) pl c1) ps) := own_stays HSj.out fun i hi => Below.heap_setCell _ _ _ _ (fun e => by simp [Value.ownBlock] at hi; simp at e; omega)
                  have F4 : Hid (Below w.heap.size w (wr.setCell ⟨w.heap.size, X, none⟩ (.int .i64 (f : Int)))) := HBj.out.setCell (Nat.le_refl _) _
                  clear hg ST NXj hX hl
                  go_wp2
                  go_roundw
                  case rel => exact ⟨j + 1, by omega, by go_num, F1.out, F2.out, F3.out, F4.out⟩
                  case measure => simp [RowKit.intOf]; omega
                · have G : Hid (F (j + 1) = F j) := by have := NXj.out; rwa [if_neg he] at this
                  clear NXj hX ST hl
                  go_wp2
                  go_roundw
                  case rel => exact ⟨j + 1, by omega, by go_num, by rw [G.out]; exact HRj.out, HOj.out, HSj.out, HBj.out⟩
                  case measure => simp [RowKit.intOf]; omega
              · obtain rfl : j = pl := by omega
                go_wp2
                go_roundw
                case rel => exact ⟨f + 1, by omega, by go_num, by have := HRj.out; rw [NAf.out] at this; exact (HFN.out ▸ this), HOj.out, HBj.out⟩
                case measure => simp [RowKit.intOf]; omega
          · obtain rfl : f = M + 1 := by omega
            go_wp2
            go_ret2
            exact ⟨_, rfl, by have := HRf.out; rw [NE.out] at this; exact this, HBf.out⟩
end Go.Proofs.Ytoakpepoopjlaaa

namespace Go.Proofs.Ytoakpepoopjlaaa
open Go.RowKit
set_option linter.unusedVariables false

theorem new_one (w : World) (x : Value) (e : TypeId) : ∀ j u, [x][j]? = some u → (w.alloc (.cells #[x] e)).cell? ((⟨w.heap.size, 0, none⟩ : Addr).add j) = some u := by
  intro j u hj
  match j, hj with
  | 0, hj => simp at hj; subst hj; simp [Addr.add]
theorem src_new (w : World) (x : Value) (e : TypeId) : Src (w.alloc (.cells #[x] e)) 1 (some ⟨w.heap.size, 0, none⟩) 1 1 [x] := ⟨rfl, fun h => (by cases h), fun _ => ⟨_, rfl, new_one w x e⟩⟩
/-! ### Plain -/
/-- The pit before. -/
def bfL (P : Nat → Int → Bool) (n f : Nat) : List Int := if f = 0 then [] else sel (P (f - 1)) n
def shF (P : Nat → Int → Bool) (n f t : Nat) : List Int := ((sel (P f) n).take t).filter fun x => !inL (bfL P n f) x
theorem shF_next {P : Nat → Int → Bool} {n f t : Nat} (h : t < (sel (P f) n).length) : shF P n f (t + 1) = if inL (bfL P n f) ((sel (P f) n).getD t 0) then shF P n f t else shF P n f t ++ [(sel (P f) n).getD t 0] := by
  unfold shF
  rw [List.take_succ_eq_append_getElem h, List.filter_append]
  have e : (sel (P f) n)[t] = (sel (P f) n).getD t 0 := by simp [List.getD_eq_getElem?_getD, h]
  rw [e]
  by_cases c : inL (bfL P n f) ((sel (P f) n).getD t 0) = true
  · rw [if_pos c, List.filter_cons_of_neg (by rw [c]; simp)]
    exact List.append_nil _
  · rw [if_neg c, List.filter_cons_of_pos (by simpa using c)]
    rfl
theorem shF_all (P : Nat → Int → Bool) (n f : Nat) : shF P n f (sel (P f) n).length = shL P n f := by
  unfold shF shL
  rw [List.take_length]
  have e : (sel (P f) n).filter (fun x => !inL (bfL P n f) x) = (sel (P f) n).filter (fun i => !(decide (0 < f) && P (f - 1) i)) := by
    refine List.filter_congr fun x hx => ?_
    have hm := mem_sel.1 hx
    unfold inr at hm
    rw [Bool.and_eq_true] at hm
    congr 1
    unfold bfL
    by_cases h0 : f = 0
    · subst h0
      simp [inL]
    · rw [if_neg h0, decide_eq_true (by omega), Bool.true_and]
      cases hp : P (f - 1) x
      · cases hq : inL (sel (P (f - 1)) n) x
        · rfl
        · have := mem_sel.1 (inL_iff.1 hq)
          unfold inr at this
          rw [Bool.and_eq_true, hp] at this
          cases this.2
      · exact inL_iff.2 (mem_sel.2 (by unfold inr; rw [Bool.and_eq_true]; exact ⟨hm.1, hp⟩))
  rw [e, sel_keep]
  rfl
theorem shF_len (P : Nat → Int → Bool) (n f t : Nat) : (shF P n f t).length ≤ n := by
  unfold shF
  have h1 := List.length_filter_le (fun x => !inL (bfL P n f) x) ((sel (P f) n).take t)
  have h2 := sel_len (P f) n
  rw [List.length_take] at h1
  omega
theorem stg_nil {tss : List (List Int)} {j : Nat} (h : j < tss.length) : (stg tss j).set j [] = stg tss j := by
  have hl := stg_len tss j (by omega)
  have e : (stg tss j)[j]'(by omega) = [] := by
    unfold stg
    rw [List.getElem_append_right (by simp; omega)]
    simp
  refine List.ext_getElem (by simp) fun i h1 h2 => ?_
  rw [List.getElem_set]
  by_cases c : j = i
  · subst c
    rw [if_pos rfl, e]
  · rw [if_neg c]
theorem rows_low {w : World} {B U n c : Nat} {A : Option Addr} {xss : List (List Int)} (h : Rows w B U (.slice A n c) xss) {k : Nat} (hk : k < xss.length) :
    ∃ g A1 c1, A = some ⟨g, 0, none⟩ ∧ (B ≤ g ∧ g < U) ∧ w.cell? ⟨g, k, none⟩ = some (.slice A1 (xss.getD k []).length c1) ∧ Row w B (.slice A1 (xss.getD k []).length c1) (xss.getD k []) ∧ ∀ q, (Value.slice A1 (xss.getD k []).length c1).ownBlock = some q → q < U := by
  obtain ⟨vs, h⟩ := h
  obtain ⟨g, cx, e, h1, h2⟩ := h.form (by omega)
  simp at e
  obtain ⟨rfl, rfl, rfl⟩ := e
  have hr := h.row k hk
  have hc := h.cell hk
  have ht := h.rtop k
  obtain ⟨A1, c1, e1⟩ := hr.shape
  rw [e1] at hr hc ht
  exact ⟨g, A1, c1, rfl, ⟨h1, h.top g rfl⟩, hc, hr, fun q hq => ht q hk hq⟩
theorem sh_facts (xss : List (List Int)) (gs cs : List Int) (m : Int) : (shA xss gs cs m).length ≤ 1048576 ∧ Short (shA xss gs cs m) ∧ totN (shA xss gs cs m) (shA xss gs cs m).length ≤ 1048576 := by
  cases h : asB xss gs cs m
  · have e : shA xss gs cs m = [] := by unfold shA; rw [h]; rfl
    rw [e]
    exact ⟨by simp, fun i hi => by simp at hi, by simp [totN]⟩
  · have K := Asked.of h
    have hN := arc_len K.arcs
    have e : shA xss gs cs m = shsL (ptP xss gs cs) xss.length (m.toNat + 1) := by unfold shA; rw [h]; rfl
    have hl : (shA xss gs cs m).length = m.toNat + 1 := by rw [e, shs_len]
    have hb : ∀ i, i < (shA xss gs cs m).length → ((shA xss gs cs m).getD i []).length ≤ 120 := fun i hi => by
      rw [hl] at hi
      rw [e, shs_at hi]
      have := sel_len (shP (ptP xss gs cs) i) xss.length
      show (sel (shP (ptP xss gs cs) i) xss.length).length ≤ 120
      omega
    have h61 : (shA xss gs cs m).length ≤ 61 := by have := K.f1; have := K.f0; omega
    have ht : ∀ k, k ≤ (shA xss gs cs m).length → totN (shA xss gs cs m) k ≤ 120 * k := fun k => by
      induction k with
      | zero => intro _; simp [totN]
      | succ k ih =>
        intro hk
        have h1 := ih (by omega)
        have h2 := hb k (by omega)
        show totN (shA xss gs cs m) k + ((shA xss gs cs m).getD k []).length ≤ _
        omega
    have := ht _ (Nat.le_refl _)
    exact ⟨by omega, fun i hi => by have := hb i hi; omega, by omega⟩

set_option maxHeartbeats 8000000 in
set_option maxRecDepth 100000 in
theorem c_ShellsOfS (xss : List (List Int)) (gs cs : List Int) (m : Int) (v u t : Value) (w : World) (hs : ShortL xss) (l1 : gs.length ≤ 4000000) (l2 : cs.length ≤ 4000000) (h : SeenL w v xss) (hu : Seen w u gs) (ht : Seen w t cs) :
    Calls Try.prog 34 #[v, u, t, .int .i64 m] w (GivesRows2 w (shA xss gs cs m) (asB xss gs cs m)) := by
  obtain ⟨i0, hi0, hz0, hz1, hz2⟩ := info_parts int_info
  have HI := Lib.hid hi0
  clear hi0
  have C0 := Lib.hid (c_neAsked xss gs cs m v u t w hs l1 l2 h hu ht)
  cases hA : asB xss gs cs m
  · have e1 : shA xss gs cs m = [] := by unfold shA; rw [hA]; rfl
    rw [e1]
    rw [hA] at C0
    obtain ⟨A, c, rfl, hm⟩ := h.shape
    obtain ⟨A2, c2, rfl⟩ := hu.shape
    obtain ⟨A3, c3, rfl⟩ := ht.shape
    clear h hu ht hs l1 l2 hm hA e1
    go_enter Try.func34, Try.ntmps34
    go_wp2_with fail
    refine C0.out.mono ?_
    rintro e w1 ⟨rfl, rfl⟩
    go_wp2
    go_ret2
    exact ⟨_, rfl, Rows.nil _ _ _, Below.refl _ _⟩
  · have K := Asked.of hA
    obtain ⟨M, rfl⟩ := Int.eq_ofNat_of_zero_le K.f0
    have e1 : shA xss gs cs M = shsL (ptP xss gs cs) xss.length (M + 1) := by unfold shA; rw [hA]; rfl
    rw [e1]
    rw [hA] at C0
    have hG : gnB gs cs xss.length = true := by have hx := hA; unfold asB at hx; rw [Bool.and_eq_true, Bool.and_eq_true] at hx; exact hx.2.1
    have M1 : M ≤ 60 := by have := K.f1; omega
    have hN := arc_len K.arcs
    have CP : Hid (∀ w1, Below w.heap.size w w1 → Calls Try.prog 52 #[v, u, t, .int .i64 M] w1 (GivesLL w1 (ptsL xss gs cs (M + 1)))) := fun w1 hb => c_nePits xss gs cs M v u t w1 K hG (h.below hb) (hu.below hb) (ht.below hb)
    have OL : Hid ((ptsL xss gs cs (M + 1)).length = M + 1) := pts_len xss gs cs _
    have OA : Hid (∀ f, f < M + 1 → (ptsL xss gs cs (M + 1)).getD f [] = sel (ptP xss gs cs f) xss.length) := fun f hf => pts_at hf
    have HS : Hid (∀ f, (sel (ptP xss gs cs f) xss.length).length ≤ 120) := fun f => by have := sel_len (ptP xss gs cs f) xss.length; omega
    have NX : Hid (∀ f t : Nat, t < (sel (ptP xss gs cs f) xss.length).length → shF (ptP xss gs cs) xss.length f (t + 1) = if inL (bfL (ptP xss gs cs) xss.length f) ((sel (ptP xss gs cs f) xss.length).getD t 0) then shF (ptP xss gs cs) xss.length f t else shF (ptP xss gs cs) xss.length f t ++ [(sel (ptP xss gs cs f) xss.length).getD t 0]) := fun f t h => shF_next h
    have NA : Hid (∀ f, shF (ptP xss gs cs) xss.length f (sel (ptP xss gs cs f) xss.length).length = shL (ptP xss gs cs) xss.length f) := fun f => shF_all _ _ f
    have NZ : Hid (∀ f, shF (ptP xss gs cs) xss.length f 0 = []) := fun f => rfl
    have NL : Hid (∀ f t, (shF (ptP xss gs cs) xss.length f t).length ≤ 120) := fun f t => by have := shF_len (ptP xss gs cs) xss.length f t; omega
    have BF : Hid (∀ f, bfL (ptP xss gs cs) xss.length (f + 1) = sel (ptP xss gs cs f) xss.length) := fun f => by unfold bfL; rw [if_neg (by omega)]; rfl
    have BF0 : Hid (bfL (ptP xss gs cs) xss.length 0 = []) := rfl
    have BL : Hid (∀ f, (bfL (ptP xss gs cs) xss.length f).length ≤ 120) := fun f => by
      unfold bfL
      split
      · simp
      · have := sel_len (ptP xss gs cs (f - 1)) xss.length; omega
    have SL : Hid ((shsL (ptP xss gs cs) xss.length (M + 1)).length = M + 1) := shs_len _ _ _
    have SG0 : Hid (stg (shsL (ptP xss gs cs) xss.length (M + 1)) 0 = List.replicate (M + 1) []) := by show _ = _; rw [stg_zero, shs_len]
    have SGn : Hid (∀ f, f < M + 1 → (stg (shsL (ptP xss gs cs) xss.length (M + 1)) f).set f [] = stg (shsL (ptP xss gs cs) xss.length (M + 1)) f) := fun f hf => stg_nil (by rw [shs_len]; exact hf)
    have SGs : Hid (∀ f, f < M + 1 → (stg (shsL (ptP xss gs cs) xss.length (M + 1)) f).set f (shL (ptP xss gs cs) xss.length f) = stg (shsL (ptP xss gs cs) xss.length (M + 1)) (f + 1)) := fun f hf => by
      have := stg_set (shsL (ptP xss gs cs) xss.length (M + 1)) f (by rw [shs_len]; exact hf)
      rwa [shs_at hf] at this
    have SGl : Hid (∀ f, f ≤ M + 1 → (stg (shsL (ptP xss gs cs) xss.length (M + 1)) f).length = M + 1) := fun f hf => by rw [stg_len _ f (by rw [shs_len]; exact hf), shs_len]
    have SGe : Hid (stg (shsL (ptP xss gs cs) xss.length (M + 1)) (M + 1) = shsL (ptP xss gs cs) xss.length (M + 1)) := by
      have := stg_all (shsL (ptP xss gs cs) xss.length (M + 1))
      rwa [shs_len] at this
    obtain ⟨A, c, rfl, hm⟩ := h.shape
    obtain ⟨A2, c2, rfl⟩ := hu.shape
    obtain ⟨A3, c3, rfl⟩ := ht.shape
    clear h hu ht hs l1 l2 hm hA e1 K hG
    generalize ptsL xss gs cs (M + 1) = O at *
    generalize stg (shsL (ptP xss gs cs) xss.length (M + 1)) = SG at *
    generalize shsL (ptP xss gs cs) xss.length (M + 1) = SS at *
    generalize shF (ptP xss gs cs) xss.length = SF at *
    generalize shL (ptP xss gs cs) xss.length = SH at *
    generalize bfL (ptP xss gs cs) xss.length = BB at *
    generalize ptP xss gs cs = P at *
    generalize xss.length = n at *
    obtain ⟨n1, n4⟩ := hN
    have hmk : (Instr.makeSlice 29 (.int .i64 ((M : Int) + 1)) (.int .i64 ((M : Int) + 1))).run Try.prog w = _ := mk_lists w (M + 1) (by omega)
    have e2 : IntKind.i64.wrap ((M : Int) + 1) = (M : Int) + 1 := IntWalk.i64_in _ (by omega)
    obtain ⟨wa, hwa⟩ : ∃ wa, w.alloc (.cells (madeCells #[.slice none 0 0] (M + 1)) 22) = wa := ⟨_, rfl⟩
    have HZ : Hid (RowsV wa w.heap.size wa.heap.size (.slice (some ⟨w.heap.size, 0, none⟩) (M + 1) (M + 1)) (SG 0) (List.replicate (M + 1) (.slice none 0 0))) := by
      show RowsV _ _ _ _ _ _
      rw [SG0.out, ← hwa]
      have ho := World.ownsRow_lit (base := w.heap.size) (e := 22) (size := 1) w (madeCells #[.slice none 0 0] (M + 1)) (M + 1) (Nat.le_refl _) (by unfold maxLen; omega) (by rw [size_madeCells]; simp)
      rw [nils] at ho
      have hv : ∀ i, (List.replicate (M + 1) (Value.slice none 0 0)).getD i (.slice none 0 0) = .slice none 0 0 := fun i => by simp [List.getD_eq_getElem?_getD, List.getElem?_replicate]; split <;> rfl
      have hx : ∀ i, (List.replicate (M + 1) ([] : List Int)).getD i [] = [] := fun i => by simp [List.getD_eq_getElem?_getD, List.getElem?_replicate]; split <;> rfl
      refine ⟨by simp, by simpa using ho, fun k hk => (World.ownsRow.lt ho k hk).2, fun i hi => ?_, fun i k hi hk => ?_, fun i j hi hj hne => ?_⟩
      · rw [hv, hx]; exact Row.nil _ _
      · rw [hv] at hk; simp [Value.ownBlock] at hk
      · rw [hv]; exact .inl rfl
    have HV0 : Hid (∀ (i k : Nat), ((List.replicate (M + 1) (Value.slice none 0 0)).getD i (.slice none 0 0)).ownBlock = some k → False) := fun i k hk => by
      have hv : (List.replicate (M + 1) (Value.slice none 0 0)).getD i (.slice none 0 0) = .slice none 0 0 := by simp [List.getD_eq_getElem?_getD, List.getElem?_replicate]; split <;> rfl
      rw [hv] at hk
      simp [Value.ownBlock] at hk
    have HBa : Hid (Below w.heap.size w wa) := by rw [← hwa]; exact (Below.refl _ _).alloc (Nat.le_refl _) _
    have hza : w.heap.size < wa.heap.size := by rw [← hwa]; simp
    have CPa := Lib.hid (CP.out wa HBa.out)
    clear CP
    go_enter Try.func34, Try.ntmps34
    go_wp2_with fail
    refine C0.out.mono ?_
    rintro e w1 ⟨rfl, rfl⟩
    go_wp2_with fail
    refine CPa.out.mono ?_
    rintro e w2 ⟨v2, rfl, hr, hb⟩
    have HB2 : Hid (Below w.heap.size w w2) := HBa.out.trans (hb.mono HBa.out.size)
    have HR2 := Lib.hid hr
    have HZ2 : Hid (RowsV w2 w.heap.size w2.heap.size (.slice (some ⟨w.heap.size, 0, none⟩) (M + 1) (M + 1)) (SG 0) (List.replicate (M + 1) (.slice none 0 0))) := by
      have h := HZ.out.stays (w' := w2) fun k _ hk => hb.block k hk
      exact ⟨h.len, h.own, fun k e => Nat.lt_of_lt_of_le (h.top k e) hb.size, h.row, fun i k hi e => Nat.lt_of_lt_of_le (h.rtop i k hi e) hb.size, h.apart⟩
    obtain ⟨S1, hS1⟩ : ∃ S1, wa.heap.size = S1 := ⟨_, rfl⟩
    obtain ⟨S2, hS2⟩ : ∃ S2, w2.heap.size = S2 := ⟨_, rfl⟩
    have hS12 : S1 ≤ S2 := by rw [← hS1, ← hS2]; exact hb.size
    have hgS : w.heap.size < S1 := by rw [← hS1]; exact hza
    rw [hS1, hS2] at HR2
    obtain ⟨AO, cO, rfl⟩ := hr.shape
    rw [show O.length = M + 1 from OL.out] at HR2 ⊢
    clear hr hb C0 CPa HZ HBa hza hwa hmk
    have e3 : ((M + 1 : Nat) : Int) = (M : Int) + 1 := rfl
    go_wp2_with fail
    go_loopw [11, 31] (fun q i wq => ∃ (f : Nat) (vs : List Value), f ≤ M + 1 ∧ i = .int .i64 f ∧ RowsV wq w.heap.size wq.heap.size (.slice (some ⟨w.heap.size, 0, none⟩) (M + 1) (M + 1)) (SG f) vs ∧ (∀ i k, (vs.getD i (.slice none 0 0)).ownBlock = some k → S2 ≤ k) ∧ (∀ k, S1 ≤ k → k < S2 → wq.heap[k]? = w2.heap[k]?) ∧ (Row w2 S1 q (BB f) ∧ ∀ k, q.ownBlock = some k → k < S2) ∧ S2 ≤ wq.heap.size ∧ Below w.heap.size w wq) (fun _ i _ => M + 1 - (RowKit.intOf i).toNat)
    case atStart => exact ⟨0, _, Nat.zero_le _, rfl, HZ2.out, fun i k hk => (HV0.out i k hk).elim, fun _ _ _ => rfl, ⟨by rw [BF0.out]; exact Row.nil _ _, fun k hk => by simp [Value.ownBlock] at hk⟩, by omega, HB2.out⟩
    case round =>
      obtain ⟨f, vs, hf, rfl, hv, hvb, hk, ⟨hq, hqb⟩, hz, hb⟩ := hrel
      by_cases hlt : f < M + 1
      · obtain ⟨go, A1, c1, rfl, ⟨hgo, hgo2⟩, q1, hs1, hsb⟩ := rows_low HR2.out (k := f) (by rw [OL.out]; exact hlt)
        rw [OA.out f hlt] at q1 hs1 hsb
        have q1' : wr.cell? ⟨go, f, none⟩ = some (.slice A1 (sel (P f) n).length c1) := (World.cell?_of_block (w := w2) (hk go hgo hgo2)).trans q1
        obtain ⟨AB, cB, rfl⟩ := hq.shape
        have HV := Lib.hid hv
        have HVB := Lib.hid hvb
        have HK := Lib.hid hk
        have HQ := Lib.hid hq
        have HQB := Lib.hid hqb
        have HBw := Lib.hid hb
        have HS1 := Lib.hid hs1
        have HSB := Lib.hid hsb
        have hl1 := HS.out f
        have hbl := BL.out f
        have NXf := Lib.hid (NX.out f)
        have NAf := Lib.hid (NA.out f)
        have NZf := Lib.hid (NZ.out f)
        have NLf := Lib.hid (NL.out f)
        have SGnf := Lib.hid (SGn.out f hlt)
        have SGsf := Lib.hid (SGs.out f hlt)
        have SGlf := Lib.hid (SGl.out f hf)
        have BFf := Lib.hid (BF.out f)
        have b1 : (0 : Int) ≤ (f : Int) := by omega
        have b2 : (f : Int) < (M : Int) + 1 := by omega
        have CH : Hid (∀ (x : Int) (u : World), (∀ k, S1 ≤ k → k < S2 → u.heap[k]? = w2.heap[k]?) → Calls Try.prog 59 #[.slice AB (BB f).length cB, .int .i64 x] u fun e w' => e = .returned (.bool (inL (BB f) x)) ∧ u = w') := fun x u hu => by
          rw [← hasI_inL]
          have hr := HQ.out
          exact c_l1Has (BB f) x _ u (by omega) (show Row u S1 (.slice AB (BB f).length cB) (BB f) from own_stays hr fun k e => hu k (World.ownsRow.lt hr k e).1 (HQB.out k e)).seen
        clear hv hvb hk hq hqb hb hs1 hsb q1 NX NA NZ NL SGn SGs SGl BF BL HS
        generalize sel (P f) n = ps at *
        generalize SF f = F at *
        generalize SH f = SHf at *
        obtain ⟨SN, hSN⟩ : ∃ SN, SG (f + 1) = SN := ⟨_, rfl⟩
        rw [hSN] at SGsf
        have HSN : Hid (SN = SG (f + 1)) := hSN.symm
        obtain ⟨BN, hBN⟩ : ∃ BN, BB (f + 1) = BN := ⟨_, rfl⟩
        rw [hBN] at BFf
        have HBN : Hid (BN = BB (f + 1)) := hBN.symm
        clear hSN hBN
        generalize SG f = G0 at *
        generalize BB f = bb at *
        generalize hpl : ps.length = pl at *
        go_wp2_with fail
        go_loopw [38] (fun i wz => ∃ (j : Nat) (us : List Value), j ≤ pl ∧ i = .int .i64 j ∧ RowsV wz w.heap.size wz.heap.size (.slice (some ⟨w.heap.size, 0, none⟩) (M + 1) (M + 1)) (G0.set f (F j)) us ∧ (∀ i k, (us.getD i (.slice none 0 0)).ownBlock = some k → S2 ≤ k) ∧ (∀ k, S1 ≤ k → k < S2 → wz.heap[k]? = w2.heap[k]?) ∧ S2 ≤ wz.heap.size ∧ Below w.heap.size w wz) (fun i _ => pl - (RowKit.intOf i).toNat)
        case atStart => exact ⟨0, vs, Nat.zero_le _, rfl, by rw [NZf.out, SGnf.out]; exact HV.out, HVB.out, HK.out, hz, HBw.out⟩
        case round =>
          obtain ⟨j, us, hj, rfl, hv, hvb, hk, hz, hb⟩ := hrel
          by_cases hlt3 : j < pl
          · have hsr : Row wr S1 (.slice A1 pl c1) ps := own_stays HS1.out fun k e => hk k (World.ownsRow.lt HS1.out k e).1 (HSB.out k e)
            obtain ⟨gp, rfl, hgp, _, p1⟩ := pit_at hpl.symm hsr hlt3
            have NXj := Lib.hid (NXf.out j hlt3)
            have b3 : (0 : Int) ≤ (j : Int) := by omega
            have b4 : (j : Int) < (pl : Int) := by omega
            have C := Lib.hid (CH.out (ps.getD j 0) wr hk)
            generalize ps.getD j 0 = x at *
            cases hx : inL bb x
            · rw [hx] at C NXj
              have G : Hid (F (j + 1) = F j ++ [x]) := by have := NXj.out; rwa [if_neg (by simp)] at this
              have hlen := NLf.out j
              have hGl : (G0.set f (F j)).length = M + 1 := by rw [List.length_set]; exact SGlf.out
              have hrow := hv.row f (by omega)
              have hget : (G0.set f (F j)).getD f [] = F j := by
                have : f < G0.length := by rw [SGlf.out]; exact hlt
                simp [this]
              rw [hget] at hrow
              have hcell : wr.cell? ⟨w.heap.size, f, none⟩ = some (us.getD f (.slice none 0 0)) := by
                have h := hv
                rw [← hGl] at h
                exact h.cell (by omega)
              have ho := hv.own
              rw [hGl] at ho
              have hfz : wr.frozen? ⟨w.heap.size, f, none⟩ = false := World.ownsRow.frozenAt ho f
              have hgz := (World.ownsRow.lt ho w.heap.size rfl).2
              obtain ⟨VA, vc, hVk⟩ := hrow.shape
              have HVk := Lib.hid hVk
              rw [hVk] at hrow hcell
              have HRk := Lib.hid hrow
              have HVV := Lib.hid hv
              have HVBB := Lib.hid hvb
              have HKK := Lib.hid hk
              have HBB := Lib.hid hb
              have HO := Lib.hid ho
              have HFZ := Lib.hid hfz
              have HCL := Lib.hid hcell
              have HGl := Lib.hid hGl
              clear hv hvb hk hb hrow ho NXj hVk hsr hget
              have sw := HBB.out.size
              go_wp2_with fail
              refine C.out.mono ?_
              rintro e w5 ⟨rfl, rfl⟩
              go_wp2_with (at_builtin; refine wpList_append_src rfl _ _ 22 rfl (base := w.heap.size) (e := 3) (i := i0) (z := .int .i64 0) (size := 1) (bytes := 8) Try.underlying22 HI.out hz0 hz1 hz2 rfl (by decide) rfl (World.ownsRow.alloc HRk.out _) rfl (src_new wr (.int .i64 x) 3) ?f2 ?f3 ?f4 ?f5 ?_)
              case f2 => intro u hu; simp at hu; subst hu; rfl
              case f3 => unfold maxLen; omega
              case f4 => omega
              case f5 => simp; omega
              intro v6 w6 o6 g6 a6
              have HRA : RowsV (wr.alloc (.cells #[.int .i64 x] 3)) w.heap.size wr.heap.size (.slice (some ⟨w.heap.size, 0, none⟩) (M + 1) (M + 1)) (G0.set f (F j)) us := HVV.out.stays fun k _ hk => Below.heap_alloc _ _ _ hk
              have HO6 : Row w6 w.heap.size v6 (F j ++ [x]) := row_more o6
              have HG6 : (wr.alloc (.cells #[.int .i64 x] 3)).grownBy w6 (us.getD f (.slice none 0 0)).ownBlock := by rw [HVk.out]; exact g6
              have hne : some w.heap.size ≠ (Value.slice VA (F j).length vc).ownBlock := fun e => own_types HO.out HRk.out (by decide) (k := w.heap.size) rfl e.symm
              have hblk : w6.heap[w.heap.size]? = wr.heap[w.heap.size]? := (g6.block _ (by simp; omega) hne).trans (Below.heap_alloc _ _ _ hgz)
              have p7 : w6.cell? ⟨w.heap.size, f, none⟩ = some (.slice VA (F j).length vc) := (World.cell?_of_block (w := wr) hblk).trans HCL.out
              have p8 : w6.frozen? ⟨w.heap.size, f, none⟩ = false := (World.frozen?_of_block (w := wr) hblk).trans HFZ.out
              have hpo : ∀ k, v6.ownBlock = some k → (us.getD f (.slice none 0 0)).ownBlock = some k ∨ (wr.alloc (.cells #[.int .i64 x] 3)).heap.size ≤ k := fun k hk => by
                rcases a6 with h1 | h1
                · exact .inl (by rw [HVk.out, ← h1]; exact hk)
                · exact .inr (by rw [h1] at hk; simp at hk ⊢; omega)
              have HW := HRA.grow (j := f) HGl.out.symm (by rw [HGl.out]; exact hlt) (by simp) HO6 HG6 hpo
              rw [List.set_set, ← G.out] at HW
              have hs6 : S2 ≤ w6.heap.size := by have := g6.size; simp at this; omega
              have hnb : ∀ k, v6.ownBlock = some k → S2 ≤ k := fun k hk => by
                rcases hpo k hk with h1 | h1
                · exact HVBB.out f k h1
                · simp at h1; omega
              have hub : ∀ i k, ((us.set f v6).getD i (.slice none 0 0)).ownBlock = some k → S2 ≤ k := fun i k hk => by
                by_cases e : f = i
                · subst e
                  by_cases e2 : f < us.length
                  · rw [show (us.set f v6).getD f (.slice none 0 0) = v6 by simp [e2]] at hk
                    exact hnb k hk
                  · rw [List.set_eq_of_length_le (by omega)] at hk
                    exact HVBB.out f k hk
                · rw [show (us.set f v6).getD i (.slice none 0 0) = us.getD i (.slice none 0 0) by simp [List.getD_eq_getElem?_getD, e]] at hk
                  exact HVBB.out i k hk
              have hkk : ∀ k, S1 ≤ k → k < S2 → (w6.setCell ⟨w.heap.size, f, none⟩ v6).heap[k]? = w2.heap[k]? := fun k h1 h2 => by
                rw [Below.heap_setCell _ _ _ _ (fun e => by simp at e; omega)]
                rw [g6.block k (by simp; omega) (fun e => by
                  have := HVBB.out f k (by rw [HVk.out]; exact e.symm)
                  omega)]
                exact (Below.heap_alloc _ _ _ (by omega)).trans (HKK.out k h1 h2)
              have hbw : Below w.heap.size w (w6.setCell ⟨w.heap.size, f, none⟩ v6) := ((HBB.out.alloc sw _).grown g6 (by simp; omega) (fun k hk => (World.ownsRow.lt HRk.out k hk).1)).setCell (Nat.le_refl _) _
              obtain ⟨P6, e6, rfl⟩ : ∃ A c, v6 = .slice A ((F j).length + 1) c := by
                rcases o6.2 with ⟨_, h0⟩ | ⟨g, cap, cur, hv, _⟩
                · omega
                · exact ⟨_, _, hv⟩
              have HWF := Lib.hid HW
              have HUB := Lib.hid hub
              have HKF := Lib.hid hkk
              have HBF := Lib.hid hbw
              have HSF : Hid (S2 ≤ (w6.setCell ⟨w.heap.size, f, none⟩ (.slice P6 ((F j).length + 1) e6)).heap.size) := by show _ ≤ _; simp; exact hs6
              clear HW hub hkk hbw hpo hnb HG6 HO6 HRA o6 g6 a6 hne hblk
              go_wp2
              go_roundw
              case rel => exact ⟨j + 1, _, by omega, by go_num, HWF.out, HUB.out, HKF.out, HSF.out, HBF.out⟩
              case measure => simp [RowKit.intOf]; omega
            · rw [hx] at C NXj
              have G : Hid (F (j + 1) = F j) := by have := NXj.out; rwa [if_pos rfl] at this
              have HVV := Lib.hid hv
              have HVBB := Lib.hid hvb
              have HKK := Lib.hid hk
              have HBB := Lib.hid hb
              clear hv hvb hk hb NXj hsr
              go_wp2_with fail
              refine C.out.mono ?_
              rintro e w5 ⟨rfl, rfl⟩
              go_wp2
              go_roundw
              case rel => exact ⟨j + 1, us, by omega, by go_num, by rw [G.out]; exact HVV.out, HVBB.out, HKK.out, hz, HBB.out⟩
              case measure => simp [RowKit.intOf]; omega
          · obtain rfl : j = pl := by omega
            have HVV := Lib.hid hv
            have HVBB := Lib.hid hvb
            have HKK := Lib.hid hk
            have HBB := Lib.hid hb
            clear hv hvb hk hb
            go_wp2
            go_roundw
            case rel => exact ⟨f + 1, us, by omega, by go_num, by rw [← HSN.out, ← SGsf.out, ← NAf.out]; exact HVV.out, HVBB.out, HKK.out, ⟨by rw [← HBN.out, BFf.out]; exact HS1.out, HSB.out⟩, hz, HBB.out⟩
            case measure => simp [RowKit.intOf]; omega
      · obtain rfl : f = M + 1 := by omega
        have HVV := Lib.hid hv
        have HBB := Lib.hid hb
        clear hv hb
        go_wp2
        go_ret2
        exact ⟨_, rfl, ⟨vs, by have := HVV.out; rwa [SGe.out] at this⟩, HBB.out⟩
end Go.Proofs.Ytoakpepoopjlaaa
