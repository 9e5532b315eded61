/-
A law: a range over a closure that counts its rounds: what is told of a round's value is asked at the world of that round; the caller's rounds change what lies from B on and below U alone.
Contracts: squares: whether they are valid, where the first and the last one begin, and the blocks of one.
Contracts: the squares around a block, as an iterator.
-/
import Derived.RangeFuncNested
import Derived.RangeFuncCalls
import Derived.RangeFuncLeaves
import Derived.RangeFuncWrites
import Derived.OwnWalkIn
import Derived.TacticsInMore
import Derived.LoopNIn
import Derived.LoopIn
import Derived.RegionIn
import Derived.Test.YtfpjodoimfbadaaC6
import Derived.Test.YtfpjodoimfbadaaXB
import Derived.Test.YtfpjodoimfbadaaM6
import Derived.Test.YtfpjodoimfbadaaNR
import Derived.Test.YtfpjodoimfbadaaC4
import Derived.Test.YtfpjodoimfbadaaR1
namespace Go.Proofs.Ytfpjodoimfbadaa
open Go.RowKit
set_option linter.unusedVariables false

/-- All lies as it lay but what lies from B on and below U. -/
structure Outside (B U : Nat) (W W' : World) : Prop where
  os : W'.os = W.os
  tape : W'.tape = W.tape
  output : W'.output = W.output
  size : W.heap.size ≤ W'.heap.size
  same : ∀ k, k < W.heap.size → (k < B ∨ U ≤ k) → W'.heap[k]? = W.heap[k]?
theorem Outside.refl (B U : Nat) (W : World) : Outside B U W W := ⟨rfl, rfl, rfl, Nat.le_refl _, fun _ _ _ => rfl⟩
theorem Outside.trans {B U : Nat} {X Y Z : World} (h : Outside B U X Y) (k : Outside B U Y Z) : Outside B U X Z :=
  ⟨k.os.trans h.os, k.tape.trans h.tape, k.output.trans h.output, Nat.le_trans h.size k.size, fun i hi ho => (k.same i (Nat.lt_of_lt_of_le hi h.size) ho).trans (h.same i hi ho)⟩
theorem Outside.below {B U : Nat} {W W' : World} (h : Below W.heap.size W W') : Outside B U W W' := ⟨h.os, h.tape, h.output, h.size, fun k hk _ => h.block k hk⟩
theorem Outside.grown {B U : Nat} {W W' : World} {row : Option Nat} (h : W.grownBy W' row) (hr : ∀ r, row = some r → B ≤ r ∧ r < U) : Outside B U W W' :=
  ⟨h.os, h.tape, h.output, h.size, fun k hk ho => h.block k hk (fun e => by have := hr k e.symm; omega)⟩
theorem Outside.mono {B U B' U' : Nat} {W W' : World} (h : Outside B U W W') (h1 : B' ≤ B) (h2 : U ≤ U') : Outside B' U' W W' := ⟨h.os, h.tape, h.output, h.size, fun k hk ho => h.same k hk (by omega)⟩
theorem Outside.put {B U r : Nat} {W : World} (o : Obj) (h1 : B ≤ r) (h2 : r < U) : Outside B U W (W.putObj r o) :=
  ⟨rfl, rfl, rfl, by rw [World.putObj_size]; exact Nat.le_refl _, fun k hk ho => World.putObj_heap_other (by omega)⟩
/-- What lay ahead of B lies as it lay. -/
theorem Outside.low {B U : Nat} {w W W' : World} (h : Outside B U W W') (hb : Below B w W) (hB : B ≤ W.heap.size) : Below B w W' :=
  ⟨h.os.trans hb.os, h.tape.trans hb.tape, h.output.trans hb.output, Nat.le_trans hb.size h.size, fun k hk => (h.same k (by omega) (.inl hk)).trans (hb.block k hk)⟩

/-- All lies as it lay but what lies from B on and below U, and the blocks S and S + 1. -/
structure OutsideX (B U S : Nat) (W W' : World) : Prop where
  os : W'.os = W.os
  tape : W'.tape = W.tape
  output : W'.output = W.output
  size : W.heap.size ≤ W'.heap.size
  same : ∀ k, k < W.heap.size → (k < B ∨ U ≤ k) → k ≠ S → k ≠ S + 1 → W'.heap[k]? = W.heap[k]?
theorem Outside.toX {B U : Nat} {W W' : World} (h : Outside B U W W') (S : Nat) : OutsideX B U S W W' := ⟨h.os, h.tape, h.output, h.size, fun k h1 h2 _ _ => h.same k h1 h2⟩
theorem OutsideX.trans {B U S : Nat} {X Y Z : World} (h : OutsideX B U S X Y) (k : OutsideX B U S Y Z) : OutsideX B U S X Z :=
  ⟨k.os.trans h.os, k.tape.trans h.tape, k.output.trans h.output, Nat.le_trans h.size k.size, fun i hi ho h1 h2 => (k.same i (Nat.lt_of_lt_of_le hi h.size) ho h1 h2).trans (h.same i hi ho h1 h2)⟩
theorem OutsideX.put {B U S r : Nat} {W : World} (o : Obj) (h : r = S ∨ r = S + 1) : OutsideX B U S W (W.putObj r o) :=
  ⟨rfl, rfl, rfl, by rw [World.putObj_size]; exact Nat.le_refl _, fun k hk ho h1 h2 => World.putObj_heap_other (by omega)⟩
/-- What lay ahead of B lies as it lay. -/
theorem OutsideX.low {B U S : Nat} {w W W' : World} (h : OutsideX B U S W W') (hb : Below B w W) (hB : B ≤ W.heap.size) (hS : B ≤ S) : Below B w W' :=
  ⟨h.os.trans hb.os, h.tape.trans hb.tape, h.output.trans hb.output, Nat.le_trans hb.size h.size, fun k hk => (h.same k (by omega) (.inl hk) (by omega) (by omega)).trans (hb.block k hk)⟩

theorem set_grownG (w : World) (a : Addr) (u : Value) : w.grownBy (w.setCell a u) (some a.block) := ⟨rfl, rfl, rfl, by simp [World.setCell], fun k hk hne => Below.heap_setCell _ _ _ _ (fun e => hne (by rw [e]))⟩
/-- How a round's body may end. -/
def tellPost (B U : Nat) (I : Nat × Nat → World → Prop) (Ix : Code → Nat → World → Prop) (f : Nat) (W : World) : Exit → Act → World → Prop
  | .normal, _, W' => Outside B U W W' ∧ ∃ T, I (f, T) W'
  | .ret, _, W' => Outside B U W W' ∧ Ix .ret f W'
  | .exit id, _, W' => Outside B U W W' ∧ Ix (.exit id) f W'
  | .goto t, _, W' => Outside B U W W' ∧ Ix (.goto t) f W'
  | .panic _, _, _ => False
  | .outgrown, _, _ => False

/-- The word of an iterator that is a closure: round f tells f and a value of which Rx holds there, in memory that is newer than T: T is what the caller told behind the round before. -/
def TellsC (F : Fence) (m : Nat) (P : Program) (gf : Nat) (c1 c2 : Value) (B U : Nat) (Rx : Nat → Nat → Value → World → Prop) (N : Nat) (w : World) : Prop :=
  ∀ (l : Nat) (J : Nat × Nat → World → Prop) (Jx : Nat → World → Prop) (W : World), Below w.heap.size w W → W.heap.size = w.heap.size + 2 →
    (∀ s X Y, J s X → Below X.heap.size X Y → J s Y) → (∀ s X, J s X → B ≤ s.2 ∧ s.2 ≤ X.heap.size) →
    (∀ f T v W1, f < N → J (f, T) W1 → Rx T f v W1 → YieldAt F (m - 1) P l #[v] W1 fun e W' =>
      (e = .returned (.bool true) ∧ (∃ T', J (f + 1, T') W') ∧ OutsideX B U w.heap.size W1 W') ∨ (e = .returned (.bool false) ∧ Jx (f + 1) W')) →
    (∃ T, J (0, T) W) →
    CallsIn F m P gf #[.func (.yield l) #[] #[], c1, c2] W fun e W' => (∃ v, e = .returned v) ∧ ((∃ T, J (N, T) W') ∨ ∃ k, k ≤ N ∧ Jx k W')

theorem wpIn_range_tellsC {F : Fence} {n : Nat} {P : Program} {g : Operand} {ps : Array Tmp} {assign body : Code} {Q : Exit → Act → World → Prop} {a : Act} {w : World}
    (hro : F.round = none) (h1 : 1 ≤ n) {gf : Nat} {c1 c2 : Value} (hg : a.eval g = .func (.func gf) #[] #[c1, c2]) (hFg : F.fn gf) (eg : ∀ args w, (callFunc gf args).run P w = .ok (.enter gf args) w)
    {B U N : Nat} {Rx : Nat → Nat → Value → World → Prop} (hT : TellsC F (n - 1) P gf c1 c2 B U Rx N w) (hB : B ≤ w.heap.size) (hBU : B ≤ U) (hU : U ≤ w.heap.size) (hps : ps.size = 1)
    (I : Nat × Nat → World → Prop) (Ix : Code → Nat → World → Prop) (hI : OwnFrom w.heap.size I) (hIT : ∀ s X, I s X → B ≤ s.2 ∧ s.2 ≤ X.heap.size) (hIx : ∀ c, OwnFrom w.heap.size (Ix c)) (hRx : ∀ T f, OwnFrom w.heap.size (Rx T f)) (h0 : ∃ T, I (0, T) w) (a₁ : Nat → Value → Act)
    (hassign : ∀ (l f : Nat) (v : Value) (W : World) (K : Act → World → Prop), K (a₁ f v) W →
      assign.wpIn (F.inRound l) (n - 1 - 1) P (Exit.then K (fun _ _ _ => False)) { tmps := (ps.zip #[v]).foldl (fun t (p, v) => t.setIfInBounds p v) a.tmps, defers := [] } W)
    (hbody : ∀ (l f T : Nat) (v : Value) (W : World), f < N → w.heap.size + 2 ≤ W.heap.size → I (f, T) W → Rx T f v W → body.wpIn (F.inRound l) (n - 1 - 1) P (tellPost B U I Ix (f + 1) W) (a₁ f v) W)
    (hdone : ∀ (D T : Nat) (W : World), w.heap.size ≤ D → I (N, T) W → W.heap[D]? = some (.deferred (some [])) → Q .normal { a with defers := { target := .collected D, args := #[] } :: a.defers } W)
    (hstop : ∀ (D : Nat) (c : Code) (k : Nat) (W : World), w.heap.size ≤ D → k ≤ N → Ix c k W → W.heap[D]? = some (.deferred (some [])) → c.wpIn F n P Q { a with defers := { target := .collected D, args := #[] } :: a.defers } W) :
    (Code.rangeFunc g ps assign body).wpIn F n P Q a w := by
  refine wpIn_rangeFunc fun fn hfn => ?_
  rw [hro]
  obtain ⟨S, hS⟩ : ∃ S, w.heap.size = S := ⟨_, rfl⟩
  obtain ⟨rc, hrc⟩ : ∃ rc : LoopState → Option Code → Obj, rc = fun st pe => .loop { state := st, pending := pe, fn, tmps := a.tmps, params := ps, assign, body, defers := S } := ⟨_, rfl⟩
  obtain ⟨W1, hW1⟩ : ∃ W1, (w.alloc (.deferred (some []))).alloc (rc .ready none) = W1 := ⟨_, rfl⟩
  have z1 : W1.heap.size = S + 2 := by rw [← hW1]; simp [hS]
  have L1 : W1.heap[S + 1]? = some (rc .ready none) := by
    have := World.alloc_heap_new (w.alloc (.deferred (some []))) (rc .ready none)
    rwa [World.size_alloc, hW1, hS] at this
  have D1 : W1.heap[S]? = some (.deferred (some [])) := by
    have := World.alloc_heap_new w (.deferred (some []))
    rw [hS] at this
    rw [← hW1]
    exact (Below.heap_alloc _ _ _ (by simp; omega)).trans this
  have b1 : Below w.heap.size w W1 := by
    rw [← hW1]
    exact ((Below.refl _ w).alloc (Nat.le_refl _) _).alloc (by simp) _
  obtain ⟨T0, h0⟩ := h0
  have i1 : I (0, T0) W1 := by rw [← hW1]; exact hI.alloc _ (hI.alloc _ h0)
  -- the record and the block behind the rounds lie as they are to lie
  have stay : ∀ (st : LoopState) (pe : Option Code) (X Y : World), X.heap[S + 1]? = some (rc st pe) ∧ X.heap[S]? = some (.deferred (some [])) → Below X.heap.size X Y → Y.heap[S + 1]? = some (rc st pe) ∧ Y.heap[S]? = some (.deferred (some [])) := fun st pe X Y h hb =>
    ⟨(hb.block _ (Array.getElem?_eq_some_iff.1 h.1).1).trans h.1, (hb.block _ (Array.getElem?_eq_some_iff.1 h.2).1).trans h.2⟩
  have still : ∀ {β : Type} {J : β → World → Prop} (s : β) (X Y : World), OwnFrom w.heap.size J → J s X → Below X.heap.size X Y → J s Y := fun s X Y hJ h hb => hJ s X Y none h (grow_below hb none) (fun r e => by cases e)
  refine ⟨S + 1, [{ target := .collected S, args := #[] }], W1, { target := .fn (.func gf) #[c1, c2], args := #[.func (.yield (S + 1)) #[] #[]] }, W1, gf, #[.func (.yield (S + 1)) #[] #[], c1, c2], W1, ?_, ?_, ?_, ?_, fun _ => h1, ?_⟩
  · have := run_enterLoop_outer (P := P) (w := w) fn a.tmps ps assign body
    rw [hS] at this
    rw [this, ← hW1, hrc]
  · simp only [resolve, hg]
    simp [go_sem]
  · intro f' hf'
    simp [Target.leads] at hf'
    subst hf'
    exact hFg
  · simp [invoke, go_sem, eg]
  · refine (hT (S + 1) (fun s X => I s X ∧ X.heap[S + 1]? = some (rc .ready none) ∧ X.heap[S]? = some (.deferred (some [])))
      (fun k X => ∃ c, Ix c k X ∧ X.heap[S + 1]? = some (rc .done (some c)) ∧ X.heap[S]? = some (.deferred (some [])))
      W1 b1 (by rw [z1, hS])
      (fun s X Y h hb => ⟨still s X Y hI h.1 hb, stay _ _ X Y h.2 hb⟩)
      (fun s X h => hIT s X h.1)
      ?_ ⟨T0, i1, L1, D1⟩).mono ?_
    · rintro f T v X hf ⟨hi, hl, hd⟩ hr
      have zX : S + 1 < X.heap.size := (Array.getElem?_eq_some_iff.1 hl).1
      have hlo : X.heap[S + 1]? = some (.loop { state := .ready, pending := none, fn, tmps := a.tmps, params := ps, assign, body, defers := S }) := by rw [hl, hrc]
      have hy := run_yield (P := P) (args := #[v]) hlo (by rw [hps]; rfl)
      refine ⟨fn, _, assign, body, hy, roundIn_of_wpIn hfn (hassign _ f v X _ ⟨_, run_beginRound hlo rfl, ?_⟩)⟩
      obtain ⟨X2, hX2⟩ : ∃ X2, X.putObj (S + 1) (rc .busy none) = X2 := ⟨_, rfl⟩
      have e2 : X.putObj (S + 1) (.loop { state := .busy, pending := none, fn, tmps := a.tmps, params := ps, assign, body, defers := S }) = X2 := by rw [← hX2, hrc]
      have l2 : X2.heap[S + 1]? = some (rc .busy none) := by rw [← hX2]; exact World.putObj_heap_same zX
      have d2 : X2.heap[S]? = some (.deferred (some [])) := by rw [← hX2]; exact (World.putObj_heap_other (by omega)).trans hd
      have o2 : OutsideX B U S X X2 := by rw [← hX2]; exact OutsideX.put _ (.inr rfl)
      have nc : ∀ st pe, (rc st pe).isCells = false := fun st pe => by rw [hrc]; rfl
      have i2 : I (f, T) X2 := by rw [← hX2]; exact hI.putObj _ hi (by omega) hl (nc _ _)
      have r2 : Rx T f v X2 := by rw [← hX2]; exact (hRx T f).putObj _ hr (by omega) hl (nc _ _)
      rw [e2]
      refine wpIn_mono (hbody _ f T v X2 hf (by rw [← hX2, World.putObj_size]; omega) i2 r2) ?_
      have fin : ∀ (jump : Option Code) (Y : World), Outside B U X2 Y →
          (Instr.endRound (S + 1) jump).run P Y = .ok (.bool jump.isNone) (Y.putObj (S + 1) (rc (if jump.isNone then .ready else .done) jump)) ∧ Y.heap[S + 1]? = some (rc .busy none) ∧
          (Y.putObj (S + 1) (rc (if jump.isNone then .ready else .done) jump)).heap[S + 1]? = some (rc (if jump.isNone then .ready else .done) jump) ∧
          (Y.putObj (S + 1) (rc (if jump.isNone then .ready else .done) jump)).heap[S]? = some (.deferred (some [])) := fun jump Y ho => by
        have y1 : Y.heap[S + 1]? = some (rc .busy none) := (ho.same _ (Array.getElem?_eq_some_iff.1 l2).1 (by omega)).trans l2
        have y2 : Y.heap[S]? = some (.deferred (some [])) := (ho.same _ (Array.getElem?_eq_some_iff.1 d2).1 (by omega)).trans d2
        have y3 : Y.heap[S + 1]? = some (.loop { state := .busy, pending := none, fn, tmps := a.tmps, params := ps, assign, body, defers := S }) := by rw [y1, hrc]
        have := run_endRound (P := P) jump y3
        refine ⟨by rw [this, hrc], y1, World.putObj_heap_same (Array.getElem?_eq_some_iff.1 y1).1, (World.putObj_heap_other (by omega)).trans y2⟩
      have out : ∀ (jump : Option Code) (Y : World), Outside B U X2 Y → OutsideX B U w.heap.size X (Y.putObj (S + 1) (rc (if jump.isNone then .ready else .done) jump)) := fun jump Y ho =>
        (by rw [hS]; exact o2 : OutsideX B U w.heap.size X X2).trans ((ho.toX _).trans (OutsideX.put _ (.inr (by rw [hS]))))
      rintro e a3 Y hp
      cases e with
      | normal =>
        obtain ⟨ho, T3, hi3⟩ := hp
        obtain ⟨q, l3, l4, d4⟩ := fin none Y ho
        exact ⟨_, _, q, .inl ⟨rfl, ⟨T3, hI.putObj _ hi3 (by omega) l3 (nc _ _), l4, d4⟩, out none Y ho⟩⟩
      | ret =>
        obtain ⟨ho, hi3⟩ := hp
        obtain ⟨q, l3, l4, d4⟩ := fin (some .ret) Y ho
        exact ⟨_, _, q, .inr ⟨rfl, .ret, (hIx _).putObj _ hi3 (by omega) l3 (nc _ _), l4, d4⟩⟩
      | exit id =>
        obtain ⟨ho, hi3⟩ := hp
        obtain ⟨q, l3, l4, d4⟩ := fin (some (.exit id)) Y ho
        exact ⟨_, _, q, .inr ⟨rfl, .exit id, (hIx _).putObj _ hi3 (by omega) l3 (nc _ _), l4, d4⟩⟩
      | goto t =>
        obtain ⟨ho, hi3⟩ := hp
        obtain ⟨q, l3, l4, d4⟩ := fin (some (.goto t)) Y ho
        exact ⟨_, _, q, .inr ⟨rfl, .goto t, (hIx _).putObj _ hi3 (by omega) l3 (nc _ _), l4, d4⟩⟩
      | panic ch => exact hp.elim
      | outgrown => exact hp.elim
    · have nc : ∀ st pe, (rc st pe).isCells = false := fun st pe => by rw [hrc]; rfl
      have ends : ∀ (st : LoopState) (pe : Option Code) (Y : World), st ≠ .busy → Y.heap[S + 1]? = some (rc st pe) → (Instr.endLoop (S + 1)).run P Y = .ok pe (Y.putObj (S + 1) (rc .exhausted pe)) := fun st pe Y hst hl => by
        have hlo : Y.heap[S + 1]? = some (.loop { state := st, pending := pe, fn, tmps := a.tmps, params := ps, assign, body, defers := S }) := by rw [hl, hrc]
        have := run_endLoop (P := P) hlo hst
        rw [this, hrc]
      rintro e Y ⟨⟨v, rfl⟩, (⟨T, hi, hl, hd⟩ | ⟨k, hk, c, hi, hl, hd⟩)⟩
      · exact ⟨none, _, ends _ _ Y (by simp) hl, hdone S T _ (by omega) (hI.putObj _ hi (by omega) hl (nc _ _)) ((World.putObj_heap_other (by omega)).trans hd)⟩
      · exact ⟨some c, _, ends _ _ Y (by simp) hl, hstop S c k _ (by omega) hk ((hIx c).putObj _ hi (by omega) hl (nc _ _)) ((World.putObj_heap_other (by omega)).trans hd)⟩
end Go.Proofs.Ytfpjodoimfbadaa

namespace Go.Proofs.Ytfpjodoimfbadaa
open Go.RowKit
set_option linter.unusedVariables false

set_option maxHeartbeats 1000000 in
theorem c_areValid (x y z d : Int) (w : World) : Calls Try.prog 23 #[.agg #[.int .i64 x, .int .i64 y, .int .i64 z, .int .i64 d]] w fun e w' => e = .returned (.bool (goodB x y z && decide (1 ≤ d ∧ d ≤ 3))) ∧ Below w.heap.size w w' := by
  have HB0 : Hid (Below w.heap.size w (w.alloc (.cells #[.int .i64 x, .int .i64 y, .int .i64 z, .int .i64 d] 44))) := (Below.refl _ _).alloc (Nat.le_refl _) _
  have C := Lib.hid (c_IsGrid x y z (w.alloc (.cells #[.int .i64 x, .int .i64 y, .int .i64 z, .int .i64 d] 44)))
  have HX : Hid ((w.alloc (.cells #[.int .i64 x, .int .i64 y, .int .i64 z, .int .i64 d] 44)).heap[w.heap.size]? = some (.cells #[.int .i64 x, .int .i64 y, .int .i64 z, .int .i64 d] 44 (0, 0))) := World.alloc_heap_new _ _
  cases hg : goodB x y z
  · rw [hg] at C
    go_enter Try.func23, Try.ntmps23
    go_wp2_with fail
    refine C.out.mono ?_
    rintro e w1 ⟨rfl, hb⟩
    have HB := Lib.hid (HB0.out.trans (hb.mono HB0.out.size))
    clear hb
    go_wp2
    go_ret
    exact ⟨rfl, HB.out⟩
  · rw [hg] at C
    clear hg
    rw [Bool.true_and]
    by_cases h1 : 1 ≤ d
    · have h1' : d ≥ 1 := h1
      rw [show decide (1 ≤ d ∧ d ≤ 3) = decide (d ≤ 3) by simp [h1]]
      go_enter Try.func23, Try.ntmps23
      go_wp2_with fail
      refine C.out.mono ?_
      rintro e w1 ⟨rfl, hb⟩
      have HB := Lib.hid (HB0.out.trans (hb.mono HB0.out.size))
      have hx := (hb.block _ (Array.getElem?_eq_some_iff.1 HX.out).1).trans HX.out
      have x3 : w1.cell? ⟨w.heap.size, 3, none⟩ = some (.int .i64 d) := by simp [World.cell?, hx]
      clear hb hx
      go_wp2
      go_ret
      exact ⟨rfl, HB.out⟩
    · have h1' : ¬ d ≥ 1 := h1
      rw [decide_eq_false (show ¬ (1 ≤ d ∧ d ≤ 3) from fun h => h1 h.1)]
      go_enter Try.func23, Try.ntmps23
      go_wp2_with fail
      refine C.out.mono ?_
      rintro e w1 ⟨rfl, hb⟩
      have HB := Lib.hid (HB0.out.trans (hb.mono HB0.out.size))
      have hx := (hb.block _ (Array.getElem?_eq_some_iff.1 HX.out).1).trans HX.out
      have x3 : w1.cell? ⟨w.heap.size, 3, none⟩ = some (.int .i64 d) := by simp [World.cell?, hx]
      clear hb hx
      go_wp2
      go_ret
      exact ⟨rfl, HB.out⟩

theorem c_firstStart (x y z p : Int) (d : Nat) (w : World) (h1 : d ≤ 3) (h2 : 0 ≤ p) (h3 : p ≤ 1000) : Calls Try.prog 57 #[.agg #[.int .i64 x, .int .i64 y, .int .i64 z, .int .i64 d], .int .i64 p] w fun e w' => e = .returned (.int .i64 (fsI p d)) ∧ Below w.heap.size w w' := by
  have e1 : IntKind.i64.wrap (p - (d : Int)) = p - d := IntWalk.i64_in _ (by omega)
  have e2 : IntKind.i64.wrap (p - (d : Int) + 1) = p - d + 1 := IntWalk.i64_in _ (by omega)
  have HB0 : Hid (Below w.heap.size w (w.alloc (.cells #[.int .i64 x, .int .i64 y, .int .i64 z, .int .i64 d] 44))) := (Below.refl _ _).alloc (Nat.le_refl _) _
  unfold fsI
  by_cases h : p - (d : Int) + 1 < 0
  · rw [show max (p - (d : Int) + 1) 0 = 0 by omega]
    go_enter Try.func57, Try.ntmps57
    go_wp2
    go_ret
    exact ⟨by first | rfl | simp [e1, e2], HB0.out⟩
  · have h' : 0 ≤ p - (d : Int) + 1 := by omega
    rw [show max (p - (d : Int) + 1) 0 = p - (d : Int) + 1 by omega]
    go_enter Try.func57, Try.ntmps57
    go_wp2
    go_ret
    exact ⟨by first | rfl | simp [e1, e2], HB0.out⟩

theorem c_lastStart (x y z p s : Int) (d : Nat) (w : World) (h1 : d ≤ 3) (h2 : 0 ≤ p) (h3 : p ≤ 1000) (h4 : 0 ≤ s) (h5 : s ≤ 1000) : Calls Try.prog 58 #[.agg #[.int .i64 x, .int .i64 y, .int .i64 z, .int .i64 d], .int .i64 p, .int .i64 s] w fun e w' => e = .returned (.int .i64 (lsI p s d)) ∧ Below w.heap.size w w' := by
  have e1 : IntKind.i64.wrap (s - (d : Int)) = s - d := IntWalk.i64_in _ (by omega)
  have HB0 : Hid (Below w.heap.size w (w.alloc (.cells #[.int .i64 x, .int .i64 y, .int .i64 z, .int .i64 d] 44))) := (Below.refl _ _).alloc (Nat.le_refl _) _
  unfold lsI
  by_cases h : s - (d : Int) < p
  · rw [show min p (s - (d : Int)) = s - (d : Int) by omega]
    go_enter Try.func58, Try.ntmps58
    go_wp2
    go_ret
    exact ⟨by first | rfl | simp [e1], HB0.out⟩
  · have h' : p ≤ s - (d : Int) := by omega
    rw [show min p (s - (d : Int)) = p by omega]
    go_enter Try.func58, Try.ntmps58
    go_wp2
    go_ret
    exact ⟨by first | rfl | simp [e1], HB0.out⟩

/-- A square that lies in the grid. -/
structure Fits (x y z : Int) (d : Nat) (a b c : Int) : Prop where
  good : goodB x y z = true
  d3 : d ≤ 3
  a0 : 0 ≤ a
  a1 : a + d ≤ x
  b0 : 0 ≤ b
  b1 : b + d ≤ y
  c0 : 0 ≤ c
  c1 : c < z
theorem Fits.at_ {x y z : Int} {d : Nat} {a b c : Int} (h : Fits x y z d a b c) {i j : Nat} (hi : i < d) (hj : j < d) : atW x y z (a + j) (b + i) c = sqE x y a b c i j ∧ atB x y z (a + j) (b + i) c = true := by
  have h1 := h.a0
  have h2 := h.a1
  have h3 := h.b0
  have h4 := h.b1
  have h5 := h.c0
  have h6 := h.c1
  have hb : atB x y z (a + j) (b + i) c = true := by
    unfold atB inB
    rw [h.good, Bool.true_and, decide_eq_true_eq]
    omega
  refine ⟨?_, hb⟩
  unfold atW
  rw [hb]
  rfl

set_option maxHeartbeats 4000000 in
set_option maxRecDepth 100000 in
theorem c_blocksFrom (x y z a b c : Int) (d : Nat) (w : World) (h : Fits x y z d a b c) : Calls Try.prog 59 #[.agg #[.int .i64 x, .int .i64 y, .int .i64 z, .int .i64 d], .agg #[.int .i64 a, .int .i64 b, .int .i64 c]] w (GivesRow w (sqB x y d a b c)) := by
  obtain ⟨i0, hi0, hz0, hz1, hz2⟩ := info_parts int_info
  have HI := Lib.hid hi0
  clear hi0
  obtain ⟨wx, hwx⟩ : ∃ wx, (w.alloc (.cells #[.int .i64 x, .int .i64 y, .int .i64 z, .int .i64 d] 44)).alloc (.cells #[.int .i64 a, .int .i64 b, .int .i64 c] 68) = wx := ⟨_, rfl⟩
  have HBx : Hid (Below w.heap.size w wx) := by rw [← hwx]; exact ((Below.refl _ _).alloc (Nat.le_refl _) _).alloc (by simp) _
  have HS : Hid (wx.heap[w.heap.size]? = some (.cells #[.int .i64 x, .int .i64 y, .int .i64 z, .int .i64 d] 44 (0, 0))) := by
    rw [← hwx]
    exact (Below.heap_alloc _ _ _ (by simp)).trans (World.alloc_heap_new w _)
  have HP : Hid (wx.heap[w.heap.size + 1]? = some (.cells #[.int .i64 a, .int .i64 b, .int .i64 c] 68 (0, 0))) := by
    rw [← hwx]
    have := World.alloc_heap_new (w.alloc (.cells #[.int .i64 x, .int .i64 y, .int .i64 z, .int .i64 d] 44)) (.cells #[.int .i64 a, .int .i64 b, .int .i64 c] 68)
    rwa [World.size_alloc] at this
  have hzx : wx.heap.size = w.heap.size + 2 := by rw [← hwx]; simp
  have CC : Hid (∀ (i j : Nat) (u : World), i < d → j < d → Calls Try.prog 67 #[.agg #[.int .i64 x, .int .i64 y, .int .i64 z], .int .i64 (a + j), .int .i64 (b + i), .int .i64 c] u fun e w' => e = .returned (.tuple #[.int .i64 (sqE x y a b c i j), .bool true]) ∧ Below u.heap.size u w') := fun i j u hi hj => by
    have := c_BlockAt x y z (a + j) (b + i) c u
    rw [(h.at_ hi hj).1, (h.at_ hi hj).2] at this
    exact this
  have hd := h.d3
  have W1 : Hid (∀ j : Nat, j ≤ 3 → IntKind.i64.wrap (a + (j : Int)) = a + j) := fun j hj => IntWalk.i64_in _ (by have := good_box h.good; have := h.a0; have := h.a1; omega)
  have W2 : Hid (∀ j : Nat, j ≤ 3 → IntKind.i64.wrap (b + (j : Int)) = b + j) := fun j hj => IntWalk.i64_in _ (by have := good_box h.good; have := h.b0; have := h.b1; omega)
  have E0 : Hid (sqL (sqE x y a b c) d 0 0 = []) := rfl
  have E1 : Hid (∀ i j, sqL (sqE x y a b c) d i (j + 1) = sqL (sqE x y a b c) d i j ++ [sqE x y a b c i j]) := fun i j => sq_next _ _ _ _
  have E2 : Hid (∀ i, sqL (sqE x y a b c) d i d = sqL (sqE x y a b c) d (i + 1) 0) := fun i => sq_row _ _ _
  have E3 : Hid (sqB x y d a b c = sqL (sqE x y a b c) d d 0) := rfl
  have E4 : Hid (∀ i j, (sqL (sqE x y a b c) d i j).length = i * d + j) := fun i j => sq_len _ _ _ _
  have E5 : Hid (∀ i, i < d → i * d ≤ 6) := fun i hi => by
    show _ ≤ _
    have := Nat.mul_le_mul (show i ≤ 2 by omega) (show d ≤ 3 by omega)
    omega
  clear h
  generalize sqE x y a b c = E at *
  generalize sqL E d = Q at *
  have x03 : wx.cell? ⟨w.heap.size, 3, none⟩ = some (.int .i64 d) := by simp [World.cell?, HS.out]
  have XX : Hid (∀ u, Below wx.heap.size wx u → u.cell? ⟨w.heap.size, 0, none⟩ = some (.int .i64 x) ∧ u.cell? ⟨w.heap.size, 1, none⟩ = some (.int .i64 y) ∧ u.cell? ⟨w.heap.size, 2, none⟩ = some (.int .i64 z) ∧ u.cell? ⟨w.heap.size, 3, none⟩ = some (.int .i64 d) ∧
      u.cell? ⟨w.heap.size + 1, 0, none⟩ = some (.int .i64 a) ∧ u.cell? ⟨w.heap.size + 1, 1, none⟩ = some (.int .i64 b) ∧ u.cell? ⟨w.heap.size + 1, 2, none⟩ = some (.int .i64 c)) := fun u hu => by
    have h1 := (hu.block w.heap.size (by omega)).trans HS.out
    have h2 := (hu.block (w.heap.size + 1) (by omega)).trans HP.out
    simp [World.cell?, h1, h2]
  obtain ⟨N, hN⟩ : ∃ N, wx.heap.size = N := ⟨_, rfl⟩
  have hNw : w.heap.size ≤ N := by omega
  rw [hN] at XX
  have HNx := Lib.hid hN
  clear HS HP hzx hN
  go_enter Try.func59, Try.ntmps59
  go_wp2_with fail
  clear x03
  go_loopw [5, 12] (fun q i wr => ∃ k : Nat, k ≤ d ∧ i = .int .i64 k ∧ Row wr N q (Q k 0) ∧ Below N wx wr) (fun _ i _ => d - (RowKit.intOf i).toNat)
  case atStart => exact ⟨0, Nat.zero_le _, rfl, by rw [E0.out]; exact Row.nil _ _, Below.refl _ _⟩
  case round =>
    obtain ⟨k, hk, rfl, hrw, hb⟩ := hrel
    have HR := Lib.hid hrw
    have HB := Lib.hid hb
    clear hrw hb
    by_cases hlt : k < d
    · have b2 : (k : Int) < (d : Int) := by omega
      obtain ⟨_, _, _, x3, _⟩ := XX.out wr HB.out
      go_wp2_with fail
      clear x3
      go_loopw [5, 17] (fun q i ws => ∃ j : Nat, j ≤ d ∧ i = .int .i64 j ∧ Row ws N q (Q k j) ∧ Below N wx ws) (fun _ i _ => d - (RowKit.intOf i).toNat)
      case atStart => exact ⟨0, Nat.zero_le _, rfl, HR.out, HB.out⟩
      case round =>
        obtain ⟨j, hj, rfl, hrw, hb⟩ := hrel
        have HR := Lib.hid hrw
        have HB := Lib.hid hb
        clear hrw hb
        by_cases hlj : j < d
        · have b3 : (j : Int) < (d : Int) := by omega
          obtain ⟨y0, y1, y2, y3, y4, y5, y6⟩ := XX.out wr HB.out
          have v1 := W1.out j (by omega)
          have v2 := W2.out k (by omega)
          have hq1 := Lib.hid (E1.out k j)
          have hln : (Q k j).length ≤ 9 := by have := E4.out k j; have := E5.out k hlt; omega
          have hC := Lib.hid (CC.out k j wr hlt hlj)
          generalize E k j = t at *
          go_wp2_with fail
          refine hC.out.mono ?_
          rintro e w4 ⟨rfl, hb4⟩
          have sx := HB.out.size
          have sn := HNx.out
          have HB4 : Hid (Below N wx w4) := HB.out.trans (hb4.mono (by omega))
          have HR4 := Lib.hid (HR.out.below hb4)
          have sw4 : N ≤ w4.heap.size := by have := HB4.out.size; omega
          clear hb4 y0 y1 y2 y3 y4 y5 y6
          go_wp2_with (at_builtin; refine wpList_append_own _ rfl _ _ 25 rfl N 3 i0 (.int .i64 0) 1 8 Try.underlying25 HI.out hz0 hz1 hz2 rfl (by decide) _ _ _ rfl (World.ownsRow.alloc HR4.out _) ⟨w4.heap.size, 0, none⟩ 1 1 [.int .i64 t] rfl rfl ?c1 ?c2 ?c3 ?c4 ?c5 ?_)
          case c1 =>
            intro jj u hjj
            match jj, hjj with
            | 0, hjj => simp at hjj; subst hjj; simp [Addr.add]
          case c2 => intro u hu; simp at hu; subst hu; rfl
          case c3 => unfold maxLen; omega
          case c4 => omega
          case c5 => simp; omega
          intro v' w5 hown' hgrow _
          have R1 : Hid (Row w5 N v' (Q k (j + 1))) := by rw [hq1.out]; exact row_more hown'
          have R2 : Hid (Below N wx w5) := (HB4.out.alloc sw4 _).grown hgrow (by simp; omega) (fun g hg => (World.ownsRow.lt HR4.out g hg).1)
          clear hown' hgrow
          go_wp2
          go_roundw
          case rel => exact ⟨j + 1, by omega, by go_num, R1.out, R2.out⟩
          case measure => simp [RowKit.intOf]; omega
        · obtain rfl : j = d := by omega
          have G := Lib.hid HR.out
          rw [E2.out] at G
          go_wp2
          go_roundw
          case rel => exact ⟨k + 1, by omega, by go_num, G.out, HB.out⟩
          case measure => simp [RowKit.intOf]; omega
    · obtain rfl : k = d := by omega
      go_wp2
      go_ret
      exact ⟨_, rfl, by rw [E3.out]; exact HR.out.mono hNw, HBx.out.trans (HB.out.mono hNw)⟩
end Go.Proofs.Ytfpjodoimfbadaa

namespace Go.Proofs.Ytfpjodoimfbadaa
open Go.RowKit
set_option linter.unusedVariables false
attribute [local go_sem] Oper.semAt_some

/-- What is told of the value of round f. -/
def SqRow (P : Nat → List Int) (T f : Nat) (v : Value) (W : World) : Prop := Row W T v (P f)
theorem SqRow.own (b : Nat) (P : Nat → List Int) (T f : Nat) : OwnFrom b (SqRow P T f) := fun v X Y row h hg hr => by
  refine own_stays h fun k hk => hg.block k (World.ownsRow.lt h k hk).2 fun e => ?_
  obtain ⟨_, o, ho, hc⟩ := hr k e.symm
  obtain ⟨g, cap, cur, rfl, _, hg', _⟩ := h.2.resolve_left (fun hn => by rw [hn.1] at hk; simp [Value.ownBlock] at hk)
  simp [Value.ownBlock] at hk
  subst hk
  rw [hg'] at ho
  simp at ho
  rw [← ho] at hc
  cases hc

set_option maxHeartbeats 2000000 in
theorem c_around (x y z i : Int) (d : Nat) (w : World) (hg : goodB x y z = true) (h0 : 0 ≤ i) (h1 : i ≤ 1000) : Calls Try.prog 43 #[.agg #[.int .i64 x, .int .i64 y, .int .i64 z, .int .i64 d], .int .i64 i] w fun e w' => ∃ bP, e = .returned (.func (.func 56) #[] #[.pointer (some ⟨w.heap.size, 0, none⟩), .pointer (some ⟨bP, 0, none⟩)]) ∧ w.heap.size ≤ bP ∧
      w'.heap[w.heap.size]? = some (.cells #[.int .i64 x, .int .i64 y, .int .i64 z, .int .i64 d] 44 (0, 0)) ∧ w'.heap[bP]? = some (.cells #[.int .i64 (i % x), .int .i64 (i / x % y), .int .i64 (i / x / y)] 68 (0, 0)) ∧ Below w.heap.size w w' := by
  obtain ⟨g1, g2, g3, g4, _⟩ := good_true hg
  have HB0 : Hid (Below w.heap.size w (w.alloc (.cells #[.int .i64 x, .int .i64 y, .int .i64 z, .int .i64 d] 44))) := (Below.refl _ _).alloc (Nat.le_refl _) _
  have HS : Hid ((w.alloc (.cells #[.int .i64 x, .int .i64 y, .int .i64 z, .int .i64 d] 44)).heap[w.heap.size]? = some (.cells #[.int .i64 x, .int .i64 y, .int .i64 z, .int .i64 d] 44 (0, 0))) := World.alloc_heap_new _ _
  have C := Lib.hid (c_findPlace x y z i (w.alloc (.cells #[.int .i64 x, .int .i64 y, .int .i64 z, .int .i64 d] 44)) g1 g2 g3 g4 h0 h1)
  clear g1 g2 g3 g4 hg h0 h1
  generalize i % x = px at *
  generalize i / x % y = py at *
  generalize i / x / y = pz at *
  go_enter Try.func43, Try.ntmps43
  go_wp2_with fail
  refine C.out.mono ?_
  rintro e w1 ⟨rfl, hb⟩
  have HB1 : Hid (Below w.heap.size w w1) := HB0.out.trans (hb.mono HB0.out.size)
  have HS1 := Lib.hid ((hb.block _ (Array.getElem?_eq_some_iff.1 HS.out).1).trans HS.out)
  clear hb
  go_wp2
  go_ret
  exact ⟨w1.heap.size, rfl, HB1.out.size, (Below.heap_alloc _ _ _ (Array.getElem?_eq_some_iff.1 HS1.out).1).trans HS1.out, World.alloc_heap_new _ _, HB1.out.alloc HB1.out.size _⟩

/-- The boxes of the iterator. -/
def ArBox (x y z : Int) (d : Nat) (px py pz : Int) (bS bP : Nat) (w : World) : Prop :=
  w.heap[bS]? = some (.cells #[.int .i64 x, .int .i64 y, .int .i64 z, .int .i64 d] 44 (0, 0)) ∧ w.heap[bP]? = some (.cells #[.int .i64 px, .int .i64 py, .int .i64 pz] 68 (0, 0))
theorem ArBox.below {x y z : Int} {d : Nat} {px py pz : Int} {bS bP : Nat} {w w' : World} (h : ArBox x y z d px py pz bS bP w) (hb : Below w.heap.size w w') : ArBox x y z d px py pz bS bP w' :=
  ⟨(hb.block _ (Array.getElem?_eq_some_iff.1 h.1).1).trans h.1, (hb.block _ (Array.getElem?_eq_some_iff.1 h.2).1).trans h.2⟩
theorem ArBox.outX {x y z : Int} {d : Nat} {px py pz : Int} {bS bP B U S : Nat} {w w' : World} (h : ArBox x y z d px py pz bS bP w) (hx : OutsideX B U S w w') (h1 : U ≤ bS) (h2 : U ≤ bP) (h3 : bS < S) (h4 : bP < S) : ArBox x y z d px py pz bS bP w' :=
  ⟨(hx.same _ (Array.getElem?_eq_some_iff.1 h.1).1 (.inr h1) (by omega) (by omega)).trans h.1, (hx.same _ (Array.getElem?_eq_some_iff.1 h.2).1 (.inr h2) (by omega) (by omega)).trans h.2⟩
theorem ArBox.cells {x y z : Int} {d : Nat} {px py pz : Int} {bS bP : Nat} {w : World} (h : ArBox x y z d px py pz bS bP w) :
    (w.cell? ⟨bS, 0, none⟩ = some (.int .i64 x) ∧ w.cell? ⟨bS, 1, none⟩ = some (.int .i64 y) ∧ w.cell? ⟨bS, 2, none⟩ = some (.int .i64 z) ∧ w.cell? ⟨bS, 3, none⟩ = some (.int .i64 d)) ∧
    w.cell? ⟨bP, 0, none⟩ = some (.int .i64 px) ∧ w.cell? ⟨bP, 1, none⟩ = some (.int .i64 py) ∧ w.cell? ⟨bP, 2, none⟩ = some (.int .i64 pz) := by
  have h1 := h.1
  have h2 := h.2
  simp [World.cell?, h1, h2]
theorem cn_le {ls fs : Int} {t : Nat} : fs + t ≤ ls ↔ t < (ls - fs + 1).toNat := by omega

set_option maxHeartbeats 8000000 in
set_option maxRecDepth 100000 in
/-- The iterator: the squares by y and then by x of their first blocks. -/
theorem c_around1 (x y z i : Int) (d : Nat) (bS bP B U : Nat) (w : World) (m : Nat) (hm10 : 1 ≤ m) (hg : goodB x y z = true) (h0 : 0 ≤ i) (h1 : i < x * y * z) (hd : d ≤ 3)
    (hA : ArBox x y z d (i % x) (i / x % y) (i / x / y) bS bP w) (u1 : U ≤ bS) (u2 : U ≤ bP) :
    TellsC Fence.wide m Try.prog 56 (.pointer (some ⟨bS, 0, none⟩)) (.pointer (some ⟨bP, 0, none⟩)) B U (SqRow (arS x y d i)) (arN x y d i) w := by
  rintro l J Jx W hW hsz hJ hJT hY ⟨T0, hj0⟩
  obtain ⟨g1, g2, g3, g4, g5, g6, _⟩ := good_true hg
  obtain ⟨⟨k1, k2⟩, ⟨k3, k4⟩, k5, k6⟩ := at_coords (X := x) (Y := y) (Z := z) g1 g3 h0 h1
  have hbS : bS < w.heap.size := (Array.getElem?_eq_some_iff.1 hA.1).1
  have hbP : bP < w.heap.size := (Array.getElem?_eq_some_iff.1 hA.2).1
  have HX0 : Hid (ArBox x y z d (i % x) (i / x % y) (i / x / y) bS bP W) := ⟨(hW.block _ hbS).trans hA.1, (hW.block _ hbP).trans hA.2⟩
  have HF : Hid (∀ t j : Nat, t < cnI (i % x) x d → j < cnI (i / x % y) y d → Fits x y z d (fsI (i % x) d + t) (fsI (i / x % y) d + j) (i / x / y)) := fun t j ht hj => by
    have c1 := cn_at k1 ht
    have c2 := cn_at k3 hj
    exact ⟨hg, hd, c1.1, c1.2.1, c2.1, c2.2.1, k5, k6⟩
  have HQ : Hid (∀ t j : Nat, t < cnI (i % x) x d → j < cnI (i / x % y) y d → j * cnI (i % x) x d + t < arN x y d i ∧ arS x y d i (j * cnI (i % x) x d + t) = sqB x y d (fsI (i % x) d + t) (fsI (i / x % y) d + j) (i / x / y)) := fun t j ht hj => by
    constructor
    · unfold arN
      have := Nat.mul_le_mul_right (cnI (i % x) x d) (show j + 1 ≤ cnI (i / x % y) y d by omega)
      rw [Nat.succ_mul] at this
      omega
    · unfold arS
      rw [Nat.mul_comm j, Nat.mul_add_mod, Nat.mod_eq_of_lt ht, Nat.mul_add_div (by omega), Nat.div_eq_of_lt ht, Nat.add_zero]
  have HN : Hid (arN x y d i = cnI (i / x % y) y d * cnI (i % x) x d) := rfl
  have CF1 : Hid (∀ u, Calls Try.prog 57 #[.agg #[.int .i64 x, .int .i64 y, .int .i64 z, .int .i64 d], .int .i64 (i % x)] u fun e w' => e = .returned (.int .i64 (fsI (i % x) d)) ∧ Below u.heap.size u w') := fun u => c_firstStart x y z _ d u hd k1 (by omega)
  have CF2 : Hid (∀ u, Calls Try.prog 57 #[.agg #[.int .i64 x, .int .i64 y, .int .i64 z, .int .i64 d], .int .i64 (i / x % y)] u fun e w' => e = .returned (.int .i64 (fsI (i / x % y) d)) ∧ Below u.heap.size u w') := fun u => c_firstStart x y z _ d u hd k3 (by omega)
  have CL1 : Hid (∀ u, Calls Try.prog 58 #[.agg #[.int .i64 x, .int .i64 y, .int .i64 z, .int .i64 d], .int .i64 (i % x), .int .i64 x] u fun e w' => e = .returned (.int .i64 (lsI (i % x) x d)) ∧ Below u.heap.size u w') := fun u => c_lastStart x y z _ _ d u hd k1 (by omega) (by omega) (by omega)
  have CL2 : Hid (∀ u, Calls Try.prog 58 #[.agg #[.int .i64 x, .int .i64 y, .int .i64 z, .int .i64 d], .int .i64 (i / x % y), .int .i64 y] u fun e w' => e = .returned (.int .i64 (lsI (i / x % y) y d)) ∧ Below u.heap.size u w') := fun u => c_lastStart x y z _ _ d u hd k3 (by omega) (by omega) (by omega)
  have CB : Hid (∀ (t j : Nat) (u : World), t < cnI (i % x) x d → j < cnI (i / x % y) y d → Calls Try.prog 59 #[.agg #[.int .i64 x, .int .i64 y, .int .i64 z, .int .i64 d], .agg #[.int .i64 (fsI (i % x) d + t), .int .i64 (fsI (i / x % y) d + j), .int .i64 (i / x / y)]] u (GivesRow u (arS x y d i (j * cnI (i % x) x d + t)))) := fun t j u ht hj => by
    rw [(HQ.out t j ht hj).2]
    exact c_blocksFrom x y z _ _ _ d u (HF.out t j ht hj)
  have CX : Hid (cnI (i % x) x d = (lsI (i % x) x d - fsI (i % x) d + 1).toNat) := rfl
  have CY : Hid (cnI (i / x % y) y d = (lsI (i / x % y) y d - fsI (i / x % y) d + 1).toNat) := rfl
  have bx : 0 ≤ fsI (i % x) d ∧ fsI (i % x) d ≤ 8 ∧ lsI (i % x) x d ≤ 8 := by unfold fsI lsI; omega
  have byy : 0 ≤ fsI (i / x % y) d ∧ fsI (i / x % y) d ≤ 8 ∧ lsI (i / x % y) y d ≤ 8 := by unfold fsI lsI; omega
  have HQ1 : Hid (∀ t j : Nat, t < cnI (i % x) x d → j < cnI (i / x % y) y d → j * cnI (i % x) x d + t < arN x y d i) := fun t j ht hj => (HQ.out t j ht hj).1
  have HJ : Hid (∀ s X Y, J s X → Below X.heap.size X Y → J s Y) := hJ
  have HT : Hid (∀ s X, J s X → B ≤ s.2 ∧ s.2 ≤ X.heap.size) := hJT
  have HY : Hid (∀ f T v W1, f < arN x y d i → J (f, T) W1 → Row W1 T v (arS x y d i f) → YieldAt Fence.wide (m - 1) Try.prog l #[v] W1 fun e W' =>
      (e = .returned (.bool true) ∧ (∃ T', J (f + 1, T') W') ∧ OutsideX B U w.heap.size W1 W') ∨ (e = .returned (.bool false) ∧ Jx (f + 1) W')) := hY
  have HJ0 := Lib.hid hj0
  have HU : Hid (U ≤ bS ∧ U ≤ bP ∧ bS < w.heap.size ∧ bP < w.heap.size) := ⟨u1, u2, hbS, hbP⟩
  clear hW hsz hJ hJT hY hj0 hA HF HQ g1 g2 g3 g4 g5 g6 k1 k2 k3 k4 k5 k6 h0 h1 hd hg u1 u2 hbS hbP
  rw [HN.out]
  rw [HN.out] at HQ1 HY
  clear HN
  generalize arS x y d i = P at *
  generalize cnI (i % x) x d = nx at *
  generalize cnI (i / x % y) y d = ny at *
  generalize fsI (i % x) d = fx at *
  generalize fsI (i / x % y) d = fy at *
  generalize lsI (i % x) x d = lx at *
  generalize lsI (i / x % y) y d = ly at *
  generalize i % x = px at *
  generalize i / x % y = py at *
  generalize i / x / y = pz at *
  generalize w.heap.size = S at *
  obtain ⟨bx0, bx1, bx2⟩ := bx
  obtain ⟨by0, by1, by2⟩ := byy
  refine callsIn_of_wp Try.func56 rfl trivial ?_ rfl
  simp only [Try.ntmps56, List.size_toArray, List.length_cons, List.length_nil, Nat.reduceAdd, Nat.reduceSub, Array.replicate_succ, Array.replicate_zero, List.push_toArray, List.append_toArray, List.nil_append, List.cons_append]
  obtain ⟨⟨q0, q1, q2, q3⟩, q4, q5, q6⟩ := HX0.out.cells
  gi_wp2_with fail
  refine ⟨trivial, ?_⟩
  refine (callsIn_wide.2 (CF2.out _)).mono ?_
  rintro e w1 ⟨rfl, hb⟩
  have HX1 := Lib.hid (HX0.out.below hb)
  have HJ1 := Lib.hid (HJ.out _ _ _ HJ0.out hb)
  clear hb q0 q1 q2 q3 q4 q5 q6 HX0 HJ0
  gi_wp2_with fail
  gi_loopw [4] (fun v wr => ∃ j : Nat, j ≤ ny ∧ v = .int .i64 (fy + j) ∧ (∃ T, J (j * nx, T) wr) ∧ ArBox x y z d px py pz bS bP wr) (fun v _ => (fy + ny - RowKit.intOf v).toNat)
  case atStart => exact ⟨0, Nat.zero_le _, by simp, ⟨T0, by rw [Nat.zero_mul]; exact HJ1.out⟩, HX1.out⟩
  case round =>
    obtain ⟨j, hj, rfl, ⟨T, hjj⟩, hx⟩ := hrel
    have HJk := Lib.hid hjj
    have HXk := Lib.hid hx
    obtain ⟨⟨q0, q1, q2, q3⟩, q4, q5, q6⟩ := hx.cells
    clear hjj hx
    by_cases hlt : j < ny
    · have b1 : fy + (j : Int) ≤ ly := by have := CY.out; omega
      gi_wp2_with fail
      refine ⟨trivial, ?_⟩
      refine (callsIn_wide.2 (CL2.out _)).mono ?_
      rintro e w2 ⟨rfl, hb⟩
      have HX2 := Lib.hid (HXk.out.below hb)
      have HJ2 := Lib.hid (HJ.out _ _ _ HJk.out hb)
      clear hb q0 q1 q2 q3 q4 q5 q6
      obtain ⟨⟨q0, q1, q2, q3⟩, q4, q5, q6⟩ := HX2.out.cells
      gi_wp2_with fail
      refine ⟨trivial, ?_⟩
      refine (callsIn_wide.2 (CF1.out _)).mono ?_
      rintro e w3 ⟨rfl, hb⟩
      have HX3 := Lib.hid (HX2.out.below hb)
      have HJ3 := Lib.hid (HJ.out _ _ _ HJ2.out hb)
      clear hb q0 q1 q2 q3 q4 q5 q6
      gi_wp2_with fail
      gi_loopw [5] (fun v wr => ∃ t : Nat, t ≤ nx ∧ v = .int .i64 (fx + t) ∧ (∃ T, J (j * nx + t, T) wr) ∧ ArBox x y z d px py pz bS bP wr) (fun v _ => (fx + nx - RowKit.intOf v).toNat)
      case atStart => exact ⟨0, Nat.zero_le _, by simp, ⟨T, HJ3.out⟩, HX3.out⟩
      case round =>
        obtain ⟨t, ht, rfl, ⟨T4, hjj⟩, hx⟩ := hrel
        have HJt := Lib.hid hjj
        have HXt := Lib.hid hx
        obtain ⟨⟨q0, q1, q2, q3⟩, q4, q5, q6⟩ := hx.cells
        clear hjj hx
        by_cases htl : t < nx
        · have b2 : fx + (t : Int) ≤ lx := by have := CX.out; omega
          gi_wp2_with fail
          refine ⟨trivial, ?_⟩
          refine (callsIn_wide.2 (CL1.out _)).mono ?_
          rintro e w5 ⟨rfl, hb⟩
          have HX5 := Lib.hid (HXt.out.below hb)
          have HJ5 := Lib.hid (HJ.out _ _ _ HJt.out hb)
          clear hb q0 q1 q2 q3 q4 q5 q6
          obtain ⟨⟨q0, q1, q2, q3⟩, q4, q5, q6⟩ := HX5.out.cells
          gi_wp2_with fail
          refine ⟨trivial, ?_⟩
          refine (callsIn_wide.2 (CB.out t j _ htl hlt)).mono ?_
          rintro e w6 ⟨p, rfl, hr, hb⟩
          have HX6 := Lib.hid (HX5.out.below hb)
          have HJ6 := Lib.hid (HJ.out _ _ _ HJ5.out hb)
          have HR6 := Lib.hid (hr.mono (HT.out _ _ HJ5.out).2)
          obtain ⟨A4, c4, rfl⟩ := hr.shape
          obtain ⟨fn, tmps, assign, body, hy, hR⟩ := HY.out (j * nx + t) T4 _ w6 (HQ1.out t j htl hlt) HJ6.out HR6.out
          have hRR := Lib.hid hR
          clear hr hb hR q0 q1 q2 q3 q4 q5 q6
          gi_wp2
          refine hRR.out.mono ?_
          rintro e W3 (⟨rfl, hJ3, hk3⟩ | ⟨rfl, hJx3⟩)
          · obtain ⟨u1, u2, u3, u4⟩ := HU.out
            have HX7 := Lib.hid (HX6.out.outX hk3 u1 u2 u3 u4)
            have HJ7 := Lib.hid hJ3
            clear hJ3 hk3 u1 u2 u3 u4
            have e1 : IntKind.i64.wrap (fx + (t : Int) + 1) = fx + (t : Int) + 1 := IntWalk.i64_in _ (by have := CX.out; omega)
            gi_wp2
            go_roundw
            case rel => exact ⟨t + 1, by omega, by go_num, HJ7.out, HX7.out⟩
            case measure => simp [RowKit.intOf]; omega
          · have HJ7 := Lib.hid hJx3
            clear hJx3
            gi_wp2
            refine bodyPost_ret (results_none rfl _ _ _) rfl ?_
            exact ⟨⟨_, rfl⟩, .inr ⟨_, HQ1.out t j htl hlt, HJ7.out⟩⟩
        · obtain rfl : t = nx := by omega
          have b2 : ¬ fx + (t : Int) ≤ lx := by have := CX.out; omega
          gi_wp2_with fail
          refine ⟨trivial, ?_⟩
          refine (callsIn_wide.2 (CL1.out _)).mono ?_
          rintro e w5 ⟨rfl, hb⟩
          have HX5 := Lib.hid (HXt.out.below hb)
          have HJ5 := Lib.hid (HJ.out _ _ _ HJt.out hb)
          have e1 : IntKind.i64.wrap (fy + (j : Int) + 1) = fy + (j : Int) + 1 := IntWalk.i64_in _ (by have := CY.out; omega)
          clear hb q0 q1 q2 q3 q4 q5 q6
          gi_wp2
          go_roundw
          case rel => exact ⟨j + 1, by omega, by go_num, ⟨_, by rw [Nat.succ_mul]; exact HJ5.out⟩, HX5.out⟩
          case measure => simp [RowKit.intOf]; omega
    · obtain rfl : j = ny := by omega
      have b1 : ¬ fy + (j : Int) ≤ ly := by have := CY.out; omega
      gi_wp2_with fail
      refine ⟨trivial, ?_⟩
      refine (callsIn_wide.2 (CL2.out _)).mono ?_
      rintro e w2 ⟨rfl, hb⟩
      have HJ2 := Lib.hid (HJ.out _ _ _ HJk.out hb)
      clear hb q0 q1 q2 q3 q4 q5 q6
      gi_wp2
      go_end0
      exact ⟨⟨_, rfl⟩, .inl ⟨T, HJ2.out⟩⟩
end Go.Proofs.Ytfpjodoimfbadaa
