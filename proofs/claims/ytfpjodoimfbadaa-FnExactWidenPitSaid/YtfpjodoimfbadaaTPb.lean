/-
Contracts: the wide blocks of a list, in the program.
Contracts: WideBlocks, IsWide and TrimPit, in the program.
Contracts: TrimPit, in the program.
Contracts: squares and wide blocks, in the model.
Contracts: WideBlocks, IsWide and TrimPit, in the model.
-/
import Derived.Test.YtfpjodoimfbadaaTPa
import Derived.Test.YtfpjodoimfbadaaN5
import Derived.WalkMore
import Derived.OwnWalkIn
import Derived.Shelf.AbstractIn
import Derived.Test.YtfpjodoimfbadaaNB
import Derived.Test.YtfpjodoimfbadaaXB
import Derived.Test.YtfpjodoimfbadaaNG
import Derived.Test.YtfpjodoimfbadaaC4
import Derived.Test.YtfpjodoimfbadaaNH
namespace Go.Proofs.Ytfpjodoimfbadaa
open Go.RowKit
set_option linter.unusedVariables false
attribute [local go_sem] Oper.semAt_some

theorem boxed_calmX {w w' : World} {b : Nat} {t : TypeId} {v : Value} {row : Option Nat} (h : Boxed w b t v) (hg : w.grownBy w' row) (hr : ∀ r, row = some r → ∃ o : Obj, w.heap[r]? = some o ∧ o.isCells = false) : Boxed w' b t v := by
  refine (hg.block b h.lt fun e => ?_).trans h
  obtain ⟨o, ho, hc⟩ := hr b e.symm
  have : w.heap[b]? = _ := h
  rw [this] at ho
  simp at ho
  rw [← ho] at hc
  cases hc
/-- The loops that are over: their blocks, to be taken at the end. -/
def mkD (D : Nat) : Deferred := { target := .collected D, args := #[] }
def MarksD (B U : Nat) (ds : List Deferred) (W : World) : Prop := ∃ Ds : List Nat, ds = Ds.map mkD ∧ Ds.Nodup ∧ ∀ D, D ∈ Ds → (B ≤ D ∧ D < U) ∧ W.heap[D]? = some (.deferred (some []))
theorem MarksD.nil (B U : Nat) (W : World) : MarksD B U [] W := ⟨[], rfl, List.nodup_nil, fun D hD => by cases hD⟩
theorem MarksD.mono {B U U' : Nat} {ds : List Deferred} {W : World} (h : MarksD B U ds W) (hU : U ≤ U') : MarksD B U' ds W := by
  obtain ⟨Ds, h1, h2, h3⟩ := h
  exact ⟨Ds, h1, h2, fun D hD => ⟨⟨(h3 D hD).1.1, by have := (h3 D hD).1.2; omega⟩, (h3 D hD).2⟩⟩
theorem MarksD.kept {B U : Nat} {ds : List Deferred} {W W' : World} (h : MarksD B U ds W) (hk : ∀ D, B ≤ D → D < U → W.heap[D]? = some (.deferred (some [])) → W'.heap[D]? = W.heap[D]?) : MarksD B U ds W' := by
  obtain ⟨Ds, h1, h2, h3⟩ := h
  exact ⟨Ds, h1, h2, fun D hD => ⟨(h3 D hD).1, (hk D (h3 D hD).1.1 (h3 D hD).1.2 (h3 D hD).2).trans (h3 D hD).2⟩⟩
theorem MarksD.below {B U : Nat} {ds : List Deferred} {W W' : World} (h : MarksD B U ds W) (hb : Below W.heap.size W W') : MarksD B U ds W' :=
  h.kept fun D _ _ hD => hb.block D (Array.getElem?_eq_some_iff.1 hD).1
theorem MarksD.grown {B U : Nat} {ds : List Deferred} {W W' : World} {row : Option Nat} (h : MarksD B U ds W) (hg : W.grownBy W' row) (hr : ∀ r, row = some r → U ≤ r ∨ ∃ o : Obj, W.heap[r]? = some o ∧ o.isCells = true) : MarksD B U ds W' :=
  h.kept fun D _ hU hD => hg.block D (Array.getElem?_eq_some_iff.1 hD).1 fun e => by
    rcases hr D e.symm with hlt | ⟨o, ho, hc⟩
    · omega
    · rw [hD] at ho
      simp at ho
      rw [← ho] at hc
      cases hc
theorem MarksD.cons {B U D : Nat} {ds : List Deferred} {W : World} (h : MarksD B U ds W) (hB : B ≤ U) (hD : U ≤ D) (hK : W.heap[D]? = some (.deferred (some []))) : MarksD B (D + 1) (mkD D :: ds) W := by
  obtain ⟨Ds, h1, h2, h3⟩ := h
  refine ⟨D :: Ds, by rw [h1]; rfl, List.nodup_cons.2 ⟨fun hm => by have := (h3 D hm).1.2; omega, h2⟩, fun E hE => ?_⟩
  rcases List.mem_cons.1 hE with rfl | hE
  · exact ⟨by omega, hK⟩
  · exact ⟨⟨(h3 E hE).1.1, by have := (h3 E hE).1.2; omega⟩, (h3 E hE).2⟩
theorem leaves_marks {F : Fence} {n : Nat} {P : Program} {fn : Func} {tmps : Array Value} {R : Ending → World → Prop} {B : Nat} (I : World → Prop) (hI : ∀ W D, B ≤ D → W.heap[D]? = some (.deferred (some [])) → I W → I (W.putObj D (.deferred none)))
    (hend : ∀ W, I W → LeavesInM F n P fn tmps R [] .returning W) : ∀ (Ds : List Nat) (W : World), Ds.Nodup → (∀ D, D ∈ Ds → B ≤ D ∧ W.heap[D]? = some (.deferred (some []))) → I W → LeavesInM F n P fn tmps R (Ds.map mkD) .returning W
  | [], W, _, _, h => hend W h
  | D :: Ds, W, hn, hD, h => by
    have h1 := hD D (by simp)
    refine ⟨by simp, .inl ⟨D, W.putObj D (.deferred none), rfl, run_takeDeferred h1.2, ?_⟩⟩
    refine leaves_marks I hI hend Ds _ (List.nodup_cons.1 hn).2 (fun E hE => ?_) (hI W D h1.1 h1.2 h)
    have h2 := hD E (by simp [hE])
    exact ⟨h2.1, (World.putObj_heap_other (fun e => (List.nodup_cons.1 hn).1 (by rw [← e]; exact hE))).trans h2.2⟩

section
variable {P : Program} {F : Fence} {n : Nat} {b : Frame} {a : Act} {k : List Item} {cs : List Frame} {w : World} {Q : Exit → Act → World → Prop}
theorem stepR_scopeX {c : Code} : step P (lone (b.atR a (.code (.scope c) :: k)) cs w) = .next (lone (b.atR a (.code c :: .inScope c :: k)) cs w) :=
  step_lone_go (by simp [stepG, stepG.exec, Frame.atR])
theorem stepR_inScopeX {c : Code} : step P (lone (b.atR a (.inScope c :: k)) cs w) = .next (lone (b.atR a k) cs w) :=
  step_lone_go (by simp [stepG, stepG.exec, Frame.atR])
/-- A scope inside a fence through which the run goes without a goto. -/
theorem wpIn_scope_straight {c : Code} (h : c.wpIn F n P (Exit.noGoto Q) a w) : (Code.scope c).wpIn F n P Q a w := by
  intro b k cs hro hb hr
  have h0 : (lone (b.atR a (.code (.scope c) :: k)) cs w).fenced P F := fenced_calm hb hr rfl
  obtain ⟨e, a₁, w₁, hq, harr⟩ := h b (.inScope c :: k) cs hro hb hr
  cases e with
  | normal => exact ⟨.normal, a₁, w₁, hq, .head h0 stepR_scopeX (StepsIn.trans harr (.one (fenced_calm hb hr rfl) stepR_inScopeX))⟩
  | exit id =>
    have hx : exitTo id (.inScope c :: k) = exitTo id k := by simp [exitTo]
    exact ⟨.exit id, a₁, w₁, hq, fun k' hk => .head h0 stepR_scopeX (harr.1 k' (by rw [hx]; exact hk)),
      fun hr' hk => let ⟨k₁, h1, h2⟩ := harr.2 hr' (by rw [hx]; exact hk); ⟨k₁, h1, .head h0 stepR_scopeX h2⟩⟩
  | goto l => exact hq.elim
  | ret => exact ⟨_, a₁, w₁, hq, .of_steps (.one h0 stepR_scopeX) harr⟩
  | panic ch => exact ⟨_, a₁, w₁, hq, .of_steps (.one h0 stepR_scopeX) harr⟩
  | outgrown => exact ⟨_, a₁, w₁, hq, .of_steps (.one h0 stepR_scopeX) harr⟩
end

/-- What the program keeps between the rounds: the kept list is L. -/
structure WbK (w : World) (sq : Array Value) (N b5 b6 U : Nat) (l L : List Int) (q : Value) (ds : List Deferred) (W : World) : Prop where
  bel : Below w.heap.size w W
  sq : W.heap[w.heap.size]? = some (.cells sq 44 (0, 0))
  mp : SetM W (w.heap.size + 1) N (inL l)
  x5 : Boxed W b5 58 (.map (some (w.heap.size + 1)))
  x6 : Boxed W b6 25 q
  row : Row W w.heap.size q L
  dm : MarksD w.heap.size U ds W
  lo5 : w.heap.size + 1 < b5
  lo6 : w.heap.size + 1 < b6
  hi5 : b5 < U
  hi6 : b6 < U
theorem row_calmX {w w' : World} {B : Nat} {v : Value} {xs : List Int} {row : Option Nat} (h : Row w B v xs) (hg : w.grownBy w' row) (hr : ∀ r, row = some r → ∃ o : Obj, w.heap[r]? = some o ∧ o.isCells = false) : Row w' B v xs := by
  refine own_stays h fun k hk => hg.block k (World.ownsRow.lt h k hk).2 fun e => ?_
  obtain ⟨o, ho, hc⟩ := hr k e.symm
  obtain ⟨g, cap, cur, rfl, _, hg', _⟩ := h.2.resolve_left (fun hn => by rw [hn.1] at hk; simp [Value.ownBlock] at hk)
  simp [Value.ownBlock] at hk
  subst hk
  rw [hg'] at ho
  simp at ho
  rw [← ho] at hc
  cases hc
theorem WbK.calm {w : World} {sq : Array Value} {N b5 b6 U : Nat} {l L : List Int} {q : Value} {ds : List Deferred} {X Y : World} {row : Option Nat} (h : WbK w sq N b5 b6 U l L q ds X) (hg : X.grownBy Y row) (hr : ∀ r, row = some r → U ≤ r ∧ ∃ o : Obj, X.heap[r]? = some o ∧ o.isCells = false) : WbK w sq N b5 b6 U l L q ds Y := by
  have hU := h.hi6
  have h6 := h.lo6
  have hn : ∀ r, row = some r → ∃ o : Obj, X.heap[r]? = some o ∧ o.isCells = false := fun r e => (hr r e).2
  have hlt := h.mp.lt
  exact ⟨h.bel.grown hg h.bel.size (fun k e => by have := (hr k e).1; omega), (hg.block _ (Array.getElem?_eq_some_iff.1 h.sq).1 (fun e => by have := (hr _ e.symm).1; omega)).trans h.sq, h.mp.kept hg (fun e => by have := (hr _ e.symm).1; omega),
    boxed_calmX h.x5 hg hn, boxed_calmX h.x6 hg hn, row_calmX h.row hg hn, h.dm.grown hg (fun r e => .inl (hr r e).1), h.lo5, h.lo6, h.hi5, h.hi6⟩
theorem WbK.below {w : World} {sq : Array Value} {N b5 b6 U : Nat} {l L : List Int} {q : Value} {ds : List Deferred} {X Y : World} (h : WbK w sq N b5 b6 U l L q ds X) (hb : Below X.heap.size X Y) : WbK w sq N b5 b6 U l L q ds Y :=
  ⟨h.bel.trans (hb.mono h.bel.size), (hb.block _ (Array.getElem?_eq_some_iff.1 h.sq).1).trans h.sq, h.mp.below hb h.mp.lt, (hb.block _ h.x5.lt).trans h.x5, (hb.block _ h.x6.lt).trans h.x6, h.row.below hb, h.dm.below hb, h.lo5, h.lo6, h.hi5, h.hi6⟩

theorem WbK.mono {w : World} {sq : Array Value} {N b5 b6 U U' : Nat} {l L : List Int} {q : Value} {ds : List Deferred} {X : World} (h : WbK w sq N b5 b6 U l L q ds X) (hU : U ≤ U') : WbK w sq N b5 b6 U' l L q ds X :=
  ⟨h.bel, h.sq, h.mp, h.x5, h.x6, h.row, h.dm.mono hU, h.lo5, h.lo6, by have := h.hi5; omega, by have := h.hi6; omega⟩
theorem WbK.mark {w : World} {sq : Array Value} {N b5 b6 U D : Nat} {l L : List Int} {q : Value} {ds : List Deferred} {X : World} (h : WbK w sq N b5 b6 U l L q ds X) (hD : U ≤ D) (hK : X.heap[D]? = some (.deferred (some []))) : WbK w sq N b5 b6 X.heap.size l L q (mkD D :: ds) X := by
  have hlt := (Array.getElem?_eq_some_iff.1 hK).1
  have h6 := h.hi6
  have l6 := h.lo6
  exact ⟨h.bel, h.sq, h.mp, h.x5, h.x6, h.row, (h.dm.cons (by omega) hD hK).mono (by omega), h.lo5, h.lo6, by have := h.hi5; omega, by omega⟩
theorem own_cells {w : World} {B g : Nat} {v : Value} {xs : List Int} (h : Row w B v xs) (hk : v.ownBlock = some g) : ∃ (cs : Array Value) (p : Nat × Nat), w.heap[g]? = some (.cells cs 3 p) := by
  obtain ⟨g', cap, cur, rfl, _, hg', _⟩ := h.2.resolve_left (fun hn => by rw [hn.1] at hk; simp [Value.ownBlock] at hk)
  simp [Value.ownBlock] at hk
  subst hk
  exact ⟨_, _, hg'⟩
theorem own_apart {w : World} {B g b : Nat} {v : Value} {xs : List Int} {cs : Array Value} {t : TypeId} {p : Nat × Nat} (h : Row w B v xs) (hk : v.ownBlock = some g) (hb : w.heap[b]? = some (.cells cs t p)) (ht : t ≠ 3) : b ≠ g := by
  obtain ⟨cs', p', hg⟩ := own_cells h hk
  intro e
  subst e
  rw [hb] at hg
  simp at hg
  exact ht hg.2.1
theorem map_apart {w : World} {B g b N : Nat} {v : Value} {xs : List Int} {p : Int → Bool} (h : Row w B v xs) (hk : v.ownBlock = some g) (hb : SetM w b N p) : some b ≠ some g := by
  obtain ⟨cs', p', hg⟩ := own_cells h hk
  obtain ⟨D, ⟨es, clock, hb, _⟩, _⟩ := hb
  intro e
  cases e
  rw [hb] at hg
  cases hg
/-- The list grown by a number, and stored again. -/
theorem WbK.append {w : World} {sq : Array Value} {N b5 b6 U : Nat} {l L : List Int} {q v' : Value} {ds : List Deferred} {X Y Z : World} {t : Int} (h : WbK w sq N b5 b6 U l L q ds X) (htop : ∀ k, q.ownBlock = some k → k < U) (hUX : U ≤ X.heap.size) (hb : Below X.heap.size X Y) (hg : Y.grownBy Z q.ownBlock)
    (hr : Row Z w.heap.size v' (L ++ [t])) : WbK w sq N b5 b6 U l (L ++ [t]) v' ds (Z.setCell ⟨b6, 0, none⟩ v') ∧ Outside w.heap.size U X (Z.setCell ⟨b6, 0, none⟩ v') := by
  have hY := h.below hb
  have l6 := h.lo6
  have u6 := h.hi6
  have sX := h.bel.size
  have sY := hb.size
  have sZ := hg.size
  have hl := hY.mp.lt
  -- the row's own block
  have lo : ∀ g, q.ownBlock = some g → w.heap.size ≤ g ∧ g < Y.heap.size := fun g e => World.ownsRow.lt hY.row g e
  have a6 : some b6 ≠ q.ownBlock := fun e => own_apart hY.row e.symm hY.x6 (by decide) rfl
  have a5 : some b5 ≠ q.ownBlock := fun e => own_apart hY.row e.symm hY.x5 (by decide) rfl
  have aS : some w.heap.size ≠ q.ownBlock := fun e => own_apart hY.row e.symm hY.sq (by decide) rfl
  have aM : some (w.heap.size + 1) ≠ q.ownBlock := fun e => map_apart hY.row e.symm hY.mp rfl
  have z6 : Boxed Z b6 25 q := (hg.block _ hY.x6.lt a6).trans hY.x6
  have z5 : Boxed Z b5 58 (.map (some (w.heap.size + 1))) := (hg.block _ hY.x5.lt a5).trans hY.x5
  have zS : Z.heap[w.heap.size]? = some (.cells sq 44 (0, 0)) := (hg.block _ (Array.getElem?_eq_some_iff.1 hY.sq).1 aS).trans hY.sq
  have zM : SetM Z (w.heap.size + 1) N (inL l) := hY.mp.kept hg aM
  have zD : MarksD w.heap.size U ds Z := hY.dm.grown hg fun r e => by
    obtain ⟨cs, p, hc⟩ := own_cells hY.row e
    exact .inr ⟨_, hc, rfl⟩
  have zB : Below w.heap.size w Z := hY.bel.grown hg hY.bel.size (fun g e => (lo g e).1)
  -- the store
  have gs := set_grownG Z ⟨b6, 0, none⟩ v'
  have n5 : b5 ≠ b6 := fun e => by
    have e5 : Z.heap[b5]? = _ := z5
    have e6 : Z.heap[b6]? = _ := z6
    rw [e, e6] at e5
    simp at e5
  have n6S : w.heap.size ≠ b6 := by omega
  have n6M : w.heap.size + 1 ≠ b6 := by omega
  have c6 : Z.heap[b6]? = some (.cells #[q] 25 (0, 0)) := z6
  constructor
  · refine ⟨zB.grown gs zB.size (fun k e => by cases e; show w.heap.size ≤ b6; omega), (gs.block _ (Array.getElem?_eq_some_iff.1 zS).1 (fun e => n6S (Option.some.inj e))).trans zS, zM.kept gs (fun e => n6M (Option.some.inj e)), (gs.block _ z5.lt (fun e => n5 (Option.some.inj e))).trans z5, z6.set v', ?_, ?_, h.lo5, h.lo6, h.hi5, h.hi6⟩
    · refine own_stays hr fun k hk => gs.block k (World.ownsRow.lt hr k hk).2 fun e => ?_
      cases e
      exact own_apart hr hk c6 (by decide) rfl
    · exact zD.grown gs fun r e => by cases e; exact .inr ⟨_, c6, rfl⟩
  · refine (Outside.below hb).trans ((Outside.grown hg fun r e => ⟨(lo r e).1, htop r e⟩).trans (Outside.grown gs fun r e => by cases e; exact ⟨by show w.heap.size ≤ b6; omega, u6⟩))
/-- What holds in the rounds over the squares around a block. -/
def WbI (w : World) (sq : Array Value) (N b5 b6 b : Nat) (l L : List Int) (q : Value) (ds : List Deferred) (t : Int) (S : Nat → List Int) (s : Nat × Nat) (X : World) : Prop :=
  (∀ g, g < s.1 → (S g).all (inL l) = false) ∧ WbK w sq N b5 b6 b l L q ds X ∧ Boxed X b 3 (.int .i64 t) ∧ w.heap.size ≤ s.2 ∧ s.2 ≤ X.heap.size
theorem WbI.own (w : World) (sq : Array Value) (N b5 b6 b B : Nat) (l L : List Int) (q : Value) (ds : List Deferred) (t : Int) (S : Nat → List Int) (hB : b ≤ B) : OwnFrom B (WbI w sq N b5 b6 b l L q ds t S) := fun s X Y row h hg hr =>
  ⟨h.1, h.2.1.calm hg (fun r e => ⟨by have := (hr r e).1; omega, (hr r e).2⟩), boxed_calmX h.2.2.1 hg (fun r e => (hr r e).2), h.2.2.2.1, Nat.le_trans h.2.2.2.2 hg.size⟩
def WbX (w : World) (sq : Array Value) (N b5 b6 b : Nat) (l L : List Int) (ds : List Deferred) (t : Int) (P : Int → Bool) (c : Code) (f : Nat) (X : World) : Prop :=
  c = .exit 1 ∧ P t = true ∧ ∃ q', WbK w sq N b5 b6 b l (L ++ [t]) q' ds X
theorem WbX.own (w : World) (sq : Array Value) (N b5 b6 b B : Nat) (l L : List Int) (ds : List Deferred) (t : Int) (P : Int → Bool) (hB : b ≤ B) (c : Code) : OwnFrom B (WbX w sq N b5 b6 b l L ds t P c) := fun s X Y row h hg hr => by
  obtain ⟨h1, h2, q', h3⟩ := h
  exact ⟨h1, h2, q', h3.calm hg (fun r e => ⟨by have := (hr r e).1; omega, (hr r e).2⟩)⟩

set_option maxHeartbeats 8000000 in
set_option maxRecDepth 100000 in
theorem c_wideBlocks (x y z : Int) (d : Nat) (l : List Int) (v : Value) (w : World) (hg : goodB x y z = true) (hd1 : 1 ≤ d) (hd : d ≤ 3) (hr : risB (x * y * z).toNat l = true) (hl : l.length ≤ 4000000) (hs : Seen w v l) :
    Calls Try.prog 26 #[.agg #[.int .i64 x, .int .i64 y, .int .i64 z, .int .i64 d], v] w (GivesRow w (wiL x y z d l)) := by
  obtain ⟨i0, hi0, hz0, hz1, hz2⟩ := info_parts int_info
  have HI := Lib.hid hi0
  clear hi0
  have HS := Lib.hid hs
  obtain ⟨A, c, rfl⟩ := hs.shape
  obtain ⟨g1, g2, g3, g4, g5, g6, g7⟩ := good_true hg
  have hN : (x * y * z).toNat ≤ 120 := by omega
  have HW : Hid (l.filter (arB x y d l) = wiL x y z d l) := wide_eq g1 g3 hd1 hr
  rw [← HW.out]
  have HE : Hid (∀ k : Nat, k < l.length → 0 ≤ l.getD k 0 ∧ l.getD k 0 < x * y * z) := fun k hk => by have := ris_box hr hk; omega
  have HQ : Hid (∀ k : Nat, k < l.length → ∀ f, f < arN x y d (l.getD k 0) → InN (x * y * z).toNat (arS x y d (l.getD k 0) f) ∧ (arS x y d (l.getD k 0) f).length ≤ 4000000) := fun k hk f hf => by
    obtain ⟨e1, e2⟩ := HE.out k hk
    refine ⟨ar_in g1 g3 e1 e2 hf, ?_⟩
    unfold arS
    rw [sqB_len]
    have := Nat.mul_le_mul hd hd
    omega
  have CA : Hid (∀ (k : Nat) (u : World), k < l.length → Calls Try.prog 43 #[.agg #[.int .i64 x, .int .i64 y, .int .i64 z, .int .i64 d], .int .i64 (l.getD k 0)] u fun e w' => ∃ bP, e = .returned (.func (.func 56) #[] #[.pointer (some ⟨u.heap.size, 0, none⟩), .pointer (some ⟨bP, 0, none⟩)]) ∧ u.heap.size ≤ bP ∧
      ArBox x y z d (l.getD k 0 % x) (l.getD k 0 / x % y) (l.getD k 0 / x / y) u.heap.size bP w' ∧ Below u.heap.size u w') := fun k u hk => by
    obtain ⟨e1, e2⟩ := HE.out k hk
    refine (c_around x y z _ d u hg e1 (by omega)).mono ?_
    rintro e w' ⟨bP, h1, h2, h3, h4, h5⟩
    exact ⟨bP, h1, h2, ⟨h3, h4⟩, h5⟩
  have CT : Hid (∀ (k bS bP U : Nat) (u : World), k < l.length → ArBox x y z d (l.getD k 0 % x) (l.getD k 0 / x % y) (l.getD k 0 / x / y) bS bP u → U ≤ bS → U ≤ bP → TellsC Fence.wide 9 Try.prog 56 (.pointer (some ⟨bS, 0, none⟩)) (.pointer (some ⟨bP, 0, none⟩)) w.heap.size U (SqRow (arS x y d (l.getD k 0))) (arN x y d (l.getD k 0)) u) := fun k bS bP U u hk hA hu1 hu2 => by
    obtain ⟨e1, e2⟩ := HE.out k hk
    exact c_around1 x y z _ d bS bP w.heap.size U u 9 (by omega) hg e1 e2 hd hA hu1 hu2
  have HB : Hid (∀ k : Nat, k < l.length → arB x y d l (l.getD k 0) = (List.range (arN x y d (l.getD k 0))).any fun f => (arS x y d (l.getD k 0) f).all (inL l)) := fun k _ => rfl
  have EY : Hid (∀ k : Nat, k < l.length → arB x y d l (l.getD k 0) = true → (l.take (k + 1)).filter (arB x y d l) = (l.take k).filter (arB x y d l) ++ [l.getD k 0]) := fun k hk h => by
    show _ = _
    rw [List.take_succ_eq_append_getElem hk, List.filter_append, show l[k] = l.getD k 0 by simp [hk]]
    simp only [List.filter_cons, h, if_true, List.filter_nil]
  have EN : Hid (∀ k : Nat, k < l.length → arB x y d l (l.getD k 0) = false → (l.take (k + 1)).filter (arB x y d l) = (l.take k).filter (arB x y d l)) := fun k hk h => by
    show _ = _
    rw [List.take_succ_eq_append_getElem hk, List.filter_append, show l[k] = l.getD k 0 by simp [hk]]
    simp only [List.filter_cons, h, List.filter_nil]
    simp
  have E0 : Hid ((l.take 0).filter (arB x y d l) = []) := rfl
  have EA : Hid ((l.take l.length).filter (arB x y d l) = l.filter (arB x y d l)) := by show _ = _; rw [List.take_length]
  have EL : Hid (∀ k : Nat, ((l.take k).filter (arB x y d l)).length ≤ l.length) := fun k => Nat.le_trans (List.length_filter_le _ _) (by rw [List.length_take]; omega)
  obtain ⟨wx, hwx⟩ : ∃ wx, w.alloc (.cells #[.int .i64 x, .int .i64 y, .int .i64 z, .int .i64 d] 44) = wx := ⟨_, rfl⟩
  have HBx : Hid (Below w.heap.size w wx) := by rw [← hwx]; exact (Below.refl _ _).alloc (Nat.le_refl _) _
  have HX : Hid (wx.heap[w.heap.size]? = some (.cells #[.int .i64 x, .int .i64 y, .int .i64 z, .int .i64 d] 44 (0, 0))) := by rw [← hwx]; exact World.alloc_heap_new _ _
  have hzx : wx.heap.size = w.heap.size + 1 := by rw [← hwx]; simp
  have CM := Lib.hid (c_marksOf (x * y * z).toNat l (.slice A l.length c) wx hl (by omega) (HS.out.below HBx.out) (InN.ris hr))
  clear hg hr hs g1 g2 g3 g4 g5 g6 g7 HW HE
  generalize arB x y d l = P at *
  generalize (x * y * z).toNat = N at *
  obtain ⟨O, hO⟩ : ∃ O : Nat → List Int, (fun k => (l.take k).filter P) = O := ⟨_, rfl⟩
  have HO : Hid (∀ k, (l.take k).filter P = O k) := fun k => congrFun hO k
  simp only [HO.out] at EY EN E0 EA EL
  rw [← EA.out]
  clear HO hO EA
  refine (callsIn_wide (n := 10)).1 ?_
  refine callsIn_of_wp_marks Try.func26 rfl trivial ?_ rfl
  simp only [Try.ntmps26, List.size_toArray, List.length_cons, List.length_nil, Nat.reduceAdd, Nat.reduceSub, Array.replicate_succ, Array.replicate_zero, List.push_toArray, List.append_toArray, List.nil_append, List.cons_append]
  gi_wp2_with fail
  refine wpIn_scope_straight ?_
  gi_wp2_with fail
  refine ⟨trivial, ?_⟩
  refine (callsIn_wide.2 CM.out).mono ?_
  rintro e w1 ⟨rfl, hm, hb⟩
  have HB1 : Hid (Below w.heap.size w w1) := HBx.out.trans (hb.mono HBx.out.size)
  have HX1 : Hid (w1.heap[w.heap.size]? = some (.cells #[.int .i64 x, .int .i64 y, .int .i64 z, .int .i64 d] 44 (0, 0))) := (hb.block _ (by omega)).trans HX.out
  rw [hzx] at hm ⊢
  have HM1 := Lib.hid hm
  have hs1 : w.heap.size + 1 < w1.heap.size := hm.lt
  clear hm hb HX HBx CM hwx
  gi_wp2_with (apply wpIn_label)
  obtain ⟨b5, hb5⟩ : ∃ b5, w1.heap.size = b5 := ⟨_, rfl⟩
  have HK2 : Hid (WbK w #[.int .i64 x, .int .i64 y, .int .i64 z, .int .i64 d] N b5 (b5 + 1) ((w1.alloc (.cells #[.map (some (w.heap.size + 1))] 58)).alloc (.cells #[.slice none 0 0] 25)).heap.size l (O 0) (.slice none 0 0) [] ((w1.alloc (.cells #[.map (some (w.heap.size + 1))] 58)).alloc (.cells #[.slice none 0 0] 25))) := by
    have hbb : Below w1.heap.size w1 ((w1.alloc (.cells #[.map (some (w.heap.size + 1))] 58)).alloc (.cells #[.slice none 0 0] 25)) := ((Below.refl _ w1).alloc (Nat.le_refl _) _).alloc (by simp) _
    refine ⟨HB1.out.trans (hbb.mono (by omega)), (hbb.block _ (by omega)).trans HX1.out, HM1.out.below hbb HM1.out.lt, ?_, ?_, by rw [E0.out]; exact Row.nil _ _, MarksD.nil _ _ _, by omega, by omega, by simp; omega, by simp; omega⟩
    · rw [← hb5]
      exact (Boxed.new w1 58 _).alloc _
    · rw [← hb5]
      have := Boxed.new (w1.alloc (.cells #[.map (some (w.heap.size + 1))] 58)) 25 (.slice none 0 0)
      simpa using this
  rw [hb5]
  generalize ((w1.alloc (.cells #[.map (some (w.heap.size + 1))] 58)).alloc (.cells #[.slice none 0 0] 25)) = w2 at *
  clear hb5 HM1 HX1 HB1 hs1 hzx
  refine wpIn_loop (fun a W => ∃ (k : Nat) (u8 u15 u16 u17 u18 u19 u20 u29 q : Value) (ds : List Deferred), k ≤ l.length ∧ WbK w #[.int .i64 x, .int .i64 y, .int .i64 z, .int .i64 d] N b5 (b5 + 1) W.heap.size l (O k) q ds W ∧
      a = { tmps := #[.agg #[.int .i64 x, .int .i64 y, .int .i64 z, .int .i64 d], .slice A l.length c, .pointer (some ⟨w.heap.size, 0, none⟩), undef, .slice none 0 0, .pointer (some ⟨b5, 0, none⟩), .pointer (some ⟨b5 + 1, 0, none⟩), undef, u8, undef, .slice A l.length c, .map (some (w.heap.size + 1)), .slice A l.length c, .int .i64 l.length, .int .i64 k, u15, u16, u17, u18, u19, u20, undef, undef, undef, undef, undef, undef, undef, undef, u29, undef], defers := ds })
    (fun a _ => l.length - (RowKit.intOf (a.tmps.getD 14 undef)).toNat) ⟨0, undef, undef, undef, undef, undef, undef, undef, undef, _, [], Nat.zero_le _, HK2.out, rfl⟩ ?_
  rintro a W ⟨k, u8, u15, u16, u17, u18, u19, u20, u29, q, ds, hk, hW, rfl⟩
  clear HK2
  have HK := Lib.hid hW
  by_cases hlt : k < l.length
  · have b1 : (0 : Int) ≤ (k : Int) := by omega
    have b2 : (k : Int) < (l.length : Int) := by omega
    obtain ⟨bC, oC, cC, eC, hbC, q0⟩ := (HS.out.below hW.bel).at_ hlt
    simp at eC
    obtain ⟨rfl, _, _⟩ := eC
    have CAk := Lib.hid (fun u => CA.out k u hlt)
    have CTk := Lib.hid (fun bS bP U u => CT.out k bS bP U u hlt)
    have HQk := Lib.hid (HQ.out k hlt)
    have HBk := Lib.hid (HB.out k hlt)
    have EYk := Lib.hid (EY.out k hlt)
    have ENk := Lib.hid (EN.out k hlt)
    have HLn : (O k).length ≤ l.length := EL.out k
    generalize l.getD k 0 = t at *
    have hsz : w.heap.size < W.heap.size := (Array.getElem?_eq_some_iff.1 hW.sq).1
    have hsq := hW.sq
    have y0 : W.cell? ⟨w.heap.size, 0, none⟩ = some (.int .i64 x) := by simp [World.cell?, hsq]
    have y1 : W.cell? ⟨w.heap.size, 1, none⟩ = some (.int .i64 y) := by simp [World.cell?, hsq]
    have y2 : W.cell? ⟨w.heap.size, 2, none⟩ = some (.int .i64 z) := by simp [World.cell?, hsq]
    have y3 : W.cell? ⟨w.heap.size, 3, none⟩ = some (.int .i64 d) := by simp [World.cell?, hsq]
    clear hW hsq CA CT HQ HB EY EN EL
    gi_wp2_with fail
    refine ⟨trivial, ?_⟩
    refine (callsIn_wide.2 (CAk.out _)).mono ?_
    rintro e w3 ⟨bP, rfl, hbP, hA, hb⟩
    clear y0 y1 y2 y3 q0
    gi_wp2_with fail
    have hbb : Below W.heap.size W w3 := ((Below.refl _ W).alloc (Nat.le_refl _) _).trans (hb.mono (by simp))
    have HW3 : Hid (WbK w #[.int .i64 x, .int .i64 y, .int .i64 z, .int .i64 d] N b5 (b5 + 1) W.heap.size l (O k) q ds w3) := HK.out.below hbb
    have HT3 : Hid (∀ g, q.ownBlock = some g → g < W.heap.size) := fun g hg => (World.ownsRow.lt HK.out.row g hg).2
    have H83 : Hid (Boxed w3 W.heap.size 3 (.int .i64 t)) := (hb.block _ (by simp)).trans (Boxed.new W 3 (.int .i64 t))
    have hz3 : W.heap.size + 1 ≤ w3.heap.size := by have := hb.size; simpa using this
    have hbW : w.heap.size ≤ W.heap.size := HK.out.bel.size
    have hA' : ArBox x y z d (t % x) (t / x % y) (t / x / y) (W.heap.size + 1) bP w3 := by simpa using hA
    have hbP' : W.heap.size ≤ bP := by simp at hbP; omega
    have HTL := Lib.hid (CTk.out (W.heap.size + 1) bP W.heap.size w3 hA' (by omega) hbP')
    clear hb hA hA' hbb HK CTk CAk hbP hbP'
    generalize W.heap.size = b at *
    obtain ⟨S, hS⟩ : ∃ S, arS x y d t = S := ⟨_, rfl⟩
    obtain ⟨n, hn⟩ : ∃ n, arN x y d t = n := ⟨_, rfl⟩
    rw [hS, hn] at HTL HQk HBk
    clear hS hn
    refine wpIn_range_tellsC rfl (by omega) (gf := 56) (c1 := .pointer (some ⟨b + 1, 0, none⟩)) (c2 := .pointer (some ⟨bP, 0, none⟩)) rfl trivial (enters_of Try.func56 (by kernel_rfl) rfl)
      HTL.out (by omega) hbW (by omega) rfl (WbI w #[.int .i64 x, .int .i64 y, .int .i64 z, .int .i64 d] N b5 (b5 + 1) b l (O k) q ds t S) (WbX w #[.int .i64 x, .int .i64 y, .int .i64 z, .int .i64 d] N b5 (b5 + 1) b l (O k) ds t P)
      (WbI.own w _ N b5 (b5 + 1) b w3.heap.size l (O k) q ds t S (by omega)) (fun s X h => ⟨h.2.2.2.1, h.2.2.2.2⟩) (fun c => WbX.own w _ N b5 (b5 + 1) b w3.heap.size l (O k) ds t P (by omega) c) (fun T f => SqRow.own _ S T f) ⟨w3.heap.size, fun g hg => absurd hg (Nat.not_lt_zero g), HW3.out, H83.out, by show w.heap.size ≤ w3.heap.size; omega, Nat.le_refl _⟩
      (fun f v => { tmps := #[.agg #[.int .i64 x, .int .i64 y, .int .i64 z, .int .i64 d], .slice (some ⟨bC, oC, none⟩) l.length c, .pointer (some ⟨w.heap.size, 0, none⟩), undef, .slice none 0 0, .pointer (some ⟨b5, 0, none⟩), .pointer (some ⟨b5 + 1, 0, none⟩), undef, .pointer (some ⟨b, 0, none⟩), v, .slice (some ⟨bC, oC, none⟩) l.length c, .map (some (w.heap.size + 1)), .slice (some ⟨bC, oC, none⟩) l.length c, .int .i64 l.length, .int .i64 k, .bool true, .pointer (some ⟨bC, oC + k, none⟩), .int .i64 t, .agg #[.int .i64 x, .int .i64 y, .int .i64 z, .int .i64 d], .int .i64 t, .func (.func 56) #[] #[.pointer (some ⟨b + 1, 0, none⟩), .pointer (some ⟨bP, 0, none⟩)], v, undef, undef, undef, undef, undef, undef, undef, u29, undef], defers := [] }) ?assign ?body ?done ?stop
    case assign =>
      intro l' f v X K hK
      gi_wp2
      exact hK
    case body =>
      rintro l' f T v X hf hz ⟨hno, hk', hb8, hT1, hT2⟩ hx
      have hx' : Row X T v (S f) := hx
      obtain ⟨Ax, cx, rfl⟩ := hx'.shape
      have hk'' : WbK w #[.int .i64 x, .int .i64 y, .int .i64 z, .int .i64 d] N b5 (b5 + 1) b l (O k) q ds X := hk'
      have q5 := hk''.x5.cell
      have CMk := Lib.hid (c_areMarked (w.heap.size + 1) N (inL l) (S f) (.slice Ax (S f).length cx) X (HQk.out f hf).2 (by omega) hk''.mp hx'.seen (HQk.out f hf).1)
      have HKX := Lib.hid hk''
      have H8X := Lib.hid hb8
      have HNO := Lib.hid hno
      have HTT : Hid (w.heap.size ≤ T ∧ T ≤ X.heap.size) := ⟨hT1, hT2⟩
      clear hx hx' hno hk' hk'' hb8 hT1 hT2
      cases hall : (S f).all (inL l)
      · rw [hall] at CMk
        have HN2 : Hid (∀ g, g < f + 1 → (S g).all (inL l) = false) := fun g hg => by
          by_cases e : g = f
          · rw [e]; exact hall
          · exact HNO.out g (show g < f by omega)
        clear hall
        gi_wp2_with fail
        refine ⟨trivial, ?_⟩
        refine (CallsIn.inRound l' (callsIn_wide.2 CMk.out)).mono ?_
        rintro e X2 ⟨rfl, hb⟩
        gi_wp2
        exact ⟨Outside.below hb, T, HN2.out, HKX.out.below hb, (hb.block _ H8X.out.lt).trans H8X.out, HTT.out.1, Nat.le_trans HTT.out.2 hb.size⟩
      · rw [hall] at CMk
        have HP : Hid (P t = true) := by
          show _ = _
          rw [HBk.out, List.any_eq_true]
          exact ⟨f, List.mem_range.2 hf, hall⟩
        clear hall
        gi_wp2_with fail
        refine ⟨trivial, ?_⟩
        refine (CallsIn.inRound l' (callsIn_wide.2 CMk.out)).mono ?_
        rintro e X2 ⟨rfl, hb⟩
        have HK2 := Lib.hid (HKX.out.below hb)
        have x6 := HK2.out.x6.cell
        have h8 : Boxed X2 b 3 (.int .i64 t) := (hb.block _ H8X.out.lt).trans H8X.out
        have x8 := h8.cell
        have sX2 : b ≤ X2.heap.size := Nat.le_of_lt h8.lt
        have HR2 := Lib.hid HK2.out.row
        have HBX := Lib.hid hb
        have sw := HK2.out.bel.size
        clear hb h8 q5
        gi_wp2_with (gi_at_builtin; refine wpListIn_append_own _ rfl _ _ 25 rfl (w.heap.size) 3 i0 (.int .i64 0) 1 8 Try.underlying25 HI.out hz0 hz1 hz2 rfl (by decide) _ _ _ rfl (World.ownsRow.alloc HR2.out _) ⟨X2.heap.size, 0, none⟩ 1 1 [.int .i64 t] rfl rfl ?c1 ?c2 ?c3 ?c4 ?c5 ?_)
        case c1 =>
          intro jj u hjj
          match jj, hjj with
          | 0, hjj => simp at hjj; subst hjj; simp [Addr.add]
        case c2 => intro u hu; simp at hu; subst hu; rfl
        case c3 => unfold maxLen; omega
        case c4 => omega
        case c5 => simp; omega
        intro v' w5 hown' hgrow _
        have R1 : Hid (Row w5 w.heap.size v' (O k ++ [t])) := row_more hown'
        have HA5 := Lib.hid (HK2.out.append HT3.out sX2 ((Below.refl _ X2).alloc (Nat.le_refl _) _) hgrow R1.out)
        obtain ⟨A5, c5, rfl⟩ := R1.out.shape
        rw [show (O k ++ [t]).length = (O k).length + 1 by simp] at HA5
        have f6 : w5.frozen? ⟨b5 + 1, 0, none⟩ = false ∧ ∃ u, w5.cell? ⟨b5 + 1, 0, none⟩ = some u := by
          have hY := HK2.out.below ((Below.refl _ X2).alloc (Nat.le_refl _) (.cells #[.int .i64 t] 3))
          have a6 : some (b5 + 1) ≠ q.ownBlock := fun e => own_apart hY.row e.symm hY.x6 (by decide) rfl
          have z6 : Boxed w5 (b5 + 1) 25 q := (hgrow.block _ hY.x6.lt a6).trans hY.x6
          exact ⟨z6.frozen, _, z6.cell⟩
        obtain ⟨f61, u6, f62⟩ := f6
        clear hown' hgrow x6 x8
        gi_wp2
        exact ⟨(HBX.out |> Outside.below).trans HA5.out.2, rfl, HP.out, _, HA5.out.1⟩
    case done =>
      rintro D T X hD ⟨hno, hk', hb8, hT1, hT2⟩ hK
      have hk'' : WbK w #[.int .i64 x, .int .i64 y, .int .i64 z, .int .i64 d] N b5 (b5 + 1) b l (O k) q ds X := hk'
      have hP : P t = false := by
        rw [HBk.out, List.any_eq_false]
        intro g hg
        rw [hno g (List.mem_range.1 hg)]
        simp
      have HE := Lib.hid (ENk.out hP)
      have HM := Lib.hid (hk''.mark (show b ≤ D by omega) hK)
      clear hno hk' hk'' hb8 hT1 hT2 hP
      gi_wp2
      refine ⟨⟨k + 1, _, _, _, _, _, _, _, _, q, _, by omega, ?_, rfl⟩, ?_⟩
      · rw [HE.out]
        exact HM.out
      · simp [RowKit.intOf]; omega
    case stop =>
      rintro D c1 f X hD hk1 ⟨rfl, hP, q', hk'⟩ hK
      have HE := Lib.hid (EYk.out hP)
      have HM := Lib.hid (hk'.mark (show b ≤ D by omega) hK)
      clear hk' hP
      gi_wp2
      refine ⟨⟨k + 1, _, _, _, _, _, _, _, _, q', _, by omega, ?_, rfl⟩, ?_⟩
      · rw [HE.out]
        exact HM.out
      · simp [RowKit.intOf]; omega
  · obtain rfl : k = l.length := by omega
    have q6 := hW.x6.cell
    obtain ⟨A6, c6, rfl⟩ := hW.row.shape
    obtain ⟨Ds, rfl, hnd, hDs⟩ := hW.dm
    have HD := Lib.hid hDs
    clear hW hDs
    gi_wp2
    refine leaves_marks (B := w.heap.size) (fun X => Row X w.heap.size (.slice A6 (O l.length).length c6) (O l.length) ∧ Below w.heap.size w X) ?_ ?_ Ds W hnd (fun D h => ⟨(HD.out D h).1.1, (HD.out D h).2⟩) ⟨HK.out.row, HK.out.bel⟩
    · rintro X D hB hK ⟨h1, h2⟩
      have hg := grownBy_putObj' X D (.deferred none)
      exact ⟨row_calmX h1 hg (fun r e => by cases e; exact ⟨_, hK, rfl⟩), h2.grown hg h2.size (fun r e => by cases e; exact hB)⟩
    · rintro X ⟨h1, h2⟩
      exact ⟨_, results_tmp rfl _ _ _, .slice A6 (O l.length).length c6, rfl, h1, h2⟩
end Go.Proofs.Ytfpjodoimfbadaa

namespace Go.Proofs.Ytfpjodoimfbadaa
open Go.RowKit
set_option linter.unusedVariables false

theorem asW_good {x y z W : Int} {l : List Int} : asW x y z W l = (goodB x y z && decide (1 ≤ W ∧ W ≤ 3) && risB (x * y * z) l) := by
  unfold asW
  cases goodB x y z <;> cases risB (x * y * z) l <;> simp
theorem wiA_len (x y z W : Int) (l : List Int) : (wiA x y z W l).length ≤ 4000000 := by
  unfold wiA
  split
  · rename_i h
    unfold asW at h
    simp only [Bool.and_eq_true, decide_eq_true_eq] at h
    obtain ⟨_, _, _, _, _, _, h7⟩ := good_true h.1.1
    have := sel_len (wiP x y W.toNat l (x * y * z).toNat) (x * y * z).toNat
    unfold wiL
    omega
  · simp

set_option maxHeartbeats 4000000 in
theorem c_isPitOf (x y z : Int) (xss : List (List Int)) (l : List Int) (v u : Value) (w : World) (hg : goodB x y z = true) (hsh : ShortL xss) (hl : l.length ≤ 4000000) (h : SeenL w v xss) (hs : Seen w u l) :
    Calls Try.prog 25 #[.agg #[.int .i64 x, .int .i64 y, .int .i64 z], v, u] w fun e w' => e = .returned (.bool (decide ((xss.length : Int) = x * y * z) && gB xss l)) ∧ Below w.heap.size w w' := by
  obtain ⟨g1, g2, g3, g4, g5, g6, g7⟩ := good_true hg
  have HB0 : Hid (Below w.heap.size w (w.alloc (.cells #[.int .i64 x, .int .i64 y, .int .i64 z] 29))) := (Below.refl _ _).alloc (Nat.le_refl _) _
  have C1 := Lib.hid (c_countBlocks x y z (w.alloc (.cells #[.int .i64 x, .int .i64 y, .int .i64 z] 29)) (by omega) g2 (by omega) g4 (by omega) g6)
  have C2 : Hid (∀ w1, Below w.heap.size w w1 → Calls Try.prog 41 #[v, u] w1 fun e w' => e = .returned (.bool (gB xss l)) ∧ Below w1.heap.size w1 w') := fun w1 hb => c_isClosed xss l v u w1 hsh hl (h.below hb) (hs.below hb)
  obtain ⟨A, c, rfl, hm⟩ := h.shape
  obtain ⟨A2, c2, rfl⟩ := hs.shape
  have hls := hsh.1
  clear h hs hm g1 g2 g3 g4 g5 g6 g7 hg
  generalize x * y * z = n at *
  generalize gB xss l = b at *
  by_cases he : (xss.length : Int) = n
  · rw [decide_eq_true he, Bool.true_and]
    go_enter Try.func25, Try.ntmps25
    go_wp2_with fail
    refine C1.out.mono ?_
    rintro e w1 ⟨rfl, hb⟩
    have HB1 := Lib.hid (HB0.out.trans (hb.mono HB0.out.size))
    clear hb
    go_wp2_with fail
    refine (C2.out _ HB1.out).mono ?_
    rintro e w2 ⟨rfl, hb⟩
    have HB2 := Lib.hid (HB1.out.trans (hb.mono HB1.out.size))
    clear hb
    go_wp2
    go_ret
    exact ⟨rfl, HB2.out⟩
  · rw [decide_eq_false he, Bool.false_and]
    go_enter Try.func25, Try.ntmps25
    go_wp2_with fail
    refine C1.out.mono ?_
    rintro e w1 ⟨rfl, hb⟩
    have HB1 := Lib.hid (HB0.out.trans (hb.mono HB0.out.size))
    clear hb
    go_wp2
    go_ret
    exact ⟨rfl, HB1.out⟩
end Go.Proofs.Ytfpjodoimfbadaa

namespace Go.Proofs.Ytfpjodoimfbadaa
open Go.RowKit
set_option linter.unusedVariables false

def lenV : Value → Nat
  | .slice _ n _ => n
  | _ => 0
theorem triA_len (x y z W : Int) (xss : List (List Int)) (l : List Int) : (triA x y z W xss l).length ≤ 4000000 := by
  unfold triA
  split
  · rename_i h
    obtain ⟨T, hg, _, _⟩ := tri_ok h
    have key : ∀ (n : Nat) (m : List Int), m.length ≤ n → m.length ≤ 120 → (trS x y z W.toNat xss m).length ≤ 120 := by
      intro n
      induction n with
      | zero =>
        intro m h0 h1
        rw [T.stop (by omega)]
        exact h1
      | succ n ih =>
        intro m h0 h1
        by_cases hm : (wiL x y z W.toNat m).length < m.length
        · rw [T.go hm]
          have := T.next_len m
          exact ih _ (by omega) (by omega)
        · rw [T.stop hm]
          exact h1
    have h1 := ris_len (gB_iff.1 hg).1.2 (by omega)
    have h2 := arc_len T.arcs
    have := key l.length l (Nat.le_refl _) (by omega)
    omega
  · simp
theorem triB_good {x y z W : Int} {xss : List (List Int)} {l : List Int} : triB x y z W xss l = (goodB x y z && decide (1 ≤ W ∧ W ≤ 3) && (decide ((xss.length : Int) = x * y * z) && gB xss l)) := by
  unfold triB
  cases goodB x y z <;> cases gB xss l <;> cases decide ((xss.length : Int) = x * y * z) <;> simp

end Go.Proofs.Ytfpjodoimfbadaa


namespace Go.Proofs.Ytfpjodoimfbadaa
open Go.RowKit
set_option linter.unusedVariables false

set_option maxHeartbeats 4000000 in
set_option maxRecDepth 100000 in
theorem c_phSquare (x y z i : Int) (d : Nat) (w : World) (hg : goodB x y z = true) (h0 : 0 ≤ i) (h1 : i < x * y * z) (hd : d ≤ 3) :
    Calls Try.prog 37 #[.agg #[.int .i64 x, .int .i64 y, .int .i64 z], .int .i64 i, .int .i64 d] w (GivesRow w (sqF x y d i)) := by
  obtain ⟨i0, hi0, hz0, hz1, hz2⟩ := info_parts int_info
  have HI := Lib.hid hi0
  clear hi0
  obtain ⟨x1, x2, y1, y2, z1, z2, p1, p2, q1, q2⟩ := good_box hg
  obtain ⟨⟨k1, k2⟩, ⟨k3, k4⟩, k5, k6⟩ := at_coords (X := x) (Y := y) (Z := z) x1 y1 h0 h1
  have hi3 : i ≤ 1000 := by have := (good_true hg).2.2.2.2.2.2; omega
  have HB0 : Hid (Below w.heap.size w (w.alloc (.cells #[.int .i64 x, .int .i64 y, .int .i64 z] 29))) := (Below.refl _ _).alloc (Nat.le_refl _) _
  have HG : Hid ((w.alloc (.cells #[.int .i64 x, .int .i64 y, .int .i64 z] 29)).heap[w.heap.size]? = some (.cells #[.int .i64 x, .int .i64 y, .int .i64 z] 29 (0, 0))) := World.alloc_heap_new _ _
  have CAt : Hid (∀ (a b : Nat) u, i % x + d ≤ x → i / x % y + d ≤ y → a < d → b < d → Calls Try.prog 52 #[.agg #[.int .i64 x, .int .i64 y, .int .i64 z], .int .i64 (i % x + b), .int .i64 (i / x % y + a), .int .i64 (i / x / y)] u fun e w' => e = .returned (.int .i64 (sqE x y (i % x) (i / x % y) (i / x / y) a b)) ∧ Below u.heap.size u w') := fun a b u f1 f2 ha hb => by
    have := c_grAt x y z (i % x + b) (i / x % y + a) (i / x / y) u x1 x2 y1 y2 z1 z2
    unfold atV at this
    rw [if_pos (by unfold inB; rw [decide_eq_true_eq]; omega)] at this
    exact this
  have W1 : Hid (∀ j : Nat, j ≤ 3 → IntKind.i64.wrap (i % x + (j : Int)) = i % x + j) := fun j hj => IntWalk.i64_in _ (by omega)
  have W2 : Hid (∀ j : Nat, j ≤ 3 → IntKind.i64.wrap (i / x % y + (j : Int)) = i / x % y + j) := fun j hj => IntWalk.i64_in _ (by omega)
  have E0 : Hid (sqL (sqE x y (i % x) (i / x % y) (i / x / y)) d 0 0 = []) := rfl
  have E1 : Hid (∀ a b, sqL (sqE x y (i % x) (i / x % y) (i / x / y)) d a (b + 1) = sqL (sqE x y (i % x) (i / x % y) (i / x / y)) d a b ++ [sqE x y (i % x) (i / x % y) (i / x / y) a b]) := fun i j => sq_next _ _ _ _
  have E2 : Hid (∀ a, sqL (sqE x y (i % x) (i / x % y) (i / x / y)) d a d = sqL (sqE x y (i % x) (i / x % y) (i / x / y)) d (a + 1) 0) := fun i => sq_row _ _ _
  have E4 : Hid (∀ a b, (sqL (sqE x y (i % x) (i / x % y) (i / x / y)) d a b).length = a * d + b) := fun i j => sq_len _ _ _ _
  have E5 : Hid (∀ a, a < d → a * d ≤ 6) := fun i hi => by
    show _ ≤ _
    have := Nat.mul_le_mul (show i ≤ 2 by omega) (show d ≤ 3 by omega)
    omega
  have EF : Hid (sqF x y d i = if i % x + d > x ∨ i / x % y + d > y then [] else sqL (sqE x y (i % x) (i / x % y) (i / x / y)) d d 0) := rfl
  have d1 := W1.out d hd
  have d2 := W2.out d hd
  go_enter Try.func37, Try.ntmps37
  go_wp2
  refine wp_region_grow (by kernel_rfl) (by kernel_rfl) ?_
  repeat (go_big_quiet_step (first
    | (go_at_call 49; exact grow_of (c_grX _ _ _ _ _ x1 x2 h0 hi3))
    | (go_at_call 50; exact grow_of (c_grY _ _ _ _ _ x1 x2 y1 y2 h0 hi3))
    | (go_at_call 51; exact grow_of (c_grZ _ _ _ _ _ x1 x2 y1 y2 h0 hi3))))
  refine wpQuiet_nil ?_
  intro _ hw'
  obtain ⟨u, hw''⟩ := hw'
  subst hw''
  have hb := wOf_below (w.alloc (.cells #[.int .i64 x, .int .i64 y, .int .i64 z] 29)) u
  generalize wOf (w.alloc (.cells #[.int .i64 x, .int .i64 y, .int .i64 z] 29)) u = w1 at hb ⊢
  have HB1 : Hid (Below w.heap.size w w1) := HB0.out.trans (hb.mono HB0.out.size)
  have HG1 : Hid (w1.heap[w.heap.size]? = some (.cells #[.int .i64 x, .int .i64 y, .int .i64 z] 29 (0, 0))) := (hb.block _ (Array.getElem?_eq_some_iff.1 HG.out).1).trans HG.out
  have XX : Hid (∀ u, Below w1.heap.size w1 u → u.cell? ⟨w.heap.size, 0, none⟩ = some (.int .i64 x) ∧ u.cell? ⟨w.heap.size, 1, none⟩ = some (.int .i64 y) ∧ u.cell? ⟨w.heap.size, 2, none⟩ = some (.int .i64 z)) := fun u hu => by
    have h1 := (hu.block _ (Array.getElem?_eq_some_iff.1 HG1.out).1).trans HG1.out
    simp [World.cell?, h1]
  obtain ⟨v0, v1, v2⟩ := XX.out w1 (Below.refl _ _)
  clear hb HG HB0 HG1 k1 k2 k3 k4 k5 k6 p1 p2 q1 q2 h0 h1 hi3 hg
  generalize sqE x y (i % x) (i / x % y) (i / x / y) = E at *
  generalize sqL E d = Q at *
  generalize i % x = px at *
  generalize i / x % y = py at *
  generalize i / x / y = pz at *
  by_cases f1 : px + (d : Int) > x
  · have HE : Hid (sqF x y d i = []) := by show _ = _; rw [EF.out, if_pos (.inl f1)]
    go_wp2
    go_ret
    exact ⟨.slice none 0 0, rfl, by rw [HE.out]; exact Row.nil _ _, HB1.out⟩
  · by_cases f2 : py + (d : Int) > y
    · have HE : Hid (sqF x y d i = []) := by show _ = _; rw [EF.out, if_pos (.inr f2)]
      go_wp2
      go_ret
      exact ⟨.slice none 0 0, rfl, by rw [HE.out]; exact Row.nil _ _, HB1.out⟩
    · have HE : Hid (sqF x y d i = Q d 0) := by show _ = _; rw [EF.out, if_neg (by omega)]
      clear EF
      obtain ⟨N, hN⟩ : ∃ N, w1.heap.size = N := ⟨_, rfl⟩
      have HNx := Lib.hid hN
      have hNw : w.heap.size ≤ N := by have := HB1.out.size; omega
      have f1' : px + (d : Int) ≤ x := by omega
      have f2' : py + (d : Int) ≤ y := by omega
      clear hN
      go_wp2_with fail
      clear v0 v1 v2
      go_loopw [10, 11] (fun q i wr => ∃ k : Nat, k ≤ d ∧ i = .int .i64 k ∧ Row wr N q (Q k 0) ∧ Below N w1 wr) (fun _ i _ => d - (RowKit.intOf i).toNat)
      case atStart => exact ⟨0, Nat.zero_le _, rfl, by rw [E0.out]; exact Row.nil _ _, Below.refl _ _⟩
      case round =>
        obtain ⟨k, hk, rfl, hrw, hb⟩ := hrel
        have HR := Lib.hid hrw
        have HB := Lib.hid hb
        clear hrw hb
        by_cases hlt : k < d
        · have b2 : (k : Int) < (d : Int) := by omega
          go_wp2_with fail
          go_loopw [10, 12] (fun q i ws => ∃ j : Nat, j ≤ d ∧ i = .int .i64 j ∧ Row ws N q (Q k j) ∧ Below N w1 ws) (fun _ i _ => d - (RowKit.intOf i).toNat)
          case atStart => exact ⟨0, Nat.zero_le _, rfl, HR.out, HB.out⟩
          case round =>
            obtain ⟨j, hj, rfl, hrw, hb⟩ := hrel
            have HR := Lib.hid hrw
            have HB := Lib.hid hb
            clear hrw hb
            by_cases hlj : j < d
            · have b3 : (j : Int) < (d : Int) := by omega
              obtain ⟨y0, y1, y2⟩ := XX.out wr (by rw [HNx.out]; exact HB.out)
              have v1 := W1.out j (by omega)
              have v2 := W2.out k (by omega)
              have hq1 := Lib.hid (E1.out k j)
              have hln : (Q k j).length ≤ 9 := by have := E4.out k j; have := E5.out k hlt; omega
              have hC := Lib.hid (CAt.out k j wr f1' f2' hlt hlj)
              generalize E k j = t at *
              go_wp2_with fail
              refine hC.out.mono ?_
              rintro e w4 ⟨rfl, hb4⟩
              have sx := HB.out.size
              have sn := HNx.out
              have HB4 : Hid (Below N w1 w4) := HB.out.trans (hb4.mono (by omega))
              have HR4 := Lib.hid (HR.out.below hb4)
              have sw4 : N ≤ w4.heap.size := by have := HB4.out.size; omega
              clear hb4 y0 y1 y2
              go_wp2_with (at_builtin; refine wpList_append_own _ rfl _ _ 25 rfl N 3 i0 (.int .i64 0) 1 8 Try.underlying25 HI.out hz0 hz1 hz2 rfl (by decide) _ _ _ rfl (World.ownsRow.alloc HR4.out _) ⟨w4.heap.size, 0, none⟩ 1 1 [.int .i64 t] rfl rfl ?c1 ?c2 ?c3 ?c4 ?c5 ?_)
              case c1 =>
                intro jj u hjj
                match jj, hjj with
                | 0, hjj => simp at hjj; subst hjj; simp [Addr.add]
              case c2 => intro u hu; simp at hu; subst hu; rfl
              case c3 => unfold maxLen; omega
              case c4 => omega
              case c5 => simp; omega
              intro v' w5 hown' hgrow _
              have R1 : Hid (Row w5 N v' (Q k (j + 1))) := by rw [hq1.out]; exact row_more hown'
              have R2 : Hid (Below N w1 w5) := (HB4.out.alloc sw4 _).grown hgrow (by simp; omega) (fun g hg => (World.ownsRow.lt HR4.out g hg).1)
              clear hown' hgrow
              go_wp2
              go_roundw
              case rel => exact ⟨j + 1, by omega, by go_num, R1.out, R2.out⟩
              case measure => simp [RowKit.intOf]; omega
            · obtain rfl : j = d := by omega
              have G := Lib.hid HR.out
              rw [E2.out] at G
              go_wp2
              go_roundw
              case rel => exact ⟨k + 1, by omega, by go_num, G.out, HB.out⟩
              case measure => simp [RowKit.intOf]; omega
        · obtain rfl : k = d := by omega
          go_wp2
          go_ret
          exact ⟨u10, rfl, by rw [HE.out]; exact HR.out.mono hNw, HB1.out.trans (HB.out.mono hNw)⟩

theorem sqF_len (x y : Int) (d : Nat) (f : Int) : (sqF x y d f).length ≤ d * d := by
  unfold sqF
  split
  · simp
  · rw [sqB_len]; exact Nat.le_refl _
theorem sqF_in {x y z : Int} {d : Nat} {f : Int} (hx : 1 ≤ x) (hy : 1 ≤ y) (h0 : 0 ≤ f) (h1 : f < x * y * z) : InN (x * y * z).toNat (sqF x y d f) := by
  obtain ⟨⟨k1, k2⟩, ⟨k3, k4⟩, k5, k6⟩ := at_coords (X := x) (Y := y) (Z := z) hx hy h0 h1
  unfold sqF
  split
  · intro k hk; cases hk
  · exact sqB_in k1 (by omega) k3 (by omega) k5 k6
/-- All of the first t of a square are in the list. -/
def goT (l sq : List Int) (t : Nat) : Bool := decide (0 < sq.length) && (sq.take t).all (inL l)
theorem goT_succ {l sq : List Int} {t : Nat} (h : t < sq.length) : goT l sq (t + 1) = (goT l sq t && inL l (sq.getD t 0)) := by
  unfold goT
  rw [List.take_succ_eq_append_getElem h, List.all_append, show sq.getD t 0 = sq[t] by simp [h]]
  simp [Bool.and_assoc]
/-- Marks, and those of the first t of a square if b. -/
def wiT (p : Int → Bool) (b : Bool) (sq : List Int) (t : Nat) : Int → Bool := fun k => p k || (b && (sq.take t).contains k)
theorem wiT_zero (p : Int → Bool) (b : Bool) (sq : List Int) : wiT p b sq 0 = p := by funext k; simp [wiT]
theorem wiT_put {p : Int → Bool} {b : Bool} {sq : List Int} {t i : Nat} (h : t < sq.length) (hi : sq.getD t 0 = (i : Int)) (j : Nat) : wiT p b sq (t + 1) (j : Int) = if j = i then (wiT p b sq t i || b) else wiT p b sq t j := by
  unfold wiT
  have e : sq[t] = (i : Int) := by rw [← hi]; simp [h]
  rw [List.take_succ_eq_append_getElem h, e]
  simp only [List.contains_eq_mem, List.mem_append, List.mem_singleton, Bool.decide_or]
  by_cases hj : j = i
  · subst hj
    rw [if_pos rfl]
    cases p (j : Int) <;> cases b <;> simp
  · have : ¬ ((j : Int) = (i : Int)) := by omega
    rw [if_neg hj, decide_eq_false this, Bool.or_false]

set_option maxHeartbeats 8000000 in
set_option maxRecDepth 100000 in
theorem c_phWide (x y z : Int) (d : Nat) (l : List Int) (u : Value) (w : World) (hg : goodB x y z = true) (hd : d ≤ 3) (hr : InN (x * y * z).toNat l) (hl : l.length ≤ 4000000) (hs : Seen w u l) :
    Calls Try.prog 19 #[.agg #[.int .i64 x, .int .i64 y, .int .i64 z], u, .int .i64 d] w (GivesRow w (wiL x y z d l)) := by
  obtain ⟨i0, hi0, hz0, hz1, hz2⟩ := info_parts bool_info
  obtain ⟨x1, x2, y1, y2, z1, z2, p1, p2, q1, q2⟩ := good_box hg
  have hp := (good_true hg).2.2.2.2.2.2
  have hpos : 1 ≤ x * y * z := by
    have h1 : 1 * 1 ≤ x * y := Int.mul_le_mul x1 y1 (by omega) (by omega)
    have h2 : 1 * 1 ≤ x * y * z := Int.mul_le_mul (by omega) z1 (by omega) (by omega)
    omega
  have HB0 : Hid (Below w.heap.size w (w.alloc (.cells #[.int .i64 x, .int .i64 y, .int .i64 z] 29))) := (Below.refl _ _).alloc (Nat.le_refl _) _
  have HG : Hid ((w.alloc (.cells #[.int .i64 x, .int .i64 y, .int .i64 z] 29)).heap[w.heap.size]? = some (.cells #[.int .i64 x, .int .i64 y, .int .i64 z] 29 (0, 0))) := World.alloc_heap_new _ _
  have XX : Hid (∀ u, Below (w.alloc (.cells #[.int .i64 x, .int .i64 y, .int .i64 z] 29)).heap.size (w.alloc (.cells #[.int .i64 x, .int .i64 y, .int .i64 z] 29)) u → u.cell? ⟨w.heap.size, 0, none⟩ = some (.int .i64 x) ∧ u.cell? ⟨w.heap.size, 1, none⟩ = some (.int .i64 y) ∧ u.cell? ⟨w.heap.size, 2, none⟩ = some (.int .i64 z)) := fun u hu => by
    have h1 := (hu.block _ (Array.getElem?_eq_some_iff.1 HG.out).1).trans HG.out
    simp [World.cell?, h1]
  obtain ⟨N, hN⟩ : ∃ N, (x * y * z).toNat = N := ⟨_, rfl⟩
  have hNi : (N : Int) = x * y * z := by omega
  have CN : Hid (∀ u, Calls Try.prog 32 #[.agg #[.int .i64 x, .int .i64 y, .int .i64 z]] u fun e w' => e = .returned (.int .i64 (N : Nat)) ∧ Below u.heap.size u w') := fun u => by rw [hNi]; exact c_grCount x y z u (by omega) x2 (by omega) y2 (by omega) z2
  have hN0 : 0 < N := by omega
  have hN1 : N ≤ 120 := by omega
  rw [hN] at hr
  have CM : Hid (∀ w1, Below w.heap.size w w1 → Calls Try.prog 36 #[.int .i64 N, u] w1 fun e w' => e = .returned (.slice (some ⟨w1.heap.size, 0, none⟩) N N) ∧ MarkB w' w1.heap.size N (inL l) ∧ Below w1.heap.size w1 w') := fun w1 hb => c_clMarks N l u w1 hN0 (by omega) hl hr (hs.below hb)
  have CQ : Hid (∀ (k : Nat) w1, k < N → Calls Try.prog 37 #[.agg #[.int .i64 x, .int .i64 y, .int .i64 z], .int .i64 k, .int .i64 d] w1 (GivesRow w1 (sqF x y d k))) := fun k w1 hk => c_phSquare x y z k d w1 hg (by omega) (by omega) hd
  have CL : Hid (∀ (g : Nat) (p : Int → Bool) w1, MarkB w1 g N p → Calls Try.prog 38 #[.slice (some ⟨g, 0, none⟩) N N] w1 (GivesRow w1 (sel p N))) := fun g p w1 h => c_clList g N p w1 (by omega) h
  have HMK : Hid (∀ u : World, (Instr.makeSlice 54 (.int .i64 (N : Int)) (.int .i64 (N : Int))).run Try.prog u = .ok (.slice (some ⟨u.heap.size, 0, none⟩) N N) (u.alloc (.cells (madeCells #[.bool false] N) 4))) := fun u => by
    have := run_make (P := Try.prog) u 54 4 i0 (.bool false) Try.underlying54 hi0 hz0 .i64 .i64 (N : Int) (N : Int) (by omega) (by omega) (by rw [hz2]; omega) (by omega)
    simpa [hz1, Value.cells] using this
  have HQ : Hid (∀ k : Nat, k < N → InN N (sqF x y d k) ∧ (sqF x y d k).length ≤ 9) := fun k hk => ⟨by rw [← hN]; exact sqF_in x1 y1 (by omega) (by omega), by have := sqF_len x y d k; have := Nat.mul_le_mul hd hd; omega⟩
  have HW : Hid (wiL x y z d l = sel (wiP x y d l N) N) := by show _ = _; unfold wiL; rw [hN]
  have E0 : Hid (wiP x y d l 0 = fun _ => false) := rfl
  have ES : Hid (∀ k : Nat, wiT (wiP x y d l k) (goT l (sqF x y d k) (sqF x y d k).length) (sqF x y d k) (sqF x y d k).length = wiP x y d l (k + 1)) := fun k => by
    show _ = _
    funext j
    rw [wi_next]
    unfold wiT goT goF inL
    rw [List.take_length]
  rw [HW.out]
  obtain ⟨A, c, rfl⟩ := hs.shape
  clear hs hr hi0 hz0 hz1 hz2 p1 p2 q1 q2 hp hpos HG hN hNi HW hg x1 x2 y1 y2 z1 z2
  generalize wiP x y d l = P at *
  obtain ⟨SQ, hSQ⟩ : ∃ SQ : Nat → List Int, (fun k : Nat => sqF x y d k) = SQ := ⟨_, rfl⟩
  have HSQ : Hid (∀ k : Nat, sqF x y d k = SQ k) := fun k => congrFun hSQ k
  simp only [HSQ.out] at CQ HQ ES
  clear hSQ HSQ
  obtain ⟨⟨v0, v1, v2⟩⟩ : Nonempty (_ ∧ _ ∧ _) := ⟨XX.out _ (Below.refl _ _)⟩
  go_enter Try.func19, Try.ntmps19
  go_wp2_with fail
  refine (CN.out _).mono ?_
  rintro e w1 ⟨rfl, hb⟩
  have HB1 := Lib.hid (HB0.out.trans (hb.mono HB0.out.size))
  have HX1 := Lib.hid hb
  clear hb v0 v1 v2
  go_wp2_with fail
  refine (CM.out _ HB1.out).mono ?_
  rintro e w2 ⟨rfl, hm, hb⟩
  have HB2 := Lib.hid (HB1.out.trans (hb.mono HB1.out.size))
  have HX2 := Lib.hid (HX1.out.trans (hb.mono HX1.out.size))
  have HM2 := Lib.hid hm
  have hml := hm.lt hN0
  obtain ⟨gm, hgm⟩ : ∃ gm, w1.heap.size = gm := ⟨_, rfl⟩
  rw [hgm] at hml HM2 ⊢
  have hgw : w.heap.size ≤ gm := by have := HB1.out.size; omega
  obtain ⟨v0, v1, v2⟩ := XX.out w2 HX2.out
  clear hb hm hgm
  go_wp2_with fail
  refine (CN.out _).mono ?_
  rintro e w3 ⟨rfl, hb⟩
  have HB3 := Lib.hid (HB2.out.trans (hb.mono HB2.out.size))
  have HX3 := Lib.hid (HX2.out.trans (hb.mono HX2.out.size))
  have HM3 := Lib.hid (HM2.out.below hb hml)
  have hmk := HMK.out w3
  have hw3 : gm < w3.heap.size := by have := hb.size; omega
  obtain ⟨gw, hgw3⟩ : ∃ gw, w3.heap.size = gw := ⟨_, rfl⟩
  have HB4 : Hid (Below w.heap.size w (w3.alloc (.cells (madeCells #[.bool false] N) 4))) := HB3.out.alloc HB3.out.size _
  have HX4 : Hid (Below (w.alloc (.cells #[.int .i64 x, .int .i64 y, .int .i64 z] 29)).heap.size (w.alloc (.cells #[.int .i64 x, .int .i64 y, .int .i64 z] 29)) (w3.alloc (.cells (madeCells #[.bool false] N) 4))) := HX3.out.alloc HX3.out.size _
  have HM4 : Hid (MarkB (w3.alloc (.cells (madeCells #[.bool false] N) 4)) gm N (inL l)) := HM3.out.below ((Below.refl w3.heap.size w3).alloc (Nat.le_refl _) _) hw3
  have HW4 : Hid (MarkB (w3.alloc (.cells (madeCells #[.bool false] N) 4)) gw N (P 0)) := by
    rw [← hgw3]
    have := MarkB.new w3 N (by unfold maxLen; omega)
    rw [E0.out]
    exact this
  rw [hgw3] at hmk hw3
  have hwz : (w3.alloc (.cells (madeCells #[.bool false] N) 4)).heap.size = gw + 1 := by simp [hgw3]
  clear hb v0 v1 v2 HB3 HX3 HM3 HMK hgw3
  go_wp2_with fail
  clear hmk
  generalize (w3.alloc (.cells (madeCells #[.bool false] N) 4)) = w4 at *
  go_loopw [25] (fun i wr => ∃ k : Nat, k ≤ N ∧ i = .int .i64 k ∧ MarkB wr gm N (inL l) ∧ MarkB wr gw N (P k) ∧ Below w.heap.size w wr ∧ Below (w.alloc (.cells #[.int .i64 x, .int .i64 y, .int .i64 z] 29)).heap.size (w.alloc (.cells #[.int .i64 x, .int .i64 y, .int .i64 z] 29)) wr ∧ gw < wr.heap.size) (fun i _ => N - (RowKit.intOf i).toNat)
  case atStart => exact ⟨0, Nat.zero_le _, rfl, HM4.out, HW4.out, HB4.out, HX4.out, by omega⟩
  case round =>
    obtain ⟨k, hk, rfl, hm, hw, hb, hx, hz⟩ := hrel
    have HM := Lib.hid hm
    have HW := Lib.hid hw
    have HB := Lib.hid hb
    have HX := Lib.hid hx
    clear hm hw hb hx
    by_cases hlt : k < N
    · have b2 : (k : Int) < (N : Int) := by omega
      obtain ⟨v0, v1, v2⟩ := XX.out wr HX.out
      go_wp2_with fail
      refine (CQ.out k _ hlt).mono ?_
      rintro e w5 ⟨vq, rfl, hq, hb⟩
      have HB5 := Lib.hid (HB.out.trans (hb.mono HB.out.size))
      have HX5 := Lib.hid (HX.out.trans (hb.mono HX.out.size))
      have HM5 := Lib.hid (HM.out.below hb (by omega))
      have HW5 := Lib.hid (HW.out.below hb hz)
      have hz5 : gw < w5.heap.size := Nat.lt_of_lt_of_le hz hb.size
      have HQ5 := Lib.hid hq.seen
      obtain ⟨⟨Aq, cq, eq⟩⟩ : Nonempty _ := ⟨hq.shape⟩
      subst eq
      obtain ⟨hqi, hql⟩ := HQ.out k hlt
      have HQI := Lib.hid hqi
      have HESk := Lib.hid (ES.out k)
      have hqb : Hid (∀ t, (SQ k).length = t → Row w5 wr.heap.size (.slice Aq t cq) (SQ k)) := fun t ht => by rw [← ht]; exact hq
      have HRQ := Lib.hid hq
      have HQG : Hid (∀ bq oq, Aq = some ⟨bq, oq, none⟩ → gw < bq) := fun bq oq e => by
        subst e
        have := (World.ownsRow.lt hq bq rfl).1
        exact Nat.lt_of_lt_of_le hz this
      clear hq hb hqi v0 v1 v2
      have HG0 : Hid (goT l (SQ k) 0 = decide (0 < (SQ k).length)) := by show _ = _; unfold goT; simp
      have HGS : Hid (∀ t, t < (SQ k).length → goT l (SQ k) (t + 1) = (goT l (SQ k) t && inL l ((SQ k).getD t 0))) := fun t ht => goT_succ ht
      have HW0 : Hid (∀ p b, wiT p b (SQ k) 0 = p) := fun p b => wiT_zero p b _
      have HWS : Hid (∀ (p : Int → Bool) (b : Bool) (t i : Nat), t < (SQ k).length → (SQ k).getD t 0 = (i : Int) → ∀ j : Nat, wiT p b (SQ k) (t + 1) (j : Int) = if j = i then (wiT p b (SQ k) t i || b) else wiT p b (SQ k) t j) := fun p b t i ht hi j => wiT_put ht hi j
      have EC : Hid (∀ t, t < (SQ k).length → 0 ≤ (SQ k).getD t 0 ∧ (SQ k).getD t 0 < (N : Int)) := fun t ht => HQI.out _ (getD_memN ht)
      obtain ⟨nq, hnq⟩ : ∃ nq, (SQ k).length = nq := ⟨_, rfl⟩
      rw [hnq] at hql HESk HG0 HGS HWS EC HQ5 ⊢
      have HNQ := Lib.hid hnq
      clear hnq hqb HRQ
      go_wp2_with fail
      rw [← HG0.out]
      go_loop [11, 37] (fun b i => ∃ t : Nat, t ≤ nq ∧ b = .bool (goT l (SQ k) t) ∧ i = .int .i64 t) (fun _ i => nq - (RowKit.intOf i).toNat)
      case atStart => exact ⟨0, Nat.zero_le _, rfl, rfl⟩
      case round =>
        obtain ⟨t, ht, rfl, rfl⟩ := hrel
        by_cases htl : t < nq
        · have b3 : (t : Int) < (nq : Int) := by omega
          have b4 : (0 : Int) ≤ (t : Int) := by omega
          have hSq := HQ5.out
          obtain ⟨r0, r1⟩ := EC.out t htl
          have HGSt := Lib.hid (HGS.out t htl)
          have hat : ∃ bq oq, Aq = some ⟨bq, oq, none⟩ ∧ w5.cell? ⟨bq, oq + t, none⟩ = some (.int .i64 ((SQ k).getD t 0)) := by
            rw [← HNQ.out] at hSq
            obtain ⟨bq, oq, e, _, h0⟩ := hSq.at2 (show t < (SQ k).length by rw [HNQ.out]; exact htl)
            exact ⟨bq, oq, e, h0⟩
          obtain ⟨bq, oq, rfl, q0⟩ := hat
          generalize (SQ k).getD t 0 = s at *
          obtain ⟨i, rfl⟩ := Int.eq_ofNat_of_zero_le r0
          have q1 := HM5.out.cell i (by omega)
          clear hSq
          cases hb : goT l (SQ k) t
          · rw [hb, Bool.false_and] at HGSt
            go_wp2
            go_round
            case rel => exact ⟨t + 1, by omega, by rw [HGSt.out], by go_num⟩
            case measure => simp [RowKit.intOf]; omega
          · rw [hb, Bool.true_and] at HGSt
            generalize inL l (i : Int) = pv at *
            go_wp2
            go_round
            case rel => exact ⟨t + 1, by omega, by rw [HGSt.out], by go_num⟩
            case measure => simp [RowKit.intOf]; omega
        · obtain rfl : t = nq := by omega
          obtain ⟨al, hal⟩ : ∃ al, goT l (SQ k) t = al := ⟨_, rfl⟩
          rw [hal] at HESk ⊢
          clear HG0 HGS hal
          go_wp2_with fail
          have HW5' : Hid (MarkB w5 gw N (wiT (P k) al (SQ k) 0)) := by rw [HW0.out]; exact HW5.out
          go_loopw [51] (fun i wr => ∃ s : Nat, s ≤ t ∧ i = .int .i64 s ∧ MarkB wr gw N (wiT (P k) al (SQ k) s) ∧ w5.grownBy wr (some gw)) (fun i _ => t - (RowKit.intOf i).toNat)
          case atStart => exact ⟨0, Nat.zero_le _, rfl, HW5'.out, World.grownBy.refl _ _⟩
          case round =>
            obtain ⟨s, hs, rfl, hmw, hgr⟩ := hrel
            have HMW := Lib.hid hmw
            have HGR := Lib.hid hgr
            clear hmw hgr
            by_cases hsl : s < t
            · have b3 : (s : Int) < (t : Int) := by omega
              have b4 : (0 : Int) ≤ (s : Int) := by omega
              have hSq := HQ5.out
              obtain ⟨r0, r1⟩ := EC.out s hsl
              have hat : ∃ bq oq, Aq = some ⟨bq, oq, none⟩ ∧ wr.cell? ⟨bq, oq + s, none⟩ = some (.int .i64 ((SQ k).getD s 0)) := by
                rw [← HNQ.out] at hSq
                obtain ⟨bq, oq, e, hlt2, h0⟩ := hSq.at2 (show s < (SQ k).length by rw [HNQ.out]; exact hsl)
                refine ⟨bq, oq, e, ?_⟩
                rw [cell_kept HGR.out hlt2 (fun e2 => ?_)]
                · exact h0
                · have h1 := HQG.out bq oq e
                  have h2 := Option.some.inj e2
                  have h3 : bq = gw := h2
                  omega
              obtain ⟨bq, oq, rfl, q0⟩ := hat
              have HWSs := Lib.hid (fun i hi => HWS.out (P k) al s i hsl hi)
              generalize (SQ k).getD s 0 = sv at *
              obtain ⟨i, rfl⟩ := Int.eq_ofNat_of_zero_le r0
              have hiN : i < N := by omega
              have q1 := HMW.out.cell i hiN
              have q2 := HMW.out.frozen i
              have N1 := Lib.hid (HMW.out.put (q := wiT (P k) al (SQ k) (s + 1)) (b := wiT (P k) al (SQ k) s (i : Int) || al) hiN (fun j _ => HWSs.out i rfl j))
              have N2 := Lib.hid (HGR.out.trans N1.out.2)
              clear hSq
              cases hb : wiT (P k) al (SQ k) s (i : Int)
              · rw [hb, Bool.false_or] at N1 N2
                rw [hb] at q1
                go_wp2
                go_roundw
                case rel => exact ⟨s + 1, by omega, by go_num, N1.out.1, N2.out⟩
                case measure => simp [RowKit.intOf]; omega
              · rw [hb, Bool.true_or] at N1 N2
                rw [hb] at q1
                go_wp2
                go_roundw
                case rel => exact ⟨s + 1, by omega, by go_num, N1.out.1, N2.out⟩
                case measure => simp [RowKit.intOf]; omega
            · obtain rfl : s = t := by omega
              have HWN : Hid (MarkB wr gw N (P (k + 1))) := by rw [← HESk.out]; exact HMW.out
              have sg := HGR.out.size
              have HMN : Hid (MarkB wr gm N (inL l)) := HM5.out.kept HGR.out (by omega) (fun e => by have := Option.some.inj e; omega)
              have HBN : Hid (Below w.heap.size w wr) := HB5.out.grown HGR.out HB5.out.size (fun g e => by cases e; omega)
              have HXN : Hid (Below (w.alloc (.cells #[.int .i64 x, .int .i64 y, .int .i64 z] 29)).heap.size (w.alloc (.cells #[.int .i64 x, .int .i64 y, .int .i64 z] 29)) wr) := HX5.out.grown HGR.out HX5.out.size (fun g e => by cases e; simp; omega)
              go_wp2
              go_roundw
              case rel => exact ⟨k + 1, by omega, by go_num, HMN.out, HWN.out, HBN.out, HXN.out, by omega⟩
              case measure => simp [RowKit.intOf]; omega
    · obtain rfl : k = N := by omega
      go_wp2_with fail
      refine (CL.out _ _ _ HW.out).mono ?_
      rintro e w5 ⟨vq, rfl, hq, hb⟩
      have HQ5 := Lib.hid (hq.mono HB.out.size)
      have HB5 := Lib.hid (HB.out.trans (hb.mono HB.out.size))
      obtain ⟨A5, c5, rfl⟩ := hq.shape
      clear hq hb
      go_wp2
      go_ret
      exact ⟨_, rfl, HQ5.out, HB5.out⟩
end Go.Proofs.Ytfpjodoimfbadaa

namespace Go.Proofs.Ytfpjodoimfbadaa
open Go.RowKit
set_option linter.unusedVariables false

theorem asW_true {x y z W : Int} {l : List Int} (h : asW x y z W l = true) : goodB x y z = true ∧ risB (x * y * z) l = true ∧ 1 ≤ W ∧ W ≤ 3 := by
  unfold asW at h
  simp only [Bool.and_eq_true, decide_eq_true_eq] at h
  exact ⟨h.1.1, h.1.2, h.2⟩

set_option maxHeartbeats 4000000 in
theorem c_phPit (x y z W : Int) (xss : List (List Int)) (l : List Int) (v u : Value) (w : World) (hsh : ShortL xss) (hl : l.length ≤ 4000000) (h : SeenL w v xss) (hs : Seen w u l) :
    Calls Try.prog 16 #[.agg #[.int .i64 x, .int .i64 y, .int .i64 z], v, u, .int .i64 W] w fun e w' => e = .returned (.bool (triB x y z W xss l)) ∧ Below w.heap.size w w' := by
  have HB0 : Hid (Below w.heap.size w (w.alloc (.cells #[.int .i64 x, .int .i64 y, .int .i64 z] 29))) := (Below.refl _ _).alloc (Nat.le_refl _) _
  have HG : Hid ((w.alloc (.cells #[.int .i64 x, .int .i64 y, .int .i64 z] 29)).heap[w.heap.size]? = some (.cells #[.int .i64 x, .int .i64 y, .int .i64 z] 29 (0, 0))) := World.alloc_heap_new _ _
  have XX : Hid (∀ u, Below (w.alloc (.cells #[.int .i64 x, .int .i64 y, .int .i64 z] 29)).heap.size (w.alloc (.cells #[.int .i64 x, .int .i64 y, .int .i64 z] 29)) u → u.cell? ⟨w.heap.size, 0, none⟩ = some (.int .i64 x) ∧ u.cell? ⟨w.heap.size, 1, none⟩ = some (.int .i64 y) ∧ u.cell? ⟨w.heap.size, 2, none⟩ = some (.int .i64 z)) := fun u hu => by
    have h1 := (hu.block _ (Array.getElem?_eq_some_iff.1 HG.out).1).trans HG.out
    simp [World.cell?, h1]
  have C1 := Lib.hid (c_grGood x y z (w.alloc (.cells #[.int .i64 x, .int .i64 y, .int .i64 z] 29)))
  have C3 : Hid (∀ w1, Below w.heap.size w w1 → Calls Try.prog 33 #[v, u] w1 fun e w' => e = .returned (.bool (gB xss l)) ∧ Below w1.heap.size w1 w') := fun w1 hb => c_clGood xss l v u w1 hsh hl (h.below hb) (hs.below hb)
  have C4 : Hid (∀ u, Calls Try.prog 34 #[.int .i64 W, .int .i64 1, .int .i64 3] u fun e w' => e = .returned (.bool (decide (1 ≤ W ∧ W ≤ 3))) ∧ u = w') := fun u => c_l1In W 1 3 u
  obtain ⟨A, c, rfl, _⟩ := h.shape
  obtain ⟨A2, c2, rfl⟩ := hs.shape
  have hls := hsh.1
  unfold triB
  clear HG h hs
  cases hg : goodB x y z
  · rw [hg] at C1
    rw [Bool.false_and, Bool.false_and, Bool.false_and]
    go_enter Try.func16, Try.ntmps16
    go_wp2_with fail
    refine C1.out.mono ?_
    rintro e w1 ⟨rfl, hb⟩
    have HB1 := Lib.hid (HB0.out.trans (hb.mono HB0.out.size))
    clear hb
    go_wp2
    go_ret
    exact ⟨rfl, HB1.out⟩
  · obtain ⟨x1, x2, y1, y2, z1, z2, p1, p2, q1, q2⟩ := good_box hg
    rw [hg] at C1
    rw [Bool.true_and]
    have C2 : Hid (∀ u, Calls Try.prog 32 #[.agg #[.int .i64 x, .int .i64 y, .int .i64 z]] u fun e w' => e = .returned (.int .i64 (x * y * z)) ∧ Below u.heap.size u w') := fun u => c_grCount x y z u (by omega) x2 (by omega) y2 (by omega) z2
    clear x1 x2 y1 y2 z1 z2 p1 p2 q1 q2
    generalize x * y * z = n at *
    generalize decide (1 ≤ W ∧ W ≤ 3) = D at *
    generalize gB xss l = G at *
    by_cases he : (xss.length : Int) = n
    · rw [decide_eq_true he, Bool.true_and]
      cases G
      · rw [Bool.false_and]
        go_enter Try.func16, Try.ntmps16
        go_wp2_with fail
        refine C1.out.mono ?_
        rintro e w1 ⟨rfl, hb⟩
        have HB1 := Lib.hid (HB0.out.trans (hb.mono HB0.out.size))
        obtain ⟨v0, v1, v2⟩ := XX.out w1 hb
        clear hb
        go_wp2_with fail
        refine (C2.out _).mono ?_
        rintro e w2 ⟨rfl, hb⟩
        have HB2 := Lib.hid (HB1.out.trans (hb.mono HB1.out.size))
        clear hb v0 v1 v2
        go_wp2_with fail
        refine (C3.out _ HB2.out).mono ?_
        rintro e w3 ⟨rfl, hb⟩
        have HB3 := Lib.hid (HB2.out.trans (hb.mono HB2.out.size))
        clear hb
        go_wp2
        go_ret
        exact ⟨rfl, HB3.out⟩
      · rw [Bool.true_and]
        go_enter Try.func16, Try.ntmps16
        go_wp2_with fail
        refine C1.out.mono ?_
        rintro e w1 ⟨rfl, hb⟩
        have HB1 := Lib.hid (HB0.out.trans (hb.mono HB0.out.size))
        obtain ⟨v0, v1, v2⟩ := XX.out w1 hb
        clear hb
        go_wp2_with fail
        refine (C2.out _).mono ?_
        rintro e w2 ⟨rfl, hb⟩
        have HB2 := Lib.hid (HB1.out.trans (hb.mono HB1.out.size))
        clear hb v0 v1 v2
        go_wp2_with fail
        refine (C3.out _ HB2.out).mono ?_
        rintro e w3 ⟨rfl, hb⟩
        have HB3 := Lib.hid (HB2.out.trans (hb.mono HB2.out.size))
        clear hb
        go_wp2_with fail
        refine (C4.out _).mono ?_
        rintro e w4 ⟨rfl, rfl⟩
        go_wp2
        go_ret
        exact ⟨rfl, HB3.out⟩
    · rw [decide_eq_false he, Bool.false_and, Bool.false_and]
      go_enter Try.func16, Try.ntmps16
      go_wp2_with fail
      refine C1.out.mono ?_
      rintro e w1 ⟨rfl, hb⟩
      have HB1 := Lib.hid (HB0.out.trans (hb.mono HB0.out.size))
      obtain ⟨v0, v1, v2⟩ := XX.out w1 hb
      clear hb
      go_wp2_with fail
      refine (C2.out _).mono ?_
      rintro e w2 ⟨rfl, hb⟩
      have HB2 := Lib.hid (HB1.out.trans (hb.mono HB1.out.size))
      clear hb v0 v1 v2
      go_wp2
      go_ret
      exact ⟨rfl, HB2.out⟩

end Go.Proofs.Ytfpjodoimfbadaa
