/-
  Contracts: a rule becomes a function of the fields.
-/
import Derived.Test.YtdodmcmkelegoaaF3
import Derived.Test.YtdodmcmkelegoaaE5
import Derived.Test.YtdodmcmkelegoaaAP
import Derived.Test.YtdodmcmkelegoaaOpen
namespace Go.Proofs.Ytdodmcmkelegoaa
open Go.RowKit
set_option linter.unusedVariables false

theorem topV_zero (v : Int) (fs : List Int) (kv : Nat → Option Int) : topV 0 v fs kv = some v := by unfold topV; rw [if_pos rfl]
theorem topV_one (v : Int) (fs : List Int) (kv : Nat → Option Int) : topV 1 v fs kv = some (fs.getD v.toNat 0) := by unfold topV; rw [if_neg (by omega), if_pos (by omega)]
theorem topV_bin {k : Int} (h : 2 ≤ k ∧ k ≤ 5) (v : Int) (fs : List Int) (kv : Nat → Option Int) : topV k v fs kv = binV k (kv 0) (kv 1) := by unfold topV; rw [if_neg (by omega), if_neg (by omega), if_pos (by omega)]
theorem topV_cho {k : Int} (h : 6 ≤ k) (v : Int) (fs : List Int) (kv : Nat → Option Int) : topV k v fs kv = choV k (kv 0) (kv 1) (kv 2) (kv 3) := by unfold topV; rw [if_neg (by omega), if_neg (by omega), if_neg (by omega)]
theorem ev_in9w {ks vs : Nat → Int} {fs : List Int} : ∀ (t : Tr) (e : Nat), At ks t e → (∀ j, e + 1 - t.size ≤ j → j ≤ e → (ks j = 0 → 0 ≤ vs j ∧ vs j ≤ 1000000)) → (∀ j : Nat, 0 ≤ fs.getD j 0 ∧ fs.getD j 0 ≤ 10000000) → In9 (ev ks vs fs t e)
  | .leaf, e, hA, h, hf => fun m hm => by
    unfold ev at hm
    split at hm
    · cases hm
      have := h e (by simp [Tr.size]) (Nat.le_refl _) (by assumption)
      omega
    · cases hm
      have := hf (vs e).toNat
      omega
  | .two a b, e, hA, h, hf => in9_bin _ _ _
  | .four a b c d, e, ⟨_, hz, _, _, _, hc, hd⟩, h, hf => by
    have zc := c.size_pos
    have zd := d.size_pos
    exact in9_cho (ev_in9w c _ hc (fun j h1 h2 => h j (by simp only [Tr.size]; omega) (by omega)) hf) (ev_in9w d _ hd (fun j h1 h2 => h j (by simp only [Tr.size]; omega) (by omega)) hf)

/-- The blocks from lo to hi are as they were. -/
def Same (lo hi : Nat) (w u : World) : Prop := hi ≤ u.heap.size ∧ ∀ k, lo ≤ k → k < hi → u.heap[k]? = w.heap[k]?
theorem Same.cell {lo hi : Nat} {w u : World} (h : Same lo hi w u) {b o : Nat} {x : Value} (h1 : lo ≤ b) (h2 : b < hi) (hc : w.cell? ⟨b, o, none⟩ = some x) : u.cell? ⟨b, o, none⟩ = some x := by
  rw [World.cell?_of_block (w := w) (w' := u) (a := ⟨b, o, none⟩) (h.2 b h1 h2)]; exact hc
theorem Same.below {lo hi : Nat} {w u u' : World} (h : Same lo hi w u) (hb : Below u.heap.size u u') : Same lo hi w u' :=
  ⟨Nat.le_trans h.1 hb.size, fun k h1 h2 => by rw [hb.block k (Nat.lt_of_lt_of_le h2 h.1)]; exact h.2 k h1 h2⟩
theorem Same.sub {lo hi lo' hi' : Nat} {w u : World} (h : Same lo hi w u) (h1 : lo ≤ lo') (h2 : hi' ≤ hi) : Same lo' hi' w u :=
  ⟨Nat.le_trans h2 h.1, fun k a b => h.2 k (Nat.le_trans h1 a) (Nat.lt_of_lt_of_le b h2)⟩
theorem Same.trans {lo hi : Nat} {w w' u : World} (h : Same lo hi w w') (h' : Same lo hi w' u) : Same lo hi w u :=
  ⟨h'.1, fun k a b => (h'.2 k a b).trans (h.2 k a b)⟩
theorem Same.of_below {lo hi : Nat} {w u : World} (hb : Below w.heap.size w u) (h : hi ≤ w.heap.size) : Same lo hi w u := ⟨Nat.le_trans h hb.size, fun k _ h2 => hb.block k (Nat.lt_of_lt_of_le h2 h)⟩
/-- A function value that gives r of the fields wherever the blocks from lo to hi are as they were. -/
def FnV (nf : Bool) (lo hi : Nat) (w : World) (F : Value) (r : List Int → Option Int) : Prop :=
  hi ≤ w.heap.size ∧ ∃ k caps, F = .func (.func k) #[] caps ∧ Ent k ∧ ∀ (u : World) (fv : Value) (fs : List Int), Same lo hi w u → Seen u fv fs → FldOk nf fs → Calls Try.prog k (#[fv] ++ caps) u (GivesV u (r fs))
theorem FnV.turn {nf : Bool} {lo hi : Nat} {w w' : World} {F : Value} {r : List Int → Option Int} (h : FnV nf lo hi w F r) (hs : Same lo hi w w') : FnV nf lo hi w' F r := by
  obtain ⟨hh, k, caps, e, he, hc⟩ := h
  exact ⟨hs.1, k, caps, e, he, fun u fv fs hu hx hf => hc u fv fs (hs.trans hu) hx hf⟩
theorem FnV.below {nf : Bool} {lo hi : Nat} {w w' : World} {F : Value} {r : List Int → Option Int} (h : FnV nf lo hi w F r) (hb : Below w.heap.size w w') : FnV nf lo hi w' F r := h.turn (Same.of_below hb h.1)
/-- A function value that gives r of the fields is returned; its memory lies from lo on. -/
def GivesF (nf : Bool) (lo : Nat) (w : World) (r : List Int → Option Int) (e : Ending) (w' : World) : Prop := ∃ F, e = .returned F ∧ FnV nf lo w'.heap.size w' F r ∧ Below w.heap.size w w'
theorem cell_at {w u : World} (hu : Below w.heap.size w u) {b o : Nat} {x : Value} (h : w.cell? ⟨b, o, none⟩ = some x) : u.cell? ⟨b, o, none⟩ = some x := by rw [hu.cell (p := ⟨b, o, none⟩) (lt_of_cell h)]; exact h

set_option maxHeartbeats 1000000 in
theorem c_combine (nf : Bool) (k : Int) (g c lo l0 l1 h0 h1 : Nat) (O F0 F1 : Value) (r0 r1 : List Int → Option Int) (w : World) (ho : OpF O k) (hlo : lo ≤ w.heap.size) (hg : lo ≤ g) (q0 : w.cell? ⟨g, 0, none⟩ = some F0) (q1 : w.cell? ⟨g, 1, none⟩ = some F1)
    (v0 : FnV nf l0 h0 w F0 r0) (v1 : FnV nf l1 h1 w F1 r1) (m0 : lo ≤ l0) (m1 : lo ≤ l1) (i0 : ∀ fs, FldOk nf fs → In9 (r0 fs)) (i1 : ∀ fs, FldOk nf fs → In9 (r1 fs)) :
    Calls Try.prog 120 #[.slice (some ⟨g, 0, none⟩) 2 c, O] w (GivesF nf lo w (fun fs => binV k (r0 fs) (r1 fs))) := by
  obtain ⟨jo, rfl, eo, co⟩ := ho
  obtain ⟨n0, k0, p0, rfl, e0, c0⟩ := v0
  obtain ⟨n1, k1, p1, rfl, e1, c1⟩ := v1
  have hmf : ∀ (fn : Fn) (first cap : Array Value) (w : World), (Instr.makeFunc fn first cap).run Try.prog w = .ok (.func fn first cap) w := fun _ _ _ _ => rfl
  have G : Hid (∀ T1 T2, GivesF nf lo w (fun fs => binV k (r0 fs) (r1 fs)) (.returned (.func (.func 153) #[] #[.pointer (some ⟨w.heap.size + 1, 0, none⟩), .pointer (some ⟨w.heap.size, 0, none⟩)])) ((w.alloc (.cells #[.slice (some ⟨g, 0, none⟩) 2 c] T1)).alloc (.cells #[.func (.func jo) #[] #[]] T2))) := fun T1 T2 => by
    have HB : Below w.heap.size w ((w.alloc (.cells #[.slice (some ⟨g, 0, none⟩) 2 c] T1)).alloc (.cells #[.func (.func jo) #[] #[]] T2)) := ((Below.refl _ _).alloc (Nat.le_refl _) _).alloc (by simp) _
    have hz : (((w.alloc (.cells #[.slice (some ⟨g, 0, none⟩) 2 c] T1)).alloc (.cells #[.func (.func jo) #[] #[]] T2))).heap.size = w.heap.size + 2 := by simp
    refine ⟨_, rfl, ⟨Nat.le_refl _, _, _, rfl, entCombine, fun u fv fs hu hs hf => ?_⟩, HB⟩
    have hgw := lt_of_cell q0
    have d0 := hu.cell (b := g) (o := 0) hg (by rw [hz]; omega) (cell_at HB q0)
    have d1 := hu.cell (b := g) (o := 1) hg (by rw [hz]; omega) (cell_at HB q1)
    have x0 : u.cell? ⟨w.heap.size, 0, none⟩ = some (.slice (some ⟨g, 0, none⟩) 2 c) := hu.cell hlo (by rw [hz]; omega) (by simp)
    have x1 : u.cell? ⟨w.heap.size + 1, 0, none⟩ = some (.func (.func jo) #[] #[]) := hu.cell (by omega) (by rw [hz]; omega) (by simp)
    have y0 : Same l0 h0 w u := (Same.of_below HB n0).trans (hu.sub m0 (by rw [hz]; omega))
    have y1 : Same l1 h1 w u := (Same.of_below HB n1).trans (hu.sub m1 (by rw [hz]; omega))
    exact c_combine1 k fv (w.heap.size + 1) w.heap.size g c jo k0 k1 p0 p1 (r0 fs) (r1 fs) u eo e0 e1 (Lib.hid fun u' hu' => ⟨cell_at hu' x1, cell_at hu' x0, cell_at hu' d0, cell_at hu' d1⟩)
      (Lib.hid fun u' hu' => c0 u' fv fs (y0.below hu') (hs.below hu') hf) (Lib.hid fun u' hu' => c1 u' fv fs (y1.below hu') (hs.below hu') hf) (Lib.hid co) (i0 fs hf) (i1 fs hf)
  clear co c0 c1 i0 i1
  go_enter Try.func120, Try.ntmps120
  go_wp2
  go_ret
  exact G.out _ _

set_option maxHeartbeats 1000000 in
theorem c_choose (nf : Bool) (k : Int) (g c lo l0 l1 l2 l3 h0 h1 h2 h3 : Nat) (O F0 F1 F2 F3 : Value) (r0 r1 r2 r3 : List Int → Option Int) (w : World) (ho : TestF O k) (hlo : lo ≤ w.heap.size) (hg : lo ≤ g) (q0 : w.cell? ⟨g, 0, none⟩ = some F0) (q1 : w.cell? ⟨g, 1, none⟩ = some F1) (q2 : w.cell? ⟨g, 2, none⟩ = some F2) (q3 : w.cell? ⟨g, 3, none⟩ = some F3)
    (v0 : FnV nf l0 h0 w F0 r0) (v1 : FnV nf l1 h1 w F1 r1) (v2 : FnV nf l2 h2 w F2 r2) (v3 : FnV nf l3 h3 w F3 r3) (m0 : lo ≤ l0) (m1 : lo ≤ l1) (m2 : lo ≤ l2) (m3 : lo ≤ l3) (i0 : ∀ fs, FldOk nf fs → In9 (r0 fs)) (i1 : ∀ fs, FldOk nf fs → In9 (r1 fs)) :
    Calls Try.prog 125 #[.slice (some ⟨g, 0, none⟩) 4 c, O] w (GivesF nf lo w (fun fs => choV k (r0 fs) (r1 fs) (r2 fs) (r3 fs))) := by
  obtain ⟨jo, rfl, eo, co⟩ := ho
  obtain ⟨n0, k0, p0, rfl, e0, c0⟩ := v0
  obtain ⟨n1, k1, p1, rfl, e1, c1⟩ := v1
  obtain ⟨n2, k2, p2, rfl, e2, c2⟩ := v2
  obtain ⟨n3, k3, p3, rfl, e3, c3⟩ := v3
  have hmf : ∀ (fn : Fn) (first cap : Array Value) (w : World), (Instr.makeFunc fn first cap).run Try.prog w = .ok (.func fn first cap) w := fun _ _ _ _ => rfl
  have G : Hid (∀ T1 T2, GivesF nf lo w (fun fs => choV k (r0 fs) (r1 fs) (r2 fs) (r3 fs)) (.returned (.func (.func 154) #[] #[.pointer (some ⟨w.heap.size + 1, 0, none⟩), .pointer (some ⟨w.heap.size, 0, none⟩)])) ((w.alloc (.cells #[.slice (some ⟨g, 0, none⟩) 4 c] T1)).alloc (.cells #[.func (.func jo) #[] #[]] T2))) := fun T1 T2 => by
    have HB : Below w.heap.size w ((w.alloc (.cells #[.slice (some ⟨g, 0, none⟩) 4 c] T1)).alloc (.cells #[.func (.func jo) #[] #[]] T2)) := ((Below.refl _ _).alloc (Nat.le_refl _) _).alloc (by simp) _
    have hz : (((w.alloc (.cells #[.slice (some ⟨g, 0, none⟩) 4 c] T1)).alloc (.cells #[.func (.func jo) #[] #[]] T2))).heap.size = w.heap.size + 2 := by simp
    refine ⟨_, rfl, ⟨Nat.le_refl _, _, _, rfl, entChoose, fun u fv fs hu hs hf => ?_⟩, HB⟩
    have hgw := lt_of_cell q0
    have d0 := hu.cell (b := g) (o := 0) hg (by rw [hz]; omega) (cell_at HB q0)
    have d1 := hu.cell (b := g) (o := 1) hg (by rw [hz]; omega) (cell_at HB q1)
    have d2 := hu.cell (b := g) (o := 2) hg (by rw [hz]; omega) (cell_at HB q2)
    have d3 := hu.cell (b := g) (o := 3) hg (by rw [hz]; omega) (cell_at HB q3)
    have x0 : u.cell? ⟨w.heap.size, 0, none⟩ = some (.slice (some ⟨g, 0, none⟩) 4 c) := hu.cell hlo (by rw [hz]; omega) (by simp)
    have x1 : u.cell? ⟨w.heap.size + 1, 0, none⟩ = some (.func (.func jo) #[] #[]) := hu.cell (by omega) (by rw [hz]; omega) (by simp)
    have y0 : Same l0 h0 w u := (Same.of_below HB n0).trans (hu.sub m0 (by rw [hz]; omega))
    have y1 : Same l1 h1 w u := (Same.of_below HB n1).trans (hu.sub m1 (by rw [hz]; omega))
    have y2 : Same l2 h2 w u := (Same.of_below HB n2).trans (hu.sub m2 (by rw [hz]; omega))
    have y3 : Same l3 h3 w u := (Same.of_below HB n3).trans (hu.sub m3 (by rw [hz]; omega))
    exact c_choose1 k fv (w.heap.size + 1) w.heap.size g c jo k0 k1 k2 k3 p0 p1 p2 p3 (r0 fs) (r1 fs) (r2 fs) (r3 fs) u eo e0 e1 e2 e3 (Lib.hid fun u' hu' => ⟨cell_at hu' x1, cell_at hu' x0, cell_at hu' d0, cell_at hu' d1, cell_at hu' d2, cell_at hu' d3⟩)
      (Lib.hid fun u' hu' => c0 u' fv fs (y0.below hu') (hs.below hu') hf) (Lib.hid fun u' hu' => c1 u' fv fs (y1.below hu') (hs.below hu') hf) (Lib.hid fun u' hu' => c2 u' fv fs (y2.below hu') (hs.below hu') hf) (Lib.hid fun u' hu' => c3 u' fv fs (y3.below hu') (hs.below hu') hf) (Lib.hid co) (i0 fs hf) (i1 fs hf)
  clear co c0 c1 c2 c3 i0 i1
  go_enter Try.func125, Try.ntmps125
  go_wp2
  go_ret
  exact G.out _ _

end Go.Proofs.Ytdodmcmkelegoaa
