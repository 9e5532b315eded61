/-
  What marking one model leaves of others.
-/
import Derived.Test.YtgibkjjjnfjbkaaDoorM11

namespace Go.Proofs.YtgibkjjjnfjbkaaDoor
open Go.RowKit
set_option linter.unusedVariables false

theorem Mod.before {w w' wn wo : World} {B Bn Bo : Nat} {u1 u2 u3 v1 v2 v3 : Value} {T G R T' G' R' t g r : List Int} (h : Mod w B u1 u2 u3 T G R) (hn : Mod wn Bn u1 u2 u3 T' G' R') (ho : Mod wo Bo v1 v2 v3 t g r) (hs : wn.heap.size ≤ Bo)
    (ht : Turned w w' v1.ownBlock v2.ownBlock v3.ownBlock) : Mod w' B u1 u2 u3 T G R :=
  ⟨ht.row h.t (apart_of hn.t ho.t hs) (apart_of hn.t ho.g hs) (apart_of hn.t ho.r hs), ht.row h.g (apart_of hn.g ho.t hs) (apart_of hn.g ho.g hs) (apart_of hn.g ho.r hs), ht.row h.r (apart_of hn.r ho.t hs) (apart_of hn.r ho.g hs) (apart_of hn.r ho.r hs), h.tg, h.tr, h.gr⟩
theorem Mod.after {w w' wn wo : World} {B Bn Bo : Nat} {u1 u2 u3 v1 v2 v3 : Value} {T G R T' G' R' t g r : List Int} (h : Mod w B u1 u2 u3 T G R) (hn : Mod wn Bn u1 u2 u3 T' G' R') (ho : Mod wo Bo v1 v2 v3 t g r) (hs : wo.heap.size ≤ Bn)
    (ht : Turned w w' v1.ownBlock v2.ownBlock v3.ownBlock) : Mod w' B u1 u2 u3 T G R :=
  ⟨ht.row h.t (apart_of ho.t hn.t hs).symm (apart_of ho.g hn.t hs).symm (apart_of ho.r hn.t hs).symm, ht.row h.g (apart_of ho.t hn.g hs).symm (apart_of ho.g hn.g hs).symm (apart_of ho.r hn.g hs).symm, ht.row h.r (apart_of ho.t hn.r hs).symm (apart_of ho.g hn.r hs).symm (apart_of ho.r hn.r hs).symm, h.tg, h.tr, h.gr⟩
theorem Row.after {w w' wn wo : World} {B Bn Bo : Nat} {u v1 v2 v3 : Value} {T T' t g r : List Int} (h : Row w B u T) (hn : Row wn Bn u T') (ho : Mod wo Bo v1 v2 v3 t g r) (hs : wo.heap.size ≤ Bn)
    (ht : Turned w w' v1.ownBlock v2.ownBlock v3.ownBlock) : Row w' B u T :=
  ht.row h (apart_of ho.t hn hs).symm (apart_of ho.g hn hs).symm (apart_of ho.r hn hs).symm
theorem Mod.grown {w w' : World} {B : Nat} {u1 u2 u3 : Value} {o : Option Nat} {T G R : List Int} (h : Mod w B u1 u2 u3 T G R) (hg : w.grownBy w' o) (a1 : Apart u1.ownBlock o) (a2 : Apart u2.ownBlock o) (a3 : Apart u3.ownBlock o) : Mod w' B u1 u2 u3 T G R :=
  ⟨World.ownsRow.kept h.t hg a1, World.ownsRow.kept h.g hg a2, World.ownsRow.kept h.r hg a3, h.tg, h.tr, h.gr⟩
theorem Mod.top1 {w : World} {B : Nat} {v1 v2 v3 : Value} {ts gs rs : List Int} (h : Mod w B v1 v2 v3 ts gs rs) : v1.ownBlock ≠ some w.heap.size := own_ne' (fun k hk => (World.ownsRow.lt h.t k hk).2) (Nat.le_refl _)
theorem Mod.top2 {w : World} {B : Nat} {v1 v2 v3 : Value} {ts gs rs : List Int} (h : Mod w B v1 v2 v3 ts gs rs) : v2.ownBlock ≠ some w.heap.size := own_ne' (fun k hk => (World.ownsRow.lt h.g k hk).2) (Nat.le_refl _)
theorem Mod.top3 {w : World} {B : Nat} {v1 v2 v3 : Value} {ts gs rs : List Int} (h : Mod w B v1 v2 v3 ts gs rs) : v3.ownBlock ≠ some w.heap.size := own_ne' (fun k hk => (World.ownsRow.lt h.r k hk).2) (Nat.le_refl _)
theorem Row.top {w : World} {B : Nat} {v : Value} {xs : List Int} (h : Row w B v xs) : v.ownBlock ≠ some w.heap.size := own_ne' (fun k hk => (World.ownsRow.lt h k hk).2) (Nat.le_refl _)
theorem Row.own {w : World} {B : Nat} {v : Value} {xs : List Int} (h : Row w B v xs) : ∀ k, v.ownBlock = some k → B ≤ k := fun k hk => (World.ownsRow.lt h k hk).1
end Go.Proofs.YtgibkjjjnfjbkaaDoor
