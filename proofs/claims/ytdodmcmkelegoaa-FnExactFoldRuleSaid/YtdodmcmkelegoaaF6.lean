/-
  Contracts: a rule's function called, a panic caught.
-/
import Derived.Test.YtdodmcmkelegoaaF5
import Derived.Defers
import Derived.Recover
import Derived.Laws.Pointers
namespace Go.Proofs.Ytdodmcmkelegoaa
open Go.RowKit
set_option linter.unusedVariables false

theorem c_catch (p q : Addr) (x : Int) (y : Bool) (u : TypeId) (pv : Value) (older : List PanicEntry) (w : World) (hc : w.cell? p = some (.int .i64 x)) (hz : w.frozen? p = false) (hc2 : w.cell? q = some (.bool y)) (hz2 : w.frozen? q = false) (hpq : p.block ≠ q.block) :
    CallsD Try.prog 138 #[.pointer (some p), .pointer (some q)] (.panicking ({ v := .iface u pv, recovered := false } :: older)) w fun e u' w' =>
      e = .returned (.tuple #[]) ∧ u' = .panicking ({ v := .iface u pv, recovered := true } :: older) ∧ w' = (w.setCell p (.int .i64 0)).setCell q (.bool false) := by
  have hc3 : (w.setCell p (.int .i64 0)).cell? q = some (.bool y) := by rw [World.cell?_setCell_other _ _ _ _ (fun e => hpq (by rw [e]))]; exact hc2
  have hz3 : (w.setCell p (.int .i64 0)).frozen? q = false := by simpa using hz2
  refine callsD_of_wpS Try.func138 rfl fun c₀ cs hu => ?_
  apply wpS_seq
  apply wpS_region
  simp [wpOpsS, go_sem, recoverD, hu, Try.ntmps138, Exit.thenS]
  refine wpS_cond (t := true) (by simp [Act.eval, Array.replicate]) ?_
  simp only [if_true]
  apply wpS_region
  simp [wpOpsS, go_sem, hc, hz, hc3, hz3, bodyPostS, results, Try.results138]

theorem c_catchIdle (p q : Addr) (w : World) :
    CallsD Try.prog 138 #[.pointer (some p), .pointer (some q)] .returning w fun e u' w' => e = .returned (.tuple #[]) ∧ u' = .returning ∧ w' = w := by
  refine callsD_of_wpS Try.func138 rfl fun c₀ cs hu => ?_
  apply wpS_seq
  apply wpS_region
  simp [wpOpsS, go_sem, recoverD, hu, Try.ntmps138, Exit.thenS]
  refine wpS_cond (t := false) (by simp [Act.eval, Array.replicate]) ?_
  simp only [Bool.false_eq_true, if_false]
  refine wpS_of_wp (wp_skip ?_)
  cases c₀
  simp_all [bodyPostS, results, Try.results138]

def tvV (o : Option Int) : Int := o.getD 0

set_option maxHeartbeats 1000000 in
set_option maxRecDepth 100000 in
theorem c_tryFormula (nf : Bool) (lo hi : Nat) (F fv : Value) (fs : List Int) (r : List Int → Option Int) (w : World) (h : FnV nf lo hi w F r) (hs : Seen w fv fs) (hf : FldOk nf fs) :
    Calls Try.prog 98 #[F, fv] w fun e w' => e = .returned (.tuple #[.int .i64 (tvV (r fs)), .bool (r fs).isSome]) ∧ Below w.heap.size w w' := by
  obtain ⟨hh, k, caps, rfl, hen, hc⟩ := h
  have C : Hid (∀ u, Below w.heap.size w u → Calls Try.prog k (#[fv] ++ caps) u (GivesV u (r fs))) := fun u hu => hc u fv fs (Same.of_below hu hh) (hs.below hu) hf
  clear hc hs
  have hmf : ∀ (fn : Fn) (first cap : Array Value) (w : World), (Instr.makeFunc fn first cap).run Try.prog w = .ok (.func fn first cap) w := fun _ _ _ _ => rfl
  have HB0 : Hid (Below w.heap.size w ((w.alloc (.cells #[.int .i64 0] 3)).alloc (.cells #[.bool false] 4))) := ((Below.refl _ _).alloc (Nat.le_refl _) _).alloc (by simp) _
  have KE : Hid (∀ u, Below (((w.alloc (.cells #[.int .i64 0] 3)).alloc (.cells #[.bool false] 4))).heap.size ((w.alloc (.cells #[.int .i64 0] 3)).alloc (.cells #[.bool false] 4)) u → u.cell? ⟨w.heap.size, 0, none⟩ = some (.int .i64 0) ∧ u.cell? ⟨w.heap.size + 1, 0, none⟩ = some (.bool false) ∧ u.frozen? ⟨w.heap.size, 0, none⟩ = false ∧ u.frozen? ⟨w.heap.size + 1, 0, none⟩ = false) := fun u hu =>
    ⟨cell_at hu (by simp), cell_at hu (by simp), by rw [hu.frozen (p := ⟨w.heap.size, 0, none⟩) (by simp; omega)]; simp, by rw [hu.frozen (p := ⟨w.heap.size + 1, 0, none⟩) (by simp)]; simp⟩
  cases hr : r fs with
  | none =>
    rw [hr] at C
    clear hr hf hh
    go_enter_defers Try.func98, Try.ntmps98
    go_wp2_with fail
    rw [hen, Oper.upon_enter]
    refine (C.out _ HB0.out).mono ?_
    rintro e w2 ⟨⟨u9, pv9, rfl⟩, hb⟩
    obtain ⟨d0, d1, d2, d3⟩ := KE.out _ hb
    have HB2 : Hid (Below w.heap.size w w2) := HB0.out.trans (hb.mono HB0.out.size)
    clear hb
    go_wp2_with fail
    refine leaves_cons (f := 138) (args := #[.pointer (some ⟨w.heap.size, 0, none⟩), .pointer (some ⟨w.heap.size + 1, 0, none⟩)]) (by simp) (by simp [go_sem]) ?_
    refine (c_catch ⟨w.heap.size, 0, none⟩ ⟨w.heap.size + 1, 0, none⟩ 0 false u9 pv9 [] _ d0 d2 d1 d3 (by simp)).mono ?_
    rintro e u' w'' ⟨rfl, rfl, rfl⟩
    have HB3 : Hid (Below w.heap.size w ((w2.setCell ⟨w.heap.size, 0, none⟩ (.int .i64 0)).setCell ⟨w.heap.size + 1, 0, none⟩ (.bool false))) := (HB2.out.setCell (Nat.le_refl _) _).setCell (by simp) _
    have d4 : ((w2.setCell ⟨w.heap.size, 0, none⟩ (.int .i64 0)).setCell ⟨w.heap.size + 1, 0, none⟩ (.bool false)).cell? ⟨w.heap.size, 0, none⟩ = some (.int .i64 0) := by
      rw [World.cell?_setCell_other _ _ _ _ (by simp), World.cell?_setCell_same _ _ _ d0]
    have d5 : ((w2.setCell ⟨w.heap.size, 0, none⟩ (.int .i64 0)).setCell ⟨w.heap.size + 1, 0, none⟩ (.bool false)).cell? ⟨w.heap.size + 1, 0, none⟩ = some (.bool false) := by
      exact World.cell?_setCell_same _ _ _ (u := .bool false) (by rw [World.cell?_setCell_other _ _ _ _ (by simp)]; exact d1)
    simp [Leaves, settle, results, Try.results98, go_sem, d4, d5, tvV]
    exact HB3.out
  | some n =>
    rw [hr] at C
    clear hr hf hh
    go_enter_defers Try.func98, Try.ntmps98
    go_wp2_with fail
    rw [hen, Oper.upon_enter]
    refine (C.out _ HB0.out).mono ?_
    rintro e w2 ⟨rfl, hb⟩
    obtain ⟨d0, d1, d2, d3⟩ := KE.out _ hb
    have HB2 : Hid (Below w.heap.size w w2) := HB0.out.trans (hb.mono HB0.out.size)
    clear hb
    go_wp2_with fail
    refine leaves_cons (f := 138) (args := #[.pointer (some ⟨w.heap.size, 0, none⟩), .pointer (some ⟨w.heap.size + 1, 0, none⟩)]) (by simp) (by simp [go_sem]) ?_
    refine (c_catchIdle ⟨w.heap.size, 0, none⟩ ⟨w.heap.size + 1, 0, none⟩ _).mono ?_
    rintro e u' w'' ⟨rfl, rfl, rfl⟩
    have HB3 : Hid (Below w.heap.size w ((w2.setCell ⟨w.heap.size, 0, none⟩ (.int .i64 n)).setCell ⟨w.heap.size + 1, 0, none⟩ (.bool true))) := (HB2.out.setCell (Nat.le_refl _) _).setCell (by simp) _
    have d4 : (((w2.setCell ⟨w.heap.size, 0, none⟩ (.int .i64 n)).setCell ⟨w.heap.size + 1, 0, none⟩ (.bool true))).cell? ⟨w.heap.size, 0, none⟩ = some (.int .i64 n) := by
      rw [World.cell?_setCell_other _ _ _ _ (by simp), World.cell?_setCell_same _ _ _ d0]
    have d5 : (((w2.setCell ⟨w.heap.size, 0, none⟩ (.int .i64 n)).setCell ⟨w.heap.size + 1, 0, none⟩ (.bool true))).cell? ⟨w.heap.size + 1, 0, none⟩ = some (.bool true) := by
      exact World.cell?_setCell_same _ _ _ (u := .bool false) (by rw [World.cell?_setCell_other _ _ _ _ (by simp)]; exact d1)
    simp [Leaves, settle, results, Try.results98, go_sem, d4, d5, tvV]
    exact HB3.out
end Go.Proofs.Ytdodmcmkelegoaa
