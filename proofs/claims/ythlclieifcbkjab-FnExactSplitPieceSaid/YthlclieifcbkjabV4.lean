/-
  Contracts: the program's shares of a number by weights.
-/
import Derived.Test.YthlclieifcbkjabV3
namespace Go.Proofs.Ythlclieifcbkjab
open Go.RowKit
set_option linter.unusedVariables false

def incA (base l : List Int) : List Int := l.foldl (fun s i => s.set i.toNat (s.getD i.toNat 0 + 1)) base
theorem incA_snoc (base l : List Int) (x : Int) : incA base (l ++ [x]) = (incA base l).set x.toNat ((incA base l).getD x.toNat 0 + 1) := by unfold incA; rw [List.foldl_append]; rfl
theorem incA_len (base : List Int) : ∀ l : List Int, (incA base l).length = base.length := fun l => by
  unfold incA
  induction l generalizing base with
  | nil => rfl
  | cons x l ih => rw [List.foldl_cons, ih, List.length_set]
def ordA (N W : Int) (ws : List Int) (n : Nat) : List Int := sortN (ltK (rmA N W ws)) n
/-- The shares of N by the weights. -/
def shaL (N : Int) (ws : List Int) : List Int :=
  incA (basS N (sumTo ws ws.length) ws ws.length) ((ordA N (sumTo ws ws.length) ws ws.length).take (lefS N (sumTo ws ws.length) ws ws.length).toNat)
theorem shaL_len (N : Int) (ws : List Int) : (shaL N ws).length = ws.length := by unfold shaL; rw [incA_len, basS_len]
def cfS (N W : Int) (ws : List Int) (a b : Int) : Int := cmpI (rmA N W ws b) (rmA N W ws a)
theorem cfS_lt (N W : Int) (ws : List Int) : (fun a b => decide (cfS N W ws a b < 0)) = ltK (rmA N W ws) := by
  funext a b
  unfold ltK cfS
  exact decide_eq_decide.2 (cmpI_neg _ _)
theorem rmA_nat (N W : Int) (ws : List Int) (k : Nat) : rmA N W ws k = N * ws.getD k 0 % W := by unfold rmA; rw [Int.toNat_natCast]

set_option maxHeartbeats 2000000 in
theorem c_fnShare (ba bb bc n wb off c : Nat) (N W : Int) (ws : List Int) (a b : Nat) (u : World) (la : ba < u.heap.size) (lb : bb < u.heap.size) (lc : bc < u.heap.size) (lw : wb < u.heap.size) (ha : a < n) (hbn : b < n) (hn : n ≤ 20)
    (hws : ws.length = n) (hm : Mild ws 10000) (N0 : 0 ≤ N) (N1 : N ≤ 10000000) (W0 : 0 < W) (W1 : W ≤ 200000)
    (ca : u.cell? ⟨ba, 0, none⟩ = some (.int .i64 N)) (cb : u.cell? ⟨bb, 0, none⟩ = some (.slice (some ⟨wb, off, none⟩) n c)) (cc : u.cell? ⟨bc, 0, none⟩ = some (.int .i64 W)) (hx : ∀ j : Nat, j < n → u.cell? ⟨wb, off + j, none⟩ = some (.int .i64 (ws.getD j 0))) :
    Calls Try.prog 50 #[.int .i64 a, .int .i64 b, .pointer (some ⟨ba, 0, none⟩), .pointer (some ⟨bb, 0, none⟩), .pointer (some ⟨bc, 0, none⟩)] u fun e w' => e = .returned (.int .i64 (cfS N W ws a b)) ∧ Below u.heap.size u w' := by
  unfold cfS
  rw [rmA_nat, rmA_nat]
  obtain ⟨t0, t1⟩ := hm a (by omega)
  obtain ⟨s0, s1⟩ := hm b (by omega)
  have qa := hx a ha
  have qb := hx b hbn
  clear hx hm
  generalize ws.getD a 0 = t at *
  generalize ws.getD b 0 = s at *
  obtain ⟨x0, x1⟩ := mul_box N0 N1 t0 t1
  obtain ⟨y0, y1⟩ := mul_box N0 N1 s0 s1
  have wx : IntKind.i64.wrap (N * t) = N * t := IntWalk.i64_in _ (by omega)
  have wy : IntKind.i64.wrap (N * s) = N * s := IntWalk.i64_in _ (by omega)
  have mx : (N * t).tmod W = N * t % W := Int.tmod_eq_emod_of_nonneg x0
  have my : (N * s).tmod W = N * s % W := Int.tmod_eq_emod_of_nonneg y0
  have z0 : (W == 0) = false := beq_eq_false_iff_ne.2 (by omega)
  have z1 : ¬ W = 0 := by omega
  have rx0 := Int.emod_nonneg (N * t) (show W ≠ 0 by omega)
  have rx1 := Int.emod_lt_of_pos (N * t) W0
  have ry0 := Int.emod_nonneg (N * s) (show W ≠ 0 by omega)
  have ry1 := Int.emod_lt_of_pos (N * s) W0
  have wrx : IntKind.i64.wrap (N * t % W) = N * t % W := IntWalk.i64_in _ (by omega)
  have wry : IntKind.i64.wrap (N * s % W) = N * s % W := IntWalk.i64_in _ (by omega)
  have C := Lib.hid (fun (v : World) => c_Compare (N * s % W) (N * t % W) v)
  have a0 : (0 : Int) ≤ (a : Int) := by omega
  have a1 : (a : Int) < (n : Int) := by omega
  have b1 : (0 : Int) ≤ (b : Int) := by omega
  have b2 : (b : Int) < (n : Int) := by omega
  clear hws
  go_enter Try.func50, Try.ntmps50
  go_wp2_with fail
  refine wp_region_grow (by kernel_rfl) (by kernel_rfl) ?_
  repeat (go_big_quiet_step ((go_at_call 42; exact grow_same (C.out _))))
  refine wpQuiet_nil ?_
  intro _ hw'
  obtain ⟨v, hw''⟩ := hw'
  subst hw''
  have hb2 := wOf_below u v
  generalize wOf u v = w2 at hb2 ⊢
  clear wx wy mx my wrx wry
  go_wp2
  go_ret
  exact ⟨rfl, hb2⟩
end Go.Proofs.Ythlclieifcbkjab
