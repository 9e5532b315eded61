/-
  Contracts: the functions that a rule becomes: a number, a field, what is done with two numbers.
-/
import Derived.Test.YtdodmcmkelegoaaF1
import Derived.Test.YtdodmcmkelegoaaM1
import Derived.Test.YtdodmcmkelegoaaE4
import Derived.Deep.RegionHeld3
import Derived.WalkLawsBesides
namespace Go.Proofs.Ytdodmcmkelegoaa
open Go.RowKit
set_option linter.unusedVariables false

/-- Function k has a body: a call enters it. -/
def Ent (k : Nat) : Prop := ∀ (args : Array Value) (w : World), (callFunc k args).run Try.prog w = .ok (.enter k args) w
/-- A number, or a panic. -/
def GivesV (w : World) (r : Option Int) (e : Ending) (w' : World) : Prop :=
  (match r with
    | some n => e = .returned (.int .i64 n)
    | none => ∃ u pv, e = .panicked [{ v := .iface u pv, recovered := false }]) ∧ Below w.heap.size w w'
/-- Five fields within their bounds; or none. -/
def FldOk (nf : Bool) (fs : List Int) : Prop := fs.length = (if nf then 0 else 5) ∧ ∀ j : Nat, 0 ≤ fs.getD j 0 ∧ fs.getD j 0 ≤ 10000000
/-- A function value of two numbers. -/
def OpF (O : Value) (k : Int) : Prop :=
  ∃ j, O = .func (.func j) #[] #[] ∧ Ent j ∧ ∀ (u : World) (a b : Int), -1000000000 ≤ a → a ≤ 1000000000 → -1000000000 ≤ b → b ≤ 1000000000 → Calls Try.prog j #[.int .i64 a, .int .i64 b] u (GivesV u (opV k a b))
def TestF (O : Value) (k : Int) : Prop :=
  ∃ j, O = .func (.func j) #[] #[] ∧ Ent j ∧ ∀ (u : World) (a b : Int), Calls Try.prog j #[.int .i64 a, .int .i64 b] u fun e u' => e = .returned (.bool (testV k a b)) ∧ u = u'

theorem ent1 : Ent 118 := fun args w => by go_simp

set_option maxHeartbeats 400000 in
theorem c_fnNum (fv : Value) (b : Nat) (v : Int) (w : World) (h : w.cell? ⟨b, 1, none⟩ = some (.int .i64 v)) :
    Calls Try.prog 118 #[fv, .pointer (some ⟨b, 0, none⟩)] w fun e w' => e = .returned (.int .i64 v) ∧ w = w' := by
  go_enter Try.func118, Try.ntmps118
  go_wp2
  go_ret
  exact ⟨rfl, rfl⟩

set_option maxHeartbeats 400000 in
theorem c_fnField (fv : Value) (fs : List Int) (b k : Nat) (w : World) (h : w.cell? ⟨b, 1, none⟩ = some (.int .i64 (k : Int))) (hs : Seen w fv fs) (hl : fs.length = 5) (hk : k < 5) :
    Calls Try.prog 119 #[fv, .pointer (some ⟨b, 0, none⟩)] w fun e w' => e = .returned (.int .i64 (fs.getD k 0)) ∧ Below w.heap.size w w' := by
  obtain ⟨A1, c1, rfl, _, hA⟩ := hs
  obtain ⟨b1, o1, rfl, hb1, hcs⟩ := hA (by omega)
  have hc1 := hcs k (by omega)
  clear hcs hA
  generalize fs.getD k 0 = t at *
  rw [hl]
  have a0 : (0 : Int) ≤ (k : Int) := by omega
  have a1 : (k : Int) < 5 := by omega
  go_enter Try.func119, Try.ntmps119
  go_wp2
  go_ret
  exact ⟨rfl, by go_grown⟩

set_option maxHeartbeats 400000 in
theorem c_fnAdd (a b : Int) (w : World) (a0 : -1000000000 ≤ a) (a1 : a ≤ 1000000000) (b0 : -1000000000 ≤ b) (b1 : b ≤ 1000000000) :
    Calls Try.prog 121 #[.int .i64 a, .int .i64 b] w fun e w' => e = .returned (.int .i64 (a + b)) ∧ w = w' := by
  go_enter Try.func121, Try.ntmps121
  go_wp2
  go_ret
  exact ⟨rfl, rfl⟩
set_option maxHeartbeats 400000 in
theorem c_fnSub (a b : Int) (w : World) (a0 : -1000000000 ≤ a) (a1 : a ≤ 1000000000) (b0 : -1000000000 ≤ b) (b1 : b ≤ 1000000000) :
    Calls Try.prog 122 #[.int .i64 a, .int .i64 b] w fun e w' => e = .returned (.int .i64 (a - b)) ∧ w = w' := by
  go_enter Try.func122, Try.ntmps122
  go_wp2
  go_ret
  exact ⟨rfl, rfl⟩
theorem mul9 {a b : Int} (a0 : -1000000000 ≤ a) (a1 : a ≤ 1000000000) (b0 : -1000000000 ≤ b) (b1 : b ≤ 1000000000) : -1000000000000000000 ≤ a * b ∧ a * b ≤ 1000000000000000000 := by
  have h : (a * b).natAbs ≤ 1000000000 * 1000000000 := by
    rw [Int.natAbs_mul]
    exact Nat.mul_le_mul (by omega) (by omega)
  omega
set_option maxHeartbeats 400000 in
theorem c_fnMul (a b : Int) (w : World) (a0 : -1000000000 ≤ a) (a1 : a ≤ 1000000000) (b0 : -1000000000 ≤ b) (b1 : b ≤ 1000000000) :
    Calls Try.prog 123 #[.int .i64 a, .int .i64 b] w fun e w' => e = .returned (.int .i64 (a * b)) ∧ w = w' := by
  obtain ⟨h1, h2⟩ := mul9 a0 a1 b0 b1
  generalize hm : a * b = m at *
  go_enter Try.func123, Try.ntmps123
  go_wp2_with (simp only [hm])
  go_ret
  exact ⟨rfl, rfl⟩
set_option maxHeartbeats 400000 in
theorem c_fnLess (a b : Int) (w : World) :
    Calls Try.prog 126 #[.int .i64 a, .int .i64 b] w fun e w' => e = .returned (.bool (decide (a < b))) ∧ w = w' := by
  go_enter Try.func126, Try.ntmps126
  go_wp2
  go_ret
  exact ⟨rfl, rfl⟩
set_option maxHeartbeats 400000 in
theorem c_fnSame (a b : Int) (w : World) :
    Calls Try.prog 127 #[.int .i64 a, .int .i64 b] w fun e w' => e = .returned (.bool (decide (a = b))) ∧ w = w' := by
  go_enter Try.func127, Try.ntmps127
  go_wp2
  go_ret
  exact ⟨ret_bool (by rw [Bool.eq_iff_iff]; simp), rfl⟩
set_option maxHeartbeats 400000 in
theorem c_fnMore (a b : Int) (w : World) :
    Calls Try.prog 128 #[.int .i64 a, .int .i64 b] w fun e w' => e = .returned (.bool (decide (b < a))) ∧ w = w' := by
  go_enter Try.func128, Try.ntmps128
  go_wp2
  go_ret
  exact ⟨rfl, rfl⟩
set_option maxHeartbeats 1000000 in
theorem c_divideDown (a b : Int) (w : World) (a0 : -1000000000 ≤ a) (a1 : a ≤ 1000000000) (b0 : -1000000000 ≤ b) (b1 : b ≤ 1000000000) :
    Calls Try.prog 124 #[.int .i64 a, .int .i64 b] w (GivesV w (if b = 0 then none else some (dn a b))) := by
  by_cases hb : b = 0
  · subst hb
    rw [if_pos rfl]
    go_enter Try.func124, Try.ntmps124
    go_wp2
    exact ⟨rfl, ⟨_, _, rfl⟩, Below.refl _ _⟩
  · rw [if_neg hb]
    obtain ⟨q0, q1⟩ := tdiv_box (a := a) (b := b) (M := 1000000000) (by omega)
    have em : 0 ≤ a → a.tmod b = a % b := fun h => Int.tmod_eq_emod_of_nonneg h
    by_cases hz : a.tmod b = 0
    · have hz' : (a.tmod b != 0) = false := by simpa using hz
      have hz2 : 0 ≤ a → (a % b != 0) = false := fun h => by rw [← em h]; exact hz'
      rw [dn_zero hz]
      clear em
      by_cases h1 : 0 ≤ a
      · have hz3 := hz2 h1
        clear hz2
        go_enter Try.func124, Try.ntmps124
        go_wp2
        go_ret
        exact ⟨rfl, Below.refl _ _⟩
      · clear hz2
        go_enter Try.func124, Try.ntmps124
        go_wp2
        go_ret
        exact ⟨rfl, Below.refl _ _⟩
    · have hz' : (a.tmod b != 0) = true := by simpa using hz
      have hz2 : 0 ≤ a → (a % b != 0) = true := fun h => by rw [← em h]; exact hz'
      clear em
      by_cases h1 : a < 0 <;> by_cases h2 : b < 0
      · rw [dn_same (by omega)]
        clear hz2
        go_enter Try.func124, Try.ntmps124
        go_wp2
        go_ret
        exact ⟨rfl, Below.refl _ _⟩
      · rw [dn_down hz (by omega)]
        clear hz2
        go_enter Try.func124, Try.ntmps124
        go_wp2
        go_ret
        exact ⟨rfl, Below.refl _ _⟩
      · rw [dn_down hz (by omega)]
        have hz3 := hz2 (by omega)
        clear hz2
        go_enter Try.func124, Try.ntmps124
        go_wp2
        go_ret
        exact ⟨rfl, Below.refl _ _⟩
      · rw [dn_same (by omega)]
        have hz3 := hz2 (by omega)
        clear hz2
        go_enter Try.func124, Try.ntmps124
        go_wp2
        go_ret
        exact ⟨rfl, Below.refl _ _⟩

/-! The functions of two numbers. -/
theorem opF2 : OpF (.func (.func 121) #[] #[]) 2 :=
  ⟨_, rfl, fun args w => by go_simp, fun u a b a0 a1 b0 b1 => (c_fnAdd a b u a0 a1 b0 b1).mono fun e u' h => ⟨h.1, h.2 ▸ Below.refl _ _⟩⟩
theorem opF3 : OpF (.func (.func 122) #[] #[]) 3 :=
  ⟨_, rfl, fun args w => by go_simp, fun u a b a0 a1 b0 b1 => (c_fnSub a b u a0 a1 b0 b1).mono fun e u' h => ⟨h.1, h.2 ▸ Below.refl _ _⟩⟩
theorem opF4 : OpF (.func (.func 123) #[] #[]) 4 :=
  ⟨_, rfl, fun args w => by go_simp, fun u a b a0 a1 b0 b1 => (c_fnMul a b u a0 a1 b0 b1).mono fun e u' h => ⟨h.1, h.2 ▸ Below.refl _ _⟩⟩
theorem opF5 : OpF (.func (.func 124) #[] #[]) 5 :=
  ⟨_, rfl, fun args w => by go_simp, fun u a b a0 a1 b0 b1 => c_divideDown a b u a0 a1 b0 b1⟩
theorem testF6 : TestF (.func (.func 126) #[] #[]) 6 := ⟨_, rfl, fun args w => by go_simp, fun u a b => c_fnLess a b u⟩
theorem testF7 : TestF (.func (.func 127) #[] #[]) 7 := ⟨_, rfl, fun args w => by go_simp, fun u a b => c_fnSame a b u⟩
theorem testF8 : TestF (.func (.func 128) #[] #[]) 8 := ⟨_, rfl, fun args w => by go_simp, fun u a b => c_fnMore a b u⟩
theorem entCombine : Ent 153 := fun args w => by go_simp
theorem entChoose : Ent 154 := fun args w => by go_simp
theorem ent2 : Ent 119 := fun args w => by go_simp
end Go.Proofs.Ytdodmcmkelegoaa
