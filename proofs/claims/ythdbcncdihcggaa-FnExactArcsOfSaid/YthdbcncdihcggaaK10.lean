/-
  Contracts: marks: cleared, set, and the blocks that are marked.
-/
import Derived.Test.YthdbcncdihcggaaK9
import Derived.Lib.SliceRun
import Derived.Deep.AppendLies
namespace Go.Proofs.Ythdbcncdihcggaa
open Go.RowKit
set_option linter.unusedVariables false

def bools (bs : List Bool) : List Value := bs.map Value.bool
/-- The slice v is a row of the marks bs, in memory from block B on. -/
def RowB (w : World) (B : Nat) (v : Value) (bs : List Bool) : Prop := w.ownsRow B 4 1 v bs.length (bools bs)
theorem RowB.cell {w : World} {B g c : Nat} {bs : List Bool} (h : RowB w B (.slice (some ⟨g, 0, none⟩) bs.length c) bs) (k : Nat) (hk : k < bs.length) : w.cell? ⟨g, k, none⟩ = some (.bool (bs.getD k false)) := by
  rw [World.ownsRow.cellAt h k (by omega)]
  simp [bools, hk]
theorem RowB.frozen {w : World} {B g c : Nat} {bs : List Bool} (h : RowB w B (.slice (some ⟨g, 0, none⟩) bs.length c) bs) (k : Nat) : w.frozen? ⟨g, k, none⟩ = false := World.ownsRow.frozenAt h k
theorem RowB.blk {w : World} {B g c : Nat} {bs : List Bool} (h : RowB w B (.slice (some ⟨g, 0, none⟩) bs.length c) bs) (h0 : 0 < bs.length) : g < w.heap.size := by
  obtain ⟨g', c', e, _, hl⟩ := World.ownsRow.form h h0
  simp at e
  rw [e.1]; exact hl
theorem RowB.set_ {w : World} {B g c n : Nat} {bs : List Bool} (hn : n = bs.length) (h : RowB w B (.slice (some ⟨g, 0, none⟩) n c) bs) (j : Nat) (u : Bool) :
    RowB (w.setCell ⟨g, j, none⟩ (.bool u)) B (.slice (some ⟨g, 0, none⟩) n c) (bs.set j u) ∧ w.grownBy (w.setCell ⟨g, j, none⟩ (.bool u)) (some g) := by
  subst hn
  have := World.ownsRow.stored h j (.bool u)
  refine ⟨?_, this.2⟩
  unfold RowB
  rw [List.length_set, show bools (bs.set j u) = (bools bs).set j (.bool u) by simp [bools, List.map_set]]
  exact this.1
theorem RowB.below {w w' : World} {B : Nat} {v : Value} {bs : List Bool} (h : RowB w B v bs) (hb : Below w.heap.size w w') : RowB w' B v bs :=
  World.ownsRow.kept (row := none) h ⟨hb.os, hb.tape, hb.output, hb.size, fun k hk _ => hb.block k hk⟩ (by cases v.ownBlock <;> simp)
/-- Marks cleared from a place on. -/
theorem RowB.clears {B g c n : Nat} : ∀ (k : Nat) {w : World} {bs : List Bool} (o : Nat), bs.length = o + k → n = bs.length → RowB w B (.slice (some ⟨g, 0, none⟩) n c) bs →
    RowB (w.setCells g o (List.replicate k (.bool false))) B (.slice (some ⟨g, 0, none⟩) n c) (bs.take o ++ List.replicate k false) ∧ w.grownBy (w.setCells g o (List.replicate k (.bool false))) (some g)
  | 0, w, bs, o, hl, hn, h => by
    refine ⟨?_, World.grownBy.refl _ _⟩
    simp only [List.replicate_zero, List.append_nil, World.setCells]
    rw [List.take_of_length_le (by omega)]
    exact h
  | k + 1, w, bs, o, hl, hn, h => by
    obtain ⟨h1, h2⟩ := RowB.set_ hn h o false
    obtain ⟨h3, h4⟩ := RowB.clears k (bs := bs.set o false) (o + 1) (by rw [List.length_set]; omega) (by rw [List.length_set]; exact hn) h1
    rw [List.replicate_succ, World.setCells]
    refine ⟨?_, h2.trans h4⟩
    have e : (bs.set o false).take (o + 1) ++ List.replicate k false = bs.take o ++ List.replicate (k + 1) false := by
      rw [List.take_add_one, List.take_set, List.replicate_succ, List.set_eq_of_length_le (by simp; omega)]
      simp [show o < bs.length by omega]
    rw [e] at h3
    exact h3
theorem zero_bool (w : World) : (zeroValue 4).run Try.prog w = .ok (.bool false) w := by kernel_rfl
theorem run_clear {B g c n : Nat} {w : World} {bs : List Bool} (hn : n = bs.length) (h0 : 0 < n) (h : RowB w B (.slice (some ⟨g, 0, none⟩) n c) bs) (ty : TypeId) :
    (Builtin.clear_ #[82] ty #[.slice (some ⟨g, 0, none⟩) n c]).run Try.prog w = .ok (.tuple #[]) (w.setCells g 0 (List.replicate n (.bool false))) := by
  subst hn
  exact Lib.run_clear_slice w 82 4 ty (.bool false) Try.underlying82 zero_bool rfl rfl g 0 bs.length c h0 (fun j hj => by rw [Nat.zero_add, h.cell j hj]; rfl) (fun j hj => by rw [Nat.zero_add]; exact h.frozen j)

theorem row_more {w3 : World} {B : Nat} {v' : Value} {xs : List Int} {k : Int} (h : w3.ownsRow B 3 1 v' (xs.length + 1) (ints xs ++ [.int .i64 k])) : Row w3 B v' (xs ++ [k]) := by
  unfold Row
  rw [List.length_append, show ints (xs ++ [k]) = ints xs ++ [.int .i64 k] by simp [ints]]
  exact h
/-- Whether block k is marked. -/
def bAt (bs : List Bool) : Int → Bool := fun i => bs.getD i.toNat false

set_option maxHeartbeats 400000 in
theorem c_fnMarked (b : Bool) (w : World) : Calls Try.prog 64 #[.bool b] w fun e w' => e = .returned (.bool b) ∧ w = w' := by
  go_enter Try.func64, Try.ntmps64
  go_wp2
  go_ret
  exact ⟨rfl, rfl⟩

set_option maxHeartbeats 1000000 in
theorem c_whereMarks (bs : List Bool) (g c : Nat) (B : Nat) (w : World) (hl : bs.length ≤ 4000000) (h : RowB w B (.slice (some ⟨g, 0, none⟩) bs.length c) bs) :
    Calls Try.prog 63 #[.slice (some ⟨g, 0, none⟩) bs.length c, .func (.func 64) #[] #[]] w (GivesRow w (sel (bAt bs) bs.length)) := by
  obtain ⟨i0, hi0, hz0, hz1, hz2⟩ := info_parts int_info
  have HI := Lib.hid hi0
  clear hi0
  have E1 : Hid (∀ (k : Nat), k < bs.length → w.cell? ⟨g, k, none⟩ = some (.bool (bs.getD k false)) ∧ g < w.heap.size) := fun k hk => ⟨h.cell k hk, h.blk (by omega)⟩
  have HP : Hid (∀ k : Nat, bAt bs k = bs.getD k false) := fun k => rfl
  clear h
  generalize bAt bs = p at *
  generalize hn : bs.length = n at *
  clear hn
  go_enter Try.func63, Try.ntmps63
  go_wp2_with fail
  go_loopw [5, 10] (fun v i wr => ∃ k : Nat, k ≤ n ∧ i = .int .i64 k ∧ Row wr w.heap.size v (sel p k) ∧ Below w.heap.size w wr) (fun _ i _ => n - (intOf i).toNat)
  case atStart => exact ⟨0, Nat.zero_le _, rfl, Row.nil _ _, Below.refl _ _⟩
  case round =>
    obtain ⟨k, hk, rfl, hr, hbw⟩ := hrel
    have HR := Lib.hid hr
    have HB := Lib.hid hbw
    clear hr hbw
    by_cases hlt : k < n
    · obtain ⟨hcc, hbl⟩ := E1.out k hlt
      have q1 : wr.cell? ⟨g, k, none⟩ = some (.bool (bs.getD k false)) := by rw [HB.out.cell (p := ⟨g, k, none⟩) hbl]; exact hcc
      have hp : Hid (p k = bs.getD k false) := HP.out k
      clear hcc hbl
      generalize bs.getD k false = t at *
      have b1 : (0 : Int) ≤ (k : Int) := by omega
      have b2 : (k : Int) < (n : Int) := by omega
      have hlen := sel_len p k
      have sw := HB.out.size
      go_wp2_with fail
      refine (c_fnMarked _ _).mono ?_
      rintro e w2 ⟨rfl, rfl⟩
      cases t
      · have HQ : Hid (p k = false) := hp.out
        go_wp2
        go_roundw
        case rel => exact ⟨k + 1, by omega, by go_num, by rw [sel_miss HQ.out]; exact HR.out, HB.out⟩
        case measure => simp [intOf]; omega
      · have HQ : Hid (p k = true) := hp.out
        go_wp2_with (at_builtin; refine wpList_append_own _ rfl _ _ 31 rfl (w.heap.size) 3 i0 (.int .i64 0) 1 8 Try.underlying31 HI.out hz0 hz1 hz2 rfl (by decide) _ _ _ rfl (World.ownsRow.alloc HR.out _) ⟨wr.heap.size, 0, none⟩ 1 1 [.int .i64 k] rfl rfl ?c1 ?c2 ?c3 ?c4 ?c5 ?_)
        case c1 =>
          intro j u hj
          match j, hj with
          | 0, hj => simp at hj; subst hj; simp [Addr.add]
        case c2 => intro u hu; simp at hu; subst hu; rfl
        case c3 => unfold maxLen; omega
        case c4 => omega
        case c5 => simp; omega
        intro v' w4 hown' hgrow _
        have R1 : Hid (Row w4 w.heap.size v' (sel p (k + 1))) := by rw [sel_hit HQ.out]; exact row_more hown'
        have R2 : Hid (Below w.heap.size w w4) := (HB.out.alloc sw _).grown hgrow (by simp; omega) (fun g hg => (World.ownsRow.lt HR.out g hg).1)
        clear hown' hgrow
        go_wp2
        go_roundw
        case rel => exact ⟨k + 1, by omega, by go_num, R1.out, R2.out⟩
        case measure => simp [intOf]; omega
    · obtain rfl : k = n := by omega
      go_wp2
      go_ret
      exact ⟨_, rfl, HR.out, HB.out⟩
end Go.Proofs.Ythdbcncdihcggaa
