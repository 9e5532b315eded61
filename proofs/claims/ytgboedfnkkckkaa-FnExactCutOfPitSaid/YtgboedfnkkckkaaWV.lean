/-
  Contract: the ore of a list of values, in the model.
-/
import Derived.Test.YtgboedfnkkckkaaW1
import Derived.Test.YtgboedfnkkckkaaNR
namespace Go.Proofs.Ytgboedfnkkckkaa
open Go.RowKit
set_option linter.unusedVariables false

def pAt (q : Int → Bool) (xs : List Int) : Int → Bool := fun i => q (xs.getD i.toNat 0)
def oreQ : Int → Bool := fun t => decide (0 < t)
set_option maxHeartbeats 1000000 in
theorem c_vaOre (xs : List Int) (v : Value) (w : World) (hl : xs.length ≤ 4000000) (h : Seen w v xs) :
    Calls Try.prog 93 #[v] w (GivesRow w (sel (pAt oreQ xs) xs.length)) := by
  obtain ⟨i0, hi0, hz0, hz1, hz2⟩ := info_parts int_info
  have HI := Lib.hid hi0
  clear hi0
  obtain ⟨A, c, rfl, hm, hA⟩ := h
  clear hm
  have E1 : Hid (∀ k : Nat, k < xs.length → ∃ b off, A = some ⟨b, off, none⟩ ∧ b < w.heap.size ∧ w.cell? ⟨b, off + k, none⟩ = some (.int .i64 (xs.getD k 0))) := fun k hk => by
    obtain ⟨b, off, rfl, hb, hc⟩ := hA (by omega)
    exact ⟨b, off, rfl, hb, hc k hk⟩
  have HP : Hid (∀ k : Nat, pAt oreQ xs k = decide (0 < xs.getD k 0)) := fun k => rfl
  clear hA
  generalize pAt oreQ xs = p at *
  generalize hn : xs.length = n at *
  clear hn
  go_enter Try.func93, Try.ntmps93
  go_wp2_with fail
  go_loopw [3, 8] (fun v i wr => ∃ k : Nat, k ≤ n ∧ i = .int .i64 k ∧ Row wr w.heap.size v (sel p k) ∧ Below w.heap.size w wr) (fun _ i _ => n - (intOf i).toNat)
  case atStart => exact ⟨0, Nat.zero_le _, rfl, Row.nil _ _, Below.refl _ _⟩
  case round =>
    obtain ⟨k, hk, rfl, hr, hbw⟩ := hrel
    have HR := Lib.hid hr
    have HB := Lib.hid hbw
    clear hr hbw
    by_cases hlt : k < n
    · obtain ⟨b, off, rfl, hbl, hcc⟩ := E1.out k hlt
      have q1 : wr.cell? ⟨b, off + k, none⟩ = some (.int .i64 (xs.getD k 0)) := by rw [HB.out.cell (p := ⟨b, off + k, none⟩) hbl]; exact hcc
      have hp : Hid (p k = decide (0 < xs.getD k 0)) := HP.out k
      clear hcc hbl
      generalize xs.getD k 0 = t at *
      have b1 : (0 : Int) ≤ (k : Int) := by omega
      have b2 : (k : Int) < (n : Int) := by omega
      have hlen := sel_len p k
      have sw := HB.out.size
      by_cases hq : 0 < t
      case neg =>
        have HQ : Hid (p k = false) := hp.out.trans (decide_eq_false hq)
        clear hp
        go_wp2
        go_roundw
        case rel => exact ⟨k + 1, by omega, by go_num, by rw [sel_miss HQ.out]; exact HR.out, HB.out⟩
        case measure => simp [intOf]; omega
      case pos =>
        have HQ : Hid (p k = true) := hp.out.trans (decide_eq_true hq)
        clear hp
        go_wp2_with (at_builtin; refine wpList_append_own _ rfl _ _ 30 rfl (w.heap.size) 3 i0 (.int .i64 0) 1 8 Try.underlying30 HI.out hz0 hz1 hz2 rfl (by decide) _ _ _ rfl (World.ownsRow.alloc HR.out _) ⟨wr.heap.size, 0, none⟩ 1 1 [.int .i64 k] rfl rfl ?c1 ?c2 ?c3 ?c4 ?c5 ?_)
        case c1 =>
          intro j u hj
          match j, hj with
          | 0, hj => simp at hj; subst hj; simp [Addr.add]
        case c2 => intro u hu; simp at hu; subst hu; rfl
        case c3 => unfold maxLen; omega
        case c4 => omega
        case c5 => simp; omega
        intro v' w4 hown' hgrow _
        have R1 : Hid (Row w4 w.heap.size v' (sel p (k + 1))) := by rw [sel_hit HQ.out]; exact row_more hown'
        have R2 : Hid (Below w.heap.size w w4) := (HB.out.alloc sw _).grown hgrow (by simp; omega) (fun g hg => (World.ownsRow.lt HR.out g hg).1)
        clear hown' hgrow
        go_wp2
        go_roundw
        case rel => exact ⟨k + 1, by omega, by go_num, R1.out, R2.out⟩
        case measure => simp [intOf]; omega
    · obtain rfl : k = n := by omega
      go_wp2
      go_ret
      exact ⟨_, rfl, HR.out, HB.out⟩
end Go.Proofs.Ytgboedfnkkckkaa
