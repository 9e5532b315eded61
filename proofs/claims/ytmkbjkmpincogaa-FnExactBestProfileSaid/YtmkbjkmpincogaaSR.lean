/-
  Contract: a list of n times a number by slices.Repeat.
-/
import Derived.Test.YtmkbjkmpincogaaLP
import Derived.Test.YtmkbjkmpincogaaM1
import Derived.Test.YtmkbjkmpincogaaShelf
import Derived.Laws.CopyOwn
import Derived.BigRegion
namespace Go.Proofs.Ytmkbjkmpincogaa
open Go.RowKit
set_option linter.unusedVariables false

/-- The first k of n are X, the others 0. -/
def rxL (X : Int) (n k : Nat) : List Int := List.replicate k X ++ List.replicate (n - k) 0
theorem rxL_len (X : Int) (n k : Nat) (h : k ≤ n) : (rxL X n k).length = n := by simp [rxL]; omega
/-- The first k of n are X, as values. -/
def rpL (X : Int) (n k : Nat) : List Value := ints (rxL X n k)
theorem rpL_len (X : Int) (n k : Nat) (h : k ≤ n) : (rpL X n k).length = n := by unfold rpL ints; rw [List.length_map, rxL_len X n k h]
theorem rpL_more (X : Int) (n k c : Nat) (h : k + c ≤ n) : splice (rpL X n k) k (List.replicate c (.int .i64 X)) = rpL X n (k + c) := by
  unfold splice rpL ints rxL
  rw [List.length_replicate, List.map_append, List.map_append, List.map_replicate, List.map_replicate, List.map_replicate, List.map_replicate]
  rw [List.take_append_of_le_length (by simp), List.take_of_length_le (by simp), List.drop_append, List.drop_eq_nil_of_le (by simp), List.nil_append, List.drop_replicate, List.length_replicate]
  rw [show k + c - k = c by omega, show n - k - c = n - (k + c) by omega, ← List.append_assoc, List.replicate_append_replicate]
theorem rpL_at {X : Int} {w : World} {g n k j : Nat} (hg : w.heap[g]? = some (.cells (rpL X n k).toArray 3 (0, 0))) (hk : k ≤ n) (hj : j < k) : w.cell? ⟨g, j, none⟩ = some (.int .i64 X) := by
  have hl := rpL_len X n k hk
  have : (rpL X n k)[j]? = some (.int .i64 X) := by
    unfold rpL ints rxL
    rw [List.map_append, List.getElem?_append_left (by simp; omega)]
    simp [hj]
  simp [World.cell?, hg, this]
theorem rpL_row {X : Int} {w : World} {B g n : Nat} (hB : B ≤ g) (hn : n ≤ 130) (hg : w.heap[g]? = some (.cells (rpL X n n).toArray 3 (0, 0))) : Row w B (.slice (some ⟨g, 0, none⟩) n n) (List.replicate n X) := by
  have e : rpL X n n = ints (List.replicate n X) := by unfold rpL rxL; simp
  have hl := rpL_len X n n (Nat.le_refl _)
  unfold Row
  rw [List.length_replicate]
  refine ⟨by unfold ints; simp, .inr ⟨g, n, _, rfl, hB, hg, Nat.le_refl _, by unfold maxLen; omega, by simp [hl], ?_⟩⟩
  rw [e]
  simp [ints]

set_option maxHeartbeats 8000000 in
set_option maxRecDepth 100000 in
theorem c_Repeat (X : Int) (n bx : Nat) (w : World) (n1 : 1 ≤ n) (n2 : n ≤ 130) (hbx : bx < w.heap.size) (hx : w.cell? ⟨bx, 0, none⟩ = some (.int .i64 X)) :
    Calls Try.prog 54 #[.slice (some ⟨bx, 0, none⟩) 1 1, .int .i64 n] w (GivesRow w (List.replicate n X)) := by
  obtain ⟨i0, hi0, hz0, hz1, hz2⟩ := info_parts int_info
  have HSz : Hid ((Try.prog.info? 3).map (·.size) = some 1) := by show _ = _; rw [hi0]; simp [hz1]
  have hmk : (Instr.makeSlice 27 (.int .i64 (n : Int)) (.int .i64 (n : Int))).run Try.prog w = .ok (.slice (some ⟨w.heap.size, 0, none⟩) n n) (w.alloc (.cells (madeCells #[.int .i64 0] n) 3)) := by
    have := run_make (P := Try.prog) w 27 3 i0 (.int .i64 0) Try.underlying27 hi0 hz0 .i64 .i64 (n : Int) (n : Int) (by omega) (by omega) (by rw [hz2]; omega) (by omega)
    simpa [hz1, Value.cells] using this
  have hmc : madeCells #[.int .i64 0] n = (rpL X n 0).toArray := by
    apply Array.ext'
    rw [toList_madeCells_one]
    unfold rpL rxL ints
    simp
  rw [hmc] at hmk
  have CM : Hid (Calls Try.prog 81 #[.int .u64 1, .int .u64 n] w fun e w' => e = .returned (.tuple #[.int .u64 0, .int .u64 n]) ∧ w' = w) := by
    refine (Try.bits_Mul 1 n (by omega) (by omega) w).mono fun e w' ⟨h1, h2⟩ => ⟨?_, h2⟩
    rw [h1, Nat.one_mul, Nat.div_eq_of_lt (by omega), Nat.mod_eq_of_lt (by omega)]
    rfl
  have HX : Hid ((w.alloc (.cells (rpL X n 0).toArray 3)).cell? ⟨bx, 0, none⟩ = some (.int .i64 X)) := by
    show _ = _
    rw [(Below.refl w.heap.size w |>.alloc (Nat.le_refl _) (.cells (rpL X n 0).toArray 3)).cell (p := ⟨bx, 0, none⟩) hbx]
    exact hx
  have HXW : Hid (w.cell? ⟨bx, 0, none⟩ = some (.int .i64 X)) := hx
  have HG : Hid ((w.alloc (.cells (rpL X n 0).toArray 3)).heap[w.heap.size]? = some (.cells (rpL X n 0).toArray 3 (0, 0))) := heap_alloc_new w _
  have HB0 : Hid (Below w.heap.size w (w.alloc (.cells (rpL X n 0).toArray 3))) := (Below.refl _ _).alloc (Nat.le_refl _) _
  have L1 : (rpL X n 0).length = n := rpL_len X n 0 (by omega)
  have b1 : (1 : Int) ≤ (n : Int) := by omega
  have b2 : (n : Int) ≤ 130 := by omega
  clear hi0 hx hmc
  go_enter Try.func54, Try.ntmps54
  go_wp2_with fail
  refine CM.out.mono ?_
  rintro e w1 ⟨rfl, rfl⟩
  clear CM
  have L2 : ([.int .i64 X] : List Value).length = 1 := rfl
  have nb : 1 ≤ n := by omega
  go_wp2_with (with_reducible refine wpList_copy_splice rfl (.tmp 31) (.tmp 32) 27 27 rfl 3 Try.underlying27 HSz.out (some ⟨w1.heap.size, 0, none⟩) (some ⟨bx, 0, none⟩) n n 1 1 rfl rfl w1.heap.size 0 (rpL X n 0) 3 HG.out [.int .i64 X] ?c1 ?c2 ?c3 ?c4 w1.heap.size w1 HB0.out (Nat.le_refl _) ?_)
  case c1 => simp [Nat.min_eq_left nb]
  case c2 =>
    intro j v hj
    match j, hj with
    | 0, hj => simp at hj; subst hj; simpa [Addr.add] using HXW.out
  case c3 => rw [L1]; simp; omega
  case c4 => intro v hv; simp at hv; subst hv; rfl
  intro w2 hg2 hb2
  have HG2 : Hid (w2.heap[w1.heap.size]? = some (.cells (rpL X n 1).toArray 3 (0, 0))) := by
    have := rpL_more X n 0 1 (by omega)
    show _ = _
    rw [show 0 + 1 = 1 from rfl] at this
    rw [← this]
    exact hg2.out
  have HB2 := Lib.hid hb2
  clear hg2 hb2 HG HB0 HX HXW hmk L1 L2 hbx
  go_wp2_with fail
  go_loopw [8] (fun i wr => ∃ k : Nat, 1 ≤ k ∧ k ≤ n ∧ i = .int .i64 k ∧ wr.heap[w1.heap.size]? = some (.cells (rpL X n k).toArray 3 (0, 0)) ∧ Below w1.heap.size w1 wr) (fun i _ => n - (intOf i).toNat)
  case atStart => exact ⟨1, Nat.le_refl _, nb, rfl, HG2.out, HB2.out⟩
  case round =>
    obtain ⟨k, k1, hk, rfl, hg, hb⟩ := hrel
    have HG := Lib.hid hg
    have HB := Lib.hid hb
    clear hg hb HG2 HB2
    have b3 : (1 : Int) ≤ (k : Int) := by omega
    by_cases hlt : k < n
    · have b4 : (k : Int) < (n : Int) := by omega
      obtain ⟨c, hc⟩ : ∃ c, c = min k (n - k) := ⟨_, rfl⟩
      have hc1 : c = Nat.min k (n - k) := hc
      have hc2 : k + c ≤ n := by omega
      have hc3 : 1 ≤ c := by omega
      have hc4 : c ≤ k := by omega
      clear hc
      have LK : Hid ((rpL X n k).length = n) := rpL_len X n k hk
      have M : Hid (splice (rpL X n k) k (List.replicate c (.int .i64 X)) = rpL X n (k + c)) := rpL_more X n k c hc2
      have hnk : ¬ n = k := by omega
      have HGd : Hid (wr.drew.heap[w1.heap.size]? = some (.cells (rpL X n k).toArray 3 (0, 0))) := HG.out
      have HBd : Hid (Below w1.heap.size w1 wr.drew) := HB.out.drew
      have SRC : Hid (∀ (j : Nat) (v : Value), (List.replicate c (Value.int .i64 X))[j]? = some v → wr.drew.cell? ((⟨w1.heap.size, 0, none⟩ : Addr).add j) = some v) := fun j v hj => by
        rw [List.getElem?_replicate] at hj
        split at hj
        · simp at hj
          subst hj
          have q := rpL_at (X := X) (n := n) (k := k) (j := j) HGd.out hk (by omega)
          have e : (⟨w1.heap.size, 0, none⟩ : Addr).add j = ⟨w1.heap.size, j, none⟩ := by
            unfold Addr.add
            split
            · rename_i h; subst h; rfl
            · simp
          rw [e]
          exact q
        · simp at hj
      have H1 : Hid (∀ v ∈ List.replicate c (Value.int .i64 X), v.oneCell' = true) := fun v hv => by rw [List.mem_replicate] at hv; rw [hv.2]; rfl
      have CL : Hid ((List.replicate c (Value.int .i64 X)).length = Nat.min k (n - k)) := by show _ = _; rw [List.length_replicate]; exact hc1
      have CF : Hid (k + (List.replicate c (Value.int .i64 X)).length ≤ (rpL X n k).length) := by show _ ≤ _; rw [LK.out, List.length_replicate]; exact hc2
      have CI : Hid (((List.replicate c (Value.int .i64 X)).length : Int) = c) := by show _ = _; rw [List.length_replicate]
      clear hc1
      generalize List.replicate c (Value.int .i64 X) = cs at *
      go_wp2_with fail
      go_region_law (refine step_copy_splice rfl (.tmp 41) (.tmp 44) 27 27 rfl 3 Try.underlying27 HSz.out (some ⟨w1.heap.size, k, none⟩) (some ⟨w1.heap.size, 0, none⟩) (n - k) (n - k) k n (by simp [Act.eval, Act.put]) (by simp [Act.eval, Act.put]) w1.heap.size k (rpL X n k) 3 HGd.out cs CL.out (fun _ => ⟨rfl, _, rfl, SRC.out⟩) CF.out H1.out w1.heap.size w1 HBd.out (Nat.le_refl _) ?_; intro w4 hg4 hb4)
      rw [M.out] at hg4
      have CN : cs.length = c := by have := CI.out; omega
      have G4 := Lib.hid hg4.out
      have B4 := Lib.hid hb4
      clear hg4 hb4 HG HB HGd HBd SRC H1 CL CF CI M LK
      rw [CN]
      clear CN
      go_simp
      rw [show IntKind.i64.wrap ((k : Int) + (c : Int)) = ((k + c : Nat) : Int) by rw [IntKind.wrap_i64]; omega]
      go_wp2
      go_roundw
      case rel => exact ⟨k + c, by omega, hc2, rfl, G4.out, B4.out⟩
      case measure => simp [intOf]; omega
    · obtain rfl : k = n := by omega
      have R1 := Lib.hid (rpL_row (Nat.le_refl _) n2 HG.out)
      go_wp2
      go_ret
      exact ⟨_, rfl, R1.out, HB.out⟩
end Go.Proofs.Ytmkbjkmpincogaa
