/-
Contract: a list of n times -1 by slices.Repeat.
Contract: the numbers of steps from the source, in the program.
Contracts: the places of a list where a node is reached or not; a list turned round.
-/
import Derived.Test.YtdgkgnlilcbggaaZU
import Derived.Test.YtdgkgnlilcbggaaShelf
import Derived.Laws.CopyOwn
import Derived.BigRegion
import Derived.Test.YtdgkgnlilcbggaaZQ
import Derived.IntWalk
import Derived.Test.YtdgkgnlilcbggaaM6
import Derived.Test.YtdgkgnlilcbggaaM1
import Derived.Test.YtdgkgnlilcbggaaAP
import Derived.Test.YtdgkgnlilcbggaaNR
namespace Go.Proofs.Ytdgkgnlilcbggaa
open Go.RowKit
set_option linter.unusedVariables false

/-- The first k of n are -1, as values. -/
def rpL (n k : Nat) : List Value := ints (unrL n k)
theorem rpL_len (n k : Nat) (h : k ≤ n) : (rpL n k).length = n := by unfold rpL ints; rw [List.length_map, unrL_len n k h]
theorem rpL_more (n k c : Nat) (h : k + c ≤ n) : splice (rpL n k) k (List.replicate c (.int .i64 (-1))) = rpL n (k + c) := by
  unfold splice rpL ints unrL
  rw [List.length_replicate, List.map_append, List.map_append, List.map_replicate, List.map_replicate, List.map_replicate, List.map_replicate]
  rw [List.take_append_of_le_length (by simp), List.take_of_length_le (by simp), List.drop_append, List.drop_eq_nil_of_le (by simp), List.nil_append, List.drop_replicate, List.length_replicate]
  rw [show k + c - k = c by omega, show n - k - c = n - (k + c) by omega, ← List.append_assoc, List.replicate_append_replicate]
theorem rpL_at {w : World} {g n k j : Nat} (hg : w.heap[g]? = some (.cells (rpL n k).toArray 3 (0, 0))) (hk : k ≤ n) (hj : j < k) : w.cell? ⟨g, j, none⟩ = some (.int .i64 (-1)) := by
  have hl := rpL_len n k hk
  have : (rpL n k)[j]? = some (.int .i64 (-1)) := by
    unfold rpL ints unrL
    rw [List.map_append, List.getElem?_append_left (by simp; omega)]
    simp [hj]
  simp [World.cell?, hg, this]
theorem rpL_row {w : World} {B g n : Nat} (hB : B ≤ g) (hn : n ≤ 130) (hg : w.heap[g]? = some (.cells (rpL n n).toArray 3 (0, 0))) : Row w B (.slice (some ⟨g, 0, none⟩) n n) (List.replicate n (-1)) := by
  have e : rpL n n = ints (List.replicate n (-1)) := by unfold rpL unrL; simp
  have hl := rpL_len n n (Nat.le_refl _)
  unfold Row
  rw [List.length_replicate]
  refine ⟨by unfold ints; simp, .inr ⟨g, n, _, rfl, hB, hg, Nat.le_refl _, by unfold maxLen; omega, by simp [hl], ?_⟩⟩
  rw [e]
  simp [ints]

set_option maxHeartbeats 8000000 in
set_option maxRecDepth 100000 in
theorem c_Repeat (n bx : Nat) (w : World) (n1 : 2 ≤ n) (n2 : n ≤ 130) (hbx : bx < w.heap.size) (hx : w.cell? ⟨bx, 0, none⟩ = some (.int .i64 (-1))) :
    Calls Try.prog 73 #[.slice (some ⟨bx, 0, none⟩) 1 1, .int .i64 n] w (GivesRow w (List.replicate n (-1))) := by
  obtain ⟨i0, hi0, hz0, hz1, hz2⟩ := info_parts int_info
  have HSz : Hid ((Try.prog.info? 3).map (·.size) = some 1) := by show _ = _; rw [hi0]; simp [hz1]
  have hmk : (Instr.makeSlice 23 (.int .i64 (n : Int)) (.int .i64 (n : Int))).run Try.prog w = .ok (.slice (some ⟨w.heap.size, 0, none⟩) n n) (w.alloc (.cells (madeCells #[.int .i64 0] n) 3)) := by
    have := run_make (P := Try.prog) w 23 3 i0 (.int .i64 0) Try.underlying23 hi0 hz0 .i64 .i64 (n : Int) (n : Int) (by omega) (by omega) (by rw [hz2]; omega) (by omega)
    simpa [hz1, Value.cells] using this
  have hmc : madeCells #[.int .i64 0] n = (rpL n 0).toArray := by
    apply Array.ext'
    rw [toList_madeCells_one]
    unfold rpL unrL ints
    simp
  rw [hmc] at hmk
  have CM : Hid (Calls Try.prog 86 #[.int .u64 1, .int .u64 n] w fun e w' => e = .returned (.tuple #[.int .u64 0, .int .u64 n]) ∧ w' = w) := by
    refine (Try.bits_Mul 1 n (by omega) (by omega) w).mono fun e w' ⟨h1, h2⟩ => ⟨?_, h2⟩
    rw [h1, Nat.one_mul, Nat.div_eq_of_lt (by omega), Nat.mod_eq_of_lt (by omega)]
    rfl
  have HX : Hid ((w.alloc (.cells (rpL n 0).toArray 3)).cell? ⟨bx, 0, none⟩ = some (.int .i64 (-1))) := by
    show _ = _
    rw [(Below.refl w.heap.size w |>.alloc (Nat.le_refl _) (.cells (rpL n 0).toArray 3)).cell (p := ⟨bx, 0, none⟩) hbx]
    exact hx
  have HXW : Hid (w.cell? ⟨bx, 0, none⟩ = some (.int .i64 (-1))) := hx
  have HG : Hid ((w.alloc (.cells (rpL n 0).toArray 3)).heap[w.heap.size]? = some (.cells (rpL n 0).toArray 3 (0, 0))) := heap_alloc_new w _
  have HB0 : Hid (Below w.heap.size w (w.alloc (.cells (rpL n 0).toArray 3))) := (Below.refl _ _).alloc (Nat.le_refl _) _
  have L1 : (rpL n 0).length = n := rpL_len n 0 (by omega)
  have b1 : (2 : Int) ≤ (n : Int) := by omega
  have b2 : (n : Int) ≤ 130 := by omega
  clear hi0 hx hmc
  go_enter Try.func73, Try.ntmps73
  go_wp2_with fail
  refine CM.out.mono ?_
  rintro e w1 ⟨rfl, rfl⟩
  clear CM
  have L2 : ([.int .i64 (-1)] : List Value).length = 1 := rfl
  have nb : 1 ≤ n := by omega
  go_wp2_with (with_reducible refine wpList_copy_splice rfl (.tmp 31) (.tmp 32) 23 23 rfl 3 Try.underlying23 HSz.out (some ⟨w1.heap.size, 0, none⟩) (some ⟨bx, 0, none⟩) n n 1 1 rfl rfl w1.heap.size 0 (rpL n 0) 3 HG.out [.int .i64 (-1)] ?c1 ?c2 ?c3 ?c4 w1.heap.size w1 HB0.out (Nat.le_refl _) ?_)
  case c1 => simp [Nat.min_eq_left nb]
  case c2 =>
    intro j v hj
    match j, hj with
    | 0, hj => simp at hj; subst hj; simpa [Addr.add] using HXW.out
  case c3 => rw [L1]; simp; omega
  case c4 => intro v hv; simp at hv; subst hv; rfl
  intro w2 hg2 hb2
  have HG2 : Hid (w2.heap[w1.heap.size]? = some (.cells (rpL n 1).toArray 3 (0, 0))) := by
    have := rpL_more n 0 1 (by omega)
    show _ = _
    rw [show 0 + 1 = 1 from rfl] at this
    rw [← this]
    exact hg2.out
  have HB2 := Lib.hid hb2
  clear hg2 hb2 HG HB0 HX HXW hmk L1 L2 hbx
  go_wp2_with fail
  go_loopw [8] (fun i wr => ∃ k : Nat, 1 ≤ k ∧ k ≤ n ∧ i = .int .i64 k ∧ wr.heap[w1.heap.size]? = some (.cells (rpL n k).toArray 3 (0, 0)) ∧ Below w1.heap.size w1 wr) (fun i _ => n - (intOf i).toNat)
  case atStart => exact ⟨1, Nat.le_refl _, nb, rfl, HG2.out, HB2.out⟩
  case round =>
    obtain ⟨k, k1, hk, rfl, hg, hb⟩ := hrel
    have HG := Lib.hid hg
    have HB := Lib.hid hb
    clear hg hb HG2 HB2
    have b3 : (1 : Int) ≤ (k : Int) := by omega
    by_cases hlt : k < n
    · have b4 : (k : Int) < (n : Int) := by omega
      obtain ⟨c, hc⟩ : ∃ c, c = min k (n - k) := ⟨_, rfl⟩
      have hc1 : c = Nat.min k (n - k) := hc
      have hc2 : k + c ≤ n := by omega
      have hc3 : 1 ≤ c := by omega
      have hc4 : c ≤ k := by omega
      clear hc
      have LK : Hid ((rpL n k).length = n) := rpL_len n k hk
      have M : Hid (splice (rpL n k) k (List.replicate c (.int .i64 (-1))) = rpL n (k + c)) := rpL_more n k c hc2
      have hnk : ¬ n = k := by omega
      have HGd : Hid (wr.drew.heap[w1.heap.size]? = some (.cells (rpL n k).toArray 3 (0, 0))) := HG.out
      have HBd : Hid (Below w1.heap.size w1 wr.drew) := HB.out.drew
      have SRC : Hid (∀ (j : Nat) (v : Value), (List.replicate c (Value.int .i64 (-1)))[j]? = some v → wr.drew.cell? ((⟨w1.heap.size, 0, none⟩ : Addr).add j) = some v) := fun j v hj => by
        rw [List.getElem?_replicate] at hj
        split at hj
        · simp at hj
          subst hj
          have q := rpL_at (n := n) (k := k) (j := j) HGd.out hk (by omega)
          have e : (⟨w1.heap.size, 0, none⟩ : Addr).add j = ⟨w1.heap.size, j, none⟩ := by
            unfold Addr.add
            split
            · rename_i h; subst h; rfl
            · simp
          rw [e]
          exact q
        · simp at hj
      have H1 : Hid (∀ v ∈ List.replicate c (Value.int .i64 (-1)), v.oneCell' = true) := fun v hv => by rw [List.mem_replicate] at hv; rw [hv.2]; rfl
      have CL : Hid ((List.replicate c (Value.int .i64 (-1))).length = Nat.min k (n - k)) := by show _ = _; rw [List.length_replicate]; exact hc1
      have CF : Hid (k + (List.replicate c (Value.int .i64 (-1))).length ≤ (rpL n k).length) := by show _ ≤ _; rw [LK.out, List.length_replicate]; exact hc2
      have CI : Hid (((List.replicate c (Value.int .i64 (-1))).length : Int) = c) := by show _ = _; rw [List.length_replicate]
      clear hc1
      generalize List.replicate c (Value.int .i64 (-1)) = cs at *
      go_wp2_with fail
      go_region_law (refine step_copy_splice rfl (.tmp 41) (.tmp 44) 23 23 rfl 3 Try.underlying23 HSz.out (some ⟨w1.heap.size, k, none⟩) (some ⟨w1.heap.size, 0, none⟩) (n - k) (n - k) k n (by simp [Act.eval, Act.put]) (by simp [Act.eval, Act.put]) w1.heap.size k (rpL n k) 3 HGd.out cs CL.out (fun _ => ⟨rfl, _, rfl, SRC.out⟩) CF.out H1.out w1.heap.size w1 HBd.out (Nat.le_refl _) ?_; intro w4 hg4 hb4)
      rw [M.out] at hg4
      have CN : cs.length = c := by have := CI.out; omega
      have G4 := Lib.hid hg4.out
      have B4 := Lib.hid hb4
      clear hg4 hb4 HG HB HGd HBd SRC H1 CL CF CI M LK
      rw [CN]
      clear CN
      go_simp
      rw [show IntKind.i64.wrap ((k : Int) + (c : Int)) = ((k + c : Nat) : Int) by rw [IntKind.wrap_i64]; omega]
      go_wp2
      go_roundw
      case rel => exact ⟨k + c, by omega, hc2, rfl, G4.out, B4.out⟩
      case measure => simp [intOf]; omega
    · obtain rfl : k = n := by omega
      have R1 := Lib.hid (rpL_row (Nat.le_refl _) n2 HG.out)
      go_wp2
      go_ret
      exact ⟨_, rfl, R1.out, HB.out⟩
end Go.Proofs.Ytdgkgnlilcbggaa

namespace Go.Proofs.Ytdgkgnlilcbggaa
open Go.RowKit
set_option linter.unusedVariables false

/-- How the first n cells of a block read. -/
def readN (w : World) (g n : Nat) : List Int := (List.range n).map fun k => match w.cell? ⟨g, k, none⟩ with | some (.int _ x) => x | _ => 0
theorem readN_row {w : World} {B g n c : Nat} {d : List Int} (hn : n = d.length) (h : Row w B (.slice (some ⟨g, 0, none⟩) n c) d) : readN w g n = d := by
  subst hn
  unfold readN
  refine List.ext_getElem (by simp) fun k h1 h2 => ?_
  rw [List.getElem_map, List.getElem_range, h.cell k h2]
  simp [List.getD_eq_getElem?_getD, h2]
def slN : Value → Nat
  | .slice _ n _ => n
  | _ => 0
def cntN (d : List Int) (n : Nat) : Nat := (sumZ (fun v => io (decide (0 ≤ d.getD v 0))) n).toNat
theorem bfs_cntN {n : Nat} {fr tg : Nat → Nat} {m : Nat} {R d q : List Int} {P : Nat → Prop} (h : Bfs n fr tg m R d q P) : cntN d n = q.length := by
  unfold cntN
  rw [h.cnt]
  simp
theorem RowQ.len {w : World} {B : Nat} {v : Value} {xs : List Int} (h : RowQ w B v xs) : slN v = xs.length := by
  obtain ⟨g, off, cap, rfl, _⟩ := h
  rfl
theorem RowQ.drew {w : World} {B : Nat} {v : Value} {xs : List Int} (h : RowQ w B v xs) : RowQ w.drew B v xs := h
/-- The queue's first is taken, however the cut is spelled. -/
theorem RowQ.cut {w : World} {B g off l cap : Nat} {x : Int} {xs : List Int} (h : RowQ w B (.slice (some ⟨g, off, none⟩) l cap) (x :: xs)) : ∃ A : Option Addr, (if cap = 1 then some (⟨g, off, none⟩ : Addr) else some ⟨g, off + 1, none⟩) = A ∧ l = xs.length + 1 ∧ l ≤ cap ∧ cap ≤ maxLen ∧ w.cell? ⟨g, off, none⟩ = some (.int .i64 x) ∧ RowQ w B (.slice A (l - 1) (cap - 1)) xs := by
  have hl : l = xs.length + 1 := by
    obtain ⟨_, _, _, e, _⟩ := h
    simp at e
    exact e.2.1
  have hc : l ≤ cap ∧ cap ≤ maxLen ∧ w.cell? ⟨g, off, none⟩ = some (.int .i64 x) := by
    obtain ⟨g', off', cap', e, h1, h2, h3, h4, h5, _⟩ := h
    simp at e
    obtain ⟨⟨rfl, rfl⟩, rfl, rfl⟩ := e
    exact ⟨by simpa using h3, h4, by simpa using h5 0 (by simp)⟩
  have := h.tail hl
  refine ⟨_, rfl, hl, hc.1, hc.2.1, hc.2.2, ?_⟩
  split
  · rename_i e; exact this.1 e
  · exact this.2
theorem drop_at {q : List Int} {i : Nat} (h : i < q.length) : q.drop i = q.getD i 0 :: q.drop (i + 1) := by
  rw [List.drop_eq_getElem_cons h, List.getD_eq_getElem?_getD, List.getElem?_eq_getElem h]
  rfl

set_option maxHeartbeats 16000000 in
set_option maxRecDepth 100000 in
theorem c_steps (n m gl c2 l0 c0 l1 c1 : Nat) (A0 A1 : Option Addr) (fr tg : Nat → Nat) (R : List Int) (w : World) (hE : EndsIn n fr tg m) (n1 : 2 ≤ n) (n2 : n ≤ 130) (n3 : m ≤ 8000) (h : NetR w n m gl fr tg R (.slice A0 l0 c0) (.slice A1 l1 c1)) :
    Calls Try.prog 68 #[.agg #[.slice A0 l0 c0, .slice A1 l1 c1, .slice (some ⟨gl, 0, none⟩) n c2]] w (GivesLev w n m fr tg R) := by
  obtain ⟨i0, hi0, hz0, hz1, hz2⟩ := info_parts int_info
  have HI := Lib.hid hi0
  have HE : Hid (EndsIn n fr tg m) := hE
  have BS : Hid (Bfs n fr tg m R ((List.replicate n (-1)).set 0 0) [0] (fun _ => False)) := Bfs.start fr tg m R n1
  have HN := Lib.hid h
  have HB1 : Hid (Below w.heap.size w (w.alloc (.cells #[.slice A0 l0 c0, .slice A1 l1 c1, .slice (some ⟨gl, 0, none⟩) n c2] 75))) := (Below.refl _ _).alloc (Nat.le_refl _) _
  obtain ⟨w2, hw2⟩ : ∃ x, x = (w.alloc (Obj.cells #[.slice A0 l0 c0, .slice A1 l1 c1, .slice (some ⟨gl, 0, none⟩) n c2] 75)).alloc (Obj.cells #[Value.int .i64 (-1)] 3) := ⟨_, rfl⟩
  have hs2 : w2.heap.size = w.heap.size + 2 := by rw [hw2]; simp
  have hx2 : w2.cell? ⟨w.heap.size + 1, 0, none⟩ = some (.int .i64 (-1)) := by rw [hw2]; simp
  have B02 : Hid (Below w.heap.size w w2) := by show Below _ _ _; rw [hw2]; exact HB1.out.alloc (by simp) _
  have KG : Hid (∀ u, Below w2.heap.size w2 u → u.cell? ⟨w.heap.size, 0, none⟩ = some (.slice A0 l0 c0) ∧ u.cell? ⟨w.heap.size, 1, none⟩ = some (.slice A1 l1 c1) ∧ u.cell? ⟨w.heap.size, 2, none⟩ = some (.slice (some ⟨gl, 0, none⟩) n c2)) := fun u hu => by
    have hl : w.heap.size < w2.heap.size := by omega
    rw [hu.cell (p := ⟨w.heap.size, 0, none⟩) hl, hu.cell (p := ⟨w.heap.size, 1, none⟩) hl, hu.cell (p := ⟨w.heap.size, 2, none⟩) hl, hw2]
    simp
  have KN : Hid (NetR w2 n m gl fr tg R (.slice A0 l0 c0) (.slice A1 l1 c1)) := HN.out.below B02.out
  have CR := Lib.hid (c_Repeat n (w.heap.size + 1) w2 n1 n2 (by omega) hx2)
  have HW2 := Lib.hid hw2
  have b0 : (0 : Int) < (n : Int) := by omega
  clear hi0 hE h hx2 HB1 HN
  go_enter Try.func68, Try.ntmps68
  go_wp2_with fail
  rw [← HW2.out]
  clear HW2 hw2
  refine CR.out.mono ?_
  rintro e w3 ⟨v3, rfl, hrow, hb⟩
  obtain ⟨gd, cd, rfl, hgd, lgd⟩ := hrow.form (by simp; omega)
  rw [List.length_replicate] at hrow ⊢
  have HRl : Hid (n = (List.replicate n (-1 : Int)).length) := by show _ = _; simp
  obtain ⟨p0, z0⟩ := row_at HRl.out hrow 0 (by omega)
  have N1 := Lib.hid ((Row.set_ HRl.out hrow 0 0).1)
  have hs3 := hb.size
  have NB : Hid (Below w2.heap.size w2 (w3.setCell ⟨gd, 0, none⟩ (.int .i64 0))) := hb.setCell hgd _
  have NQ : Hid (Row ((w3.setCell ⟨gd, 0, none⟩ (.int .i64 0)).alloc (.cells #[.int .i64 0] 3)) w3.heap.size (.slice (some ⟨w3.heap.size, 0, none⟩) 1 1) [0]) := by
    have := World.ownsRow_lit (base := w3.heap.size) (e := 3) (size := 1) (w3.setCell ⟨gd, 0, none⟩ (.int .i64 0)) #[.int .i64 0] 1 (by simp) (by unfold maxLen; omega) (by simp)
    have e : (w3.setCell ⟨gd, 0, none⟩ (.int .i64 0)).heap.size = w3.heap.size := by simp
    rw [e] at this
    exact this
  have ND : Hid (Row ((w3.setCell ⟨gd, 0, none⟩ (.int .i64 0)).alloc (.cells #[.int .i64 0] 3)) w2.heap.size (.slice (some ⟨gd, 0, none⟩) n cd) ((List.replicate n (-1)).set 0 0)) := World.ownsRow.alloc N1.out _
  have NB2 : Hid (Below w2.heap.size w2 ((w3.setCell ⟨gd, 0, none⟩ (.int .i64 0)).alloc (.cells #[.int .i64 0] 3))) := NB.out.alloc (by simp; omega) _
  have NQ2 := Lib.hid (NQ.out.queue (by simp))
  have zz : w3.heap.size ≤ ((w3.setCell ⟨gd, 0, none⟩ (.int .i64 0)).alloc (.cells #[.int .i64 0] 3)).heap.size := by simp
  clear N1 NB NQ hrow hb HRl CR
  generalize (List.replicate n (-1 : Int)).getD 0 0 = y at *
  generalize (List.replicate n (-1 : Int)).set 0 0 = d0 at *
  go_wp2_with fail
  clear p0 z0
  obtain ⟨B5, hB5⟩ : ∃ x, x = w3.heap.size := ⟨_, rfl⟩
  rw [← hB5] at NQ2 lgd zz
  rw [← hB5]
  clear hB5 hs3
  generalize (w3.setCell ⟨gd, 0, none⟩ (.int .i64 0)).alloc (.cells #[.int .i64 0] 3) = wq at *
  go_loopw [4] (fun sl wr => ∃ (i : Nat) (q d : List Int), i ≤ q.length ∧ RowQ wr B5 sl (q.drop i) ∧ Row wr w2.heap.size (.slice (some ⟨gd, 0, none⟩) n cd) d ∧ Bfs n fr tg m R d q (fun a => ∃ j, j < i ∧ q.getD j 0 = (tlA fr tg a : Int)) ∧ Below w2.heap.size w2 wr ∧ B5 ≤ wr.heap.size) (fun sl wr => n + slN sl - cntN (readN wr gd n) n)
  case atStart => exact ⟨0, [0], d0, Nat.zero_le _, NQ2.out, ND.out, BS.out.mono fun a _ ⟨j, hj, _⟩ => by omega, NB2.out, zz⟩
  case round =>
    obtain ⟨i, q, d, hi, hq, hd, hbf, hb, hs5⟩ := hrel
    obtain ⟨g, off, cap, rfl, hBg, -⟩ := id hq
    obtain ⟨l, hl⟩ : ∃ l, l = (q.drop i).length := ⟨_, rfl⟩
    have hl0 : l = q.length - i := by rw [hl, List.length_drop]
    rw [← hl] at hq ⊢
    have HQ := Lib.hid hq
    have HD := Lib.hid hd
    have HBf := Lib.hid hbf
    have HB := Lib.hid hb
    clear hq hd hbf hb zz NQ2 ND NB2 BS
    have hqn := HBf.out.qlen
    have HDl : Hid (n = d.length) := HBf.out.len.symm
    have M0 : Hid (n + l - cntN (readN wr gd n) n = n - i) := by
      show _ = _
      rw [readN_row HDl.out HD.out, bfs_cntN HBf.out]
      omega
    clear hl
    by_cases hlt : i < q.length
    · rw [drop_at hlt] at HQ
      obtain ⟨u, hu, e1, e2, e3⟩ := HBf.out.qok i hlt
      rw [e1] at HQ
      obtain ⟨A, hA, hl1, hlc, hcm, pq, hq2⟩ := HQ.out.cut
      have HQ2 := Lib.hid hq2
      obtain ⟨Au, cu, hgl, pl0, pt0⟩ := KN.out.lv u hu
      have pl : wr.cell? ⟨gl, u, none⟩ = _ := (HB.out.cell (p := ⟨gl, u, none⟩) hgl).trans pl0
      have PT := Lib.hid pt0
      have HA : Hid (∀ t, t < ((arcL fr tg n m).getD u []).length → ∃ a, a < 2 * m ∧ ((arcL fr tg n m).getD u []).getD t 0 = (a : Int) ∧ tlA fr tg a = u) := fun t ht => arc_at HE.out ht
      have hal : ((arcL fr tg n m).getD u []).length ≤ 16000 := by have := arcL_slen fr tg n u m HE.out; omega
      have HXT := Lib.hid (fun (q d : List Int) (hq : q.getD i 0 = (u : Int)) => bfs_next (R := R) (d := d) (q := q) (i := i) (u := u) HE.out hq)
      have HXH := Lib.hid (fun (q d : List Int) (t a : Nat) => bfs_hit (R := R) (d := d) (q := q) (i := i) (u := u) (t := t) (a := a) HE.out)
      have HXM := Lib.hid (fun (q d : List Int) (t a : Nat) => bfs_miss (n := n) (fr := fr) (tg := tg) (m := m) (R := R) (d := d) (q := q) (i := i) (u := u) (t := t) (a := a))
      have HBi : Hid (Bfs n fr tg m R d q (fun a => (∃ j, j < i ∧ q.getD j 0 = (tlA fr tg a : Int)) ∨ ∃ s, s < 0 ∧ ((arcL fr tg n m).getD u []).getD s 0 = (a : Int))) := HBf.out.mono fun a _ hP => by
        rcases hP with hP | ⟨s, hs, _⟩
        · exact hP
        · omega
      obtain ⟨g0, g1, g2⟩ := KG.out wr HB.out
      have HE1 := Lib.hid e1
      clear pl0 pt0 HBf e1 e2 e3 hq2 HQ
      generalize (arcL fr tg n m).getD u [] = ys at *
      have b1 : (1 : Int) ≤ (l : Int) := by omega
      have b1' : 0 < l := by omega
      have b2 : (l : Int) ≤ (cap : Int) := by omega
      have b3 : (0 : Int) ≤ (u : Int) := by omega
      have b4 : (u : Int) < (n : Int) := by omega
      have HI1 : Hid (i + 1 ≤ q.length) := hlt
      have lmx : cap ≤ 9223372036854775807 := by simpa [maxLen] using hcm
      clear hl0 hl1 hi hlt hqn hcm
      go_wp2_with fail
      clear g0 g1 g2 pl pq b1 b1' b2 hA lmx hlc
      generalize (Value.slice A (l - 1) (cap - 1)) = vq at *
      have hi1 : i + 1 ≤ q.length := HI1.out
      go_loopw [4, 31] (fun sl tv wr => ∃ (t : Nat) (q d : List Int), tv = .int .i64 t ∧ t ≤ ys.length ∧ i < q.length ∧ q.getD i 0 = (u : Int) ∧ RowQ wr B5 sl (q.drop (i + 1)) ∧ Row wr w2.heap.size (.slice (some ⟨gd, 0, none⟩) n cd) d ∧ Bfs n fr tg m R d q (fun a => (∃ j, j < i ∧ q.getD j 0 = (tlA fr tg a : Int)) ∨ ∃ s, s < t ∧ ys.getD s 0 = (a : Int)) ∧ Below w2.heap.size w2 wr ∧ B5 ≤ wr.heap.size) (fun _ tv _ => ys.length - (intOf tv).toNat)
      case atStart => exact ⟨0, q, d, rfl, Nat.zero_le _, by omega, HE1.out, HQ2.out, HD.out, HBi.out, HB.out, hs5⟩
      case round =>
        clear HQ2 HD HBi HB hs5 HE1 HI1 hi1 HDl
        obtain ⟨t, q, d, rfl, ht, hiq, he1, hq, hd, hbf, hb, hs5⟩ := hrel
        obtain ⟨g, off, cap, rfl, hBg, hgw, -⟩ := id hq
        have HQ := Lib.hid hq
        have HD := Lib.hid hd
        have HBf := Lib.hid hbf
        have HB := Lib.hid hb
        have HE1 := Lib.hid he1
        clear hq hd hbf hb he1
        have hqn := HBf.out.qlen
        have hql : (q.drop (i + 1)).length ≤ 4000000 := by rw [List.length_drop]; omega
        by_cases htl : t < ys.length
        · obtain ⟨a, ha, ea, eu⟩ := HA.out t htl
          obtain ⟨ba, rfl, hba, pa0⟩ := PT.out t htl
          rw [ea] at pa0
          have pa : wr.cell? ⟨ba, t, none⟩ = _ := (HB.out.cell (p := ⟨ba, t, none⟩) hba).trans pa0
          obtain ⟨bh, ch, eh, hbh, ph0⟩ := KN.out.hd a ha
          simp at eh
          obtain ⟨rfl, rfl, rfl⟩ := eh
          have ph : wr.cell? ⟨bh, a, none⟩ = _ := (HB.out.cell (p := ⟨bh, a, none⟩) hbh).trans ph0
          obtain ⟨br, cr, er, hbr, pr0⟩ := KN.out.rm a ha
          simp at er
          obtain ⟨rfl, rfl, rfl⟩ := er
          have pr : wr.cell? ⟨br, a, none⟩ = _ := (HB.out.cell (p := ⟨br, a, none⟩) hbr).trans pr0
          obtain ⟨g0, g1, g2⟩ := KG.out wr HB.out
          have hxn := HE.out.hd ha
          have HXh := HXH.out q d t a ha hiq HE1.out eu ea
          have HXm := HXM.out q d t a ea
          have HDl : Hid (n = d.length) := HBf.out.len.symm
          obtain ⟨px, zx⟩ := row_at HDl.out HD.out (hdA fr tg a) hxn
          obtain ⟨pu, zu⟩ := row_at HDl.out HD.out u hu
          have du : d.getD u 0 ≤ 130 ∧ -1 ≤ d.getD u 0 := by
            obtain ⟨u', hu', f1, f2, f3⟩ := HBf.out.qok i hiq
            have : u' = u := by have := HE1.out; omega
            subst this
            omega
          have dlo := HBf.out.lo (hdA fr tg a) hxn
          have HH := Lib.hid (fun h1 h2 => HXh h1 h2 HBf.out)
          have HM := Lib.hid (fun h1 => HXm h1 HBf.out)
          clear HXh HXm pa0 ph0 pr0 HBf ea
          generalize hdA fr tg a = x at *
          have N1 := Lib.hid ((Row.set_ HDl.out HD.out x (d.getD u 0 + 1)).1)
          generalize hra : R.getD a 0 = ra at *
          generalize hdx : d.getD x 0 = dx at *
          generalize hdu : d.getD u 0 = du' at *
          have b5 : (0 : Int) ≤ (t : Int) := by omega
          have b6 : (t : Int) < (ys.length : Int) := by omega
          have b7 : (0 : Int) ≤ (a : Int) := by omega
          have b8 : (a : Int) < ((2 * m : Nat) : Int) := by omega
          have b8' : (a : Int) < 2 * (m : Int) := by omega
          have b9 : (0 : Int) ≤ (x : Int) := by omega
          have b10 : (x : Int) < (n : Int) := by omega
          have ng : w.heap.size ≠ gd := by omega
          have ngq : g ≠ gd := by omega
          clear hra hdx hdu
          by_cases hR : 0 < ra
          · by_cases hdx : dx = -1
            · have G := Lib.hid (HH.out hR (by omega))
              have RQ1 : Hid (RowQ ((wr.setCell ⟨gd, x, none⟩ (.int .i64 (du' + 1))).alloc (.cells #[.int .i64 (x : Int)] 3)) B5 (.slice (some ⟨g, off, none⟩) (q.drop (i + 1)).length cap) (q.drop (i + 1))) := by
                have h1 : RowQ (wr.setCell ⟨gd, x, none⟩ (.int .i64 (du' + 1))) B5 (.slice (some ⟨g, off, none⟩) (q.drop (i + 1)).length cap) (q.drop (i + 1)) := HQ.out.kept (set_grown wr ⟨gd, x, none⟩ (.int .i64 (du' + 1))) (by simp [Value.ownBlock, ngq])
                exact h1.below ((Below.refl _ _).alloc (Nat.le_refl _) _)
              have NB1 : Hid (Below w2.heap.size w2 (wr.setCell ⟨gd, x, none⟩ (.int .i64 (du' + 1)))) := HB.out.setCell hgd _
              have HXC : Hid (((wr.setCell ⟨gd, x, none⟩ (.int .i64 (du' + 1))).alloc (.cells #[.int .i64 (x : Int)] 3)).cell? ⟨wr.heap.size, 0, none⟩ = some (.int .i64 x)) := cells_one (wr.setCell ⟨gd, x, none⟩ (.int .i64 (du' + 1))) wr.heap.size (by simp) (.int .i64 (x : Int)) 3
              obtain ⟨lq, hlq⟩ : ∃ l, l = (q.drop (i + 1)).length := ⟨_, rfl⟩
              rw [← hlq] at RQ1 ⊢
              have HLq := Lib.hid hlq
              clear hlq
              subst hdx
              have hsz2 := HB.out.size
              go_wp2_with (with_reducible refine wpList_append_queue rfl (.tmp 61) (.tmp 63) rfl HI.out hz0 hz1 hz2 rfl rfl RQ1.out ?c1 hql HXC.out ?_)
              case c1 => simp; omega
              intro v' w5 hq5 hgrow
              have M1 : Hid (RowQ w5 B5 v' ((q ++ [(x : Int)]).drop (i + 1))) := by
                show RowQ _ _ _ _
                rw [List.drop_append_of_le_length (by omega)]
                exact hq5
              have N1a : Row ((wr.setCell ⟨gd, x, none⟩ (.int .i64 (du' + 1))).alloc (.cells #[.int .i64 (x : Int)] 3)) w2.heap.size (.slice (some ⟨gd, 0, none⟩) n cd) (d.set x (du' + 1)) := World.ownsRow.alloc N1.out _
              have M2 : Hid (Row w5 w2.heap.size (.slice (some ⟨gd, 0, none⟩) n cd) (d.set x (du' + 1))) := World.ownsRow.kept N1a hgrow (.inr (by simp [Value.ownBlock]; omega))
              have M3 : Hid (Below w2.heap.size w2 w5) := (NB1.out.alloc (by simp; omega) _).grown hgrow (by simp; omega) (fun j hj => by simp [Value.ownBlock] at hj; omega)
              have M4 : B5 ≤ w5.heap.size := by have := hgrow.size; simp at this; omega
              have M5 : Hid ((q ++ [(x : Int)]).getD i 0 = (u : Int)) := by show _ = _; rw [getD_snoc, if_pos hiq]; exact HE1.out
              clear hq5 hgrow
              go_wp2
              go_roundw
              case rel => exact ⟨t + 1, _, _, by go_num, by omega, by simp; omega, M5.out, M1.out, M2.out, G.out, M3.out, M4⟩
              case measure => simp [intOf]; omega
            · have G := Lib.hid (HM.out (by omega))
              go_wp2
              go_roundw
              case rel => exact ⟨t + 1, q, d, by go_num, by omega, hiq, HE1.out, HQ.out, HD.out, G.out, HB.out, hs5⟩
              case measure => simp [intOf]; omega
          · have G := Lib.hid (HM.out (by omega))
            go_wp2
            go_roundw
            case rel => exact ⟨t + 1, q, d, by go_num, by omega, hiq, HE1.out, HQ.out, HD.out, G.out, HB.out, hs5⟩
            case measure => simp [intOf]; omega
        · obtain rfl : t = ys.length := by omega
          have G := Lib.hid (HXT.out q d HE1.out HBf.out)
          have HDl : Hid (n = d.length) := HBf.out.len.symm
          have M1 : Hid (n + (q.drop (i + 1)).length - cntN (readN wr gd n) n = n - (i + 1)) := by
            show _ = _
            rw [readN_row HDl.out HD.out, bfs_cntN HBf.out, List.length_drop]
            omega
          have hin : i < n := by omega
          go_wp2
          go_roundw
          case rel => exact ⟨i + 1, q, d, by omega, HQ.out, HD.out, G.out, HB.out, hs5⟩
          case measure => simp only [slN]; rw [M0.out, M1.out]; omega
    · obtain rfl : i = q.length := by omega
      have G := Lib.hid (HBf.out.done HE.out fun a _ ⟨j, hj, e⟩ => ⟨j, hj, e⟩)
      obtain rfl : l = 0 := by omega
      clear hl0 hi hlt hqn M0
      have GD := Lib.hid (HD.out.mono B02.out.size)
      have GB : Hid (Below w.heap.size w wr) := B02.out.trans (HB.out.mono B02.out.size)
      go_wp2
      go_ret
      exact ⟨d, _, rfl, GD.out, G.out, GB.out⟩
end Go.Proofs.Ytdgkgnlilcbggaa

namespace Go.Proofs.Ytdgkgnlilcbggaa
open Go.RowKit
set_option linter.unusedVariables false

def pAtR (q : Int → Bool) (xs : List Int) : Int → Bool := fun i => q (xs.getD i.toNat 0)
theorem c_whereIn1 (t : Int) (w : World) : Calls Try.prog 60 #[.int .i64 t] w fun e w' => e = .returned (.bool (!(decide (t = -1)))) ∧ w = w' := by
  by_cases h : t = -1
  · subst h
    go_enter Try.func60, Try.ntmps60
    go_wp2
    go_ret
    exact ⟨rfl, rfl⟩
  · have D : Hid (decide (t = -1) = false) := decide_eq_false h
    rw [D.out]
    have h' : (t == -1) = false := beq_eq_false_iff_ne.2 h
    have h'' : (t != -1) = true := bne_iff_ne.2 h
    go_enter Try.func60, Try.ntmps60
    go_wp2
    go_ret
    exact ⟨rfl, rfl⟩
set_option maxHeartbeats 1000000 in
theorem c_whereIn (xs : List Int) (v : Value) (q : Int → Bool) (w : World) (hl : xs.length ≤ 4000000) (h : Seen w v xs)
    (H : Hid (∀ (k : Nat) (u : World), k < xs.length → Below w.heap.size w u → Calls Try.prog 60 #[.int .i64 (xs.getD k 0)] u fun e u' => e = .returned (.bool (q (xs.getD k 0))) ∧ u = u')) :
    Calls Try.prog 55 #[v, .func (.func 60) #[] #[]] w (GivesRow w (sel (pAtR q xs) xs.length)) := by
  obtain ⟨i0, hi0, hz0, hz1, hz2⟩ := info_parts int_info
  have HI := Lib.hid hi0
  clear hi0
  obtain ⟨A, c, rfl, hm, hA⟩ := h
  clear hm
  have E1 : Hid (∀ k : Nat, k < xs.length → ∃ b off, A = some ⟨b, off, none⟩ ∧ b < w.heap.size ∧ w.cell? ⟨b, off + k, none⟩ = some (.int .i64 (xs.getD k 0))) := fun k hk => by
    obtain ⟨b, off, rfl, hb, hc⟩ := hA (by omega)
    exact ⟨b, off, rfl, hb, hc k hk⟩
  have HP : Hid (∀ k : Nat, pAtR q xs k = q (xs.getD k 0)) := fun k => rfl
  clear hA
  generalize pAtR q xs = p at *
  generalize hn : xs.length = n at *
  clear hn
  go_enter Try.func55, Try.ntmps55
  go_wp2_with fail
  go_loopw [5, 10] (fun v i wr => ∃ k : Nat, k ≤ n ∧ i = .int .i64 k ∧ Row wr w.heap.size v (sel p k) ∧ Below w.heap.size w wr) (fun _ i _ => n - (intOf i).toNat)
  case atStart => exact ⟨0, Nat.zero_le _, rfl, Row.nil _ _, Below.refl _ _⟩
  case round =>
    obtain ⟨k, hk, rfl, hr, hbw⟩ := hrel
    have HR := Lib.hid hr
    have HB := Lib.hid hbw
    clear hr hbw
    by_cases hlt : k < n
    · obtain ⟨b, off, rfl, hbl, hcc⟩ := E1.out k hlt
      have q1 : wr.cell? ⟨b, off + k, none⟩ = some (.int .i64 (xs.getD k 0)) := by rw [HB.out.cell (p := ⟨b, off + k, none⟩) hbl]; exact hcc
      have HC := Lib.hid (H.out k wr hlt HB.out)
      have hp : Hid (p k = q (xs.getD k 0)) := HP.out k
      clear hcc hbl
      generalize xs.getD k 0 = t at *
      have b1 : (0 : Int) ≤ (k : Int) := by omega
      have b2 : (k : Int) < (n : Int) := by omega
      have hlen := sel_len p k
      have sw := HB.out.size
      go_wp2_with fail
      refine HC.out.mono ?_
      rintro e w2 ⟨rfl, rfl⟩
      cases hq : q t
      · have HQ : Hid (p k = false) := hp.out.trans hq
        clear hq
        go_wp2
        go_roundw
        case rel => exact ⟨k + 1, by omega, by go_num, by rw [sel_miss HQ.out]; exact HR.out, HB.out⟩
        case measure => simp [intOf]; omega
      · have HQ : Hid (p k = true) := hp.out.trans hq
        clear hq
        go_wp2_with (at_builtin; refine wpList_append_own _ rfl _ _ 23 rfl (w.heap.size) 3 i0 (.int .i64 0) 1 8 Try.underlying23 HI.out hz0 hz1 hz2 rfl (by decide) _ _ _ rfl (World.ownsRow.alloc HR.out _) ⟨wr.heap.size, 0, none⟩ 1 1 [.int .i64 k] rfl rfl ?c1 ?c2 ?c3 ?c4 ?c5 ?_)
        case c1 =>
          intro j u hj
          match j, hj with
          | 0, hj => simp at hj; subst hj; simp [Addr.add]
        case c2 => intro u hu; simp at hu; subst hu; rfl
        case c3 => unfold maxLen; omega
        case c4 => omega
        case c5 => simp; omega
        intro v' w4 hown' hgrow _
        have R1 : Hid (Row w4 w.heap.size v' (sel p (k + 1))) := by rw [sel_hit HQ.out]; exact row_more hown'
        have R2 : Hid (Below w.heap.size w w4) := (HB.out.alloc sw _).grown hgrow (by simp; omega) (fun g hg => (World.ownsRow.lt HR.out g hg).1)
        clear hown' hgrow
        go_wp2
        go_roundw
        case rel => exact ⟨k + 1, by omega, by go_num, R1.out, R2.out⟩
        case measure => simp [intOf]; omega
    · obtain rfl : k = n := by omega
      go_wp2
      go_ret
      exact ⟨_, rfl, HR.out, HB.out⟩

theorem c_whereOut1 (t : Int) (w : World) : Calls Try.prog 56 #[.int .i64 t] w fun e w' => e = .returned (.bool (decide (t = -1))) ∧ w = w' := by
  by_cases h : t = -1
  · subst h
    go_enter Try.func56, Try.ntmps56
    go_wp2
    go_ret
    exact ⟨rfl, rfl⟩
  · have D : Hid (decide (t = -1) = false) := decide_eq_false h
    rw [D.out]
    have h' : (t == -1) = false := beq_eq_false_iff_ne.2 h
    have h'' : (t != -1) = true := bne_iff_ne.2 h
    go_enter Try.func56, Try.ntmps56
    go_wp2
    go_ret
    exact ⟨rfl, rfl⟩
set_option maxHeartbeats 1000000 in
theorem c_whereOut (xs : List Int) (v : Value) (q : Int → Bool) (w : World) (hl : xs.length ≤ 4000000) (h : Seen w v xs)
    (H : Hid (∀ (k : Nat) (u : World), k < xs.length → Below w.heap.size w u → Calls Try.prog 56 #[.int .i64 (xs.getD k 0)] u fun e u' => e = .returned (.bool (q (xs.getD k 0))) ∧ u = u')) :
    Calls Try.prog 55 #[v, .func (.func 56) #[] #[]] w (GivesRow w (sel (pAtR q xs) xs.length)) := by
  obtain ⟨i0, hi0, hz0, hz1, hz2⟩ := info_parts int_info
  have HI := Lib.hid hi0
  clear hi0
  obtain ⟨A, c, rfl, hm, hA⟩ := h
  clear hm
  have E1 : Hid (∀ k : Nat, k < xs.length → ∃ b off, A = some ⟨b, off, none⟩ ∧ b < w.heap.size ∧ w.cell? ⟨b, off + k, none⟩ = some (.int .i64 (xs.getD k 0))) := fun k hk => by
    obtain ⟨b, off, rfl, hb, hc⟩ := hA (by omega)
    exact ⟨b, off, rfl, hb, hc k hk⟩
  have HP : Hid (∀ k : Nat, pAtR q xs k = q (xs.getD k 0)) := fun k => rfl
  clear hA
  generalize pAtR q xs = p at *
  generalize hn : xs.length = n at *
  clear hn
  go_enter Try.func55, Try.ntmps55
  go_wp2_with fail
  go_loopw [5, 10] (fun v i wr => ∃ k : Nat, k ≤ n ∧ i = .int .i64 k ∧ Row wr w.heap.size v (sel p k) ∧ Below w.heap.size w wr) (fun _ i _ => n - (intOf i).toNat)
  case atStart => exact ⟨0, Nat.zero_le _, rfl, Row.nil _ _, Below.refl _ _⟩
  case round =>
    obtain ⟨k, hk, rfl, hr, hbw⟩ := hrel
    have HR := Lib.hid hr
    have HB := Lib.hid hbw
    clear hr hbw
    by_cases hlt : k < n
    · obtain ⟨b, off, rfl, hbl, hcc⟩ := E1.out k hlt
      have q1 : wr.cell? ⟨b, off + k, none⟩ = some (.int .i64 (xs.getD k 0)) := by rw [HB.out.cell (p := ⟨b, off + k, none⟩) hbl]; exact hcc
      have HC := Lib.hid (H.out k wr hlt HB.out)
      have hp : Hid (p k = q (xs.getD k 0)) := HP.out k
      clear hcc hbl
      generalize xs.getD k 0 = t at *
      have b1 : (0 : Int) ≤ (k : Int) := by omega
      have b2 : (k : Int) < (n : Int) := by omega
      have hlen := sel_len p k
      have sw := HB.out.size
      go_wp2_with fail
      refine HC.out.mono ?_
      rintro e w2 ⟨rfl, rfl⟩
      cases hq : q t
      · have HQ : Hid (p k = false) := hp.out.trans hq
        clear hq
        go_wp2
        go_roundw
        case rel => exact ⟨k + 1, by omega, by go_num, by rw [sel_miss HQ.out]; exact HR.out, HB.out⟩
        case measure => simp [intOf]; omega
      · have HQ : Hid (p k = true) := hp.out.trans hq
        clear hq
        go_wp2_with (at_builtin; refine wpList_append_own _ rfl _ _ 23 rfl (w.heap.size) 3 i0 (.int .i64 0) 1 8 Try.underlying23 HI.out hz0 hz1 hz2 rfl (by decide) _ _ _ rfl (World.ownsRow.alloc HR.out _) ⟨wr.heap.size, 0, none⟩ 1 1 [.int .i64 k] rfl rfl ?c1 ?c2 ?c3 ?c4 ?c5 ?_)
        case c1 =>
          intro j u hj
          match j, hj with
          | 0, hj => simp at hj; subst hj; simp [Addr.add]
        case c2 => intro u hu; simp at hu; subst hu; rfl
        case c3 => unfold maxLen; omega
        case c4 => omega
        case c5 => simp; omega
        intro v' w4 hown' hgrow _
        have R1 : Hid (Row w4 w.heap.size v' (sel p (k + 1))) := by rw [sel_hit HQ.out]; exact row_more hown'
        have R2 : Hid (Below w.heap.size w w4) := (HB.out.alloc sw _).grown hgrow (by simp; omega) (fun g hg => (World.ownsRow.lt HR.out g hg).1)
        clear hown' hgrow
        go_wp2
        go_roundw
        case rel => exact ⟨k + 1, by omega, by go_num, R1.out, R2.out⟩
        case measure => simp [intOf]; omega
    · obtain rfl : k = n := by omega
      go_wp2
      go_ret
      exact ⟨_, rfl, HR.out, HB.out⟩

/-- Turned round as far as i from both ends. -/
def revK (d : List Int) (n i : Nat) : List Int := (List.range n).map fun k => if k < i ∨ n - 1 - i < k then d.getD (n - 1 - k) 0 else d.getD k 0
theorem revK_len (d : List Int) (n i : Nat) : (revK d n i).length = n := by simp [revK]
theorem revK_at (d : List Int) {n i k : Nat} (hk : k < n) : (revK d n i).getD k 0 = if k < i ∨ n - 1 - i < k then d.getD (n - 1 - k) 0 else d.getD k 0 := by
  unfold revK
  rw [List.getD_eq_getElem?_getD, List.getElem?_map, List.getElem?_range hk]
  rfl
theorem revK_zero {d : List Int} {n : Nat} (h : n = d.length) : revK d n 0 = d := by
  subst h
  refine List.ext_getElem (revK_len _ _ _) fun k h1 h2 => ?_
  have := revK_at d (n := d.length) (i := 0) h2
  rw [if_neg (by omega), List.getD_eq_getElem?_getD, List.getElem?_eq_getElem h1, List.getD_eq_getElem?_getD, List.getElem?_eq_getElem h2] at this
  exact this
theorem revK_step (d : List Int) {n i : Nat} (h : 2 * i + 1 < n) : ((revK d n i).set i ((revK d n i).getD (n - 1 - i) 0)).set (n - 1 - i) ((revK d n i).getD i 0) = revK d n (i + 1) := by
  rw [revK_at d (show n - 1 - i < n by omega), revK_at d (show i < n by omega), if_neg (by omega), if_neg (by omega)]
  refine List.ext_getElem (by simp [revK_len]) fun k h1 h2 => ?_
  rw [revK_len] at h2
  have e := revK_at d (i := i + 1) h2
  have e0 := revK_at d (i := i) h2
  rw [List.getD_eq_getElem?_getD, List.getElem?_eq_getElem (by rw [revK_len]; exact h2)] at e e0
  simp only [Option.getD_some] at e e0
  rw [e, List.getElem_set, List.getElem_set, e0]
  by_cases c1 : n - 1 - i = k
  · rw [if_pos c1, if_pos (by omega), show n - 1 - k = i by omega]
  · rw [if_neg c1]
    by_cases c2 : i = k
    · subst c2
      rw [if_pos rfl, if_pos (by omega)]
    · rw [if_neg c2]
      by_cases c3 : k < i ∨ n - 1 - i < k
      · rw [if_pos c3, if_pos (by omega)]
      · rw [if_neg c3, if_neg (by omega)]
theorem revK_done (d : List Int) {n i k : Nat} (h : n ≤ 2 * i + 1) (hk : k < n) : (revK d n i).getD k 0 = d.getD (n - 1 - k) 0 := by
  rw [revK_at d hk]
  split
  · rfl
  · rw [show n - 1 - k = k by omega]

set_option maxHeartbeats 4000000 in
theorem c_Reverse (n g c B : Nat) (d : List Int) (w : World) (n1 : 2 ≤ n) (n2 : n ≤ 130) (hd : n = d.length) (h : Row w B (.slice (some ⟨g, 0, none⟩) n c) d) :
    Calls Try.prog 54 #[.slice (some ⟨g, 0, none⟩) n c] w fun e w' => e = .returned (.tuple #[]) ∧ Row w' B (.slice (some ⟨g, 0, none⟩) n c) (revK d n n) ∧ w.grownBy w' (some g) := by
  have RL : Hid (∀ i, n = (revK d n i).length) := fun i => (revK_len d n i).symm
  have RS : Hid (∀ i, 2 * i + 1 < n → ((revK d n i).set i ((revK d n i).getD (n - 1 - i) 0)).set (n - 1 - i) ((revK d n i).getD i 0) = revK d n (i + 1)) := fun i h => revK_step d h
  have RE : Hid (∀ i, n ≤ 2 * i + 1 → revK d n i = revK d n n) := fun i h => List.ext_getElem (by rw [revK_len, revK_len]) fun k h1 h2 => by
    rw [revK_len] at h2
    have e1 := revK_done d h h2
    have e2 := revK_done d (i := n) (by omega) h2
    rw [List.getD_eq_getElem?_getD, List.getElem?_eq_getElem (by rw [revK_len]; exact h2)] at e1 e2
    simp only [Option.getD_some] at e1 e2
    rw [e1, e2]
  have H0 : Hid (Row w B (.slice (some ⟨g, 0, none⟩) n c) (revK d n 0)) := by rw [revK_zero hd]; exact h
  clear h hd
  generalize revK d n = F at *
  have b0 : (2 : Int) ≤ (n : Int) := by omega
  go_enter Try.func54, Try.ntmps54
  go_wp2_with fail
  go_loopw [2, 3] (fun iv jv wr => ∃ i : Nat, 2 * i ≤ n ∧ iv = .int .i64 i ∧ jv = .int .i64 ((n : Int) - 1 - i) ∧ Row wr B (.slice (some ⟨g, 0, none⟩) n c) (F i) ∧ w.grownBy wr (some g)) (fun iv _ _ => n - (intOf iv).toNat)
  case atStart => exact ⟨0, by omega, rfl, by simp, H0.out, World.grownBy.refl _ _⟩
  case round =>
    obtain ⟨i, hi, rfl, rfl, hr, hg⟩ := hrel
    have HR := Lib.hid hr
    have HG := Lib.hid hg
    clear hr hg
    by_cases hlt : 2 * i + 1 < n
    · obtain ⟨j, hj⟩ : ∃ j, j = n - 1 - i := ⟨_, rfl⟩
      have ej : (n : Int) - 1 - i = (j : Int) := by omega
      rw [ej]
      have S := Lib.hid (RS.out i hlt)
      rw [← hj] at S
      have hjn : j < n := by omega
      have hij : i < j := by omega
      obtain ⟨p0, z0⟩ := row_at (RL.out i) HR.out i (by omega)
      obtain ⟨p1, z1⟩ := row_at (RL.out i) HR.out j hjn
      have N1 := Row.set_ (RL.out i) HR.out i ((F i).getD j 0)
      have N2 := Row.set_ (by rw [List.length_set]; exact RL.out i) N1.1 j ((F i).getD i 0)
      have R2 := Lib.hid N2.1
      rw [S.out] at R2
      have G2 : Hid (w.grownBy ((wr.setCell ⟨g, i, none⟩ (.int .i64 ((F i).getD j 0))).setCell ⟨g, j, none⟩ (.int .i64 ((F i).getD i 0))) (some g)) := (HG.out.trans N1.2).trans N2.2
      have b1 : (0 : Int) ≤ (i : Int) := by omega
      have b2 : (i : Int) < (n : Int) := by omega
      have b3 : (0 : Int) ≤ (j : Int) := by omega
      have b4 : (j : Int) < (n : Int) := by omega
      have b5 : (i : Int) < (j : Int) := by omega
      have ne : ¬ i = j := by omega
      have ej' : (n : Int) - 1 - ((i + 1 : Nat) : Int) = (j : Int) - 1 := by omega
      have HE := Lib.hid ej'
      have G3 : Hid (w.grownBy ((wr.setCell ⟨g, i, none⟩ (.int .i64 ((F i).getD j 0))).setCell ⟨g, j, none⟩ (.int .i64 ((F i).getD i 0))).drew (some g)) := ⟨G2.out.os, G2.out.tape, G2.out.output, G2.out.size, G2.out.block⟩
      clear N1 N2 S hj ej ej' G2
      generalize (F i).getD i 0 = x at *
      generalize (F i).getD j 0 = y at *
      go_wp2_with fail
      go_region
      go_wp2
      go_roundw
      case rel => exact ⟨i + 1, by omega, by go_num, by rw [HE.out], R2.out, G3.out⟩
      case measure => simp [intOf]; omega
    · have G := Lib.hid (RE.out i (by omega))
      rw [G.out] at HR
      have b5 : ¬ ((i : Int) < (n : Int) - 1 - i) := by omega
      go_wp2
      refine bodyPost_end (v := .tuple #[]) (by simp [results, Try.results54, go_sem]) rfl ?_
      exact ⟨rfl, HR.out, HG.out⟩
end Go.Proofs.Ytdgkgnlilcbggaa
