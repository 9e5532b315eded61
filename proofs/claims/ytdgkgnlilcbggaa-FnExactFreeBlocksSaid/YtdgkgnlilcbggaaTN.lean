/-
Contracts: valid arcs and lists, in the program.
Contracts: what is marked, in order.
Contracts: a list closed, and what none of a closure needs, in the program.
The answers on closures: plain facts.
Contracts: closures told, closed and joined, in the program.
Contracts: valid arcs, marks and marked blocks, in the model.
Contracts: closures closed, told and cut, in the model.
-/
import Derived.Test.YtdgkgnlilcbggaaN5
import Derived.Test.YtdgkgnlilcbggaaM6
import Derived.Test.YtdgkgnlilcbggaaShelfS
import Derived.Shelf.AbstractIn
import Derived.Test.YtdgkgnlilcbggaaN3
import Derived.Test.YtdgkgnlilcbggaaNR
import Derived.Test.YtdgkgnlilcbggaaZR
namespace Go.Proofs.Ytdgkgnlilcbggaa
open Go.RowKit
set_option linter.unusedVariables false

theorem SeenL.at_ {w : World} {A : Option Addr} {n c : Nat} {xss : List (List Int)} (h : SeenL w (.slice A n c) xss) {k : Nat} (hk : k < xss.length) : ∃ b off A' c', A = some ⟨b, off, none⟩ ∧ b < w.heap.size ∧ w.cell? ⟨b, off + k, none⟩ = some (.slice A' (xss.getD k []).length c') ∧ Seen w (.slice A' (xss.getD k []).length c') (xss.getD k []) := by
  obtain ⟨A1, c1, e, _, h⟩ := h
  simp at e
  obtain ⟨rfl, rfl, rfl⟩ := e
  obtain ⟨b, off, rfl, hlt, hc⟩ := h (by omega)
  obtain ⟨u, hu, hs⟩ := hc k hk
  obtain ⟨A', c', rfl⟩ := hs.shape
  exact ⟨b, off, A', c', rfl, hlt, hu, hs⟩

set_option maxHeartbeats 1000000 in
theorem c_AreArcs (xss : List (List Int)) (v : Value) (w : World) (hl : ShortL xss) (h : SeenL w v xss) :
    Calls Try.prog 50 #[v] w fun e w' => e = .returned (.bool (arcB xss)) ∧ w = w' := by
  have HS := Lib.hid h
  obtain ⟨A, c, rfl, hm⟩ := h.shape
  clear h hm
  obtain ⟨hl1, hl2⟩ := hl
  have HL2 : Hid (∀ i, i < xss.length → (xss.getD i []).length ≤ 1048576) := hl2
  clear hl2
  by_cases hn : 1 ≤ xss.length ∧ xss.length ≤ 120
  · have F1 : Hid (∀ k, k < xss.length → risB k (xss.getD k []) = false → arcB xss = false) := fun k hk h => arc_false hk h
    have F2 : Hid (ArcTo xss xss.length → arcB xss = true) := arc_true hn
    have F3 : Hid (∀ k, ArcTo xss k → risB k (xss.getD k []) = true → ArcTo xss (k + 1)) := fun k h h2 => h.succ h2
    have F0 : Hid (ArcTo xss 0) := ArcTo.zero xss
    have EC : Hid (∀ k : Nat, k < xss.length → ∃ b off A' c', A = some ⟨b, off, none⟩ ∧ w.cell? ⟨b, off + k, none⟩ = some (.slice A' (xss.getD k []).length c') ∧ Calls Try.prog 65 #[.slice A' (xss.getD k []).length c', .int .i64 k] w fun e w' => e = .returned (.bool (risB k (xss.getD k []))) ∧ w = w') := fun k hk => by
      obtain ⟨b, off, A', c', e, _, h1, h2⟩ := HS.out.at_ hk
      have := HL2.out k hk
      exact ⟨b, off, A', c', e, h1, c_areBlocksBelow k _ _ w (by omega) h2⟩
    clear HL2 HS
    obtain ⟨n1, n2⟩ := hn
    have d1 : ¬ ((xss.length : Int) < 1) := by omega
    have d2 : ¬ ((xss.length : Int) > 120) := by omega
    generalize arcB xss = R at *
    generalize hN : xss.length = N at *
    clear hN
    go_enter Try.func50, Try.ntmps50
    go_wp2_with fail
    go_loop [15] (fun i => ∃ k : Nat, k ≤ N ∧ i = .int .i64 k ∧ ArcTo xss k) (fun i => N - (RowKit.intOf i).toNat)
    case atStart => exact ⟨0, Nat.zero_le _, rfl, F0.out⟩
    case round =>
      obtain ⟨k, hk, rfl, hv⟩ := hrel
      have HV := Lib.hid hv
      clear hv
      by_cases hlt : k < N
      · obtain ⟨b, off, A', c', rfl, q1, hc⟩ := EC.out k hlt
        have HC := Lib.hid hc
        have b1 : (0 : Int) ≤ (k : Int) := by omega
        have b2 : (k : Int) < (N : Int) := by omega
        clear hc
        cases hx : risB k (xss.getD k [])
        · have G := Lib.hid (F1.out k hlt hx)
          rw [hx] at HC
          clear hx
          generalize (xss.getD k []).length = m at *
          go_wp2_with fail
          refine HC.out.mono ?_
          rintro e w2 ⟨rfl, rfl⟩
          go_wp2
          go_ret
          exact ⟨ret_bool G.out.symm, rfl⟩
        · have G := Lib.hid (F3.out k HV.out hx)
          rw [hx] at HC
          clear hx
          generalize (xss.getD k []).length = m at *
          go_wp2_with fail
          refine HC.out.mono ?_
          rintro e w2 ⟨rfl, rfl⟩
          go_wp2
          go_round
          case rel => exact ⟨k + 1, by omega, by go_num, G.out⟩
          case measure => simp [RowKit.intOf]; omega
      · obtain rfl : k = N := by omega
        have G := Lib.hid (F2.out HV.out)
        go_wp2
        go_ret
        exact ⟨ret_bool G.out.symm, rfl⟩
  · have G := Lib.hid (arc_short hn)
    rcases Nat.lt_or_ge xss.length 1 with h1 | h1
    · have d1 : (xss.length : Int) < 1 := by omega
      clear HL2 HS
      go_enter Try.func50, Try.ntmps50
      go_wp2
      go_ret
      exact ⟨ret_bool G.out.symm, rfl⟩
    · have d1 : ¬ (xss.length : Int) < 1 := by omega
      have d2 : (xss.length : Int) > 120 := by omega
      clear HL2 HS
      go_enter Try.func50, Try.ntmps50
      go_wp2
      go_ret
      exact ⟨ret_bool G.out.symm, rfl⟩

end Go.Proofs.Ytdgkgnlilcbggaa


namespace Go.Proofs.Ytdgkgnlilcbggaa
open Go.RowKit Go.Maps Go.Sort Go.Shelf
set_option linter.unusedVariables false

theorem sortsA (m : Nat) : AnyZI.SortsIn Try.prog Try.sortedA_ren Fence.wide m :=
  ⟨fun blk off cap ss W hH hblk hsz => callsIn_wide.2 (AnyM.slices_Sort_int Try.sortA blk off cap ss W hH hblk hsz),
   fun p cap W => callsIn_wide.2 (AnyM.slices_Sort_int_none Try.sortA p cap W)⟩

set_option maxHeartbeats 1000000 in
theorem c_sortedKeys {H : Type} (b nn : Nat) (D0 : DataW H) (R : Value → Option (DataW H × List MemPlace)) (w : World) (hown : w.ownsMap Try.prog 3 R b nn D0) (hmax : Maps.size D0 ≤ maxLen) (hbytes : Maps.size D0 * 8 ≤ 140737488355328) :
    Calls Try.prog 32 #[.map (some b)] w fun e w' => ∃ (v : Value) (ss : List Int), e = .returned v ∧ ss.Perm (intKeys D0) ∧
      w'.ownsRow w.heap.size 3 1 v ss.length ((ss.mergeSort (fun x y => decide (x ≤ y))).map encZ) ∧ (v = .slice none 0 0 ↔ ss = []) ∧ Below w.heap.size w w' := by
  refine (callsIn_wide (n := 6)).1 ?_
  have hbl := hown.lt
  have hseq : SeqGives Fence.wide 2 Try.prog 63 #[.pointer (some ⟨w.heap.size, 0, none⟩)] encZ (fun ss => ss.Perm (intKeys D0)) (Maps.size D0) (w.alloc (.cells #[.map (some b)] 45)) :=
    AnyZI.keys_gives (ρ := Try.keysA_ren) { Try.keysA with } Fence.wide _ trivial rfl (by omega) w.heap.size b nn D0 _ (by simp) (by simp) (by
      obtain ⟨es, clock, hb, Ft, hs, hD⟩ := hown
      exact ⟨es, clock, (Below.heap_alloc _ _ b hbl).trans hb, Ft, hs, hD⟩)
  have cK : ∀ mb W, CallsIn Fence.wide 5 Try.prog 48 #[.map mb] W fun e w' => e = .returned (.func (.func 63) #[] #[.pointer (some ⟨W.heap.size, 0, none⟩)]) ∧ w' = W.alloc (.cells #[.map mb] 45) := fun mb W => AnyZI.keys_in Try.keysA Fence.wide 5 trivial rfl mb W
  have cS := AnyZI.sorted_in Try.sortedA Fence.wide 5 trivial trivial trivial trivial rfl (by omega) (sortsA _) (enters_of Try.func62 (by kernel_rfl) rfl) 63 #[.pointer (some ⟨w.heap.size, 0, none⟩)] trivial (enters_of Try.func63 (by kernel_rfl) rfl) _ _ hmax hbytes _ hseq
  change CallsIn _ _ Try.prog 47 _ _ _ at cS
  have hfK : Fence.wide.fn 48 := trivial
  have hfS : Fence.wide.fn 47 := trivial
  refine callsIn_of_wp Try.func32 rfl trivial ?_ rfl
  simp only [Try.ntmps32, List.size_toArray, List.length_cons, List.length_nil, Nat.reduceAdd, Nat.reduceSub, Array.replicate_succ, Array.replicate_zero, List.push_toArray, List.append_toArray, List.nil_append, List.cons_append]
  gi_wp2_with (first
    | (gi_at_call 48; refine (cK _ _).mono ?_; rintro e w' ⟨rfl, rfl⟩)
    | (gi_at_call 47; refine cS.mono ?_; rintro e w' ⟨v, ss, rfl, hS, hrow, hnil, hb⟩))
  go_ret
  exact ⟨v, ss, rfl, hS, ownsRow_base_a hrow (by simp), hnil, ((Below.refl _ w).alloc (Nat.le_refl _) _).trans (hb.mono (by simp))⟩

theorem c_markedBlocks (b N : Nat) (p : Int → Bool) (w : World) (hN : N ≤ 1000) (h : SetM w b N p) : Calls Try.prog 32 #[.map (some b)] w (GivesRow w (sel p N)) := by
  obtain ⟨D, ho, _, hh⟩ := h
  have hp := keys_perm ho hh
  have hs := keys_size ho hh
  refine (c_sortedKeys b N D _ w ho (by unfold maxLen; omega) (by omega)).mono ?_
  rintro e w' ⟨v, ss, rfl, hS, hrow, _, hb⟩
  have e1 := sort_sel (hS.trans hp.symm)
  rw [e1] at hrow
  have e2 : ss.length = (sel p N).length := (hS.trans hp.symm).length_eq
  rw [e2] at hrow
  exact ⟨v, rfl, hrow, hb⟩
end Go.Proofs.Ytdgkgnlilcbggaa

namespace Go.Proofs.Ytdgkgnlilcbggaa
open Go.RowKit
set_option linter.unusedVariables false

theorem SeenL.row {w : World} {A : Option Addr} {n c : Nat} {xss : List (List Int)} (h : SeenL w (.slice A n c) xss) {k : Nat} (hk : k < xss.length) : ∃ b off A' c', A = some ⟨b, off, none⟩ ∧ b < w.heap.size ∧ w.cell? ⟨b, off + k, none⟩ = some (.slice A' (xss.getD k []).length c') ∧ Seen w (.slice A' (xss.getD k []).length c') (xss.getD k []) := h.at_ hk
theorem Seen.at2 {w : World} {A : Option Addr} {n c : Nat} {xs : List Int} (h : Seen w (.slice A n c) xs) {k : Nat} (hk : k < xs.length) : ∃ b off, A = some ⟨b, off, none⟩ ∧ b < w.heap.size ∧ w.cell? ⟨b, off + k, none⟩ = some (.int .i64 (xs.getD k 0)) := by
  obtain ⟨b, off, c', e, hb, hc⟩ := h.at_ hk
  simp at e
  obtain ⟨rfl, _, _⟩ := e
  exact ⟨b, off, rfl, hb, hc⟩
theorem arc_in {xss : List (List Int)} (h : arcB xss = true) {i : Nat} (hi : i < xss.length) : InN xss.length (xss.getD i []) := fun x hx => by
  have := arc_mem h hi hx
  omega

end Go.Proofs.Ytdgkgnlilcbggaa


namespace Go.Proofs.Ytdgkgnlilcbggaa
set_option linter.unusedVariables false

theorem ris_lt {n : Int} {l : List Int} (h : risB n l = true) {i j : Nat} (hij : i < j) (hj : j < l.length) : l.getD i 0 < l.getD j 0 := by
  have h1 := List.pairwise_iff_getElem.1 (ris_rising h) i j (by omega) hj hij
  simpa [show i < l.length by omega, hj] using h1
theorem all_no {l : List Int} {r : Int → Bool} {k : Nat} (hk : k < l.length) (h : r (l.getD k 0) = false) : l.all r = false := List.all_eq_false.2 ⟨_, getD_memN hk, by rw [h]; simp⟩
theorem all_yes {l : List Int} {r : Int → Bool} (h : ∀ q, q < l.length → r (l.getD q 0) = true) : l.all r = true := by
  rw [List.all_eq_true]
  intro x hx
  obtain ⟨k, hk, rfl⟩ := mem_getD hx
  exact h k hk

/-- Valid arcs and a valid list; a closure of valid arcs. -/
def vB (xss : List (List Int)) (l : List Int) : Bool := arcB xss && risB xss.length l
def gB (xss : List (List Int)) (l : List Int) : Bool := vB xss l && closB xss l
theorem vB_iff {xss : List (List Int)} {l : List Int} : vB xss l = true ↔ arcB xss = true ∧ risB xss.length l = true := by simp [vB]
theorem gB_iff {xss : List (List Int)} {l : List Int} : gB xss l = true ↔ (arcB xss = true ∧ risB xss.length l = true) ∧ closB xss l = true := by simp [gB, vB]

/-! ### greatest closures inside -/
def insK (xss : List (List Int)) (l : List Int) (N k : Nat) : Int → Bool := insS xss (inL l) (if k < l.length then (l.getD k 0).toNat else N)
theorem ris_gap {N : Nat} {l : List Int} (h : risB N l = true) {k j : Nat} (hlo : ∀ q, q < k → q < l.length → l.getD q 0 < (j : Int)) (hhi : k < l.length → (j : Int) < l.getD k 0) : inL l (j : Int) = false := by
  rw [Bool.eq_false_iff]
  intro hc
  obtain ⟨q, hq, e⟩ := mem_getD (inL_iff.1 hc)
  by_cases hqk : q < k
  · have := hlo q hqk hq; omega
  · have h1 := hhi (by omega)
    by_cases e2 : q = k
    · rw [e2] at e; omega
    · have := ris_lt h (i := k) (j := q) (by omega) hq; omega
theorem insK_zero {xss : List (List Int)} {N : Nat} {l : List Int} (h : risB N l = true) : insK xss l N 0 = inL l := by
  unfold insK
  refine (insS_skips (k := 0) (Nat.zero_le _) fun j _ hj => ris_gap h (k := 0) (fun q hq => by omega) fun hk => ?_).trans rfl
  rw [if_pos hk] at hj
  have := ris_box h hk
  omega
theorem insK_end (xss : List (List Int)) (N : Nat) (l : List Int) : insK xss l N l.length = insS xss (inL l) N := by
  unfold insK
  rw [if_neg (by omega)]
theorem insK_step {xss : List (List Int)} {N : Nat} {l : List Int} (h : risB N l = true) {k i : Nat} (hk : k < l.length) (hi : l.getD k 0 = (i : Int)) :
    insK xss l N (k + 1) = if (xss.getD i []).all (insK xss l N k) = true then insK xss l N k else fun y => !(y == (i : Int)) && insK xss l N k y := by
  have e1 : insK xss l N k = insS xss (inL l) i := by unfold insK; rw [if_pos hk, hi]; rfl
  have e2 : insK xss l N (k + 1) = insS xss (inL l) (i + 1) := by
    unfold insK
    refine insS_skips ?_ fun j hj1 hj2 => ris_gap h (k := k + 1) (fun q hq hql => ?_) fun hk2 => ?_
    · split
      · rename_i h2
        have := ris_lt h (i := k) (j := k + 1) (by omega) h2
        omega
      · have := (ris_box h hk).2; omega
    · by_cases e : q = k
      · rw [e, hi]; omega
      · have := ris_lt h (i := q) (j := k) (by omega) hk; omega
    · rw [if_pos hk2] at hj2
      have := ris_box h hk2
      omega
  rw [e1, e2]
  exact insS_hit (by rw [inL_iff, ← hi]; exact getD_memN hk)

/-! ### meets -/
def meP (a b : List Int) (k : Nat) : Int → Bool := fun y => inL a y && (inL b y || !(a.take k).contains y)
theorem meP_zero (a b : List Int) : meP a b 0 = inL a := by funext y; simp [meP]
theorem meP_end (a b : List Int) : meP a b a.length = fun y => inL a y && inL b y := by
  funext y
  unfold meP
  rw [List.take_length]
  unfold inL
  cases a.contains y <;> simp
theorem meP_keep {a b : List Int} {k : Nat} (hk : k < a.length) (h : inL b (a.getD k 0) = true) : meP a b (k + 1) = meP a b k := by
  funext y
  unfold meP
  rw [List.take_succ_eq_append_getElem hk]
  have e : a.getD k 0 = a[k] := by simp [hk]
  rw [e] at h
  simp only [List.contains_eq_mem, List.mem_append, List.mem_singleton, Bool.decide_or]
  by_cases hy : y = a[k]
  · subst hy; simp [h]
  · simp [hy]
theorem meP_drop {a b : List Int} {k : Nat} (hk : k < a.length) (h : inL b (a.getD k 0) = false) : meP a b (k + 1) = fun y => !(y == a.getD k 0) && meP a b k y := by
  funext y
  unfold meP
  rw [List.take_succ_eq_append_getElem hk]
  have e : a.getD k 0 = a[k] := by simp [hk]
  rw [e] at h ⊢
  simp only [List.contains_eq_mem, List.mem_append, List.mem_singleton, Bool.decide_or]
  by_cases hy : y = a[k]
  · subst hy; simp [h]
  · have : (y == a[k]) = false := beq_eq_false_iff_ne.2 hy
    simp [hy, this]

/-! ### the answers -/
def leA (xss : List (List Int)) (l : List Int) : List Int := if vB xss l = true then clL xss l else []
def beA (xss : List (List Int)) (i : Int) : List Int := if vB xss [i] = true then sel (upS xss (inL [i]) xss.length) xss.length else []
def inA (xss : List (List Int)) (l : List Int) : List Int := if vB xss l = true then sel (insS xss (inL l) xss.length) xss.length else []
def joA (xss : List (List Int)) (a b : List Int) : List Int := if (gB xss a && gB xss b) = true then sel (addL b (inL a)) xss.length else []
def metA (xss : List (List Int)) (a b : List Int) : List Int := if (gB xss a && gB xss b) = true then sel (fun y => inL a y && inL b y) xss.length else []
def nxA (xss : List (List Int)) (l : List Int) : List Int := if gB xss l = true then sel (nxP xss l) xss.length else []
def laA (xss : List (List Int)) (l : List Int) : List Int := if gB xss l = true then unL xss l else []
theorem sel_short {xss : List (List Int)} (h : arcB xss = true) (p : Int → Bool) : (sel p xss.length).length ≤ 4000000 := by
  have := sel_len p xss.length
  have := arc_len h
  omega
theorem leA_len (xss : List (List Int)) (l : List Int) : (leA xss l).length ≤ 4000000 := by
  unfold leA; split
  · rename_i h; exact sel_short (vB_iff.1 h).1 _
  · simp
theorem beA_len (xss : List (List Int)) (i : Int) : (beA xss i).length ≤ 4000000 := by
  unfold beA; split
  · rename_i h; exact sel_short (vB_iff.1 h).1 _
  · simp
theorem inA_len (xss : List (List Int)) (l : List Int) : (inA xss l).length ≤ 4000000 := by
  unfold inA; split
  · rename_i h; exact sel_short (vB_iff.1 h).1 _
  · simp
theorem joA_len (xss : List (List Int)) (a b : List Int) : (joA xss a b).length ≤ 4000000 := by
  unfold joA; split
  · rename_i h; rw [Bool.and_eq_true] at h; exact sel_short (gB_iff.1 h.1).1.1 _
  · simp
theorem meA_len (xss : List (List Int)) (a b : List Int) : (metA xss a b).length ≤ 4000000 := by
  unfold metA; split
  · rename_i h; rw [Bool.and_eq_true] at h; exact sel_short (gB_iff.1 h.1).1.1 _
  · simp
theorem nxA_len (xss : List (List Int)) (l : List Int) : (nxA xss l).length ≤ 4000000 := by
  unfold nxA; split
  · rename_i h; exact sel_short (gB_iff.1 h).1.1 _
  · simp
theorem laA_len (xss : List (List Int)) (l : List Int) : (laA xss l).length ≤ 4000000 := by
  unfold laA; split
  · rename_i h; exact sel_short (gB_iff.1 h).1.1 _
  · simp
end Go.Proofs.Ytdgkgnlilcbggaa

namespace Go.Proofs.Ytdgkgnlilcbggaa
open Go.RowKit
set_option linter.unusedVariables false

def Two (a b : Bool) (w : World) (e : Ending) (w' : World) : Prop := e = .returned (.tuple #[.bool a, .bool b]) ∧ Below w.heap.size w w'

theorem one_seen (i : Int) (w : World) (T : TypeId) : Seen (w.alloc (.cells #[.int .i64 i] T)) (.slice (some ⟨w.heap.size, 0, none⟩) 1 1) [i] :=
  ⟨_, 1, rfl, by unfold maxLen; simp, fun _ => ⟨w.heap.size, 0, rfl, by simp, fun k hk => by
    obtain rfl : k = 0 := by simp at hk; omega
    simp⟩⟩

end Go.Proofs.Ytdgkgnlilcbggaa


namespace Go.Proofs.Ytdgkgnlilcbggaa
open Go.RowKit
set_option linter.unusedVariables false

theorem c_l1InD (n lo hi : Int) (w : World) : Calls Try.prog 34 #[.int .i64 n, .int .i64 lo, .int .i64 hi] w fun e w' => e = .returned (.bool (decide (lo ≤ n ∧ n ≤ hi))) ∧ w = w' := c_l1In n lo hi w

set_option maxHeartbeats 1000000 in
theorem c_clArcs (xss : List (List Int)) (v : Value) (w : World) (hl : ShortL xss) (h : SeenL w v xss) :
    Calls Try.prog 22 #[v] w fun e w' => e = .returned (.bool (arcB xss)) ∧ w = w' := by
  have HS := Lib.hid h
  obtain ⟨A, c, rfl, hm⟩ := h.shape
  clear h hm
  obtain ⟨hl1, hl2⟩ := hl
  have HL2 : Hid (∀ i, i < xss.length → (xss.getD i []).length ≤ 1048576) := hl2
  clear hl2
  have F1 : Hid (∀ k, k < xss.length → risB k (xss.getD k []) = false → arcB xss = false) := fun k hk h => arc_false hk h
  have F2 : Hid (ArcTo xss xss.length → arcB xss = decide ((1 : Int) ≤ (xss.length : Int) ∧ (xss.length : Int) ≤ 120)) := fun h => by
    by_cases hn : 1 ≤ xss.length ∧ xss.length ≤ 120
    · rw [arc_true hn h, decide_eq_true (by omega)]
    · rw [arc_short hn, decide_eq_false (by omega)]
  have F3 : Hid (∀ k, ArcTo xss k → risB k (xss.getD k []) = true → ArcTo xss (k + 1)) := fun k h h2 => h.succ h2
  have F0 : Hid (ArcTo xss 0) := ArcTo.zero xss
  have EC : Hid (∀ k : Nat, k < xss.length → ∃ b off A' c', A = some ⟨b, off, none⟩ ∧ w.cell? ⟨b, off + k, none⟩ = some (.slice A' (xss.getD k []).length c') ∧ Calls Try.prog 33 #[.slice A' (xss.getD k []).length c', .int .i64 0, .int .i64 ((k : Int) - 1)] w fun e w' => e = .returned (.bool (risB k (xss.getD k []))) ∧ w = w') := fun k hk => by
    obtain ⟨b, off, A', c', e, _, h1, h2⟩ := HS.out.at_ hk
    have := HL2.out k hk
    exact ⟨b, off, A', c', e, h1, c_l1Rising k _ _ w (by omega) (by omega) (by omega) h2⟩
  clear HL2 HS
  have CI : Hid (Calls Try.prog 34 #[.int .i64 (xss.length : Int), .int .i64 1, .int .i64 120] w fun e w' => e = .returned (.bool (decide ((1 : Int) ≤ (xss.length : Int) ∧ (xss.length : Int) ≤ 120))) ∧ w = w') := c_l1InD _ _ _ w
  generalize decide ((1 : Int) ≤ (xss.length : Int) ∧ (xss.length : Int) ≤ 120) = D at *
  generalize arcB xss = R at *
  generalize hN : xss.length = N at *
  clear hN
  go_enter Try.func22, Try.ntmps22
  go_wp2_with fail
  go_loop [7] (fun i => ∃ k : Nat, k ≤ N ∧ i = .int .i64 k ∧ ArcTo xss k) (fun i => N - (RowKit.intOf i).toNat)
  case atStart => exact ⟨0, Nat.zero_le _, rfl, F0.out⟩
  case round =>
    obtain ⟨k, hk, rfl, hv⟩ := hrel
    have HV := Lib.hid hv
    clear hv
    by_cases hlt : k < N
    · obtain ⟨b, off, A', c', rfl, q1, hc⟩ := EC.out k hlt
      have HC := Lib.hid hc
      have b1 : (0 : Int) ≤ (k : Int) := by omega
      have b2 : (k : Int) < (N : Int) := by omega
      clear hc
      cases hx : risB k (xss.getD k [])
      · have G := Lib.hid (F1.out k hlt hx)
        rw [hx] at HC
        clear hx
        generalize (xss.getD k []).length = m at *
        go_wp2_with fail
        refine HC.out.mono ?_
        rintro e w2 ⟨rfl, rfl⟩
        go_wp2
        go_ret
        exact ⟨ret_bool G.out.symm, rfl⟩
      · have G := Lib.hid (F3.out k HV.out hx)
        rw [hx] at HC
        clear hx
        generalize (xss.getD k []).length = m at *
        go_wp2_with fail
        refine HC.out.mono ?_
        rintro e w2 ⟨rfl, rfl⟩
        go_wp2
        go_round
        case rel => exact ⟨k + 1, by omega, by go_num, G.out⟩
        case measure => simp [RowKit.intOf]; omega
    · obtain rfl : k = N := by omega
      have G := Lib.hid (F2.out HV.out)
      go_wp2_with fail
      refine CI.out.mono ?_
      rintro e w2 ⟨rfl, rfl⟩
      go_wp2
      go_ret
      exact ⟨ret_bool G.out.symm, rfl⟩

theorem ris_one (n i : Int) : risB n [i] = decide (0 ≤ i ∧ i ≤ n - 1) := by
  rw [Bool.eq_iff_iff]
  simp [risB, prevOf]
  omega

/-! ### marks in a row -/
def bl (p : Int → Bool) (N : Nat) : List Bool := (List.range N).map fun (i : Nat) => p (i : Int)
theorem bl_len (p : Int → Bool) (N : Nat) : (bl p N).length = N := by simp [bl]
theorem bl_at {p : Int → Bool} {N k : Nat} (h : k < N) : (bl p N).getD k false = p k := by simp [bl, List.getD_eq_getElem?_getD, h]
theorem bl_set {p q : Int → Bool} {N k : Nat} {b : Bool} (h : k < N) (e : ∀ j : Nat, j < N → q j = if j = k then b else p j) : (bl p N).set k b = bl q N := by
  apply List.ext_getElem
  · simp [bl]
  · intro i h1 h2
    simp only [bl, List.length_set, List.length_map, List.length_range] at h1
    simp only [bl, List.getElem_set, List.getElem_map, List.getElem_range]
    rw [e i h1]
    by_cases hk : k = i
    · subst hk; simp
    · rw [if_neg hk, if_neg (fun e => hk e.symm)]
/-- Block g is a row of n marks. -/
def MarkB (w : World) (g N : Nat) (p : Int → Bool) : Prop := RowB w g (.slice (some ⟨g, 0, none⟩) N N) (bl p N)
theorem MarkB.cell {w : World} {g N : Nat} {p : Int → Bool} (h : MarkB w g N p) (k : Nat) (hk : k < N) : w.cell? ⟨g, k, none⟩ = some (.bool (p k)) := by
  have h' : RowB w g (.slice (some ⟨g, 0, none⟩) (bl p N).length N) (bl p N) := by rw [bl_len]; exact h
  rw [h'.cell k (by rw [bl_len]; exact hk), bl_at hk]
theorem MarkB.frozen {w : World} {g N : Nat} {p : Int → Bool} (h : MarkB w g N p) (k : Nat) : w.frozen? ⟨g, k, none⟩ = false := by
  have h' : RowB w g (.slice (some ⟨g, 0, none⟩) (bl p N).length N) (bl p N) := by rw [bl_len]; exact h
  exact h'.frozen k
theorem MarkB.lt {w : World} {g N : Nat} {p : Int → Bool} (h : MarkB w g N p) (h0 : 0 < N) : g < w.heap.size := by
  have h' : RowB w g (.slice (some ⟨g, 0, none⟩) (bl p N).length N) (bl p N) := by rw [bl_len]; exact h
  exact h'.blk (by rw [bl_len]; exact h0)
theorem MarkB.congr {w : World} {g N : Nat} {p q : Int → Bool} (h : MarkB w g N p) (e : ∀ k : Nat, k < N → p k = q k) : MarkB w g N q := by
  have : bl p N = bl q N := by unfold bl; exact List.map_congr_left fun i hi => e i (List.mem_range.1 hi)
  unfold MarkB
  rw [← this]; exact h
theorem MarkB.below {w w' : World} {g N M : Nat} {p : Int → Bool} (h : MarkB w g N p) (hb : Below M w w') (hM : g < M) : MarkB w' g N p :=
  own_stays h fun k hk => by simp [Value.ownBlock] at hk; subst hk; exact hb.block g hM
theorem MarkB.kept {w w' : World} {g N : Nat} {p : Int → Bool} {row : Option Nat} (h : MarkB w g N p) (hg : w.grownBy w' row) (hl : g < w.heap.size) (hne : some g ≠ row) : MarkB w' g N p :=
  own_stays h fun k hk => by simp [Value.ownBlock] at hk; subst hk; exact hg.block g hl hne
theorem MarkB.put {w : World} {g N : Nat} {p q : Int → Bool} (h : MarkB w g N p) {k : Nat} {b : Bool} (hk : k < N) (e : ∀ j : Nat, j < N → q j = if j = k then b else p j) : MarkB (w.setCell ⟨g, k, none⟩ (.bool b)) g N q ∧ w.grownBy (w.setCell ⟨g, k, none⟩ (.bool b)) (some g) := by
  have := RowB.set_ (n := N) (by rw [bl_len]) h k b
  rw [bl_set hk e] at this
  exact this
theorem MarkB.new (w : World) (N : Nat) (hn : N ≤ maxLen) : MarkB (w.alloc (.cells (madeCells #[.bool false] N) 4)) w.heap.size N (fun _ => false) := by
  have := World.ownsRow_lit (base := w.heap.size) (e := 4) (size := 1) w (madeCells #[.bool false] N) N (Nat.le_refl _) hn (by rw [size_madeCells]; simp)
  unfold MarkB RowB
  rw [bl_len, show bools (bl (fun _ => false) N) = (madeCells #[.bool false] N).toList by rw [toList_madeCells_one]; apply List.ext_getElem <;> simp [bools, bl]]
  exact this
theorem bool_info : (Try.prog.info? 4).map (fun i => (i.zero, i.size, i.bytes)) = some (some (.bool false), 1, 1) := by kernel_rfl
/-- A mark set. -/
theorem set_true (p : Int → Bool) (x : Nat) : ∀ j : Nat, ((fun y : Int => y == (x : Int) || p y) (j : Int)) = if j = x then true else p j := fun j => by
  by_cases e : j = x
  · subst e; simp
  · have : ((j : Int) == (x : Int)) = false := beq_eq_false_iff_ne.2 (by omega)
    simp [e, this]
theorem set_false (p : Int → Bool) (x : Nat) : ∀ j : Nat, ((fun y : Int => !(y == (x : Int)) && p y) (j : Int)) = if j = x then false else p j := fun j => by
  by_cases e : j = x
  · subst e; simp
  · have : ((j : Int) == (x : Int)) = false := beq_eq_false_iff_ne.2 (by omega)
    simp [e, this]

end Go.Proofs.Ytdgkgnlilcbggaa


namespace Go.Proofs.Ytdgkgnlilcbggaa
open Go.RowKit
set_option linter.unusedVariables false

theorem SeenL.row2 {w : World} {A : Option Addr} {n c : Nat} {xss : List (List Int)} (h : SeenL w (.slice A n c) xss) {k : Nat} (hk : k < xss.length) :
    ∃ b off A' c', A = some ⟨b, off, none⟩ ∧ ∀ u, Below w.heap.size w u → u.cell? ⟨b, off + k, none⟩ = some (.slice A' (xss.getD k []).length c') ∧ Seen u (.slice A' (xss.getD k []).length c') (xss.getD k []) := by
  obtain ⟨b, off, A', c', e, hb, h1, h2⟩ := h.at_ hk
  exact ⟨b, off, A', c', e, fun u hu => ⟨by rw [hu.cell (p := ⟨b, off + k, none⟩) hb]; exact h1, h2.below hu⟩⟩

/-! ### rounds over a list of needs -/
def adT (q : Int → Bool) (ys : List Int) (t : Nat) : Int → Bool := addL (ys.take t) q
theorem adT_zero (q : Int → Bool) (ys : List Int) : adT q ys 0 = q := by unfold adT; rw [List.take_zero, addL_nil]
theorem adT_all (q : Int → Bool) (ys : List Int) : adT q ys ys.length = addL ys q := by unfold adT; rw [List.take_length]
theorem adT_put (q : Int → Bool) {ys : List Int} {t x : Nat} (ht : t < ys.length) (hx : ys.getD t 0 = (x : Int)) : ∀ j : Nat, adT q ys (t + 1) j = if j = x then true else adT q ys t j := fun j => by
  have := set_true (adT q ys t) x j
  rw [← this]
  unfold adT
  rw [← addL_take ht, hx]
/-- Of block k's needs the first t are looked at. -/
def inT (q : Int → Bool) (k : Nat) (ys : List Int) (t : Nat) : Int → Bool := fun y => if y = (k : Int) then q k && (ys.take t).all q else q y
def upT (q : Int → Bool) (k : Nat) (ys : List Int) (t : Nat) : Int → Bool := fun y => if y = (k : Int) then q k || (ys.take t).any q else q y
theorem inT_zero (q : Int → Bool) (k : Nat) (ys : List Int) : inT q k ys 0 = q := by
  funext y; unfold inT; split
  · rename_i e; rw [e]; simp
  · rfl
theorem upT_zero (q : Int → Bool) (k : Nat) (ys : List Int) : upT q k ys 0 = q := by
  funext y; unfold upT; split
  · rename_i e; rw [e]; simp
  · rfl
theorem inT_all (xss : List (List Int)) (p : Int → Bool) (k : Nat) : inT (insS xss p k) k (xss.getD k []) (xss.getD k []).length = insS xss p (k + 1) := by
  funext y; unfold inT; rw [List.take_length]; rfl
theorem upT_all (xss : List (List Int)) (p : Int → Bool) (k : Nat) : upT (upS xss p k) k (xss.getD k []) (xss.getD k []).length = upS xss p (k + 1) := by
  funext y
  show _ = (if (xss.getD k []).any (upS xss p k) = true then (fun y => y == (k : Int) || upS xss p k y) else upS xss p k) y
  unfold upT
  rw [List.take_length]
  by_cases e : y = (k : Int)
  · subst e
    rw [if_pos rfl]
    cases h : (xss.getD k []).any (upS xss p k) <;> simp
  · rw [if_neg e]
    have : (y == (k : Int)) = false := beq_eq_false_iff_ne.2 e
    cases h : (xss.getD k []).any (upS xss p k) <;> simp [this]
theorem inT_put (q : Int → Bool) {k : Nat} {ys : List Int} {t : Nat} (ht : t < ys.length) : ∀ j : Nat, inT q k ys (t + 1) j = if j = k then (inT q k ys t k && q (ys.getD t 0)) else inT q k ys t j := fun j => by
  unfold inT
  rw [List.take_succ_eq_append_getElem ht, show ys.getD t 0 = ys[t] by simp [ht]]
  by_cases e : j = k
  · subst e
    rw [if_pos rfl, if_pos rfl, if_pos rfl, List.all_append]
    simp [Bool.and_assoc]
  · rw [if_neg (by omega), if_neg e, if_neg (by omega)]
theorem upT_put (q : Int → Bool) {k : Nat} {ys : List Int} {t : Nat} (ht : t < ys.length) : ∀ j : Nat, upT q k ys (t + 1) j = if j = k then (upT q k ys t k || q (ys.getD t 0)) else upT q k ys t j := fun j => by
  unfold upT
  rw [List.take_succ_eq_append_getElem ht, show ys.getD t 0 = ys[t] by simp [ht]]
  by_cases e : j = k
  · subst e
    rw [if_pos rfl, if_pos rfl, if_pos rfl, List.any_append]
    simp [Bool.or_assoc]
  · rw [if_neg (by omega), if_neg e, if_neg (by omega)]
theorem inT_other (q : Int → Bool) {k : Nat} {ys : List Int} {t x : Nat} (h : x < k) : inT q k ys t x = q x := by unfold inT; rw [if_neg (by omega)]
theorem upT_other (q : Int → Bool) {k : Nat} {ys : List Int} {t x : Nat} (h : x < k) : upT q k ys t x = q x := by unfold upT; rw [if_neg (by omega)]

end Go.Proofs.Ytdgkgnlilcbggaa
