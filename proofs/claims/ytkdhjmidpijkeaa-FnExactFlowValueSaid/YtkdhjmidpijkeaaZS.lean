/-
  Contracts: flows and their values, in the program and in the model of it.
-/
import Derived.Test.YtkdhjmidpijkeaaZD
import Derived.Test.YtkdhjmidpijkeaaZP
import Derived.Test.YtkdhjmidpijkeaaM5
import Derived.Test.YtkdhjmidpijkeaaAP
import Derived.BigRegion
import Derived.IntWalk
import Derived.Deep.RegionHeld3
import Derived.Deep.DeepCutAuto
import Derived.Test.YtkdhjmidpijkeaaM3
namespace Go.Proofs.Ytkdhjmidpijkeaa
open Go.RowKit
set_option linter.unusedVariables false

/-- What flow k adds to node u's balance. -/
def trm (xs fs : List Int) (u : Int) (k : Nat) : Int := fs.getD k 0 * (io (decide (xs.getD (k * 3) 0 = u)) - io (decide (xs.getD (k * 3 + 1) 0 = u)))
def balV (xs fs : List Int) (u : Int) (k : Nat) : Int := sumZ (trm xs fs u) k
/-- The balances of N nodes, s times. -/
def balL (s : Int) (N : Nat) (xs fs : List Int) (k : Nat) : List Int := (List.range N).map fun (u : Nat) => s * balV xs fs u k
theorem balL_len (s : Int) (N : Nat) (xs fs : List Int) (k : Nat) : (balL s N xs fs k).length = N := by simp [balL]
theorem balL_at (s : Int) {N u : Nat} (xs fs : List Int) (k : Nat) (h : u < N) : (balL s N xs fs k).getD u 0 = s * balV xs fs u k := by simp [balL, h]
theorem balL_zero (s : Int) (N : Nat) (xs fs : List Int) : balL s N xs fs 0 = List.replicate N 0 := by
  apply List.ext_getElem
  · simp [balL]
  · intro i h1 h2
    simp [balL, balV, sumZ]
theorem some_getD (l : List Int) (i : Nat) (h : i < l.length) : l[i]? = some (l.getD i 0) := by simp [h]
theorem balL_step (s : Int) {N k f t : Nat} (xs fs : List Int) (hf : xs.getD (k * 3) 0 = (f : Int)) (ht : xs.getD (k * 3 + 1) 0 = (t : Int)) (h1 : f < N) (h2 : t < N) :
    ((balL s N xs fs k).set f ((balL s N xs fs k).getD f 0 + s * fs.getD k 0)).set t (((balL s N xs fs k).set f ((balL s N xs fs k).getD f 0 + s * fs.getD k 0)).getD t 0 - s * fs.getD k 0) = balL s N xs fs (k + 1) := by
  apply List.ext_getElem?
  intro i
  by_cases hi : i < N
  · rw [some_getD _ _ (show i < (balL s N xs fs (k + 1)).length by rw [balL_len]; exact hi), some_getD _ _ (show i < (((balL s N xs fs k).set f ((balL s N xs fs k).getD f 0 + s * fs.getD k 0)).set t (((balL s N xs fs k).set f ((balL s N xs fs k).getD f 0 + s * fs.getD k 0)).getD t 0 - s * fs.getD k 0)).length by rw [List.length_set, List.length_set, balL_len]; exact hi)]
    rw [balL_at _ _ _ _ hi]
    congr 1
    have hb : balV xs fs i (k + 1) = balV xs fs i k + trm xs fs i k := rfl
    rw [hb, Int.mul_add]
    rw [getD_set _ t i _ (by rw [List.length_set, balL_len]; exact h2), getD_set _ f t _ (by rw [balL_len]; exact h1), getD_set _ f i _ (by rw [balL_len]; exact h1), balL_at _ _ _ _ h1, balL_at _ _ _ _ h2, balL_at _ _ _ _ hi]
    unfold trm
    rw [hf, ht]
    by_cases c1 : t = i
    · subst c1
      by_cases c2 : f = t
      · subst c2
        simp [io]
      · have c3 : ¬ (f : Int) = (t : Int) := by omega
        rw [if_pos rfl, if_neg c2, decide_eq_false c3, decide_eq_true (rfl : (t : Int) = t)]
        simp [io, Int.mul_neg]
        omega
    · have c4 : ¬ (t : Int) = (i : Int) := by omega
      rw [if_neg c1]
      by_cases c2 : f = i
      · subst c2
        rw [if_pos rfl, decide_eq_true (rfl : (f : Int) = f), decide_eq_false c4]
        simp [io]
      · have c3 : ¬ (f : Int) = (i : Int) := by omega
        rw [if_neg c2, decide_eq_false c3, decide_eq_false c4]
        simp [io]
  · rw [List.getElem?_eq_none (by simp [balL_len]; omega), List.getElem?_eq_none (by simp [balL_len]; omega)]
/-- The first k flows fit. -/
def FitTo (xs fs : List Int) (k : Nat) : Prop := ∀ j, j < k → 0 ≤ fs.getD j 0 ∧ fs.getD j 0 ≤ xs.getD (j * 3 + 2) 0
def fitB (m : Nat) (xs fs : List Int) : Bool := decide (fs.length = m) && (List.range m).all fun j => decide (0 ≤ fs.getD j 0 ∧ fs.getD j 0 ≤ xs.getD (j * 3 + 2) 0)
theorem fit_true {m : Nat} {xs fs : List Int} (h : fitB m xs fs = true) : fs.length = m ∧ FitTo xs fs m := by
  unfold fitB at h
  simp only [Bool.and_eq_true, decide_eq_true_eq, List.all_eq_true, List.mem_range] at h
  exact ⟨h.1, fun j hj => h.2 j hj⟩
theorem fit_mk {m : Nat} {xs fs : List Int} (h1 : fs.length = m) (h2 : FitTo xs fs m) : fitB m xs fs = true := by
  unfold fitB
  simp only [Bool.and_eq_true, decide_eq_true_eq, List.all_eq_true, List.mem_range]
  exact ⟨h1, fun j hj => h2 j hj⟩
theorem fit_len {m : Nat} {xs fs : List Int} (h : fs.length ≠ m) : fitB m xs fs = false := by unfold fitB; rw [decide_eq_false h]; rfl
theorem fit_no {m : Nat} {xs fs : List Int} {k : Nat} (hk : k < m) (h : ¬ (0 ≤ fs.getD k 0 ∧ fs.getD k 0 ≤ xs.getD (k * 3 + 2) 0)) : fitB m xs fs = false := by
  unfold fitB
  have : ((List.range m).all fun j => decide (0 ≤ fs.getD j 0 ∧ fs.getD j 0 ≤ xs.getD (j * 3 + 2) 0)) = false := by
    rw [List.all_eq_false]
    exact ⟨k, List.mem_range.2 hk, by simpa using h⟩
  rw [this, Bool.and_false]
theorem FitTo.succ {xs fs : List Int} {k : Nat} (h : FitTo xs fs k) (hk : 0 ≤ fs.getD k 0 ∧ fs.getD k 0 ≤ xs.getD (k * 3 + 2) 0) : FitTo xs fs (k + 1) := fun j hj => by
  by_cases e : j = k
  · subst e; exact hk
  · exact h j (by omega)
theorem bal_in {n : Int} {m : Nat} {xs fs : List Int} (hE : edgAll n m xs = true) (u : Int) : ∀ {k : Nat}, k ≤ m → FitTo xs fs k → -(k * 1000000000) ≤ balV xs fs u k ∧ balV xs fs u k ≤ k * 1000000000
  | 0, _, _ => by simp [balV, sumZ]
  | k + 1, hk, hF => by
    have h1 := bal_in hE u (k := k) (by omega) fun j hj => hF j (by omega)
    have h2 := edg_true (edgAll_at hE (show k < m by omega))
    have h3 := hF k (by omega)
    have e : balV xs fs u (k + 1) = balV xs fs u k + trm xs fs u k := rfl
    rw [e]
    unfold trm
    generalize fs.getD k 0 = x at *
    generalize decide (xs.getD (k * 3) 0 = u) = a
    generalize decide (xs.getD (k * 3 + 1) 0 = u) = b
    cases a <;> cases b <;> simp [io] <;> omega
/-- The balances of the nodes between source and sink. -/
def subL (N : Nat) (b : List Int) : List Int := (b.drop 1).take (N - 2)
def flowB (N m : Nat) (xs fs : List Int) : Bool := fitB m xs fs && allB 0 (subL N (balL 1 N xs fs m))
theorem allB_neg (l : List Int) : allB 0 (l.map fun x => -1 * x) = allB 0 l := by
  unfold allB
  rw [List.all_map]
  congr 1
  funext x
  exact decide_eq_decide.2 (by show 0 ≤ -1 * x ∧ -1 * x ≤ 0 ↔ _; omega)
theorem balL_neg (N : Nat) (xs fs : List Int) (k : Nat) : balL (-1) N xs fs k = (balL 1 N xs fs k).map fun x => -1 * x := by
  unfold balL
  rw [List.map_map]
  apply List.map_congr_left
  intro u _
  show -1 * _ = -1 * (1 * _)
  rw [Int.one_mul]
theorem sub_neg (N : Nat) (xs fs : List Int) (k : Nat) : allB 0 (subL N (balL (-1) N xs fs k)) = allB 0 (subL N (balL 1 N xs fs k)) := by
  rw [balL_neg]
  unfold subL
  rw [← List.map_drop, ← List.map_take]
  exact allB_neg _

theorem row_sub {w : World} {B g N c : Nat} {b : List Int} (h : Row w B (.slice (some ⟨g, 0, none⟩) N c) b) (hN : N = b.length) (h2 : 2 ≤ N) : Seen w (.slice (some ⟨g, 1, none⟩) (N - 1 - 1) (c - 1)) (subL N b) := by
  have hl : (subL N b).length = N - 2 := by unfold subL; rw [List.length_take, List.length_drop]; omega
  have hlt := (World.ownsRow.lt h g rfl).2
  subst hN
  refine ⟨some ⟨g, 1, none⟩, c - 1, by rw [hl, show b.length - 1 - 1 = b.length - 2 by omega], ?_, fun h0 => ⟨g, 1, rfl, hlt, fun k hk => ?_⟩⟩
  · have := World.ownsRow.lt h g rfl
    rcases h.2 with ⟨h3, _⟩ | ⟨g', cap, cur, h3, _, _, h4, h5, _⟩
    · simp at h3
    · rw [hl]; omega
  · rw [hl] at hk
    rw [show 1 + k = k + 1 by omega, h.cell (k + 1) (by omega)]
    have : (subL b.length b).getD k 0 = b.getD (k + 1) 0 := by
      unfold subL
      simp only [List.getD_eq_getElem?_getD]
      rw [List.getElem?_take_of_lt hk, List.getElem?_drop, Nat.add_comm 1 k]
    rw [this]

set_option maxHeartbeats 4000000 in
theorem c_areWithinCaps (m : Nat) (xs fs : List Int) (v u : Value) (w : World) (hm : m ≤ 2000) (hl : fs.length ≤ 4000000) (h : SeenP w v m xs) (hu : Seen w u fs) :
    Calls Try.prog 65 #[v, u] w fun e w' => e = .returned (.bool (fitB m xs fs)) ∧ w = w' := by
  obtain ⟨A, c, rfl, _, hx, hA⟩ := h
  have E0 : Hid (∀ k : Nat, k < m → ∃ b off, A = some ⟨b, off, none⟩ ∧ b < w.heap.size ∧ ∀ j : Nat, j < m * 3 → w.cell? ⟨b, off + j, none⟩ = some (.int .i64 (xs.getD j 0))) := fun k hk => hA (by omega)
  have HU := Lib.hid hu
  obtain ⟨A2, c2, rfl⟩ := hu.shape
  clear hA hx hu
  by_cases hlen : fs.length = m
  · rw [hlen] at HU ⊢
    have F1 : Hid (∀ k : Nat, k < m → ¬ (0 ≤ fs.getD k 0 ∧ fs.getD k 0 ≤ xs.getD (k * 3 + 2) 0) → fitB m xs fs = false) := fun k hk h => fit_no hk h
    have F2 : Hid (FitTo xs fs m → fitB m xs fs = true) := fun h => fit_mk hlen h
    have hne : ((m : Int) != (m : Int)) = false := by simp
    have HL := Lib.hid hlen
    clear hlen hl
    generalize fitB m xs fs = R at *
    go_enter Try.func65, Try.ntmps65
    go_wp2_with fail
    go_loop [14] (fun i => ∃ k : Nat, k ≤ m ∧ i = .int .i64 k ∧ FitTo xs fs k) (fun i => m - (RowKit.intOf i).toNat)
    case atStart => exact ⟨0, Nat.zero_le _, rfl, fun j hj => by omega⟩
    case round =>
      obtain ⟨k, hk, rfl, hP⟩ := hrel
      have HP : Hid (FitTo xs fs k) := hP
      clear hP
      by_cases hlt : k < m
      · obtain ⟨b, off, rfl, hbl, hc⟩ := E0.out k hlt
        have q2 := hc (k * 3 + 2) (by omega)
        rw [← Nat.add_assoc] at q2
        obtain ⟨b2, o2, c2', e2, _, q3⟩ := HU.out.at_ (k := k) (by rw [HL.out]; exact hlt)
        simp at e2
        obtain ⟨rfl, he2⟩ := e2
        clear he2
        have HF1 := Lib.hid (F1.out k hlt)
        have g1 : Hid ((0 ≤ fs.getD k 0 ∧ fs.getD k 0 ≤ xs.getD (k * 3 + 2) 0) → FitTo xs fs (k + 1)) := fun h => HP.out.succ h
        clear hc hbl
        generalize fs.getD k 0 = x at *
        generalize xs.getD (k * 3 + 2) 0 = r at *
        have b1 : (0 : Int) ≤ (k : Int) := by omega
        have b2 : (k : Int) < (m : Int) := by omega
        by_cases x1 : x < 0
        · have G := Lib.hid (HF1.out (by omega))
          go_wp2
          go_ret
          exact ⟨ret_bool G.out.symm, rfl⟩
        · by_cases x2 : r < x
          · have G := Lib.hid (HF1.out (by omega))
            go_wp2
            go_ret
            exact ⟨ret_bool G.out.symm, rfl⟩
          · have G := Lib.hid (g1.out (by omega))
            go_wp2
            go_round
            case rel => exact ⟨k + 1, by omega, by go_num, G.out⟩
            case measure => simp [RowKit.intOf]; omega
      · obtain rfl : k = m := by omega
        have G := Lib.hid (F2.out HP.out)
        go_wp2
        go_ret
        exact ⟨ret_bool G.out.symm, rfl⟩
  · have G := Lib.hid (fit_len (xs := xs) hlen)
    have hne : ((fs.length : Int) != (m : Int)) = true := by simp; omega
    rw [G.out]
    clear hlen G
    go_enter Try.func65, Try.ntmps65
    go_wp2
    go_ret
    exact ⟨rfl, rfl⟩

set_option maxHeartbeats 8000000 in
set_option maxRecDepth 100000 in
theorem c_balancesOf (N m : Nat) (xs fs : List Int) (v u : Value) (w : World) (hn : netB N m xs = true) (hf : fitB m xs fs = true) (h : SeenP w v m xs) (hu : Seen w u fs) :
    Calls Try.prog 66 #[.int .i64 N, v, u] w (GivesRow w (balL 1 N xs fs m)) := by
  obtain ⟨i0, hi0, hz0, hz1, hz2⟩ := info_parts int_info
  obtain ⟨A, c, rfl, _, hx, hA⟩ := h
  obtain ⟨n1, n2, n3, hE⟩ := net_true hn
  obtain ⟨hlen, hfit⟩ := fit_true hf
  have E0 : Hid (∀ k : Nat, k < m → ∃ b off, A = some ⟨b, off, none⟩ ∧ b < w.heap.size ∧ ∀ j : Nat, j < m * 3 → w.cell? ⟨b, off + j, none⟩ = some (.int .i64 (xs.getD j 0))) := fun k hk => hA (by omega)
  have HU := Lib.hid hu
  obtain ⟨A2, c2, rfl⟩ := hu.shape
  have HL := Lib.hid hlen
  have EB : Hid (∀ k : Nat, k < m → edgB N (xs.getD (k * 3) 0) (xs.getD (k * 3 + 1) 0) (xs.getD (k * 3 + 2) 0) = true) := fun k hk => edgAll_at hE hk
  have HFt : Hid (FitTo xs fs m) := hfit
  have BI : Hid (∀ (x : Int) (k : Nat), k ≤ m → -(k * 1000000000) ≤ balV xs fs x k ∧ balV xs fs x k ≤ k * 1000000000) := fun x k hk => bal_in hE x hk fun j hj => hfit j (by omega)
  have B0 : Hid (balL 1 N xs fs 0 = List.replicate N 0) := balL_zero 1 N xs fs
  have BS : Hid (∀ (k f t : Nat), xs.getD (k * 3) 0 = (f : Int) → xs.getD (k * 3 + 1) 0 = (t : Int) → f < N → t < N → ((balL 1 N xs fs k).set f ((balL 1 N xs fs k).getD f 0 + fs.getD k 0)).set t (((balL 1 N xs fs k).set f ((balL 1 N xs fs k).getD f 0 + fs.getD k 0)).getD t 0 - fs.getD k 0) = balL 1 N xs fs (k + 1)) := fun k f t h1 h2 h3 h4 => by
    have := balL_step 1 xs fs h1 h2 h3 h4
    rw [Int.one_mul] at this
    exact this
  have BA : Hid (∀ (k u : Nat), u < N → (balL 1 N xs fs k).getD u 0 = balV xs fs u k) := fun k u h => by rw [balL_at _ _ _ _ h, Int.one_mul]
  have BL : Hid (∀ k, (balL 1 N xs fs k).length = N) := balL_len 1 N xs fs
  have hmk : (Instr.makeSlice 28 (.int .i64 (N : Int)) (.int .i64 (N : Int))).run Try.prog w = .ok (.slice (some ⟨w.heap.size, 0, none⟩) N N) (w.alloc (.cells (madeCells #[.int .i64 0] N) 3)) := by
    have := run_make (P := Try.prog) w 28 3 i0 (.int .i64 0) Try.underlying28 hi0 hz0 .i64 .i64 (N : Int) (N : Int) (by omega) (by omega) (by rw [hz2]; omega) (by omega)
    simpa [hz1, Value.cells] using this
  have H0 : Hid (Row (w.alloc (.cells (madeCells #[.int .i64 0] N) 3)) w.heap.size (.slice (some ⟨w.heap.size, 0, none⟩) N N) (balL 1 N xs fs 0)) := by
    rw [B0.out]
    have := World.ownsRow_lit (base := w.heap.size) (e := 3) (size := 1) w (madeCells #[.int .i64 0] N) N (Nat.le_refl _) (by unfold maxLen; omega) (by rw [size_madeCells]; simp)
    rw [toList_madeCells_one] at this
    unfold Row Hid ints
    rw [List.length_replicate, List.map_replicate]
    exact this
  clear hA hE hx hn hf hlen hfit hu hi0 hz0 hz1 hz2 B0
  generalize balL 1 N xs fs = L at *
  go_enter Try.func66, Try.ntmps66
  go_wp2_with fail
  clear hmk
  go_loopw [14] (fun i wr => ∃ k : Nat, k ≤ m ∧ i = .int .i64 k ∧ Row wr w.heap.size (.slice (some ⟨w.heap.size, 0, none⟩) N N) (L k) ∧ Below w.heap.size w wr ∧ w.heap.size < wr.heap.size) (fun i _ => m - (RowKit.intOf i).toNat)
  case atStart => exact ⟨0, Nat.zero_le _, rfl, H0.out, (Below.refl _ _).alloc (Nat.le_refl _) _, by simp⟩
  case round =>
    obtain ⟨k, hk, rfl, hr, hb, hs⟩ := hrel
    have HR := Lib.hid hr
    have HB := Lib.hid hb
    clear hr hb
    by_cases hlt : k < m
    · obtain ⟨b, off, rfl, hbl, hc⟩ := E0.out k hlt
      have q0 : wr.cell? ⟨b, off + k * 3, none⟩ = some (.int .i64 (xs.getD (k * 3) 0)) := by rw [HB.out.cell (p := ⟨b, off + k * 3, none⟩) hbl]; exact hc _ (by omega)
      have q1 : wr.cell? ⟨b, off + k * 3 + 1, none⟩ = some (.int .i64 (xs.getD (k * 3 + 1) 0)) := by rw [HB.out.cell (p := ⟨b, off + k * 3 + 1, none⟩) hbl]; exact hc (k * 3 + 1) (by omega)
      have q2 : wr.cell? ⟨b, off + k * 3 + 2, none⟩ = some (.int .i64 (xs.getD (k * 3 + 2) 0)) := by rw [HB.out.cell (p := ⟨b, off + k * 3 + 2, none⟩) hbl]; exact hc (k * 3 + 2) (by omega)
      obtain ⟨b2, o2, c2', e2, hb2l, q3'⟩ := HU.out.at_ (k := k) (by rw [HL.out]; exact hlt)
      simp at e2
      obtain ⟨rfl, he2⟩ := e2
      clear he2
      have q3 : wr.cell? ⟨b2, o2 + k, none⟩ = some (.int .i64 (fs.getD k 0)) := by rw [HB.out.cell (p := ⟨b2, o2 + k, none⟩) hb2l]; exact q3'
      have nb2 : b2 ≠ w.heap.size := Nat.ne_of_lt hb2l
      have hb2r : b2 < wr.heap.size := Nat.lt_trans hb2l hs
      obtain ⟨f1, f2, f3, f4, f5, f6⟩ := edg_true (EB.out k hlt)
      have ft := HFt.out k hlt
      obtain ⟨f, hf⟩ := Int.eq_ofNat_of_zero_le f1
      obtain ⟨t, ht⟩ := Int.eq_ofNat_of_zero_le f3
      have hfN : f < N := by omega
      have htN : t < N := by omega
      have BSk := Lib.hid (BS.out k f t hf ht hfN htN)
      have bf := BI.out f k (by omega)
      rw [← BA.out k f hfN] at bf
      have bt := BI.out t k (by omega)
      rw [← BA.out k t htN] at bt
      have lk := BL.out k
      rw [hf] at q0
      rw [ht] at q1
      have HRl : Hid (N = (L k).length) := lk.symm
      have p0 : wr.cell? ⟨w.heap.size, f, none⟩ = some (.int .i64 ((L k).getD f 0)) := by
        have := HR.out
        rw [HRl.out] at this
        exact this.cell f (by omega)
      have z0 : wr.frozen? ⟨w.heap.size, f, none⟩ = false := by
        have := HR.out
        rw [HRl.out] at this
        exact this.frozen f
      have z1 : wr.frozen? ⟨w.heap.size, t, none⟩ = false := by
        have := HR.out
        rw [HRl.out] at this
        exact this.frozen t
      have hy : ((L k).set f ((L k).getD f 0 + fs.getD k 0)).getD t 0 = if f = t then (L k).getD f 0 + fs.getD k 0 else (L k).getD t 0 := getD_set _ _ _ _ (by omega)
      have N1 := Lib.hid ((Row.set_ HRl.out HR.out f ((L k).getD f 0 + fs.getD k 0)).1)
      have N2 := Lib.hid ((Row.set_ (by rw [List.length_set]; exact HRl.out) N1.out t (((L k).set f ((L k).getD f 0 + fs.getD k 0)).getD t 0 - fs.getD k 0)).1)
      rw [BSk.out] at N2
      have p1 : (wr.setCell ⟨w.heap.size, f, none⟩ (.int .i64 ((L k).getD f 0 + fs.getD k 0))).cell? ⟨w.heap.size, t, none⟩ = some (.int .i64 (((L k).set f ((L k).getD f 0 + fs.getD k 0)).getD t 0)) := by
        have := N1.out
        rw [show N = ((L k).set f ((L k).getD f 0 + fs.getD k 0)).length by rw [List.length_set]; exact HRl.out] at this
        exact this.cell t (by rw [List.length_set]; omega)
      have by' : -(k * 1000000000) - 1000000000 ≤ ((L k).set f ((L k).getD f 0 + fs.getD k 0)).getD t 0 ∧ ((L k).set f ((L k).getD f 0 + fs.getD k 0)).getD t 0 ≤ k * 1000000000 + 1000000000 := by rw [hy]; split <;> omega
      clear hc hbl hy hf ht q3' N1 BSk lk bt f1 f2 f3 f4
      generalize ((L k).set f ((L k).getD f 0 + fs.getD k 0)).getD t 0 = y at *
      generalize (L k).getD f 0 = x at *
      generalize fs.getD k 0 = d at *
      generalize xs.getD (k * 3 + 2) 0 = r at *
      have b1 : (0 : Int) ≤ (k : Int) := by omega
      have b2' : (k : Int) < (m : Int) := by omega
      have b3 : (k : Int) < (fs.length : Int) := by have := HL.out; omega
      have b4 : k < fs.length := by omega
      have g1 : (0 : Int) ≤ (f : Int) := by omega
      have g2 : (f : Int) < (N : Int) := by omega
      have g3 : (0 : Int) ≤ (t : Int) := by omega
      have g4 : (t : Int) < (N : Int) := by omega
      have N3 : Hid (Row (((wr.setCell ⟨w.heap.size, f, none⟩ (.int .i64 (x + d))).setCell ⟨w.heap.size, t, none⟩ (.int .i64 (y - d))).alloc (.cells #[.int .i64 (f : Int), .int .i64 (t : Int), .int .i64 r] 47)) w.heap.size (.slice (some ⟨w.heap.size, 0, none⟩) N N) (L (k + 1))) := World.ownsRow.alloc N2.out _
      have NB : Hid (Below w.heap.size w (((wr.setCell ⟨w.heap.size, f, none⟩ (.int .i64 (x + d))).setCell ⟨w.heap.size, t, none⟩ (.int .i64 (y - d))).alloc (.cells #[.int .i64 (f : Int), .int .i64 (t : Int), .int .i64 r] 47))) := ((HB.out.setCell (Nat.le_refl _) _).setCell (Nat.le_refl _) _).alloc (by simp; omega) _
      go_wp2_with fail
      go_region
      go_wp2_with fail
      go_region
      go_wp2
      go_roundw
      case rel => exact ⟨k + 1, by omega, by go_num, N3.out, NB.out.drew.drew, by simp; omega⟩
      case measure => simp [RowKit.intOf]; omega
    · obtain rfl : k = m := by omega
      go_wp2
      go_ret
      exact ⟨_, rfl, HR.out, HB.out⟩

set_option maxHeartbeats 8000000 in
set_option maxRecDepth 100000 in
theorem c_mfFlows (N m : Nat) (xs fs : List Int) (v u : Value) (w : World) (hn : netB N m xs = true) (hm0 : fs.length ≤ 4000000) (h : SeenP w v m xs) (hu : Seen w u fs) :
    Calls Try.prog 67 #[.int .i64 N, v, u] w fun e w' => e = .returned (.bool (flowB N m xs fs)) ∧ Below w.heap.size w w' := by
  obtain ⟨i0, hi0, hz0, hz1, hz2⟩ := info_parts int_info
  obtain ⟨A, c, rfl, _, hx, hA⟩ := h
  obtain ⟨n1, n2, n3, hE⟩ := net_true hn
  by_cases hlen : fs.length = m
  case neg =>
    have G : Hid (flowB N m xs fs = false) := by show _ = _; unfold flowB; rw [fit_len hlen]; rfl
    obtain ⟨A2, c2, rfl⟩ := hu.shape
    have hne : ((fs.length : Int) != (m : Int)) = true := by simp; omega
    rw [G.out]
    clear hlen G hu hA hE hi0 hz0 hz1 hz2 hx
    go_enter Try.func67, Try.ntmps67
    go_wp2
    go_ret
    exact ⟨rfl, Below.refl _ _⟩
  have E0 : Hid (∀ k : Nat, k < m → ∃ b off, A = some ⟨b, off, none⟩ ∧ b < w.heap.size ∧ ∀ j : Nat, j < m * 3 → w.cell? ⟨b, off + j, none⟩ = some (.int .i64 (xs.getD j 0))) := fun k hk => hA (by omega)
  have HU := Lib.hid hu
  obtain ⟨A2, c2, rfl⟩ := hu.shape
  have HL := Lib.hid hlen
  have EB : Hid (∀ k : Nat, k < m → edgB N (xs.getD (k * 3) 0) (xs.getD (k * 3 + 1) 0) (xs.getD (k * 3 + 2) 0) = true) := fun k hk => edgAll_at hE hk
  have BI : Hid (∀ (x : Int) (k : Nat), k ≤ m → FitTo xs fs k → -(k * 1000000000) ≤ balV xs fs x k ∧ balV xs fs x k ≤ k * 1000000000) := fun x k hk hF => bal_in hE x hk hF
  have F1 : Hid (∀ k : Nat, k < m → ¬ (0 ≤ fs.getD k 0 ∧ fs.getD k 0 ≤ xs.getD (k * 3 + 2) 0) → flowB N m xs fs = false) := fun k hk h => by unfold flowB; rw [fit_no hk h]; rfl
  have F2 : Hid (FitTo xs fs m → flowB N m xs fs = allB 0 (subL N (balL (-1) N xs fs m))) := fun h => by unfold flowB; rw [fit_mk hlen h, sub_neg]; rfl
  have hne : ((m : Int) != (m : Int)) = false := by simp
  have B0 : Hid (balL (-1) N xs fs 0 = List.replicate N 0) := balL_zero (-1) N xs fs
  have BS : Hid (∀ (k f t : Nat), xs.getD (k * 3) 0 = (f : Int) → xs.getD (k * 3 + 1) 0 = (t : Int) → f < N → t < N → ((balL (-1) N xs fs k).set f ((balL (-1) N xs fs k).getD f 0 - fs.getD k 0)).set t (((balL (-1) N xs fs k).set f ((balL (-1) N xs fs k).getD f 0 - fs.getD k 0)).getD t 0 + fs.getD k 0) = balL (-1) N xs fs (k + 1)) := fun k f t h1 h2 h3 h4 => by
    have := balL_step (-1) xs fs h1 h2 h3 h4
    rw [show -1 * fs.getD k 0 = -fs.getD k 0 by omega, ← Int.sub_eq_add_neg, Int.sub_neg] at this
    exact this
  have BA : Hid (∀ (k u : Nat), u < N → (balL (-1) N xs fs k).getD u 0 = -balV xs fs u k) := fun k u h => by rw [balL_at _ _ _ _ h]; omega
  have BL : Hid (∀ k, (balL (-1) N xs fs k).length = N) := balL_len (-1) N xs fs
  have hmk : (Instr.makeSlice 28 (.int .i64 (N : Int)) (.int .i64 (N : Int))).run Try.prog w = .ok (.slice (some ⟨w.heap.size, 0, none⟩) N N) (w.alloc (.cells (madeCells #[.int .i64 0] N) 3)) := by
    have := run_make (P := Try.prog) w 28 3 i0 (.int .i64 0) Try.underlying28 hi0 hz0 .i64 .i64 (N : Int) (N : Int) (by omega) (by omega) (by rw [hz2]; omega) (by omega)
    simpa [hz1, Value.cells] using this
  have H0 : Hid (Row (w.alloc (.cells (madeCells #[.int .i64 0] N) 3)) w.heap.size (.slice (some ⟨w.heap.size, 0, none⟩) N N) (balL (-1) N xs fs 0)) := by
    rw [B0.out]
    have := World.ownsRow_lit (base := w.heap.size) (e := 3) (size := 1) w (madeCells #[.int .i64 0] N) N (Nat.le_refl _) (by unfold maxLen; omega) (by rw [size_madeCells]; simp)
    rw [toList_madeCells_one] at this
    unfold Row Hid ints
    rw [List.length_replicate, List.map_replicate]
    exact this
  rw [hlen] at HU ⊢
  clear hA hE hx hn hlen hu hi0 hz0 hz1 hz2 B0
  generalize flowB N m xs fs = Rs at *
  generalize balL (-1) N xs fs = L at *
  go_enter Try.func67, Try.ntmps67
  go_wp2_with fail
  clear hmk
  go_loopw [19] (fun i wr => ∃ k : Nat, k ≤ m ∧ i = .int .i64 k ∧ FitTo xs fs k ∧ Row wr w.heap.size (.slice (some ⟨w.heap.size, 0, none⟩) N N) (L k) ∧ Below w.heap.size w wr ∧ w.heap.size < wr.heap.size) (fun i _ => m - (RowKit.intOf i).toNat)
  case atStart => exact ⟨0, Nat.zero_le _, rfl, (fun j hj => by omega), H0.out, (Below.refl _ _).alloc (Nat.le_refl _) _, by simp⟩
  case round =>
    obtain ⟨k, hk, rfl, hP, hr, hb, hs⟩ := hrel
    have HP : Hid (FitTo xs fs k) := hP
    clear hP
    have HR := Lib.hid hr
    have HB := Lib.hid hb
    clear hr hb
    by_cases hlt : k < m
    · obtain ⟨b, off, rfl, hbl, hc⟩ := E0.out k hlt
      have q0 : wr.cell? ⟨b, off + k * 3, none⟩ = some (.int .i64 (xs.getD (k * 3) 0)) := by rw [HB.out.cell (p := ⟨b, off + k * 3, none⟩) hbl]; exact hc _ (by omega)
      have q1 : wr.cell? ⟨b, off + k * 3 + 1, none⟩ = some (.int .i64 (xs.getD (k * 3 + 1) 0)) := by rw [HB.out.cell (p := ⟨b, off + k * 3 + 1, none⟩) hbl]; exact hc (k * 3 + 1) (by omega)
      have q2 : wr.cell? ⟨b, off + k * 3 + 2, none⟩ = some (.int .i64 (xs.getD (k * 3 + 2) 0)) := by rw [HB.out.cell (p := ⟨b, off + k * 3 + 2, none⟩) hbl]; exact hc (k * 3 + 2) (by omega)
      obtain ⟨b2, o2, c2', e2, hb2l, q3'⟩ := HU.out.at_ (k := k) (by rw [HL.out]; exact hlt)
      simp at e2
      obtain ⟨rfl, he2⟩ := e2
      clear he2
      have q3 : wr.cell? ⟨b2, o2 + k, none⟩ = some (.int .i64 (fs.getD k 0)) := by rw [HB.out.cell (p := ⟨b2, o2 + k, none⟩) hb2l]; exact q3'
      have nb2 : b2 ≠ w.heap.size := Nat.ne_of_lt hb2l
      have hb2r : b2 < wr.heap.size := Nat.lt_trans hb2l hs
      obtain ⟨f1, f2, f3, f4, f5, f6⟩ := edg_true (EB.out k hlt)
      have HF1 := Lib.hid (F1.out k hlt)
      have G1 : Hid ((0 ≤ fs.getD k 0 ∧ fs.getD k 0 ≤ xs.getD (k * 3 + 2) 0) → FitTo xs fs (k + 1)) := fun h => HP.out.succ h
      obtain ⟨f, hf⟩ := Int.eq_ofNat_of_zero_le f1
      obtain ⟨t, ht⟩ := Int.eq_ofNat_of_zero_le f3
      have hfN : f < N := by omega
      have htN : t < N := by omega
      have BSk := Lib.hid (BS.out k f t hf ht hfN htN)
      have bf := BI.out f k (by omega) HP.out
      have bff := BA.out k f hfN
      have bt := BI.out t k (by omega) HP.out
      have btt := BA.out k t htN
      have lk := BL.out k
      rw [hf] at q0
      rw [ht] at q1
      have HRl : Hid (N = (L k).length) := lk.symm
      have p0 : wr.cell? ⟨w.heap.size, f, none⟩ = some (.int .i64 ((L k).getD f 0)) := by
        have := HR.out
        rw [HRl.out] at this
        exact this.cell f (by omega)
      have z0 : wr.frozen? ⟨w.heap.size, f, none⟩ = false := by
        have := HR.out
        rw [HRl.out] at this
        exact this.frozen f
      have z1 : wr.frozen? ⟨w.heap.size, t, none⟩ = false := by
        have := HR.out
        rw [HRl.out] at this
        exact this.frozen t
      have hy : ((L k).set f ((L k).getD f 0 - fs.getD k 0)).getD t 0 = if f = t then (L k).getD f 0 - fs.getD k 0 else (L k).getD t 0 := getD_set _ _ _ _ (by omega)
      have N1 := Lib.hid ((Row.set_ HRl.out HR.out f ((L k).getD f 0 - fs.getD k 0)).1)
      have N2 := Lib.hid ((Row.set_ (by rw [List.length_set]; exact HRl.out) N1.out t (((L k).set f ((L k).getD f 0 - fs.getD k 0)).getD t 0 + fs.getD k 0)).1)
      rw [BSk.out] at N2
      have p1 : (wr.setCell ⟨w.heap.size, f, none⟩ (.int .i64 ((L k).getD f 0 - fs.getD k 0))).cell? ⟨w.heap.size, t, none⟩ = some (.int .i64 (((L k).set f ((L k).getD f 0 - fs.getD k 0)).getD t 0)) := by
        have := N1.out
        rw [show N = ((L k).set f ((L k).getD f 0 - fs.getD k 0)).length by rw [List.length_set]; exact HRl.out] at this
        exact this.cell t (by rw [List.length_set]; omega)
      have by' : (0 ≤ fs.getD k 0 ∧ fs.getD k 0 ≤ 1000000000) → -(k * 1000000000) - 1000000000 ≤ ((L k).set f ((L k).getD f 0 - fs.getD k 0)).getD t 0 ∧ ((L k).set f ((L k).getD f 0 - fs.getD k 0)).getD t 0 ≤ k * 1000000000 + 1000000000 := fun hd => by rw [hy]; split <;> omega
      have bx : -(k * 1000000000) ≤ (L k).getD f 0 ∧ (L k).getD f 0 ≤ k * 1000000000 := by omega
      have HBY := Lib.hid by'
      clear by' bf bt bff btt
      clear hc hbl hy hf ht q3' N1 BSk lk f1 f2 f3 f4
      generalize ((L k).set f ((L k).getD f 0 - fs.getD k 0)).getD t 0 = y at *
      generalize (L k).getD f 0 = x at *
      generalize fs.getD k 0 = d at *
      generalize xs.getD (k * 3 + 2) 0 = r at *
      have b1 : (0 : Int) ≤ (k : Int) := by omega
      have b2' : (k : Int) < (m : Int) := by omega
      have b3 : (k : Int) < (fs.length : Int) := by have := HL.out; omega
      have b4 : k < fs.length := by omega
      have g1 : (0 : Int) ≤ (f : Int) := by omega
      have g2 : (f : Int) < (N : Int) := by omega
      have g3 : (0 : Int) ≤ (t : Int) := by omega
      have g4 : (t : Int) < (N : Int) := by omega
      have N3 : Hid (Row (((wr.setCell ⟨w.heap.size, f, none⟩ (.int .i64 (x - d))).setCell ⟨w.heap.size, t, none⟩ (.int .i64 (y + d))).alloc (.cells #[.int .i64 (f : Int), .int .i64 (t : Int), .int .i64 r] 47)) w.heap.size (.slice (some ⟨w.heap.size, 0, none⟩) N N) (L (k + 1))) := World.ownsRow.alloc N2.out _
      have NB : Hid (Below w.heap.size w (((wr.setCell ⟨w.heap.size, f, none⟩ (.int .i64 (x - d))).setCell ⟨w.heap.size, t, none⟩ (.int .i64 (y + d))).alloc (.cells #[.int .i64 (f : Int), .int .i64 (t : Int), .int .i64 r] 47))) := ((HB.out.setCell (Nat.le_refl _) _).setCell (Nat.le_refl _) _).alloc (by simp; omega) _
      have e0' : (wr.alloc (.cells #[.int .i64 (f : Int), .int .i64 (t : Int), .int .i64 r] 47)).cell? ⟨wr.heap.size, 2, none⟩ = some (.int .i64 r) := by simp
      have e1' : (wr.alloc (.cells #[.int .i64 (f : Int), .int .i64 (t : Int), .int .i64 r] 47)).cell? ⟨b2, o2 + k, none⟩ = some (.int .i64 d) := by
        have hb : Below wr.heap.size wr (wr.alloc (.cells #[.int .i64 (f : Int), .int .i64 (t : Int), .int .i64 r] 47)) := (Below.refl _ _).alloc (Nat.le_refl _) _
        rw [hb.cell (p := ⟨b2, o2 + k, none⟩) hb2r]; exact q3
      obtain ⟨Bx, hBx⟩ : ∃ B : Bool, B = decide (0 ≤ d ∧ d ≤ r) := ⟨_, rfl⟩
      have HBx := Lib.hid hBx
      have CIn : Hid (∀ W : World, Calls Try.prog 73 #[.int .i64 d, .int .i64 0, .int .i64 r] W fun e w' => e = .returned (.bool Bx) ∧ W = w') := fun W => by rw [hBx]; exact c_l1In d 0 r W
      clear hBx
      go_upto_region 7 with fail
      go_cut [31] from 24 to 31 (fun a wx => a = .bool (!Bx) ∧ wx = (wr.alloc (.cells #[.int .i64 (f : Int), .int .i64 (t : Int), .int .i64 r] 47)).drew)
      case first =>
        go_region_held3 (fun u => u.cell? ⟨wr.heap.size, 2, none⟩ = some (.int .i64 r) ∧ u.cell? ⟨b2, o2 + k, none⟩ = some (.int .i64 d)) (go_keep) (first | (go_at_call 73; refine (CIn.out _).mono ?_; rintro e w2 ⟨rfl, rfl⟩))
        all_goals
          go_wp2_with fail
          go_meet
          exact ⟨rfl, rfl⟩
      case rest =>
      obtain ⟨rfl, rfl⟩ := hcut
      clear e0' e1'
      by_cases hd : 0 ≤ d ∧ d ≤ r
      · have G := Lib.hid (G1.out hd)
        have hby := HBY.out (by omega)
        obtain ⟨hd1, hd2⟩ := hd
        obtain rfl : Bx = true := by rw [HBx.out]; exact decide_eq_true ⟨hd1, hd2⟩
        simp only [Bool.not_true]
        go_wp2_with fail
        go_region
        go_wp2_with fail
        go_region
        go_wp2
        go_roundw
        case rel => exact ⟨k + 1, by omega, by go_num, G.out, N3.out, NB.out.drew.drew.drew, by simp; omega⟩
        case measure => simp [RowKit.intOf]; omega
      · have G := Lib.hid (HF1.out hd)
        obtain rfl : Bx = false := by rw [HBx.out]; exact decide_eq_false hd
        simp only [Bool.not_false]
        have GB : Hid (Below w.heap.size w (wr.alloc (.cells #[.int .i64 (f : Int), .int .i64 (t : Int), .int .i64 r] 47))) := HB.out.alloc (by omega) _
        clear hd
        go_wp2
        go_ret
        exact ⟨ret_bool G.out.symm, GB.out.drew⟩
    · obtain rfl : k = m := by omega
      have G := Lib.hid (F2.out HP.out)
      have HRl : Hid (N = (L k).length) := (BL.out k).symm
      have HSub : Hid (Seen wr (.slice (some ⟨w.heap.size, 1, none⟩) (N - 1 - 1) (N - 1)) (subL N (L k))) := row_sub HR.out HRl.out (by omega)
      have HSl : Hid ((subL N (L k)).length ≤ 4000000) := by show _ ≤ _; unfold subL; rw [List.length_take, List.length_drop]; omega
      go_wp2_with fail
      refine (c_l1All (subL N (L k)) _ 0 _ HSl.out HSub.out).mono ?_
      rintro e w2 ⟨rfl, rfl⟩
      go_wp2
      go_ret
      exact ⟨ret_bool G.out.symm, HB.out⟩

end Go.Proofs.Ytkdhjmidpijkeaa
