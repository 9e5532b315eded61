/-
  Contracts: valid arcs, marks and marked blocks, in the model.
-/
import Derived.Test.YtfpjodoimfbadaaN8
import Derived.Test.YtfpjodoimfbadaaN9
import Derived.Test.YtfpjodoimfbadaaNR
namespace Go.Proofs.Ytfpjodoimfbadaa
open Go.RowKit
set_option linter.unusedVariables false

theorem c_l1InD (n lo hi : Int) (w : World) : Calls Try.prog 34 #[.int .i64 n, .int .i64 lo, .int .i64 hi] w fun e w' => e = .returned (.bool (decide (lo ≤ n ∧ n ≤ hi))) ∧ w = w' := c_l1In n lo hi w

set_option maxHeartbeats 1000000 in
theorem c_clArcs (xss : List (List Int)) (v : Value) (w : World) (hl : ShortL xss) (h : SeenL w v xss) :
    Calls Try.prog 64 #[v] w fun e w' => e = .returned (.bool (arcB xss)) ∧ w = w' := by
  have HS := Lib.hid h
  obtain ⟨A, c, rfl, hm⟩ := h.shape
  clear h hm
  obtain ⟨hl1, hl2⟩ := hl
  have HL2 : Hid (∀ i, i < xss.length → (xss.getD i []).length ≤ 1048576) := hl2
  clear hl2
  have F1 : Hid (∀ k, k < xss.length → risB k (xss.getD k []) = false → arcB xss = false) := fun k hk h => arc_false hk h
  have F2 : Hid (ArcTo xss xss.length → arcB xss = decide ((1 : Int) ≤ (xss.length : Int) ∧ (xss.length : Int) ≤ 120)) := fun h => by
    by_cases hn : 1 ≤ xss.length ∧ xss.length ≤ 120
    · rw [arc_true hn h, decide_eq_true (by omega)]
    · rw [arc_short hn, decide_eq_false (by omega)]
  have F3 : Hid (∀ k, ArcTo xss k → risB k (xss.getD k []) = true → ArcTo xss (k + 1)) := fun k h h2 => h.succ h2
  have F0 : Hid (ArcTo xss 0) := ArcTo.zero xss
  have EC : Hid (∀ k : Nat, k < xss.length → ∃ b off A' c', A = some ⟨b, off, none⟩ ∧ w.cell? ⟨b, off + k, none⟩ = some (.slice A' (xss.getD k []).length c') ∧ Calls Try.prog 65 #[.slice A' (xss.getD k []).length c', .int .i64 0, .int .i64 ((k : Int) - 1)] w fun e w' => e = .returned (.bool (risB k (xss.getD k []))) ∧ w = w') := fun k hk => by
    obtain ⟨b, off, A', c', e, _, h1, h2⟩ := HS.out.at_ hk
    have := HL2.out k hk
    exact ⟨b, off, A', c', e, h1, c_l1Rising k _ _ w (by omega) (by omega) (by omega) h2⟩
  clear HL2 HS
  have CI : Hid (Calls Try.prog 34 #[.int .i64 (xss.length : Int), .int .i64 1, .int .i64 120] w fun e w' => e = .returned (.bool (decide ((1 : Int) ≤ (xss.length : Int) ∧ (xss.length : Int) ≤ 120))) ∧ w = w') := c_l1InD _ _ _ w
  generalize decide ((1 : Int) ≤ (xss.length : Int) ∧ (xss.length : Int) ≤ 120) = D at *
  generalize arcB xss = R at *
  generalize hN : xss.length = N at *
  clear hN
  go_enter Try.func64, Try.ntmps64
  go_wp2_with fail
  go_loop [7] (fun i => ∃ k : Nat, k ≤ N ∧ i = .int .i64 k ∧ ArcTo xss k) (fun i => N - (RowKit.intOf i).toNat)
  case atStart => exact ⟨0, Nat.zero_le _, rfl, F0.out⟩
  case round =>
    obtain ⟨k, hk, rfl, hv⟩ := hrel
    have HV := Lib.hid hv
    clear hv
    by_cases hlt : k < N
    · obtain ⟨b, off, A', c', rfl, q1, hc⟩ := EC.out k hlt
      have HC := Lib.hid hc
      have b1 : (0 : Int) ≤ (k : Int) := by omega
      have b2 : (k : Int) < (N : Int) := by omega
      clear hc
      cases hx : risB k (xss.getD k [])
      · have G := Lib.hid (F1.out k hlt hx)
        rw [hx] at HC
        clear hx
        generalize (xss.getD k []).length = m at *
        go_wp2_with fail
        refine HC.out.mono ?_
        rintro e w2 ⟨rfl, rfl⟩
        go_wp2
        go_ret
        exact ⟨ret_bool G.out.symm, rfl⟩
      · have G := Lib.hid (F3.out k HV.out hx)
        rw [hx] at HC
        clear hx
        generalize (xss.getD k []).length = m at *
        go_wp2_with fail
        refine HC.out.mono ?_
        rintro e w2 ⟨rfl, rfl⟩
        go_wp2
        go_round
        case rel => exact ⟨k + 1, by omega, by go_num, G.out⟩
        case measure => simp [RowKit.intOf]; omega
    · obtain rfl : k = N := by omega
      have G := Lib.hid (F2.out HV.out)
      go_wp2_with fail
      refine CI.out.mono ?_
      rintro e w2 ⟨rfl, rfl⟩
      go_wp2
      go_ret
      exact ⟨ret_bool G.out.symm, rfl⟩

set_option maxHeartbeats 1000000 in
theorem c_clBlocks (xss : List (List Int)) (l : List Int) (v u : Value) (w : World) (hl : ShortL xss) (hl2 : l.length ≤ 4000000) (h : SeenL w v xss) (hs : Seen w u l) :
    Calls Try.prog 47 #[v, u] w fun e w' => e = .returned (.bool (vB xss l)) ∧ w = w' := by
  have C1 := Lib.hid (c_clArcs xss v w hl h)
  have HV : Hid (vB xss l = (arcB xss && risB xss.length l)) := rfl
  have hl1 := hl.1
  have C2 := Lib.hid (c_l1Rising xss.length l u w (by omega) (by omega) hl2 hs)
  obtain ⟨A, c, rfl, _⟩ := h.shape
  obtain ⟨A2, c2, rfl⟩ := hs.shape
  clear h hs hl
  generalize vB xss l = V at *
  cases ha : arcB xss
  · rw [ha] at C1 HV
    clear ha C2
    go_enter Try.func47, Try.ntmps47
    go_wp2_with fail
    refine C1.out.mono ?_
    rintro e w1 ⟨rfl, rfl⟩
    go_wp2
    go_ret
    exact ⟨ret_bool (by rw [HV.out]; rfl), rfl⟩
  · rw [ha] at C1 HV
    clear ha
    generalize risB xss.length l = R at *
    go_enter Try.func47, Try.ntmps47
    go_wp2_with fail
    refine C1.out.mono ?_
    rintro e w1 ⟨rfl, rfl⟩
    go_wp2_with fail
    refine C2.out.mono ?_
    rintro e w1 ⟨rfl, rfl⟩
    go_wp2
    go_ret
    exact ⟨ret_bool (by rw [HV.out]; simp), rfl⟩

theorem ris_one (n i : Int) : risB n [i] = decide (0 ≤ i ∧ i ≤ n - 1) := by
  rw [Bool.eq_iff_iff]
  simp [risB, prevOf]
  omega

/-! ### marks in a row -/
def bl (p : Int → Bool) (N : Nat) : List Bool := (List.range N).map fun (i : Nat) => p (i : Int)
theorem bl_len (p : Int → Bool) (N : Nat) : (bl p N).length = N := by simp [bl]
theorem bl_at {p : Int → Bool} {N k : Nat} (h : k < N) : (bl p N).getD k false = p k := by simp [bl, List.getD_eq_getElem?_getD, h]
theorem bl_set {p q : Int → Bool} {N k : Nat} {b : Bool} (h : k < N) (e : ∀ j : Nat, j < N → q j = if j = k then b else p j) : (bl p N).set k b = bl q N := by
  apply List.ext_getElem
  · simp [bl]
  · intro i h1 h2
    simp only [bl, List.length_set, List.length_map, List.length_range] at h1
    simp only [bl, List.getElem_set, List.getElem_map, List.getElem_range]
    rw [e i h1]
    by_cases hk : k = i
    · subst hk; simp
    · rw [if_neg hk, if_neg (fun e => hk e.symm)]
/-- Block g is a row of n marks. -/
def MarkB (w : World) (g N : Nat) (p : Int → Bool) : Prop := RowB w g (.slice (some ⟨g, 0, none⟩) N N) (bl p N)
theorem MarkB.cell {w : World} {g N : Nat} {p : Int → Bool} (h : MarkB w g N p) (k : Nat) (hk : k < N) : w.cell? ⟨g, k, none⟩ = some (.bool (p k)) := by
  have h' : RowB w g (.slice (some ⟨g, 0, none⟩) (bl p N).length N) (bl p N) := by rw [bl_len]; exact h
  rw [h'.cell k (by rw [bl_len]; exact hk), bl_at hk]
theorem MarkB.frozen {w : World} {g N : Nat} {p : Int → Bool} (h : MarkB w g N p) (k : Nat) : w.frozen? ⟨g, k, none⟩ = false := by
  have h' : RowB w g (.slice (some ⟨g, 0, none⟩) (bl p N).length N) (bl p N) := by rw [bl_len]; exact h
  exact h'.frozen k
theorem MarkB.lt {w : World} {g N : Nat} {p : Int → Bool} (h : MarkB w g N p) (h0 : 0 < N) : g < w.heap.size := by
  have h' : RowB w g (.slice (some ⟨g, 0, none⟩) (bl p N).length N) (bl p N) := by rw [bl_len]; exact h
  exact h'.blk (by rw [bl_len]; exact h0)
theorem MarkB.congr {w : World} {g N : Nat} {p q : Int → Bool} (h : MarkB w g N p) (e : ∀ k : Nat, k < N → p k = q k) : MarkB w g N q := by
  have : bl p N = bl q N := by unfold bl; exact List.map_congr_left fun i hi => e i (List.mem_range.1 hi)
  unfold MarkB
  rw [← this]; exact h
theorem MarkB.below {w w' : World} {g N M : Nat} {p : Int → Bool} (h : MarkB w g N p) (hb : Below M w w') (hM : g < M) : MarkB w' g N p :=
  own_stays h fun k hk => by simp [Value.ownBlock] at hk; subst hk; exact hb.block g hM
theorem MarkB.kept {w w' : World} {g N : Nat} {p : Int → Bool} {row : Option Nat} (h : MarkB w g N p) (hg : w.grownBy w' row) (hl : g < w.heap.size) (hne : some g ≠ row) : MarkB w' g N p :=
  own_stays h fun k hk => by simp [Value.ownBlock] at hk; subst hk; exact hg.block g hl hne
theorem MarkB.put {w : World} {g N : Nat} {p q : Int → Bool} (h : MarkB w g N p) {k : Nat} {b : Bool} (hk : k < N) (e : ∀ j : Nat, j < N → q j = if j = k then b else p j) : MarkB (w.setCell ⟨g, k, none⟩ (.bool b)) g N q ∧ w.grownBy (w.setCell ⟨g, k, none⟩ (.bool b)) (some g) := by
  have := RowB.set_ (n := N) (by rw [bl_len]) h k b
  rw [bl_set hk e] at this
  exact this
theorem MarkB.new (w : World) (N : Nat) (hn : N ≤ maxLen) : MarkB (w.alloc (.cells (madeCells #[.bool false] N) 4)) w.heap.size N (fun _ => false) := by
  have := World.ownsRow_lit (base := w.heap.size) (e := 4) (size := 1) w (madeCells #[.bool false] N) N (Nat.le_refl _) hn (by rw [size_madeCells]; simp)
  unfold MarkB RowB
  rw [bl_len, show bools (bl (fun _ => false) N) = (madeCells #[.bool false] N).toList by rw [toList_madeCells_one]; apply List.ext_getElem <;> simp [bools, bl]]
  exact this
theorem bool_info : (Try.prog.info? 4).map (fun i => (i.zero, i.size, i.bytes)) = some (some (.bool false), 1, 1) := by kernel_rfl
/-- A mark set. -/
theorem set_true (p : Int → Bool) (x : Nat) : ∀ j : Nat, ((fun y : Int => y == (x : Int) || p y) (j : Int)) = if j = x then true else p j := fun j => by
  by_cases e : j = x
  · subst e; simp
  · have : ((j : Int) == (x : Int)) = false := beq_eq_false_iff_ne.2 (by omega)
    simp [e, this]
theorem set_false (p : Int → Bool) (x : Nat) : ∀ j : Nat, ((fun y : Int => !(y == (x : Int)) && p y) (j : Int)) = if j = x then false else p j := fun j => by
  by_cases e : j = x
  · subst e; simp
  · have : ((j : Int) == (x : Int)) = false := beq_eq_false_iff_ne.2 (by omega)
    simp [e, this]

set_option maxHeartbeats 1000000 in
theorem c_clMarks (N : Nat) (l : List Int) (u : Value) (w : World) (h0 : 0 < N) (hN : N ≤ 1000) (hl : l.length ≤ 4000000) (hr : InN N l) (hs : Seen w u l) :
    Calls Try.prog 36 #[.int .i64 N, u] w fun e w' => e = .returned (.slice (some ⟨w.heap.size, 0, none⟩) N N) ∧ MarkB w' w.heap.size N (inL l) ∧ Below w.heap.size w w' := by
  obtain ⟨i0, hi0, hz0, hz1, hz2⟩ := info_parts bool_info
  have HC := Lib.hid hs
  obtain ⟨A, c, rfl⟩ := hs.shape
  have hmk : (Instr.makeSlice 54 (.int .i64 (N : Int)) (.int .i64 (N : Int))).run Try.prog w = .ok (.slice (some ⟨w.heap.size, 0, none⟩) N N) (w.alloc (.cells (madeCells #[.bool false] N) 4)) := by
    have := run_make (P := Try.prog) w 54 4 i0 (.bool false) Try.underlying54 hi0 hz0 .i64 .i64 (N : Int) (N : Int) (by omega) (by omega) (by rw [hz2]; omega) (by omega)
    simpa [hz1, Value.cells] using this
  have H0 : Hid (MarkB (w.alloc (.cells (madeCells #[.bool false] N) 4)) w.heap.size N (addL (l.take 0) fun _ => false)) := by
    show MarkB _ _ _ _
    rw [List.take_zero, addL_nil]; exact MarkB.new w N (by unfold maxLen; omega)
  have EC : Hid (∀ k, k < l.length → 0 ≤ l.getD k 0 ∧ l.getD k 0 < (N : Int)) := fun k hk => hr _ (getD_memN hk)
  have EA : Hid (∀ k : Nat, k < l.length → (fun y => y == l.getD k 0 || addL (l.take k) (fun _ => false) y) = addL (l.take (k + 1)) (fun _ => false)) := fun k hk => addL_take hk
  have EE : Hid (addL (l.take l.length) (fun _ => false) = inL l) := by show _ = _; rw [List.take_length, addL_false]
  clear hs hi0 hz0 hz1 hz2 hr
  obtain ⟨M, hM⟩ : ∃ M : Nat → Int → Bool, M = fun k => addL (l.take k) fun _ => false := ⟨_, rfl⟩
  have H0' : Hid (MarkB (w.alloc (.cells (madeCells #[.bool false] N) 4)) w.heap.size N (M 0)) := by rw [hM]; exact H0.out
  have EA' : Hid (∀ k : Nat, k < l.length → (fun y => y == l.getD k 0 || M k y) = M (k + 1)) := by rw [hM]; exact EA.out
  have EE' : Hid (M l.length = inL l) := by rw [hM]; exact EE.out
  clear EA EE H0 hM
  go_enter Try.func36, Try.ntmps36
  go_wp2
  clear hmk
  go_loopw [12] (fun i wr => ∃ k : Nat, k ≤ l.length ∧ i = .int .i64 k ∧ MarkB wr w.heap.size N (M k) ∧ Below w.heap.size w wr) (fun i _ => l.length - (RowKit.intOf i).toNat)
  case atStart => exact ⟨0, Nat.zero_le _, rfl, H0'.out, (Below.refl _ _).alloc (Nat.le_refl _) _⟩
  case round =>
    obtain ⟨k, hk, rfl, hm, hb⟩ := hrel
    have HM := Lib.hid hm
    have HB := Lib.hid hb
    clear hm hb
    by_cases hlt : k < l.length
    · have HCr := Lib.hid (HC.out.below HB.out)
      obtain ⟨b, off, rfl, _, q0⟩ := HCr.out.at2 hlt
      obtain ⟨r0, r1⟩ := EC.out k hlt
      have EAk := Lib.hid (EA'.out k hlt)
      generalize l.getD k 0 = x at *
      obtain ⟨i, rfl⟩ := Int.eq_ofNat_of_zero_le r0
      have hiN : i < N := by omega
      have q1 := HM.out.cell i hiN
      have q2 := HM.out.frozen i
      have N1 := Lib.hid (HM.out.put (q := fun y : Int => y == (i : Int) || M k y) hiN (fun j _ => set_true (M k) i j))
      rw [EAk.out] at N1
      have NB : Hid (Below w.heap.size w (wr.setCell ⟨w.heap.size, i, none⟩ (.bool true))) := HB.out.setCell (Nat.le_refl _) _
      have b1 : (0 : Int) ≤ (k : Int) := by omega
      have b2 : (k : Int) < (l.length : Int) := by omega
      generalize M k (i : Int) = z at *
      go_wp2
      go_roundw
      case rel => exact ⟨k + 1, by omega, by go_num, N1.out.1, NB.out⟩
      case measure => simp [RowKit.intOf]; omega
    · obtain rfl : k = l.length := by omega
      have G := Lib.hid HM.out
      rw [EE'.out] at G
      go_wp2
      go_ret
      exact ⟨rfl, G.out, HB.out⟩

set_option maxHeartbeats 1000000 in
theorem c_clList (g N : Nat) (p : Int → Bool) (w : World) (hN : N ≤ 1000) (h : MarkB w g N p) :
    Calls Try.prog 38 #[.slice (some ⟨g, 0, none⟩) N N] w (GivesRow w (sel p N)) := by
  obtain ⟨i0, hi0, hz0, hz1, hz2⟩ := info_parts int_info
  have HI := Lib.hid hi0
  clear hi0
  have E1 : Hid (∀ (k : Nat), k < N → w.cell? ⟨g, k, none⟩ = some (.bool (p k)) ∧ g < w.heap.size) := fun k hk => ⟨h.cell k hk, h.lt (by omega)⟩
  clear h
  go_enter Try.func38, Try.ntmps38
  go_wp2_with fail
  go_loopw [3, 8] (fun v i wr => ∃ k : Nat, k ≤ N ∧ i = .int .i64 k ∧ Row wr w.heap.size v (sel p k) ∧ Below w.heap.size w wr) (fun _ i _ => N - (RowKit.intOf i).toNat)
  case atStart => exact ⟨0, Nat.zero_le _, rfl, Row.nil _ _, Below.refl _ _⟩
  case round =>
    obtain ⟨k, hk, rfl, hr, hbw⟩ := hrel
    have HR := Lib.hid hr
    have HB := Lib.hid hbw
    clear hr hbw
    by_cases hlt : k < N
    · obtain ⟨hcc, hbl⟩ := E1.out k hlt
      have q1 : wr.cell? ⟨g, k, none⟩ = some (.bool (p k)) := by rw [HB.out.cell (p := ⟨g, k, none⟩) hbl]; exact hcc
      clear hcc hbl
      have b1 : (0 : Int) ≤ (k : Int) := by omega
      have b2 : (k : Int) < (N : Int) := by omega
      have hlen := sel_len p k
      have sw := HB.out.size
      cases hp : p k
      · have HQ := Lib.hid hp
        rw [hp] at q1
        clear hp
        go_wp2
        go_roundw
        case rel => exact ⟨k + 1, by omega, by go_num, by rw [sel_miss HQ.out]; exact HR.out, HB.out⟩
        case measure => simp [RowKit.intOf]; omega
      · have HQ := Lib.hid hp
        rw [hp] at q1
        clear hp
        go_wp2_with (at_builtin; refine wpList_append_own _ rfl _ _ 25 rfl (w.heap.size) 3 i0 (.int .i64 0) 1 8 Try.underlying25 HI.out hz0 hz1 hz2 rfl (by decide) _ _ _ rfl (World.ownsRow.alloc HR.out _) ⟨wr.heap.size, 0, none⟩ 1 1 [.int .i64 k] rfl rfl ?c1 ?c2 ?c3 ?c4 ?c5 ?_)
        case c1 =>
          intro j u hj
          match j, hj with
          | 0, hj => simp at hj; subst hj; simp [Addr.add]
        case c2 => intro u hu; simp at hu; subst hu; rfl
        case c3 => unfold maxLen; omega
        case c4 => omega
        case c5 => simp; omega
        intro v' w4 hown' hgrow _
        have R1 : Hid (Row w4 w.heap.size v' (sel p (k + 1))) := by rw [sel_hit HQ.out]; exact row_more hown'
        have R2 : Hid (Below w.heap.size w w4) := (HB.out.alloc sw _).grown hgrow (by simp; omega) (fun g hg => (World.ownsRow.lt HR.out g hg).1)
        clear hown' hgrow
        go_wp2
        go_roundw
        case rel => exact ⟨k + 1, by omega, by go_num, R1.out, R2.out⟩
        case measure => simp [RowKit.intOf]; omega
    · obtain rfl : k = N := by omega
      go_wp2
      go_ret
      exact ⟨_, rfl, HR.out, HB.out⟩
end Go.Proofs.Ytfpjodoimfbadaa
