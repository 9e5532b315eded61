/-
  Contract: the best profile below limits, in the model.
-/
import Derived.Test.YtmkbjkmpincogaaTG
import Derived.Test.YtmkbjkmpincogaaAQ
import Derived.Test.YtmkbjkmpincogaaSE
import Derived.BigRegion
namespace Go.Proofs.Ytmkbjkmpincogaa
open Go.RowKit
set_option linter.unusedVariables false

/-- The rests of column c, as a list. -/
def fulR (xss : List (List Int)) (p : List Int) (n c : Nat) : List Int := upT (rcF xss p n c) (Lp p c)
theorem fulR_len (xss : List (List Int)) (p : List Int) (n c : Nat) : (fulR xss p n c).length = Lp p c := upT_len _ _
theorem fulR_at (xss : List (List Int)) (p : List Int) {n c d : Nat} (h : d < Lp p c) : (fulR xss p n c).getD d 0 = rcF xss p n c d := by simp [fulR, upT, h]
/-- The last k columns are whole, and the one before them has d depths. -/
def famX (xss : List (List Int)) (p : List Int) (n k d : Nat) : Nat → List Int := fun c => if n ≤ c + k then fulR xss p n c else if c + k + 1 = n then upT (rcF xss p n c) d else []
theorem famX_step (xss : List (List Int)) (p : List Int) {n k d x : Nat} (hx : x + k + 1 = n) : ∀ c, upd (famX xss p n k d) x (famX xss p n k d x ++ [rcF xss p n x d]) c = famX xss p n k (d + 1) c := fun c => by
  by_cases e : c = x
  · subst e
    rw [upd_same]
    unfold famX
    rw [if_neg (by omega), if_pos hx, if_neg (by omega), if_pos hx, upT_succ]
  · rw [upd_far _ _ e]
    unfold famX
    by_cases a : n ≤ c + k
    · rw [if_pos a, if_pos a]
    · rw [if_neg a, if_neg a, if_neg (by omega), if_neg (by omega)]
theorem famX_next (xss : List (List Int)) (p : List Int) {n k x : Nat} (hx : x + k + 1 = n) : ∀ c, famX xss p n k (Lp p x) c = famX xss p n (k + 1) 0 c := fun c => by
  unfold famX
  by_cases a : n ≤ c + k
  · rw [if_pos a, if_pos (by omega)]
  · rw [if_neg a]
    by_cases e : c + k + 1 = n
    · obtain rfl : c = x := by omega
      rw [if_pos e, if_pos (by omega)]
      rfl
    · rw [if_neg e, if_neg (by omega)]
      split <;> rfl
/-- The table of the model: its slices, and the rows. -/
structure RT (w : World) (B b n : Nat) (vs : Nat → Value) (xs : Nat → List Int) : Prop where
  tab : w.ownsRow B 27 1 (.slice (some ⟨b, 0, none⟩) n n) n ((List.range n).map vs)
  fam : Fam w B n vs xs
theorem RT.below {w w' : World} {B b n : Nat} {vs : Nat → Value} {xs : Nat → List Int} (h : RT w B b n vs xs) (hb : Below w.heap.size w w') : RT w' B b n vs xs :=
  ⟨World.ownsRow.kept (row := none) h.tab ⟨hb.os, hb.tape, hb.output, hb.size, fun k hk _ => hb.block k hk⟩ (by simp [Value.ownBlock]), h.fam.below hb⟩
theorem RT.cell {w : World} {B b n : Nat} {vs : Nat → Value} {xs : Nat → List Int} (h : RT w B b n vs xs) {c : Nat} (hc : c < n) : w.cell? ⟨b, c, none⟩ = some (vs c) ∧ w.frozen? ⟨b, c, none⟩ = false ∧ b < w.heap.size := by
  have e : w.cell? ⟨b, c, none⟩ = some (vs c) := by
    rw [World.ownsRow.cellAt h.tab c (by omega)]
    simp [hc]
  exact ⟨e, World.ownsRow.frozenAt h.tab c, lt_of_cell e⟩
theorem RT.lt {w : World} {B b n : Nat} {vs : Nat → Value} {xs : Nat → List Int} (h : RT w B b n vs xs) : B ≤ b := (World.ownsRow.lt h.tab b rfl).1
theorem rt_new (w : World) (n : Nat) (hn : n ≤ 1000) : RT (w.alloc (.cells (madeCells #[.slice none 0 0] n) 27)) w.heap.size w.heap.size n (fun _ => .slice none 0 0) (fun _ => []) := by
  refine ⟨?_, ⟨fun i _ => Row.nil _ _, fun i j _ _ _ => .inl rfl⟩⟩
  have := World.ownsRow_lit (base := w.heap.size) (e := 27) (size := 1) w (madeCells #[.slice none 0 0] n) n (Nat.le_refl _) (by unfold maxLen; omega) (by rw [size_madeCells]; simp)
  have e : (List.range n).map (fun _ => Value.slice none 0 0) = (madeCells #[.slice none 0 0] n).toList := by rw [nils]; simp [List.map_const']
  rw [e]
  exact this
theorem RT.congr {w : World} {B b n : Nat} {vs : Nat → Value} {xs ys : Nat → List Int} (h : RT w B b n vs xs) (e : ∀ i, i < n → xs i = ys i) : RT w B b n vs ys := ⟨h.tab, h.fam.congr e⟩
/-- One row has grown, and its slice is put in its place. -/
theorem RT.app {w w1 w' : World} {B b n i : Nat} {vs : Nat → Value} {xs : Nat → List Int} {v' : Value} {ys : List Int} (h : RT w B b n vs xs) (hi : i < n) (hw : RT w1 B b n vs xs) (hr : Row w' B v' ys) (hg : w1.grownBy w' (vs i).ownBlock) (ho : v'.ownBlock = (vs i).ownBlock ∨ v'.ownBlock = some w1.heap.size) :
    RT (w'.setCell ⟨b, i, none⟩ v') B b n (upd vs i v') (upd xs i ys) := by
  have f1 := hw.fam.app hi hr hg (ho.imp Eq.symm id)
  have hbl := (World.ownsRow.lt hw.tab b rfl).2
  have hne : (vs i).ownBlock ≠ some b := fun e => own_types hw.tab (hw.fam.row i hi) (by decide) (k := b) rfl e
  have t1 : w'.ownsRow B 27 1 (.slice (some ⟨b, 0, none⟩) n n) n ((List.range n).map vs) := World.ownsRow.kept hw.tab hg (.inr (by simp [Value.ownBlock]; exact fun e => hne e.symm))
  have st := World.ownsRow.stored t1 i v'
  refine ⟨?_, ?_⟩
  · have e : ((List.range n).map vs).set i v' = (List.range n).map (upd vs i v') := by
      apply List.ext_getElem
      · simp
      · intro k h1 h2
        simp only [List.getElem_set, List.getElem_map, List.getElem_range]
        by_cases c : i = k
        · subst c; rw [if_pos rfl, upd_same]
        · rw [if_neg c, upd_far _ _ (Ne.symm c)]
    rw [← e]
    exact st.1
  · refine ⟨fun j hj => World.ownsRow.kept (f1.row j hj) st.2 (.inr fun e => ?_), f1.apart⟩
    exact own_types t1 (f1.row j hj) (by decide) (k := b) rfl e

set_option maxHeartbeats 16000000 in
set_option maxRecDepth 20000 in
theorem c_seBest (xss : List (List Int)) (p : List Int) (n D : Nat) (v u : Value) (w : World) (S : Sec xss n D) (hq : Lim p n D) (h : SeenC w v xss) (hp : Seen w u p) :
    Calls Try.prog 52 #[v, u] w fun e w' => ∃ q, e = .returned (.tuple #[q, .int .i64 (maxF (rcF xss p n 0) 0 (Lp p 0 - 1))]) ∧ Row w' w.heap.size q (trL xss p n) ∧ Below w.heap.size w w' := by
  have n1 := S.n1
  have n2 := S.n2
  have m2 := S.d2
  obtain ⟨A, c, rfl, hm⟩ := h.seen.shape
  obtain ⟨bA, oA, A0, c0, rfl, _⟩ := h.seen.col0 (by rw [S.len]; omega)
  have ECol : Hid (∀ (k d : Nat) (W : World), k < n → d ≤ D → Below w.heap.size w W → ∃ b' off' c', W.cell? ⟨bA, oA + k, none⟩ = some (.slice (some ⟨b', off', none⟩) D c') ∧ Calls Try.prog 79 #[.slice (some ⟨b', off', none⟩) D c', .int .i64 d] W fun e w' => e = .returned (.int .i64 (preS (xss.getD k []) d)) ∧ W = w') := fun k d W hk hd hb => by
    obtain ⟨b, off, b', off', c', e, h1, h2, _, h3⟩ := (h.below hb).col (k := k) (by rw [S.len]; exact hk) (by rw [S.col k hk]; exact S.d1)
    have := c_seColumn _ _ d W (by rw [S.col k hk]; exact hd) (by rw [S.col k hk]; omega) (tame_col S hk) h3
    rw [S.col k hk] at h1 this
    simp at e
    obtain ⟨rfl, rfl⟩ := e
    exact ⟨b', off', c', h1, this⟩
  obtain ⟨A2, c2, rfl, _, hA⟩ := hp
  rw [hq.pro.len] at hA ⊢
  rw [S.len]
  obtain ⟨bP, oP, rfl, hlP, hcP⟩ := hA (by omega)
  clear hA
  have HL : Hid (∀ k, k < n → 1 ≤ Lp p k ∧ Lp p k ≤ 7 ∧ Lp p k ≤ D + 1) := fun k hk => by
    have a := Lp_box hq.pro m2 hk
    have b := hq.pro.box k hk
    omega
  have E1 : Hid (∀ (k : Nat) (W : World), k < n → Below w.heap.size w W → W.cell? ⟨bP, oP + k, none⟩ = some (.int .i64 ((Lp p k : Nat) - 1 : Int))) := fun k W hk hb => by
    have a := (Lp_box hq.pro m2 hk).2.2
    rw [hb.cell (p := ⟨bP, oP + k, none⟩) hlP, hcP k hk]
    congr 2
    omega
  have EB : Hid (∀ k d, k < n → d < Lp p k → -48000000 ≤ rcF xss p n k d ∧ rcF xss p n k d ≤ 48000000) := fun k d hk hd => rc_small S hq hk hd
  have EP : Hid (∀ k d, k < n → d ≤ D → -6000000 ≤ preS (xss.getD k []) d ∧ preS (xss.getD k []) d ≤ 6000000) := fun k d hk hd => by
    have := pre_box (fun d hd => S.box k d hk hd) d hd
    omega
  have HFx : Hid (∀ k x, x + 1 + k = n → ∀ d, famX xss p n k d (x + 1) = fulR xss p n (x + 1)) := fun k x hx d => by unfold famX; rw [if_pos (by omega)]
  have HFd : Hid (∀ k x d, x + k + 1 = n → famX xss p n k d x = upT (rcF xss p n x) d) := fun k x d hx => by unfold famX; rw [if_neg (by omega), if_pos hx]
  have HFl : Hid (∀ x, (fulR xss p n x).length = Lp p x) := fun x => fulR_len xss p n x
  have EL : Hid (∀ d, rcF xss p n (n - 1) d = preS (xss.getD (n - 1) []) d) := fun d => rc_last xss p n1 d
  have ES : Hid (∀ k d, k + 1 < n → d < Lp p k → rcF xss p n k d = preS (xss.getD k []) d + maxF (fun i => (fulR xss p n (k + 1)).getD i 0) (loN d) (cnN d (Lp p (k + 1)) - 1)) := fun k d hk hd => by
    rw [rc_step xss p hk]
    congr 1
    have nr := hq.near k hk
    have e := near_box (d := d) (len := Lp p (k + 1)) (by omega) (HL.out (k + 1) hk).1
    exact maxF_congr _ fun i hi => (fulR_at xss p (by omega)).symm
  have ENr : Hid (∀ k, k + 1 < n → Lp p k ≤ Lp p (k + 1) + 1 ∧ Lp p (k + 1) ≤ Lp p k + 1) := hq.near
  obtain ⟨i0, hi0, hz0, hz1, hz2⟩ := info_parts int_info
  obtain ⟨j0, hj0, jz0, jz1, jz2⟩ := info_parts list_info
  have HI := Lib.hid hi0
  have hma : (Instr.makeSlice 22 (.int .i64 (n : Int)) (.int .i64 (n : Int))).run Try.prog w = .ok (.slice (some ⟨w.heap.size, 0, none⟩) n n) (w.alloc (.cells (madeCells #[.slice none 0 0] n) 27)) := by
    have := run_make (P := Try.prog) w 22 27 j0 (.slice none 0 0) Try.underlying22 hj0 jz0 .i64 .i64 (n : Int) (n : Int) (by omega) (by omega) (by rw [jz2]; omega) (by omega)
    simpa [jz1, Value.cells] using this
  have HT1 : Hid (RT (w.alloc (.cells (madeCells #[.slice none 0 0] n) 27)) w.heap.size w.heap.size n (fun _ => .slice none 0 0) (famX xss p n 0 0)) := (rt_new w n (by omega)).congr fun i hi => by
    unfold famX
    rw [if_neg (by omega)]
    split <;> rfl
  have HB1 : Hid (Below w.heap.size w (w.alloc (.cells (madeCells #[.slice none 0 0] n) 27))) := (Below.refl _ _).alloc (Nat.le_refl _) _
  clear hi0 hj0 hcP h hm
  go_enter Try.func52, Try.ntmps52
  go_wp2_with fail
  clear hma
  generalize w.alloc (.cells (madeCells #[.slice none 0 0] n) 27) = w1 at *
  obtain ⟨b, hbe⟩ : ∃ b, w.heap.size = b := ⟨_, rfl⟩
  rw [hbe] at HT1 HB1 ⊢
  have hn1 : (n : Int) - 1 ≤ 1000 := by omega
  have HBE := Lib.hid hbe
  have HRd : Hid (w.heap.size ≤ b) := by show _ ≤ _; omega
  rw [← hbe] at HB1
  go_loopw [8] (fun i wr => ∃ k : Nat, k ≤ n ∧ i = .int .i64 ((n : Int) - 1 - (k : Int)) ∧ (∃ vs, RT wr w.heap.size b n vs (famX xss p n k 0)) ∧ Below w.heap.size w wr) (fun i _ => (intOf i + 1).toNat)
  case atStart => exact ⟨0, Nat.zero_le _, by simp, ⟨_, by rw [HBE.out]; exact HT1.out⟩, HB1.out⟩
  case round =>
    obtain ⟨k, hk, rfl, ⟨vs, ht⟩, hb⟩ := hrel
    have HT := Lib.hid ht
    have HB := Lib.hid hb
    clear ht hb
    clear hbe
    by_cases hlt : k < n
    · obtain ⟨x, hx⟩ : ∃ x : Nat, x = n - 1 - k := ⟨_, rfl⟩
      have hxk : x + k + 1 = n := by omega
      have HXK := Lib.hid hxk
      rw [show (n : Int) - 1 - (k : Int) = (x : Int) by omega]
      have hxn : x < n := by omega
      have hx1 : (x : Int) ≥ 0 := by omega
      have hx2 : (x : Int) < (n : Int) := by omega
      clear hx hxk
      have hl := HL.out x hxn
      go_wp2_with fail
      go_loopw [9] (fun i wr => ∃ d : Nat, d ≤ Lp p x ∧ i = .int .i64 d ∧ (∃ vs, RT wr w.heap.size b n vs (famX xss p n k d)) ∧ Below w.heap.size w wr) (fun i _ => Lp p x - (intOf i).toNat)
      case atStart => exact ⟨0, Nat.zero_le _, rfl, ⟨_, HT.out⟩, HB.out⟩
      case round =>
        obtain ⟨d, hd, rfl, ⟨us, ht⟩, hb⟩ := hrel
        have KT := Lib.hid ht
        have KB := Lib.hid hb
        clear ht hb
        have q6 := E1.out x wr hxn KB.out
        by_cases hld : d < Lp p x
        · have d1 : (0 : Int) ≤ (d : Int) := by omega
          have d2 : (d : Int) ≤ ((Lp p x : Nat) : Int) - 1 := by omega
          obtain ⟨b', off', c', q7, hc⟩ := ECol.out x d wr hxn (by omega) KB.out
          have HC := Lib.hid hc
          have bp := EP.out x d hxn (by omega)
          have br := EB.out x d hxn hld
          obtain ⟨t1, t2, t3⟩ := KT.out.cell hxn
          have hrow := KT.out.fam.row x hxn
          rw [HFd.out k x d HXK.out] at hrow
          obtain ⟨A3, c3, e3⟩ := hrow.shape
          rw [upT_len] at e3
          rw [e3] at t1 hrow
          have HRow := Lib.hid hrow
          have hU3 : Hid (us x = .slice A3 d c3) := e3
          clear hc hrow e3
          -- the value of the cell
          have sw := KB.out.size
          by_cases hxl : x + 1 < n
          · have f1 : (x : Int) + 1 < (n : Int) := by omega
            have f2 : (0 : Int) ≤ (x : Int) + 1 := by omega
            have f3 : ((x : Int) + 1).toNat = x + 1 := by omega
            obtain ⟨s1, s2, s3⟩ := KT.out.cell hxl
            have hrow2 := KT.out.fam.row (x + 1) hxl
            rw [HFx.out k x (by have := HXK.out; omega) d] at hrow2
            have nr := ENr.out x hxl
            have nf := near_box (d := d) (len := Lp p (x + 1)) (by omega) (HL.out (x + 1) hxl).1
            have CM := Lib.hid (c_seMost (fulR xss p n (x + 1)) (us (x + 1)) ((d : Int) - 1) ((d : Int) + 1) (loN d) (cnN d (Lp p (x + 1)) - 1) wr (by rw [HFl.out]; have := HL.out (x + 1) hxl; omega) (by unfold loN; omega) (by rw [HFl.out]; omega) (by unfold loN cnN; omega) (by rw [HFl.out]; unfold loN cnN; omega) hrow2.seen)
            have X := Lib.hid (ES.out x d hxl hld)
            rw [X.out] at br
            clear hrow2 nf nr
            generalize us (x + 1) = u1 at *
            generalize maxF (fun i => (fulR xss p n (x + 1)).getD i 0) (loN d) (cnN d (Lp p (x + 1)) - 1) = mm at *
            generalize preS (xss.getD x []) d = pp at *
            obtain ⟨bp1, bp2⟩ := bp
            obtain ⟨br1, br2⟩ := br
            go_wp2_with fail
            refine HC.out.mono ?_
            rintro e w2 ⟨rfl, rfl⟩
            go_wp2_with fail
            refine CM.out.mono ?_
            rintro e w3 ⟨rfl, rfl⟩
            have f9 : wr.frozen? ⟨b, x, none⟩ = false := t2
            have SB : Below wr.heap.size wr (wr.alloc (.cells #[.int .i64 (pp + mm)] 3)) := (Below.refl _ _).alloc (Nat.le_refl _) _
            have KT2 := Lib.hid (KT.out.below SB)
            have HRw : Hid ((wr.alloc (.cells #[.int .i64 (pp + mm)] 3)).ownsRow w.heap.size 3 1 (.slice A3 d c3) d (ints (upT (rcF xss p n x) d))) := by
              have := HRow.out.below SB
              unfold Row at this
              rw [upT_len] at this
              exact this
            clear SB
            go_wp2_with (at_builtin; refine wpList_append_src rfl _ _ 27 rfl (base := w.heap.size) (e := 3) (i := i0) (z := .int .i64 0) (size := 1) (bytes := 8) Try.underlying27 HI.out hz0 hz1 hz2 rfl (by decide) rfl HRw.out rfl (src_one (b := wr.heap.size) (x := pp + mm) (by simp)) (by intro u hu; simp [ints] at hu; subst hu; rfl) (by unfold maxLen; omega) (by omega) (by simp; omega) ?_
                         intro v' w4 hown' hgrow ho
                         have R1 : Hid (Row w4 w.heap.size v' (upT (rcF xss p n x) (d + 1))) := by rw [upT_succ, X.out]; exact row_of2 hown'
                         obtain ⟨Q1, q1, hvv⟩ := R1.out.shape
                         rw [upT_len] at hvv
                         subst hvv
                         rw [← hU3] at hgrow ho
                         have RA := KT.out.app hxn KT2.out R1.out hgrow ho
                         have bgw : b < wr.heap.size := KT.out.cell hxn |>.2.2
                         have hne : (us x).ownBlock ≠ some b := fun e => own_types KT.out.tab (KT.out.fam.row x hxn) (by decide) (k := b) rfl e
                         have tq : w4.ownsRow w.heap.size 27 1 (.slice (some ⟨b, 0, none⟩) n n) n ((List.range n).map us) := World.ownsRow.kept KT2.out.tab hgrow (.inr (by simp [Value.ownBlock]; exact fun e => hne e.symm))
                         have k1 : w4.cell? ⟨b, x, none⟩ = some (us x) := by
                           rw [World.ownsRow.cellAt tq x (by omega)]
                           simp [hxn]
                         have k2 : w4.frozen? ⟨b, x, none⟩ = false := World.ownsRow.frozenAt tq x
                         have RN : Hid (∃ vs, RT (w4.setCell ⟨b, x, none⟩ (.slice Q1 (d + 1) q1)) w.heap.size b n vs (famX xss p n k (d + 1))) := ⟨_, RA.congr fun i _ => by rw [← famX_step xss p HXK.out i, HFd.out k x d HXK.out, ← upT_succ]⟩
                         have BN : Hid (Below w.heap.size w (w4.setCell ⟨b, x, none⟩ (.slice Q1 (d + 1) q1))) := ((KB.out.alloc sw _).grown hgrow (by simp; omega) (fun j hj => (World.ownsRow.lt HRow.out j (by rw [hU3] at hj; exact hj)).1)).setCell HRd.out _
                         clear hown' hgrow ho RA tq hne)
            go_roundw
            case rel => exact ⟨d + 1, by omega, by go_num, RN.out, BN.out⟩
            case measure => simp [intOf]; omega
          · obtain rfl : x = n - 1 := by omega
            have f1 : ¬ ((n - 1 : Nat) : Int) + 1 < (n : Int) := by omega
            have X := Lib.hid (EL.out d)
            generalize preS (xss.getD (n - 1) []) d = pp at *
            obtain ⟨bp1, bp2⟩ := bp
            go_wp2_with fail
            refine HC.out.mono ?_
            rintro e w2 ⟨rfl, rfl⟩
            have f9 : wr.frozen? ⟨b, n - 1, none⟩ = false := t2
            have SB : Below wr.heap.size wr (wr.alloc (.cells #[.int .i64 (pp)] 3)) := (Below.refl _ _).alloc (Nat.le_refl _) _
            have KT2 := Lib.hid (KT.out.below SB)
            have HRw : Hid ((wr.alloc (.cells #[.int .i64 (pp)] 3)).ownsRow w.heap.size 3 1 (.slice A3 d c3) d (ints (upT (rcF xss p n (n - 1)) d))) := by
              have := HRow.out.below SB
              unfold Row at this
              rw [upT_len] at this
              exact this
            clear SB
            go_wp2_with (at_builtin; refine wpList_append_src rfl _ _ 27 rfl (base := w.heap.size) (e := 3) (i := i0) (z := .int .i64 0) (size := 1) (bytes := 8) Try.underlying27 HI.out hz0 hz1 hz2 rfl (by decide) rfl HRw.out rfl (src_one (b := wr.heap.size) (x := pp) (by simp)) (by intro u hu; simp [ints] at hu; subst hu; rfl) (by unfold maxLen; omega) (by omega) (by simp; omega) ?_
                         intro v' w4 hown' hgrow ho
                         have R1 : Hid (Row w4 w.heap.size v' (upT (rcF xss p n (n - 1)) (d + 1))) := by rw [upT_succ, X.out]; exact row_of2 hown'
                         obtain ⟨Q1, q1, hvv⟩ := R1.out.shape
                         rw [upT_len] at hvv
                         subst hvv
                         rw [← hU3] at hgrow ho
                         have RA := KT.out.app hxn KT2.out R1.out hgrow ho
                         have bgw : b < wr.heap.size := KT.out.cell hxn |>.2.2
                         have hne : (us (n - 1)).ownBlock ≠ some b := fun e => own_types KT.out.tab (KT.out.fam.row (n - 1) hxn) (by decide) (k := b) rfl e
                         have tq : w4.ownsRow w.heap.size 27 1 (.slice (some ⟨b, 0, none⟩) n n) n ((List.range n).map us) := World.ownsRow.kept KT2.out.tab hgrow (.inr (by simp [Value.ownBlock]; exact fun e => hne e.symm))
                         have k1 : w4.cell? ⟨b, n - 1, none⟩ = some (us (n - 1)) := by
                           rw [World.ownsRow.cellAt tq (n - 1) (by omega)]
                           simp [hxn]
                         have k2 : w4.frozen? ⟨b, n - 1, none⟩ = false := World.ownsRow.frozenAt tq (n - 1)
                         have RN : Hid (∃ vs, RT (w4.setCell ⟨b, n - 1, none⟩ (.slice Q1 (d + 1) q1)) w.heap.size b n vs (famX xss p n k (d + 1))) := ⟨_, RA.congr fun i _ => by rw [← famX_step xss p HXK.out i, HFd.out k (n - 1) d HXK.out, ← upT_succ]⟩
                         have BN : Hid (Below w.heap.size w (w4.setCell ⟨b, n - 1, none⟩ (.slice Q1 (d + 1) q1))) := ((KB.out.alloc sw _).grown hgrow (by simp; omega) (fun j hj => (World.ownsRow.lt HRow.out j (by rw [hU3] at hj; exact hj)).1)).setCell HRd.out _
                         clear hown' hgrow ho RA tq hne)
            go_roundw
            case rel => exact ⟨d + 1, by omega, by go_num, RN.out, BN.out⟩
            case measure => simp [intOf]; omega
        · obtain rfl : d = Lp p x := by omega
          have f1 : ¬ ((Lp p x : Nat) : Int) ≤ ((Lp p x : Nat) : Int) - 1 := by omega
          have RN : Hid (RT wr w.heap.size b n us (famX xss p n (k + 1) 0)) := KT.out.congr fun i _ => famX_next xss p HXK.out i
          go_wp2
          go_roundw
          case rel => exact ⟨k + 1, by omega, by have := HXK.out; congr 1; omega, ⟨_, RN.out⟩, KB.out⟩
          case measure => simp [intOf]
    · obtain rfl : k = n := by omega
      obtain ⟨w5, e5⟩ : ∃ w5, w5 = wr := ⟨_, rfl⟩
      subst e5
      have f0 : ¬ (k : Int) - 1 - (k : Int) ≥ 0 := by omega
      have HW : Hid (∀ wz, Below w5.heap.size w5 wz → ∀ j, j < k → ∃ gj cj, wz.cell? ⟨b, j, none⟩ = some (.slice (some ⟨gj, 0, none⟩) (Lp p j) cj) ∧ (∀ e, e < Lp p j → wz.cell? ⟨gj, e, none⟩ = some (.int .i64 (rcF xss p k j e))) ∧ Seen wz (.slice (some ⟨gj, 0, none⟩) (Lp p j) cj) (fulR xss p k j)) := fun wz hb j hj => by
        have hr := (HT.out.below hb).fam.row j hj
        have hcl := ((HT.out.below hb).cell hj).1
        rw [show famX xss p k k 0 j = fulR xss p k j by unfold famX; rw [if_pos (by omega)]] at hr
        obtain ⟨gj, cj, e, _, _⟩ := hr.form (by rw [HFl.out]; exact (HL.out j hj).1)
        rw [HFl.out] at e
        rw [e] at hr hcl
        refine ⟨gj, cj, hcl, fun e he => ?_, hr.seen⟩
        have := (row_cl (HFl.out j) hr he).1
        rw [fulR_at xss p he] at this
        exact this
      have HM : Hid (∀ wz, Below w5.heap.size w5 wz → ∀ (j gj cj Lo K : Nat) (lo hi : Int), j < k → Seen wz (.slice (some ⟨gj, 0, none⟩) (Lp p j) cj) (fulR xss p k j) → max lo 0 = (Lo : Int) → Lo + K < Lp p j → ((Lo + K : Nat) : Int) ≤ hi → (Lo + K + 1 = Lp p j ∨ hi = ((Lo + K : Nat) : Int)) → Calls Try.prog 80 #[.slice (some ⟨gj, 0, none⟩) (Lp p j) cj, .int .i64 lo, .int .i64 hi] wz fun e w' => e = .returned (.int .i64 (maxF (rcF xss p k j) Lo K)) ∧ wz = w') := fun wz hb j gj cj Lo K lo hi hj hs g1 g2 g3 g4 => by
        have := c_seMost (fulR xss p k j) _ lo hi Lo K wz (by rw [HFl.out]; have := HL.out j hj; omega) g1 (by rw [HFl.out]; exact g2) g3 (by rw [HFl.out]; exact g4) hs
        rw [maxF_congr (f := fun i => (fulR xss p k j).getD i 0) (g := rcF xss p k j) K (fun i hi => fulR_at xss p (by omega))] at this
        exact this
      have q6 := E1.out 0 w5 (by omega) HB.out
      have HPm : Hid (∀ (wz : World), Below w5.heap.size w5 wz → wz.cell? ⟨bP, oP, none⟩ = some (.int .i64 ((Lp p 0 : Nat) - 1 : Int))) := fun wz hb => by
        have := E1.out 0 wz (by omega) (HB.out.trans (hb.mono HB.out.size))
        rwa [Nat.add_zero] at this
      rw [Nat.add_zero] at q6
      have l0 := HL.out 0 (by omega)
      have HA0 : Hid (IsArg (rcF xss p k 0) 0 (Lp p 0 - 1) (trF xss p k 0)) := argF_is _ _ _
      have HAs : Hid (∀ j, IsArg (rcF xss p k (j + 1)) (loN (trF xss p k j)) (cnN (trF xss p k j) (Lp p (j + 1)) - 1) (trF xss p k (j + 1))) := fun j => argF_is _ _ _
      have HTL : Hid (∀ j, upT (fun c => ((trF xss p k c : Nat) : Int)) (j + 1) = upT (fun c => ((trF xss p k c : Nat) : Int)) j ++ [((trF xss p k j : Nat) : Int)]) := fun j => upT_succ _ _
      have HTl : Hid (∀ j, (upT (fun c => ((trF xss p k c : Nat) : Int)) j).length = j) := fun j => upT_len _ _
      have HTe : Hid (trL xss p k = upT (fun c => ((trF xss p k c : Nat) : Int)) k) := rfl
      have HT0 : Hid (upT (fun c => ((trF xss p k c : Nat) : Int)) 0 = []) := rfl
      generalize upT (fun c => ((trF xss p k c : Nat) : Int)) = TU at *
      have hk0 : (0 : Int) < (k : Int) := by omega
      have hbz := HB.out.size
      go_wp2_with fail
      go_region
      go_wp2_with fail
      go_loopw [11, 12, 13, 14] (fun q lo hi i wz => ∃ j : Nat, j ≤ k ∧ i = .int .i64 j ∧ (∃ a c : Int, lo = .int .i64 a ∧ hi = .int .i64 c ∧ (j < k → ∃ Lo K : Nat, max a 0 = (Lo : Int) ∧ Lo + K < Lp p j ∧ ((Lo + K : Nat) : Int) ≤ c ∧ (Lo + K + 1 = Lp p j ∨ c = ((Lo + K : Nat) : Int)) ∧ IsArg (rcF xss p k j) Lo K (trF xss p k j))) ∧ Row wz w5.heap.size q (TU j) ∧ Below w5.heap.size w5 wz) (fun _ _ _ i _ => k - (intOf i).toNat)
      case atStart => exact ⟨0, Nat.zero_le _, rfl, ⟨0, ((Lp p 0 : Nat) : Int) - 1, rfl, rfl, fun _ => ⟨0, Lp p 0 - 1, by simp, by omega, by omega, .inl (by omega), HA0.out⟩⟩, by rw [HT0.out]; exact Row.nil _ _, (Below.refl _ _).drew⟩
      case round =>
        obtain ⟨j, hj, rfl, ⟨a, cc, rfl, rfl, hP⟩, hr, hb⟩ := hrel
        have KR := Lib.hid hr
        have KB := Lib.hid hb
        clear hr hb q6
        by_cases hlj : j < k
        · obtain ⟨Lo, K, g1, g2, g3, g4, g5⟩ := hP hlj
          obtain ⟨a1, a2, a3, a4⟩ := g5
          have lj := HL.out j hlj
          have HA : Hid (max a 0 = (Lo : Int)) := g1
          have HAr : Hid (∀ e : Nat, Lo ≤ e → e < trF xss p k j → rcF xss p k j e ≠ maxF (rcF xss p k j) Lo K) := a4
          have HAe : Hid (rcF xss p k j (trF xss p k j) = maxF (rcF xss p k j) Lo K) := a3
          have j1 : (0 : Int) ≤ (j : Int) := by omega
          have j2 : (j : Int) < (k : Int) := by omega
          have CMz : Hid (∀ wz2, Below w5.heap.size w5 wz2 → ∀ gj cj, Seen wz2 (.slice (some ⟨gj, 0, none⟩) (Lp p j) cj) (fulR xss p k j) → Calls Try.prog 80 #[.slice (some ⟨gj, 0, none⟩) (Lp p j) cj, .int .i64 a, .int .i64 cc] wz2 fun e w' => e = .returned (.int .i64 (maxF (rcF xss p k j) Lo K)) ∧ wz2 = w') := fun wz2 hb gj cj hs => HM.out wz2 hb j gj cj Lo K a cc hlj hs g1 g2 g3 g4
          have HSX : Hid (trF xss p k j < Lp p j ∧ Lo ≤ trF xss p k j) := ⟨by omega, a1⟩
          have HASj := Lib.hid (HAs.out j)
          have HTLj := Lib.hid (HTL.out j)
          clear hP g1 a1 a2 a3 a4 g3 g4
          generalize maxF (rcF xss p k j) Lo K = mx at *
          generalize trF xss p k j = t at *
          obtain ⟨x1, x2⟩ := HSX.out
          go_wp2_with fail
          refine (c_l1MostE _ _ _).mono ?_
          rintro e w2 ⟨rfl, rfl⟩
          rw [HA.out]
          go_wp2_with fail
          obtain ⟨w6, e6⟩ : ∃ w6, w6 = wr := ⟨_, rfl⟩
          subst e6
          go_loopw [15] (fun dv wz => ∃ e : Nat, Lo ≤ e ∧ e ≤ t ∧ dv = .int .i64 e ∧ Below w6.heap.size w6 wz) (fun dv _ => 100 - (intOf dv).toNat)
          case atStart => exact ⟨Lo, Nat.le_refl _, x2, rfl, Below.refl _ _⟩
          case round =>
            obtain ⟨e, he1, he2, rfl, hb⟩ := hrel
            have LB := Lib.hid hb
            clear hb
            have LB5 : Hid (Below w5.heap.size w5 wr) := KB.out.trans (LB.out.mono KB.out.size)
            obtain ⟨gj, cj, y1, y2, y3⟩ := HW.out wr LB5.out j hlj
            have y4 := y2 e (by omega)
            have CW : Hid (∀ u, Calls Try.prog 80 #[.slice (some ⟨gj, 0, none⟩) (Lp p j) cj, .int .i64 a, .int .i64 cc] (wOf wr u) fun e w' => e = .returned (.int .i64 mx) ∧ wOf wr u = w') := fun u => CMz.out _ (LB5.out.trans ((wOf_below wr u).mono LB5.out.size)) gj cj (y3.below (wOf_below wr u))
            clear y2 y3
            have z1 : (0 : Int) ≤ (e : Int) := by omega
            have z2 : (e : Int) < ((Lp p j : Nat) : Int) := by omega
            have zb : b < wr.heap.size := lt_of_cell y1
            have zg : gj < wr.heap.size := lt_of_cell y4
            by_cases het : e < t
            · have hne := HAr.out e he1 het
              have X2 : (rcF xss p k j e != mx) = true := by simpa using hne
              clear hne
              generalize rcF xss p k j e = yy at *
              go_wp2_with fail
              refine wp_region_grow (by kernel_rfl) (by kernel_rfl) ?_
              repeat (go_big_quiet_step ((go_at_call 80; exact grow_same (CW.out _))))
              refine wpQuiet_nil ?_
              intro _ hw'
              obtain ⟨vv, hw''⟩ := hw'
              subst hw''
              have hb2 := wOf_below wr vv
              generalize wOf wr vv = w7 at hb2 ⊢
              have LB2 : Hid (Below w6.heap.size w6 w7) := LB.out.trans (hb2.mono LB.out.size)
              clear hb2
              go_wp2
              go_roundw
              case rel => exact ⟨e + 1, by omega, by omega, by go_num, LB2.out⟩
              case measure => simp [intOf]; omega
            · obtain rfl : e = t := by omega
              rw [HAe.out] at y4
              have X2 : (mx != mx) = false := by simp
              go_wp2_with fail
              refine wp_region_grow (by kernel_rfl) (by kernel_rfl) ?_
              repeat (go_big_quiet_step ((go_at_call 80; exact grow_same (CW.out _))))
              refine wpQuiet_nil ?_
              intro _ hw'
              obtain ⟨vv, hw''⟩ := hw'
              subst hw''
              have hb2 := wOf_below wr vv
              generalize wOf wr vv = w7 at hb2 ⊢
              have LB2 : Hid (Below w6.heap.size w6 w7) := LB.out.trans (hb2.mono LB.out.size)
              have B57 : Hid (Below w5.heap.size w5 w7) := LB5.out.trans (hb2.mono LB5.out.size)
              have R7 := Lib.hid (KR.out.below LB2.out)
              have hlT := HTl.out j
              have sw := B57.out.size
              clear hb2 y1 y4 CW zb zg
              go_wp2_with (at_builtin; refine wpList_append_own _ rfl _ _ 27 rfl (w5.heap.size) 3 i0 (.int .i64 0) 1 8 Try.underlying27 HI.out hz0 hz1 hz2 rfl (by decide) _ _ _ rfl (World.ownsRow.alloc R7.out _) ⟨w7.heap.size, 0, none⟩ 1 1 [.int .i64 (e : Int)] rfl rfl (new_cell w7 _ _) (by intro u hu; simp at hu; subst hu; rfl) (by unfold maxLen; omega) (by omega) (by simp; omega) ?_
                           intro v' w8 hown' hgrow _
                           have R1 : Hid (Row w8 w5.heap.size v' (TU (j + 1))) := by rw [HTLj.out]; exact row_at hown' (by rw [hlT])
                           have R2 : Hid (Below w5.heap.size w5 w8) := (B57.out.alloc sw _).grown hgrow (by simp; omega) (fun g hg => (World.ownsRow.lt R7.out g hg).1)
                           clear hown' hgrow)
              go_roundw
              case rel => exact ⟨j + 1, by omega, by go_num, ⟨(e : Int) - 1, (e : Int) + 1, rfl, rfl, fun hj1 => ⟨loN e, cnN e (Lp p (j + 1)) - 1, by unfold loN; omega, by have := ENr.out j hj1; have := HL.out (j + 1) hj1; unfold loN cnN; omega, by unfold loN cnN; omega, by have := ENr.out j hj1; have := HL.out (j + 1) hj1; unfold loN cnN; omega, HASj.out⟩⟩, R1.out, R2.out⟩
              case measure => simp [intOf]; omega
        · obtain rfl : j = k := by omega
          have KR2 : Hid (Row wr w.heap.size _ (TU j)) := KR.out.mono hbz
          have KB2 : Hid (Below w.heap.size w wr) := HB.out.trans (KB.out.mono hbz)
          have q7 := HPm.out wr KB.out
          obtain ⟨gj, cj, y1, _, y3⟩ := HW.out wr KB.out 0 (by omega)
          have CW : Hid (∀ u, Calls Try.prog 80 #[.slice (some ⟨gj, 0, none⟩) (Lp p 0) cj, .int .i64 0, .int .i64 (((Lp p 0 : Nat) : Int) - 1)] (wOf wr u) fun e w' => e = .returned (.int .i64 (maxF (rcF xss p j 0) 0 (Lp p 0 - 1))) ∧ wOf wr u = w') := fun u => HM.out _ (KB.out.trans ((wOf_below wr u).mono KB.out.size)) 0 gj cj 0 (Lp p 0 - 1) 0 (((Lp p 0 : Nat) : Int) - 1) (by omega) (y3.below (wOf_below wr u)) (by simp) (by omega) (by omega) (.inl (by omega))
          have zb : b < wr.heap.size := lt_of_cell y1
          have zP : bP < wr.heap.size := lt_of_cell q7
          clear y3
          go_wp2_with fail
          refine wp_region_grow (by kernel_rfl) (by kernel_rfl) ?_
          repeat (go_big_quiet_step ((go_at_call 80; exact grow_same (CW.out _))))
          refine wpQuiet_nil ?_
          intro _ hw'
          obtain ⟨vv, hw''⟩ := hw'
          subst hw''
          have hb2 := wOf_below wr vv
          generalize wOf wr vv = w7 at hb2 ⊢
          have LB2 : Hid (Below w.heap.size w w7) := KB2.out.trans (hb2.mono KB2.out.size)
          have LR2 := Lib.hid (KR2.out.below hb2)
          clear hb2
          go_wp2
          go_ret2
          exact ⟨_, rfl, by rw [HTe.out]; exact LR2.out, LB2.out⟩
end Go.Proofs.Ytmkbjkmpincogaa
