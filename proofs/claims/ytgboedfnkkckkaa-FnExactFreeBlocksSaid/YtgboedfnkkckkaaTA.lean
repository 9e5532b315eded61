/-
Contracts: greatest flows and least cuts, in the model.
Contracts: the model's answers about greatest flows and cuts.
Contracts: networks with one capacity turned.
Contracts: whether the greatest flow turns with a capacity, in the model.
-/
import Derived.Test.YtgboedfnkkckkaaZX
import Derived.Test.YtgboedfnkkckkaaZI
import Derived.Test.YtgboedfnkkckkaaNR
import Derived.Test.YtgboedfnkkckkaaZE
import Derived.Test.YtgboedfnkkckkaaZR
import Derived.Test.YtgboedfnkkckkaaLP
import Derived.Test.YtgboedfnkkckkaaAQ
import Derived.Lib.SliceRun
import Derived.Test.YtgboedfnkkckkaaC1
namespace Go.Proofs.Ytgboedfnkkckkaa
open Go.RowKit
set_option linter.unusedVariables false

def FullX (n m : Nat) (xs : List Int) (v : Int) (S : Nat → Bool) : Prop := Full n (eF xs) (eT xs) (eC xs) m v S
open Classical in
/-- The greatest flow. -/
noncomputable def gfV (n m : Nat) (xs : List Int) : Int := if h : ∃ v S, FullX n m xs v S then h.choose else 0
open Classical in
/-- The least cut. -/
noncomputable def gcS (n m : Nat) (xs : List Int) : Nat → Bool := if h : ∃ v S, FullX n m xs v S then h.choose_spec.choose else fun _ => false
theorem gf_eq {n m : Nat} {xs : List Int} {v : Int} {S : Nat → Bool} (h : FullX n m xs v S) : gfV n m xs = v := by
  have hx : ∃ v S, FullX n m xs v S := ⟨v, S, h⟩
  unfold gfV
  rw [dif_pos hx]
  exact (full_uniq hx.choose_spec.choose_spec h).1
theorem gc_eq {n m : Nat} {xs : List Int} {v : Int} {S : Nat → Bool} (h : FullX n m xs v S) {u : Nat} (hu : u < n) : gcS n m xs u = S u := by
  have hx : ∃ v S, FullX n m xs v S := ⟨v, S, h⟩
  unfold gcS
  rw [dif_pos hx]
  exact (full_uniq hx.choose_spec.choose_spec h).2 u hu
theorem lev_same {n m : Nat} {fr tg : Nat → Nat} {R d d2 : List Int} (hE : EndsIn n fr tg m) (h : Lev n fr tg m R d) (h2 : Lev n fr tg m R d2) {v : Nat} (hv : v < n) (h0 : 0 ≤ d2.getD v 0) : 0 ≤ d.getD v 0 := by
  obtain ⟨s, hs⟩ := Int.eq_ofNat_of_zero_le h0
  have := lev_least (T := fun u => decide (0 ≤ d.getD u 0)) hE h2 (decide_eq_true (by rw [h.src]; omega)) (fun a ha h3 h4 => decide_eq_true (h.clos a ha (of_decide_eq_true h3) h4)) s v hv hs
  exact of_decide_eq_true this
/-- Behind a run. -/
def GivesFull (w : World) (n m : Nat) (xs : List Int) (e : Ending) (w' : World) : Prop :=
  ∃ g gl vs R d, e = .returned (.int .i64 (gfV n m xs)) ∧ w.heap.size ≤ g ∧ RQ w' w.heap.size g 1 gl n 118 vs (netX (eF xs) (eT xs) n m R) ∧ w'.cell? ⟨g, 0, none⟩ = some (.int .i64 n) ∧ R.length = 2 * m ∧ Lev n (eF xs) (eT xs) m R d ∧ (∀ u, u < n → gcS n m xs u = decide (0 ≤ d.getD u 0)) ∧ Below w.heap.size w w'
theorem run_start {n m g gl B : Nat} {xs : List Int} {vs : Nat → Value} {w : World} (hn : netW n m xs = true) (hBg : B ≤ g) (hq : RQ w B g 1 gl n 118 vs (resX (eF xs) (eT xs) (eC xs) n m)) (h0 : w.cell? ⟨g, 0, none⟩ = some (.int .i64 n)) :
    Calls Try.prog 112 #[.pointer (some ⟨g, 0, none⟩)] w (fun e w' => ∃ R d, e = .returned (.int .i64 (gfV n m xs)) ∧ RQ w' B g 1 gl n 118 vs (netX (eF xs) (eT xs) n m R) ∧ w'.cell? ⟨g, 0, none⟩ = some (.int .i64 n) ∧ R.length = 2 * m ∧ Lev n (eF xs) (eT xs) m R d ∧ (∀ u, u < n → gcS n m xs u = decide (0 ≤ d.getD u 0)) ∧ Below B w w') := by
  obtain ⟨n1, n2, n3, _⟩ := netW_true hn
  have hE := ends_in hn
  have hq' : RQ w B g 1 gl n 118 vs (netX (eF xs) (eT xs) n m (rmL (eC xs) m)) := ⟨hq.fam.congr fun i _ => netX_res _ _ _ _ _ i, hq.own, hq.c0, hq.c1, hq.c2, hq.fz, hq.ty⟩
  refine (c_run n m g gl B (eF xs) (eT xs) (eC xs) (rmL (eC xs) m) vs w hE (by omega) (by omega) n3 (fun k hk => (eF_at hn hk).2.2.2) hBg hq' h0 (rmL_res fun k hk => (eF_at hn hk).2.2.1) (fun p => rmL_net p)).mono fun e w' hr => ?_
  obtain ⟨s, R, d, he, h1, h2, h3, h4, h5, h6, h7⟩ := hr
  have hf : FullX n m xs s (fun u => decide (0 ≤ d.getD u 0)) := full_of_lev hE h3 h4 h5 h6
  exact ⟨R, d, by rw [he, gf_eq hf], h1, h2, h3.len, h5, fun u hu => gc_eq hf hu, h7⟩

set_option maxHeartbeats 2000000 in
theorem c_mfValue (n m : Nat) (xs : List Int) (v : Value) (w : World) (hn : netW n m xs = true) (h : SeenP w v m xs) :
    Calls Try.prog 65 #[.int .i64 n, v] w fun e w' => e = .returned (.int .i64 (gfV n m xs)) ∧ Below w.heap.size w w' := by
  have C0 := Lib.hid (c_mfStart n m xs v w hn h)
  have HN := Lib.hid hn
  obtain ⟨A, c, rfl, _, _, _⟩ := h
  clear hn
  go_enter Try.func65, Try.ntmps65
  go_wp2_with fail
  refine C0.out.mono ?_
  rintro e w1 ⟨g, gl, vs, rfl, h0, hg, hq, hb⟩
  have C1 := Lib.hid (run_start HN.out hg hq h0)
  have HB := Lib.hid hb
  clear h0 hg hq hb
  go_wp2_with fail
  refine C1.out.mono ?_
  rintro e w2 ⟨R, d, rfl, _, _, _, _, _, hb⟩
  have HB2 : Hid (Below w.heap.size w w2) := HB.out.trans hb
  clear hb
  go_wp2
  go_ret
  exact ⟨rfl, HB2.out⟩

set_option maxHeartbeats 8000000 in
set_option maxRecDepth 100000 in
theorem c_mfLeast (n m : Nat) (xs : List Int) (v : Value) (w : World) (hn : netW n m xs = true) (h : SeenP w v m xs) :
    Calls Try.prog 70 #[.int .i64 n, v] w (GivesRow w (sel (fun x => gcS n m xs x.toNat) n)) := by
  obtain ⟨i0, hi0, hz0, hz1, hz2⟩ := info_parts int_info
  have HI := Lib.hid hi0
  clear hi0
  have C0 := Lib.hid (c_mfStart n m xs v w hn h)
  have HN := Lib.hid hn
  obtain ⟨n1, n2, n3, _⟩ := netW_true hn
  obtain ⟨A, c, rfl, _, _, _⟩ := h
  clear hn
  go_enter Try.func70, Try.ntmps70
  go_wp2_with fail
  refine C0.out.mono ?_
  rintro e w1 ⟨g, gl, vs, rfl, h0, hg, hq, hb⟩
  have C1 := Lib.hid (run_start HN.out hg hq h0)
  have HB := Lib.hid hb
  clear h0 hg hq hb
  go_wp2_with fail
  refine C1.out.mono ?_
  rintro e w2 ⟨R, d, rfl, hq, h0, hR, hlev, hgc, hb⟩
  have HB2 : Hid (Below w.heap.size w w2) := HB.out.trans hb
  have CL := Lib.hid (c_levels n m g gl (eF xs) (eT xs) R (vs 0) (vs 1) w2 (ends_in HN.out) (by omega) (by omega) n3 hq.ty.lt h0 hq.c0 hq.c1 hq.c2 (netR_of hq.fam hq.own hR))
  have HLev : Hid (Lev n (eF xs) (eT xs) m R d) := hlev
  have HGc := Lib.hid hgc
  clear hq h0 hR hlev hgc hb
  go_wp2_with fail
  refine CL.out.mono ?_
  rintro e w3 ⟨d2, v3, rfl, hrow, hlev2, hb⟩
  have HP : Hid (∀ k, k < n → gcS n m xs k = decide (0 ≤ d2.getD k 0)) := fun k hk => by
    rw [HGc.out k hk]
    exact decide_eq_decide.2 ⟨fun h => lev_same (ends_in HN.out) hlev2 HLev.out hk h, fun h => lev_same (ends_in HN.out) HLev.out hlev2 hk h⟩
  have HB3 : Hid (Below w.heap.size w w3) := HB2.out.trans (hb.mono HB2.out.size)
  obtain ⟨gd, cd, rfl, hgd, lgd⟩ := hrow.form (by rw [hlev2.len]; omega)
  rw [hlev2.len] at hrow ⊢
  have HRow := Lib.hid hrow
  have HDl : Hid (n = d2.length) := hlev2.len.symm
  have hsz : w.heap.size ≤ w3.heap.size := HB3.out.size
  have hlo := Lib.hid hlev2.lo
  have hhi := Lib.hid hlev2.hi
  clear hrow hlev2 hb C0 C1 CL HGc HLev HB HB2
  have EP : Hid (∀ k : Nat, k < n → (fun x : Int => gcS n m xs x.toNat) (k : Int) = decide (0 ≤ d2.getD k 0)) := fun k hk => by
    show gcS n m xs (k : Int).toNat = _
    rw [Int.toNat_natCast]; exact HP.out k hk
  clear HP
  obtain ⟨p, hp⟩ : ∃ p : Int → Bool, p = fun x : Int => gcS n m xs x.toNat := ⟨_, rfl⟩
  rw [← hp] at EP
  have HPe := Lib.hid hp
  clear hp
  go_wp2_with fail
  go_loopw [6, 17] (fun q i wr => ∃ k : Nat, k ≤ n ∧ i = .int .i64 k ∧ Row wr w3.heap.size q (sel p k) ∧ Below w3.heap.size w3 wr) (fun _ i _ => n - (RowKit.intOf i).toNat)
  case atStart => exact ⟨0, Nat.zero_le _, rfl, Row.nil _ _, Below.refl _ _⟩
  case round =>
    obtain ⟨k, hk, rfl, hrw, hb⟩ := hrel
    have HR := Lib.hid hrw
    have HB := Lib.hid hb
    clear hrw hb
    by_cases hlt : k < n
    · obtain ⟨q0, _⟩ := row_at HDl.out HRow.out k hlt
      have q1 : wr.cell? ⟨gd, k, none⟩ = some (.int .i64 (d2.getD k 0)) := by rw [HB.out.cell (p := ⟨gd, k, none⟩) lgd]; exact q0
      have EPk := EP.out k hlt
      have hlen := sel_len p k
      have sw := HB.out.size
      clear q0
      generalize d2.getD k 0 = x at *
      have b1 : (0 : Int) ≤ (k : Int) := by omega
      have b2 : (k : Int) < (n : Int) := by omega
      by_cases hx : 0 ≤ x
      · have G : Hid (p (k : Int) = true) := by rw [Hid, EPk]; exact decide_eq_true hx
        clear EPk
        go_wp2_with (at_builtin; refine wpList_append_own _ rfl _ _ 30 rfl (w3.heap.size) 3 i0 (.int .i64 0) 1 8 Try.underlying30 HI.out hz0 hz1 hz2 rfl (by decide) _ _ _ rfl (World.ownsRow.alloc HR.out _) ⟨wr.heap.size, 0, none⟩ 1 1 [.int .i64 k] rfl rfl ?c1 ?c2 ?c3 ?c4 ?c5 ?_)
        case c1 => exact news_one (by simp)
        case c2 => exact ones_one _
        case c3 => unfold maxLen; omega
        case c4 => omega
        case c5 => simp; omega
        intro v' w5 hown' hgrow _
        have R1 : Hid (Row w5 w3.heap.size v' (sel p (k + 1))) := by rw [sel_hit G.out]; exact row_more hown'
        have R2 : Hid (Below w3.heap.size w3 w5) := (HB.out.alloc sw _).grown hgrow (by simp; omega) (fun g hg => (World.ownsRow.lt HR.out g hg).1)
        clear hown' hgrow
        go_wp2
        go_roundw
        case rel => exact ⟨k + 1, by omega, by go_num, R1.out, R2.out⟩
        case measure => simp [RowKit.intOf]; omega
      · have G : Hid (p (k : Int) = false) := by rw [Hid, EPk]; exact decide_eq_false hx
        clear EPk
        go_wp2
        go_roundw
        case rel => exact ⟨k + 1, by omega, by go_num, by rw [sel_miss G.out]; exact HR.out, HB.out⟩
        case measure => simp [RowKit.intOf]; omega
    · obtain rfl : k = n := by omega
      have G := Lib.hid (HR.out.mono hsz)
      have GB : Hid (Below w.heap.size w wr) := HB3.out.trans (HB.out.mono hsz)
      go_wp2
      go_ret
      exact ⟨_, rfl, by rw [← HPe.out]; exact G.out, GB.out⟩
end Go.Proofs.Ytgboedfnkkckkaa

namespace Go.Proofs.Ytgboedfnkkckkaa
open Go.RowKit
set_option linter.unusedVariables false

theorem getD_rgt {P Q : List Int} {i j : Nat} (h : i = P.length + j) : (P ++ Q).getD i 0 = Q.getD j 0 := by
  subst h
  rw [List.getD_eq_getElem?_getD, List.getElem?_append_right (by omega), Nat.add_sub_cancel_left, ← List.getD_eq_getElem?_getD]
theorem getD_lft {P Q : List Int} {i : Nat} (h : i < P.length) : (P ++ Q).getD i 0 = P.getD i 0 := by simp [List.getD_eq_getElem?_getD, List.getElem?_append_left h]
theorem turL_at (n : Int) (xs : List Int) : ∀ (m k : Nat), k < m → (turL n xs m).getD (k * 3) 0 = n - 1 - xs.getD (k * 3 + 1) 0 ∧ (turL n xs m).getD (k * 3 + 1) 0 = n - 1 - xs.getD (k * 3) 0 ∧ (turL n xs m).getD (k * 3 + 2) 0 = xs.getD (k * 3 + 2) 0
  | 0, k, h => by omega
  | m + 1, k, h => by
    have hl := turL_len n xs m
    unfold turL
    by_cases e : k = m
    · subst e
      exact ⟨getD_rgt (j := 0) (by omega), getD_rgt (j := 1) (by omega), getD_rgt (j := 2) (by omega)⟩
    · have ih := turL_at n xs m k (by omega)
      rw [getD_lft (by omega), getD_lft (by omega), getD_lft (by omega)]
      exact ih
theorem net_turn {n : Int} {m : Nat} {xs : List Int} (h : netB n m xs = true) : netB n m (turL n xs m) = true := by
  obtain ⟨h1, h2, h3, h4⟩ := net_true h
  unfold netB
  simp only [Bool.and_eq_true, decide_eq_true_eq]
  refine ⟨⟨h1, h2, h3⟩, edgAll_true fun k hk => ?_⟩
  obtain ⟨e1, e2, e3⟩ := turL_at n xs m k hk
  have := edg_true (edgAll_at h4 hk)
  rw [e1, e2, e3]
  exact edg_mk (by omega)
theorem netW_turn {n : Int} {m : Nat} {xs : List Int} (h : netW n m xs = true) : netW n m (turL n xs m) = true := by
  obtain ⟨h1, h2, h3, h4⟩ := netW_true h
  refine netW_mk h1 h2 h3 (edgAll_true fun k hk => ?_)
  obtain ⟨e1, e2, e3⟩ := turL_at n xs m k hk
  have := edg_true (edgAll_at h4 hk)
  rw [e1, e2, e3]
  exact edg_mk (by omega)
/-- What the answers say. -/
noncomputable def gfA (n : Int) (m : Nat) (xs : List Int) : Int := if netB n m xs then gfV n.toNat m xs else 0
noncomputable def lcP (n m : Nat) (xs : List Int) : Int → Bool := fun x => gcS n m xs x.toNat
noncomputable def lcA (n : Int) (m : Nat) (xs : List Int) : List Int := if netB n m xs then sel (lcP n.toNat m xs) n.toNat else []
noncomputable def gtP (n m : Nat) (xs : List Int) : Int → Bool := fun x => !(lcP n m (turL n xs m) ((n : Int) - 1 - x))
noncomputable def gtA (n : Int) (m : Nat) (xs : List Int) : List Int := if netB n m xs then sel (gtP n.toNat m xs) n.toNat else []
theorem gfA_no {n : Int} {m : Nat} {xs : List Int} (h : netB n m xs = false) : gfA n m xs = 0 := by unfold gfA; rw [h]; rfl
theorem gfA_yes {n : Nat} {m : Nat} {xs : List Int} (h : netB n m xs = true) : gfA n m xs = gfV n m xs := by unfold gfA; rw [h]; rfl
theorem lcA_no {n : Int} {m : Nat} {xs : List Int} (h : netB n m xs = false) : lcA n m xs = [] := by unfold lcA; rw [h]; rfl
theorem lcA_yes {n : Nat} {m : Nat} {xs : List Int} (h : netB n m xs = true) : lcA n m xs = sel (lcP n m xs) n := by unfold lcA; rw [h]; rfl
theorem gtA_no {n : Int} {m : Nat} {xs : List Int} (h : netB n m xs = false) : gtA n m xs = [] := by unfold gtA; rw [h]; rfl
theorem gtA_yes {n : Nat} {m : Nat} {xs : List Int} (h : netB n m xs = true) : gtA n m xs = sel (gtP n m xs) n := by unfold gtA; rw [h]; rfl

set_option maxHeartbeats 4000000 in
theorem c_GreatestFlowS (n : Int) (m : Nat) (xs : List Int) (v : Value) (w : World) (hw : -9223372036854775808 ≤ n ∧ n ≤ 9223372036854775807) (hm : m ≤ 1048576) (h : SeenP w v m xs) :
    Calls Try.prog 20 #[.int .i64 n, v] w fun e w' => e = .returned (.tuple #[.int .i64 (gfA n m xs), .bool (netB n m xs)]) ∧ Below w.heap.size w w' := by
  have C0 := Lib.hid (c_mfGood n m xs v w hm hw h)
  have HS := Lib.hid h
  obtain ⟨A, c, rfl, _, _, _⟩ := h
  clear hw
  cases hn : netB n m xs
  · rw [gfA_no hn]
    rw [hn] at C0
    clear hn
    go_enter Try.func20, Try.ntmps20
    go_wp2_with fail
    refine C0.out.mono ?_
    rintro e w1 ⟨rfl, hb⟩
    have HB := Lib.hid hb
    clear hb
    go_wp2
    go_ret2
    exact ⟨rfl, HB.out⟩
  · obtain ⟨N, rfl⟩ := Int.eq_ofNat_of_zero_le (show 0 ≤ n by have := net_true hn; omega)
    rw [gfA_yes hn]
    have HN := Lib.hid hn
    rw [hn] at C0
    clear hn
    go_enter Try.func20, Try.ntmps20
    go_wp2_with fail
    refine C0.out.mono ?_
    rintro e w1 ⟨rfl, hb⟩
    have HB := Lib.hid hb
    have HS1 := Lib.hid (HS.out.below hb)
    clear hb
    go_wp2_with fail
    refine (c_mfValue N m xs _ w1 (netW_of HN.out) HS1.out).mono ?_
    rintro e w2 ⟨rfl, hb⟩
    have HB2 : Hid (Below w.heap.size w w2) := HB.out.trans (hb.mono HB.out.size)
    clear hb
    go_wp2
    go_ret2
    exact ⟨rfl, HB2.out⟩

set_option maxHeartbeats 4000000 in
theorem c_LeastCutS (n : Int) (m : Nat) (xs : List Int) (v : Value) (w : World) (hw : -9223372036854775808 ≤ n ∧ n ≤ 9223372036854775807) (hm : m ≤ 1048576) (h : SeenP w v m xs) :
    Calls Try.prog 24 #[.int .i64 n, v] w (GivesRow2 w (lcA n m xs) (netB n m xs)) := by
  have C0 := Lib.hid (c_mfGood n m xs v w hm hw h)
  have HS := Lib.hid h
  obtain ⟨A, c, rfl, _, _, _⟩ := h
  clear hw
  cases hn : netB n m xs
  · rw [lcA_no hn]
    rw [hn] at C0
    clear hn
    go_enter Try.func24, Try.ntmps24
    go_wp2_with fail
    refine C0.out.mono ?_
    rintro e w1 ⟨rfl, hb⟩
    have HB := Lib.hid hb
    clear hb
    go_wp2
    go_ret2
    exact ⟨_, rfl, Row.nil _ _, HB.out⟩
  · obtain ⟨N, rfl⟩ := Int.eq_ofNat_of_zero_le (show 0 ≤ n by have := net_true hn; omega)
    rw [lcA_yes hn]
    have HN := Lib.hid hn
    rw [hn] at C0
    clear hn
    go_enter Try.func24, Try.ntmps24
    go_wp2_with fail
    refine C0.out.mono ?_
    rintro e w1 ⟨rfl, hb⟩
    have HB := Lib.hid hb
    have HS1 := Lib.hid (HS.out.below hb)
    clear hb
    go_wp2_with fail
    refine (c_mfLeast N m xs _ w1 (netW_of HN.out) HS1.out).mono ?_
    rintro e w2 ⟨v2, rfl, hr, hb⟩
    have HB2 : Hid (Below w.heap.size w w2) := HB.out.trans (hb.mono HB.out.size)
    have HR : Hid (Row w2 w.heap.size v2 (sel (lcP N m xs) N)) := hr.mono HB.out.size
    clear hb hr
    go_wp2
    go_ret2
    exact ⟨_, rfl, HR.out, HB2.out⟩

set_option maxHeartbeats 8000000 in
set_option maxRecDepth 100000 in
theorem c_mfMost (n m : Nat) (xs : List Int) (v : Value) (w : World) (hn : netW n m xs = true) (h : SeenP w v m xs) :
    Calls Try.prog 72 #[.int .i64 n, v] w (GivesRow w (sel (gtP n m xs) n)) := by
  obtain ⟨i0, hi0, hz0, hz1, hz2⟩ := info_parts int_info
  have HI := Lib.hid hi0
  clear hi0
  obtain ⟨n1, n2, n3, _⟩ := netW_true hn
  have C0 := Lib.hid (c_mfTurn n m xs v w (by omega) hn h)
  have HN := Lib.hid (netW_turn hn)
  obtain ⟨A, c, rfl, _, _, _⟩ := h
  have EP : Hid (∀ k : Nat, k < n → gtP n m xs (k : Int) = !(hasI (sel (lcP n m (turL n xs m)) n) ((n : Int) - 1 - k))) := fun k hk => by
    unfold gtP hasI
    congr 1
    rw [Bool.eq_iff_iff, decide_eq_true_iff, mem_sel]
    unfold inr
    simp
    intro _
    omega
  clear hn
  generalize gtP n m xs = p at *
  generalize turL n xs m = ys at *
  go_enter Try.func72, Try.ntmps72
  go_wp2_with fail
  refine C0.out.mono ?_
  rintro e w1 ⟨v1, rfl, hr, hb⟩
  have HS1 := Lib.hid hr.seen
  have HB := Lib.hid hb
  clear hr hb C0
  go_wp2_with fail
  refine (c_mfLeast n m ys v1 w1 HN.out HS1.out).mono ?_
  rintro e w2 ⟨v2, rfl, hr, hb⟩
  have HB2 : Hid (Below w.heap.size w w2) := HB.out.trans (hb.mono HB.out.size)
  have hql : (sel (lcP n m ys) n).length ≤ n := sel_len _ _
  have HQ : Hid (Seen w2 v2 (sel (lcP n m ys) n)) := hr.seen
  clear hb hr HB HS1 HN
  generalize sel (lcP n m ys) n = qs at *
  have CH : Hid (∀ (x : Int) (w3 : World), Below w2.heap.size w2 w3 → Calls Try.prog 98 #[v2, .int .i64 x] w3 fun e w' => e = .returned (.bool (hasI qs x)) ∧ w3 = w') := fun x w3 hb => c_l1Has qs x v2 w3 (by omega) (HQ.out.below hb)
  obtain ⟨A2, c2, rfl⟩ := HQ.out.shape
  clear HQ hql
  have hsz : w.heap.size ≤ w2.heap.size := HB2.out.size
  go_wp2_with fail
  go_loopw [6, 7] (fun q i wr => ∃ k : Nat, k ≤ n ∧ i = .int .i64 k ∧ Row wr w2.heap.size q (sel p k) ∧ Below w2.heap.size w2 wr) (fun _ i _ => n - (RowKit.intOf i).toNat)
  case atStart => exact ⟨0, Nat.zero_le _, rfl, Row.nil _ _, Below.refl _ _⟩
  case round =>
    obtain ⟨k, hk, rfl, hrw, hb⟩ := hrel
    have HR := Lib.hid hrw
    have HB := Lib.hid hb
    clear hrw hb
    by_cases hlt : k < n
    · have EPk := Lib.hid (EP.out k hlt)
      have CHk := Lib.hid (CH.out ((n : Int) - 1 - k) wr HB.out)
      have hlen := sel_len p k
      have sw := HB.out.size
      obtain ⟨Aq, cq, rfl⟩ := HR.out.shape
      have b1 : (0 : Int) ≤ (k : Int) := by omega
      have b2 : (k : Int) < (n : Int) := by omega
      generalize hasI qs ((n : Int) - 1 - k) = bb at *
      cases bb
      · have G : Hid (p (k : Int) = true) := EPk.out
        clear EPk
        go_wp2_with fail
        refine CHk.out.mono ?_
        rintro e w4 ⟨rfl, rfl⟩
        go_wp2_with (at_builtin; refine wpList_append_own _ rfl _ _ 30 rfl (w2.heap.size) 3 i0 (.int .i64 0) 1 8 Try.underlying30 HI.out hz0 hz1 hz2 rfl (by decide) _ _ _ rfl (World.ownsRow.alloc HR.out _) ⟨wr.heap.size, 0, none⟩ 1 1 [.int .i64 k] rfl rfl ?c1 ?c2 ?c3 ?c4 ?c5 ?_)
        case c1 => exact news_one (by simp)
        case c2 => exact ones_one _
        case c3 => unfold maxLen; omega
        case c4 => omega
        case c5 => simp; omega
        intro v' w5 hown' hgrow _
        have R1 : Hid (Row w5 w2.heap.size v' (sel p (k + 1))) := by rw [sel_hit G.out]; exact row_more hown'
        have R2 : Hid (Below w2.heap.size w2 w5) := (HB.out.alloc sw _).grown hgrow (by simp; omega) (fun g hg => (World.ownsRow.lt HR.out g hg).1)
        clear hown' hgrow
        go_wp2
        go_roundw
        case rel => exact ⟨k + 1, by omega, by go_num, R1.out, R2.out⟩
        case measure => simp [RowKit.intOf]; omega
      · have G : Hid (p (k : Int) = false) := EPk.out
        clear EPk
        go_wp2_with fail
        refine CHk.out.mono ?_
        rintro e w4 ⟨rfl, rfl⟩
        go_wp2
        go_roundw
        case rel => exact ⟨k + 1, by omega, by go_num, by rw [sel_miss G.out]; exact HR.out, HB.out⟩
        case measure => simp [RowKit.intOf]; omega
    · obtain rfl : k = n := by omega
      have G := Lib.hid (HR.out.mono hsz)
      have GB : Hid (Below w.heap.size w wr) := HB2.out.trans (HB.out.mono hsz)
      go_wp2
      go_ret
      exact ⟨_, rfl, G.out, GB.out⟩

set_option maxHeartbeats 4000000 in
theorem c_GreatestCutS (n : Int) (m : Nat) (xs : List Int) (v : Value) (w : World) (hw : -9223372036854775808 ≤ n ∧ n ≤ 9223372036854775807) (hm : m ≤ 1048576) (h : SeenP w v m xs) :
    Calls Try.prog 30 #[.int .i64 n, v] w (GivesRow2 w (gtA n m xs) (netB n m xs)) := by
  have C0 := Lib.hid (c_mfGood n m xs v w hm hw h)
  have HS := Lib.hid h
  obtain ⟨A, c, rfl, _, _, _⟩ := h
  clear hw
  cases hn : netB n m xs
  · rw [gtA_no hn]
    rw [hn] at C0
    clear hn
    go_enter Try.func30, Try.ntmps30
    go_wp2_with fail
    refine C0.out.mono ?_
    rintro e w1 ⟨rfl, hb⟩
    have HB := Lib.hid hb
    clear hb
    go_wp2
    go_ret2
    exact ⟨_, rfl, Row.nil _ _, HB.out⟩
  · obtain ⟨N, rfl⟩ := Int.eq_ofNat_of_zero_le (show 0 ≤ n by have := net_true hn; omega)
    rw [gtA_yes hn]
    have HN := Lib.hid hn
    rw [hn] at C0
    clear hn
    go_enter Try.func30, Try.ntmps30
    go_wp2_with fail
    refine C0.out.mono ?_
    rintro e w1 ⟨rfl, hb⟩
    have HB := Lib.hid hb
    have HS1 := Lib.hid (HS.out.below hb)
    clear hb
    go_wp2_with fail
    refine (c_mfMost N m xs _ w1 (netW_of HN.out) HS1.out).mono ?_
    rintro e w2 ⟨v2, rfl, hr, hb⟩
    have HB2 : Hid (Below w.heap.size w w2) := HB.out.trans (hb.mono HB.out.size)
    have HR : Hid (Row w2 w.heap.size v2 (sel (gtP N m xs) N)) := hr.mono HB.out.size
    clear hb hr
    go_wp2
    go_ret2
    exact ⟨_, rfl, HR.out, HB2.out⟩
end Go.Proofs.Ytgboedfnkkckkaa

namespace Go.Proofs.Ytgboedfnkkckkaa
open Go.RowKit
set_option linter.unusedVariables false

theorem rowP_noneE (w : World) : (w.alloc (.cells #[] 60)).ownsRow w.heap.size 60 3 (.slice (some ⟨w.heap.size, 0, none⟩) 0 0) 0 (ints []) := by
  have := World.ownsRow_lit (base := w.heap.size) (e := 60) (size := 3) w #[] 0 (Nat.le_refl _) (by unfold maxLen; omega) (by simp)
  simpa [ints] using this
theorem rowP_ofE {w : World} {B n : Nat} {v : Value} {X Y : List Int} (h : w.ownsRow B 60 3 v n (ints X ++ ints Y)) : RowP w B v n (X ++ Y) := by
  unfold RowP
  rw [show ints (X ++ Y) = ints X ++ ints Y by simp [ints]]
  exact h
theorem shapeE {w : World} {v : Value} {n : Nat} {xs : List Int} (h : SeenP w v n xs) : ∃ A c, v = .slice A n c := by
  obtain ⟨A, c, e, _⟩ := h
  exact ⟨A, c, e⟩
theorem src_seenE {w : World} {A : Option Addr} {n c : Nat} {xs : List Int} (h : SeenP w (.slice A n c) n xs) (h0 : 0 < n) : Src w 3 A n c (ints xs) := by
  obtain ⟨A', c', e, hm, hx, hA⟩ := h
  simp at e
  obtain ⟨rfl, rfl⟩ := e
  obtain ⟨b, off, rfl, hb, hc⟩ := hA h0
  exact src_cells 3 hx (fun e => by cases e) (fun _ => ⟨b, off, rfl, fun k hk => hc k (by omega)⟩)

set_option maxHeartbeats 1000000 in
theorem c_CloneE (n : Nat) (xs : List Int) (v : Value) (w : World) (hl : n ≤ 1000000) (h0 : 0 < n) (h : SeenP w v n xs) :
    Calls Try.prog 122 #[v] w (GivesP w n xs) := by
  obtain ⟨i0, hi0, hz0, hz1, hz2⟩ := info_parts edge_info
  have HI := Lib.hid hi0
  clear hi0
  obtain ⟨A, c, rfl⟩ := shapeE h
  have HS := Lib.hid ((src_seenE h h0).alloc (.cells #[] 60))
  have HN := Lib.hid (rowP_noneE w)
  obtain ⟨b, off, rfl⟩ : ∃ b off, A = some ⟨b, off, none⟩ := by
    obtain ⟨A', c', e, _, _, hA⟩ := h
    simp at e
    obtain ⟨rfl, rfl⟩ := e
    obtain ⟨b, off, rfl, _⟩ := hA h0
    exact ⟨b, off, rfl⟩
  clear h
  have hnil : ∀ W, (binOp .eql 26 (.slice (some ⟨b, off, none⟩) n c) (.slice none 0 0)).run Try.prog W = .ok (.bool false) W := fun W => by
    rw [Lib.run_eql_slice_nil W _ _ _ _ _ _ _ Try.underlying26]; rfl
  go_enter Try.func122, Try.ntmps122
  go_wp2_with (at_builtin; refine wpList_append_src rfl _ _ 26 rfl (base := w.heap.size) Try.underlying26 HI.out hz0 hz1 hz2 rfl (by decide) rfl HN.out rfl HS.out ints_ones ?c3 ?c4 ?c5 ?_)
  case c3 => unfold maxLen; omega
  case c4 => omega
  case c5 => simp
  intro v' w4 hown' hgrow _
  have R1 := Lib.hid (rowP_ofE (X := []) hown')
  rw [List.nil_append] at R1
  have R2 : Hid (Below w.heap.size w w4) := ((Below.refl _ _).alloc (Nat.le_refl _) _).grown hgrow (by simp) (fun g hg => by simp [Value.ownBlock] at hg; omega)
  clear hown' hgrow
  go_wp2
  go_ret
  exact ⟨_, rfl, R1.out, R2.out⟩

/-- The capacity of edge k is greater by x. -/
def growX (xs : List Int) (k : Nat) (x : Int) : List Int := xs.set (k * 3 + 2) (xs.getD (k * 3 + 2) 0 + x)

set_option maxHeartbeats 4000000 in
theorem c_mfWith (n m k : Nat) (x : Int) (xs : List Int) (v : Value) (w : World) (hk : k < m) (hn : netB n m xs = true) (hx1 : -1 ≤ x) (hx2 : x ≤ 1) (hn2 : netB n m (growX xs k x) = true) (h : SeenP w v m xs) :
    Calls Try.prog 75 #[.int .i64 n, v, .int .i64 k, .int .i64 x] w fun e w' => e = .returned (.int .i64 (gfV n m (growX xs k x))) ∧ Below w.heap.size w w' := by
  obtain ⟨i0, hi0, hz0, hz1, hz2⟩ := info_parts edge_info
  have HI := Lib.hid hi0
  clear hi0
  obtain ⟨n1, n2, n3, hE⟩ := net_true hn
  have hc := edg_true (edgAll_at hE hk)
  obtain ⟨A, c, rfl⟩ := shapeE h
  have HS := Lib.hid ((src_seenE h (by omega)).alloc (.cells #[] 60))
  have HN := Lib.hid (rowP_noneE w)
  have HN2 := Lib.hid hn2
  have HX : Hid (growX xs k x = xs.set (k * 3 + 2) (xs.getD (k * 3 + 2) 0 + x)) := rfl
  clear h hn hn2 hE
  generalize growX xs k x = ys at *
  go_enter Try.func75, Try.ntmps75
  go_wp2_with (at_builtin; refine wpList_append_src rfl _ _ 26 rfl (base := w.heap.size) Try.underlying26 HI.out hz0 hz1 hz2 rfl (by decide) rfl HN.out rfl HS.out ints_ones ?c3 ?c4 ?c5 ?_)
  case c3 => unfold maxLen; omega
  case c4 => omega
  case c5 => simp
  intro v' w4 hown' hgrow _
  have R1 : RowP w4 w.heap.size v' m xs := by
    have := rowP_ofE (X := []) hown'
    rw [List.nil_append] at this
    exact this
  have R2 : Hid (Below w.heap.size w w4) := ((Below.refl _ _).alloc (Nat.le_refl _) _).grown hgrow (by simp) (fun g hg => by simp [Value.ownBlock] at hg; omega)
  clear hown' hgrow HS HN
  obtain ⟨g, cg, rfl, hg1, hg2⟩ := R1.form (by omega)
  have q0 := R1.cell (k * 3 + 2) (by omega)
  have z0 := R1.frozen (k * 3 + 2)
  have N1 : Hid (RowP (w4.setCell ⟨g, k * 3 + 2, none⟩ (.int .i64 (xs.getD (k * 3 + 2) 0 + x))) w.heap.size (.slice (some ⟨g, 0, none⟩) m cg) m ys) := by
    rw [HX.out]; exact (R1.set_ _ _).1
  have NB : Hid (Below w.heap.size w (w4.setCell ⟨g, k * 3 + 2, none⟩ (.int .i64 (xs.getD (k * 3 + 2) 0 + x)))) := R2.out.setCell hg1 _
  have b1 : (0 : Int) ≤ (k : Int) := by omega
  have b2 : (k : Int) < (m : Int) := by omega
  clear R1 HX
  generalize xs.getD (k * 3 + 2) 0 = y at *
  go_wp2_with fail
  refine (c_mfValue n m ys _ _ (netW_of HN2.out) N1.out.seen).mono ?_
  rintro e w5 ⟨rfl, hb⟩
  have HB5 : Hid (Below w.heap.size w w5) := NB.out.trans (hb.mono NB.out.size)
  clear hb
  go_wp2
  go_ret
  exact ⟨rfl, HB5.out⟩

/-- A greater, or a less, capacity: whether that can be, and what comes of it. -/
def grB (n : Int) (m : Nat) (xs : List Int) (k : Int) (z : Int) : Bool := netB n m xs && (decide (0 ≤ k ∧ k < m) && decide (xs.getD (k.toNat * 3 + 2) 0 ≠ z))
theorem net_grow {n : Int} {m k : Nat} {xs : List Int} {x : Int} (hn : netB n m xs = true) (hk : k < m) (hxs : xs.length = m * 3) (h1 : 0 ≤ xs.getD (k * 3 + 2) 0 + x) (h2 : xs.getD (k * 3 + 2) 0 + x ≤ 1000000000) : netB n m (growX xs k x) = true := by
  obtain ⟨a1, a2, a3, a4⟩ := net_true hn
  unfold netB
  simp only [Bool.and_eq_true, decide_eq_true_eq]
  refine ⟨⟨a1, a2, a3⟩, edgAll_true fun j hj => ?_⟩
  have e := edg_true (edgAll_at a4 hj)
  have g : ∀ i, (growX xs k x).getD i 0 = if i = k * 3 + 2 then xs.getD (k * 3 + 2) 0 + x else xs.getD i 0 := fun i => by
    unfold growX
    simp only [List.getD_eq_getElem?_getD, List.getElem?_set]
    by_cases c : i = k * 3 + 2
    · subst c
      simp [show k * 3 + 2 < xs.length by omega]
    · rw [if_neg (by omega), if_neg c]
  rw [g, g, g, if_neg (by omega), if_neg (by omega)]
  refine edg_mk ?_
  split
  · omega
  · omega
end Go.Proofs.Ytgboedfnkkckkaa

namespace Go.Proofs.Ytgboedfnkkckkaa
open Go.RowKit
set_option linter.unusedVariables false

noncomputable def meA (n : Int) (m : Nat) (xs : List Int) (k : Int) : Bool := if grB n m xs k 1000000000 then decide (gfV n.toNat m xs < gfV n.toNat m (growX xs k.toNat 1)) else false
noncomputable def blA (n : Int) (m : Nat) (xs : List Int) (k : Int) : Bool := if grB n m xs k 0 then decide (gfV n.toNat m (growX xs k.toNat (-1)) < gfV n.toNat m xs) else false
theorem grB_no {n : Int} {m : Nat} {xs : List Int} {k z : Int} (h : netB n m xs = false) : grB n m xs k z = false := by unfold grB; rw [h]; rfl
theorem grB_out {n : Int} {m : Nat} {xs : List Int} {k z : Int} (h : ¬ (0 ≤ k ∧ k < m)) : grB n m xs k z = false := by unfold grB; rw [decide_eq_false h]; simp
theorem grB_eq {n : Int} {m k : Nat} {xs : List Int} {z : Int} (h : xs.getD (k * 3 + 2) 0 = z) : grB n m xs k z = false := by unfold grB; rw [Int.toNat_natCast, decide_eq_false (show ¬ (xs.getD (k * 3 + 2) 0 ≠ z) from fun c => c h)]; simp
theorem grB_yes {n : Int} {m k : Nat} {xs : List Int} {z : Int} (hn : netB n m xs = true) (hk : k < m) (h : xs.getD (k * 3 + 2) 0 ≠ z) : grB n m xs k z = true := by
  unfold grB
  rw [Int.toNat_natCast, hn, decide_eq_true h, decide_eq_true (by omega)]
  rfl

set_option maxHeartbeats 8000000 in
theorem c_MendsFlowS (n k : Int) (m : Nat) (xs : List Int) (v : Value) (w : World) (hw : -9223372036854775808 ≤ n ∧ n ≤ 9223372036854775807) (hwk : -9223372036854775808 ≤ k ∧ k ≤ 9223372036854775807) (hm : m ≤ 1048576) (h : SeenP w v m xs) :
    Calls Try.prog 32 #[.int .i64 n, v, .int .i64 k] w fun e w' => e = .returned (.tuple #[.bool (meA n m xs k), .bool (grB n m xs k 1000000000)]) ∧ Below w.heap.size w w' := by
  have C0 := Lib.hid (c_mfGood n m xs v w hm hw h)
  have HS := Lib.hid h
  have CI := Lib.hid (c_l1In k 0 ((m : Int) - 1))
  obtain ⟨A, c, rfl⟩ := shapeE h
  clear hw
  cases hn : netB n m xs
  · have G : Hid (grB n m xs k 1000000000 = false) := grB_no hn
    unfold meA
    rw [G.out]
    rw [hn] at C0
    clear hn h
    go_enter Try.func32, Try.ntmps32
    go_wp2_with fail
    refine C0.out.mono ?_
    rintro e w1 ⟨rfl, hb⟩
    have HB := Lib.hid hb
    clear hb
    go_wp2
    go_ret2
    exact ⟨rfl, HB.out⟩
  · obtain ⟨N, rfl⟩ := Int.eq_ofNat_of_zero_le (show 0 ≤ n by have := net_true hn; omega)
    have HN := Lib.hid hn
    rw [hn] at C0
    by_cases hr : 0 ≤ k ∧ k < m
    · obtain ⟨K, rfl⟩ := Int.eq_ofNat_of_zero_le hr.1
      have hK : K < m := by omega
      have D : Hid (decide ((0 : Int) ≤ (K : Int) ∧ (K : Int) ≤ (m : Int) - 1) = true) := decide_eq_true (by omega)
      rw [D.out] at CI
      obtain ⟨n1, n2, n3, hE⟩ := net_true hn
      have hc := edg_true (edgAll_at hE hK)
      obtain ⟨A', c', e, hmx, hxs, hA⟩ := h
      simp at e
      obtain ⟨rfl, rfl⟩ := e
      obtain ⟨b, off, rfl, hb, hcell⟩ := hA (by omega)
      have HC : Hid (∀ u, Below w.heap.size w u → u.cell? ⟨b, off + K * 3 + 2, none⟩ = some (.int .i64 (xs.getD (K * 3 + 2) 0))) := fun u hu => by
        rw [hu.cell (p := ⟨b, off + K * 3 + 2, none⟩) hb]; exact hcell (K * 3 + 2) (by omega)
      have b1 : (0 : Int) ≤ (K : Int) := by omega
      have b2 : (K : Int) < (m : Int) := by omega
      by_cases hz : xs.getD (K * 3 + 2) 0 = 1000000000
      · have G : Hid (grB N m xs K 1000000000 = false) := grB_eq hz
        unfold meA
        rw [G.out]
        rw [hz] at HC
        clear hn hA hcell hE hc hxs hmx hr hz
        go_enter Try.func32, Try.ntmps32
        go_wp2_with fail
        refine C0.out.mono ?_
        rintro e w1 ⟨rfl, hb⟩
        have HB := Lib.hid hb
        have q := HC.out w1 hb
        clear hb
        go_wp2_with fail
        refine (CI.out w1).mono ?_
        rintro e w2 ⟨rfl, rfl⟩
        go_wp2
        go_ret2
        exact ⟨rfl, HB.out⟩
      · have G : Hid (grB N m xs K 1000000000 = true) := grB_yes hn hK hz
        have H2 := Lib.hid (net_grow (x := 1) hn hK hxs (by omega) (by omega))
        have HR : Hid (meA N m xs K = decide (gfV N m xs < gfV N m (growX xs K 1))) := by
          show _ = _
          unfold meA
          rw [G.out]
          rfl
        rw [HR.out, G.out]
        have hz' : (xs.getD (K * 3 + 2) 0 == 1000000000) = false := beq_eq_false_iff_ne.2 hz
        clear HR hn hA hcell hE hxs hmx hr
        generalize hy : xs.getD (K * 3 + 2) 0 = y at *
        clear hy
        go_enter Try.func32, Try.ntmps32
        go_wp2_with fail
        refine C0.out.mono ?_
        rintro e w1 ⟨rfl, hb⟩
        have HB := Lib.hid hb
        have q := HC.out w1 hb
        have HS1 := Lib.hid (HS.out.below hb)
        clear hb
        go_wp2_with fail
        refine (CI.out w1).mono ?_
        rintro e w2 ⟨rfl, rfl⟩
        go_wp2_with fail
        refine (c_mfWith N m K 1 xs _ w1 hK HN.out (by omega) (by omega) H2.out HS1.out).mono ?_
        rintro e w2 ⟨rfl, hb⟩
        have HB2 : Hid (Below w.heap.size w w2) := HB.out.trans (hb.mono HB.out.size)
        have HS2 := Lib.hid (HS1.out.below hb)
        clear hb
        go_wp2_with fail
        refine (c_mfValue N m xs _ w2 (netW_of HN.out) HS2.out).mono ?_
        rintro e w3 ⟨rfl, hb⟩
        have HB3 : Hid (Below w.heap.size w w3) := HB2.out.trans (hb.mono HB2.out.size)
        clear hb
        go_wp2
        go_ret2
        exact ⟨rfl, HB3.out⟩
    · have G : Hid (grB N m xs k 1000000000 = false) := grB_out hr
      have D : Hid (decide ((0 : Int) ≤ k ∧ k ≤ (m : Int) - 1) = false) := decide_eq_false (by omega)
      rw [D.out] at CI
      unfold meA
      rw [G.out]
      clear hn h hr
      go_enter Try.func32, Try.ntmps32
      go_wp2_with fail
      refine C0.out.mono ?_
      rintro e w1 ⟨rfl, hb⟩
      have HB := Lib.hid hb
      clear hb
      go_wp2_with fail
      refine (CI.out w1).mono ?_
      rintro e w2 ⟨rfl, rfl⟩
      go_wp2
      go_ret2
      exact ⟨rfl, HB.out⟩

set_option maxHeartbeats 8000000 in
theorem c_BlocksFlowS (n k : Int) (m : Nat) (xs : List Int) (v : Value) (w : World) (hw : -9223372036854775808 ≤ n ∧ n ≤ 9223372036854775807) (hwk : -9223372036854775808 ≤ k ∧ k ≤ 9223372036854775807) (hm : m ≤ 1048576) (h : SeenP w v m xs) :
    Calls Try.prog 34 #[.int .i64 n, v, .int .i64 k] w fun e w' => e = .returned (.tuple #[.bool (blA n m xs k), .bool (grB n m xs k 0)]) ∧ Below w.heap.size w w' := by
  have C0 := Lib.hid (c_mfGood n m xs v w hm hw h)
  have HS := Lib.hid h
  have CI := Lib.hid (c_l1In k 0 ((m : Int) - 1))
  obtain ⟨A, c, rfl⟩ := shapeE h
  clear hw
  cases hn : netB n m xs
  · have G : Hid (grB n m xs k 0 = false) := grB_no hn
    unfold blA
    rw [G.out]
    rw [hn] at C0
    clear hn h
    go_enter Try.func34, Try.ntmps34
    go_wp2_with fail
    refine C0.out.mono ?_
    rintro e w1 ⟨rfl, hb⟩
    have HB := Lib.hid hb
    clear hb
    go_wp2
    go_ret2
    exact ⟨rfl, HB.out⟩
  · obtain ⟨N, rfl⟩ := Int.eq_ofNat_of_zero_le (show 0 ≤ n by have := net_true hn; omega)
    have HN := Lib.hid hn
    rw [hn] at C0
    by_cases hr : 0 ≤ k ∧ k < m
    · obtain ⟨K, rfl⟩ := Int.eq_ofNat_of_zero_le hr.1
      have hK : K < m := by omega
      have D : Hid (decide ((0 : Int) ≤ (K : Int) ∧ (K : Int) ≤ (m : Int) - 1) = true) := decide_eq_true (by omega)
      rw [D.out] at CI
      obtain ⟨n1, n2, n3, hE⟩ := net_true hn
      have hc := edg_true (edgAll_at hE hK)
      obtain ⟨A', c', e, hmx, hxs, hA⟩ := h
      simp at e
      obtain ⟨rfl, rfl⟩ := e
      obtain ⟨b, off, rfl, hb, hcell⟩ := hA (by omega)
      have HC : Hid (∀ u, Below w.heap.size w u → u.cell? ⟨b, off + K * 3 + 2, none⟩ = some (.int .i64 (xs.getD (K * 3 + 2) 0))) := fun u hu => by
        rw [hu.cell (p := ⟨b, off + K * 3 + 2, none⟩) hb]; exact hcell (K * 3 + 2) (by omega)
      have b1 : (0 : Int) ≤ (K : Int) := by omega
      have b2 : (K : Int) < (m : Int) := by omega
      by_cases hz : xs.getD (K * 3 + 2) 0 = 0
      · have G : Hid (grB N m xs K 0 = false) := grB_eq hz
        unfold blA
        rw [G.out]
        rw [hz] at HC
        clear hn hA hcell hE hc hxs hmx hr hz
        go_enter Try.func34, Try.ntmps34
        go_wp2_with fail
        refine C0.out.mono ?_
        rintro e w1 ⟨rfl, hb⟩
        have HB := Lib.hid hb
        have q := HC.out w1 hb
        clear hb
        go_wp2_with fail
        refine (CI.out w1).mono ?_
        rintro e w2 ⟨rfl, rfl⟩
        go_wp2
        go_ret2
        exact ⟨rfl, HB.out⟩
      · have G : Hid (grB N m xs K 0 = true) := grB_yes hn hK hz
        have H2 := Lib.hid (net_grow (x := (-1)) hn hK hxs (by omega) (by omega))
        have HR : Hid (blA N m xs K = decide (gfV N m (growX xs K (-1)) < gfV N m xs)) := by
          show _ = _
          unfold blA
          rw [G.out]
          rfl
        rw [HR.out, G.out]
        have hz' : (xs.getD (K * 3 + 2) 0 == 0) = false := beq_eq_false_iff_ne.2 hz
        clear HR hn hA hcell hE hxs hmx hr
        generalize hy : xs.getD (K * 3 + 2) 0 = y at *
        clear hy
        go_enter Try.func34, Try.ntmps34
        go_wp2_with fail
        refine C0.out.mono ?_
        rintro e w1 ⟨rfl, hb⟩
        have HB := Lib.hid hb
        have q := HC.out w1 hb
        have HS1 := Lib.hid (HS.out.below hb)
        clear hb
        go_wp2_with fail
        refine (CI.out w1).mono ?_
        rintro e w2 ⟨rfl, rfl⟩
        go_wp2_with fail
        refine (c_mfWith N m K (-1) xs _ w1 hK HN.out (by omega) (by omega) H2.out HS1.out).mono ?_
        rintro e w2 ⟨rfl, hb⟩
        have HB2 : Hid (Below w.heap.size w w2) := HB.out.trans (hb.mono HB.out.size)
        have HS2 := Lib.hid (HS1.out.below hb)
        clear hb
        go_wp2_with fail
        refine (c_mfValue N m xs _ w2 (netW_of HN.out) HS2.out).mono ?_
        rintro e w3 ⟨rfl, hb⟩
        have HB3 : Hid (Below w.heap.size w w3) := HB2.out.trans (hb.mono HB2.out.size)
        clear hb
        go_wp2
        go_ret2
        exact ⟨rfl, HB3.out⟩
    · have G : Hid (grB N m xs k 0 = false) := grB_out hr
      have D : Hid (decide ((0 : Int) ≤ k ∧ k ≤ (m : Int) - 1) = false) := decide_eq_false (by omega)
      rw [D.out] at CI
      unfold blA
      rw [G.out]
      clear hn h hr
      go_enter Try.func34, Try.ntmps34
      go_wp2_with fail
      refine C0.out.mono ?_
      rintro e w1 ⟨rfl, hb⟩
      have HB := Lib.hid hb
      clear hb
      go_wp2_with fail
      refine (CI.out w1).mono ?_
      rintro e w2 ⟨rfl, rfl⟩
      go_wp2
      go_ret2
      exact ⟨rfl, HB.out⟩
end Go.Proofs.Ytgboedfnkkckkaa
