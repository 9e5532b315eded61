/-
Contracts: greatest flows and least cuts, in the model.
Contracts: the model's answers about greatest flows and cuts.
Contracts: networks with one capacity turned.
Contracts: whether the greatest flow turns with a capacity, in the model.
-/
import Derived.Test.YtdgkgnlilcbggaaZX
import Derived.Test.YtdgkgnlilcbggaaZI
import Derived.Test.YtdgkgnlilcbggaaNR
import Derived.Test.YtdgkgnlilcbggaaZE
import Derived.Test.YtdgkgnlilcbggaaZR
import Derived.Test.YtdgkgnlilcbggaaLP
import Derived.Test.YtdgkgnlilcbggaaAQ
import Derived.Lib.SliceRun
import Derived.Test.YtdgkgnlilcbggaaC1
namespace Go.Proofs.Ytdgkgnlilcbggaa
open Go.RowKit
set_option linter.unusedVariables false

def FullX (n m : Nat) (xs : List Int) (v : Int) (S : Nat → Bool) : Prop := Full n (eF xs) (eT xs) (eC xs) m v S
open Classical in
/-- The greatest flow. -/
noncomputable def gfV (n m : Nat) (xs : List Int) : Int := if h : ∃ v S, FullX n m xs v S then h.choose else 0
open Classical in
/-- The least cut. -/
noncomputable def gcS (n m : Nat) (xs : List Int) : Nat → Bool := if h : ∃ v S, FullX n m xs v S then h.choose_spec.choose else fun _ => false
theorem gf_eq {n m : Nat} {xs : List Int} {v : Int} {S : Nat → Bool} (h : FullX n m xs v S) : gfV n m xs = v := by
  have hx : ∃ v S, FullX n m xs v S := ⟨v, S, h⟩
  unfold gfV
  rw [dif_pos hx]
  exact (full_uniq hx.choose_spec.choose_spec h).1
theorem gc_eq {n m : Nat} {xs : List Int} {v : Int} {S : Nat → Bool} (h : FullX n m xs v S) {u : Nat} (hu : u < n) : gcS n m xs u = S u := by
  have hx : ∃ v S, FullX n m xs v S := ⟨v, S, h⟩
  unfold gcS
  rw [dif_pos hx]
  exact (full_uniq hx.choose_spec.choose_spec h).2 u hu
theorem lev_same {n m : Nat} {fr tg : Nat → Nat} {R d d2 : List Int} (hE : EndsIn n fr tg m) (h : Lev n fr tg m R d) (h2 : Lev n fr tg m R d2) {v : Nat} (hv : v < n) (h0 : 0 ≤ d2.getD v 0) : 0 ≤ d.getD v 0 := by
  obtain ⟨s, hs⟩ := Int.eq_ofNat_of_zero_le h0
  have := lev_least (T := fun u => decide (0 ≤ d.getD u 0)) hE h2 (decide_eq_true (by rw [h.src]; omega)) (fun a ha h3 h4 => decide_eq_true (h.clos a ha (of_decide_eq_true h3) h4)) s v hv hs
  exact of_decide_eq_true this
/-- Behind a run. -/
def GivesFull (w : World) (n m : Nat) (xs : List Int) (e : Ending) (w' : World) : Prop :=
  ∃ g gl vs R d, e = .returned (.int .i64 (gfV n m xs)) ∧ w.heap.size ≤ g ∧ RQ w' w.heap.size g 1 gl n 63 vs (netX (eF xs) (eT xs) n m R) ∧ w'.cell? ⟨g, 0, none⟩ = some (.int .i64 n) ∧ R.length = 2 * m ∧ Lev n (eF xs) (eT xs) m R d ∧ (∀ u, u < n → gcS n m xs u = decide (0 ≤ d.getD u 0)) ∧ Below w.heap.size w w'
theorem run_start {n m g gl B : Nat} {xs : List Int} {vs : Nat → Value} {w : World} (hn : netW n m xs = true) (hBg : B ≤ g) (hq : RQ w B g 1 gl n 63 vs (resX (eF xs) (eT xs) (eC xs) n m)) (h0 : w.cell? ⟨g, 0, none⟩ = some (.int .i64 n)) :
    Calls Try.prog 37 #[.pointer (some ⟨g, 0, none⟩)] w (fun e w' => ∃ R d, e = .returned (.int .i64 (gfV n m xs)) ∧ RQ w' B g 1 gl n 63 vs (netX (eF xs) (eT xs) n m R) ∧ w'.cell? ⟨g, 0, none⟩ = some (.int .i64 n) ∧ R.length = 2 * m ∧ Lev n (eF xs) (eT xs) m R d ∧ (∀ u, u < n → gcS n m xs u = decide (0 ≤ d.getD u 0)) ∧ Below B w w') := by
  obtain ⟨n1, n2, n3, _⟩ := netW_true hn
  have hE := ends_in hn
  have hq' : RQ w B g 1 gl n 63 vs (netX (eF xs) (eT xs) n m (rmL (eC xs) m)) := ⟨hq.fam.congr fun i _ => netX_res _ _ _ _ _ i, hq.own, hq.c0, hq.c1, hq.c2, hq.fz, hq.ty⟩
  refine (c_run n m g gl B (eF xs) (eT xs) (eC xs) (rmL (eC xs) m) vs w hE (by omega) (by omega) n3 (fun k hk => (eF_at hn hk).2.2.2) hBg hq' h0 (rmL_res fun k hk => (eF_at hn hk).2.2.1) (fun p => rmL_net p)).mono fun e w' hr => ?_
  obtain ⟨s, R, d, he, h1, h2, h3, h4, h5, h6, h7⟩ := hr
  have hf : FullX n m xs s (fun u => decide (0 ≤ d.getD u 0)) := full_of_lev hE h3 h4 h5 h6
  exact ⟨R, d, by rw [he, gf_eq hf], h1, h2, h3.len, h5, fun u hu => gc_eq hf hu, h7⟩

set_option maxHeartbeats 8000000 in
set_option maxRecDepth 100000 in
theorem c_mfLeast (n m : Nat) (xs : List Int) (v : Value) (w : World) (hn : netW n m xs = true) (h : SeenP w v m xs) :
    Calls Try.prog 25 #[.int .i64 n, v] w (GivesRow w (sel (fun x => gcS n m xs x.toNat) n)) := by
  obtain ⟨i0, hi0, hz0, hz1, hz2⟩ := info_parts int_info
  have HI := Lib.hid hi0
  clear hi0
  have C0 := Lib.hid (c_mfStart n m xs v w hn h)
  have HN := Lib.hid hn
  obtain ⟨n1, n2, n3, _⟩ := netW_true hn
  obtain ⟨A, c, rfl, _, _, _⟩ := h
  clear hn
  go_enter Try.func25, Try.ntmps25
  go_wp2_with fail
  refine C0.out.mono ?_
  rintro e w1 ⟨g, gl, vs, rfl, h0, hg, hq, hb⟩
  have C1 := Lib.hid (run_start HN.out hg hq h0)
  have HB := Lib.hid hb
  clear h0 hg hq hb
  go_wp2_with fail
  refine C1.out.mono ?_
  rintro e w2 ⟨R, d, rfl, hq, h0, hR, hlev, hgc, hb⟩
  have HB2 : Hid (Below w.heap.size w w2) := HB.out.trans hb
  have CL := Lib.hid (c_levels n m g gl (eF xs) (eT xs) R (vs 0) (vs 1) w2 (ends_in HN.out) (by omega) (by omega) n3 hq.ty.lt h0 hq.c0 hq.c1 hq.c2 (netR_of hq.fam hq.own hR))
  have HLev : Hid (Lev n (eF xs) (eT xs) m R d) := hlev
  have HGc := Lib.hid hgc
  clear hq h0 hR hlev hgc hb
  go_wp2_with fail
  refine CL.out.mono ?_
  rintro e w3 ⟨d2, v3, rfl, hrow, hlev2, hb⟩
  have HP : Hid (∀ k, k < n → gcS n m xs k = decide (0 ≤ d2.getD k 0)) := fun k hk => by
    rw [HGc.out k hk]
    exact decide_eq_decide.2 ⟨fun h => lev_same (ends_in HN.out) hlev2 HLev.out hk h, fun h => lev_same (ends_in HN.out) HLev.out hlev2 hk h⟩
  have HB3 : Hid (Below w.heap.size w w3) := HB2.out.trans (hb.mono HB2.out.size)
  obtain ⟨gd, cd, rfl, hgd, lgd⟩ := hrow.form (by rw [hlev2.len]; omega)
  rw [hlev2.len] at hrow ⊢
  have HRow := Lib.hid hrow
  have HDl : Hid (n = d2.length) := hlev2.len.symm
  have hsz : w.heap.size ≤ w3.heap.size := HB3.out.size
  have hlo := Lib.hid hlev2.lo
  have hhi := Lib.hid hlev2.hi
  clear hrow hlev2 hb C0 C1 CL HGc HLev HB HB2
  have EP : Hid (∀ k : Nat, k < n → (fun x : Int => gcS n m xs x.toNat) (k : Int) = decide (0 ≤ d2.getD k 0)) := fun k hk => by
    show gcS n m xs (k : Int).toNat = _
    rw [Int.toNat_natCast]; exact HP.out k hk
  clear HP
  obtain ⟨p, hp⟩ : ∃ p : Int → Bool, p = fun x : Int => gcS n m xs x.toNat := ⟨_, rfl⟩
  rw [← hp] at EP
  have HPe := Lib.hid hp
  clear hp
  go_wp2_with fail
  go_loopw [6, 17] (fun q i wr => ∃ k : Nat, k ≤ n ∧ i = .int .i64 k ∧ Row wr w3.heap.size q (sel p k) ∧ Below w3.heap.size w3 wr) (fun _ i _ => n - (RowKit.intOf i).toNat)
  case atStart => exact ⟨0, Nat.zero_le _, rfl, Row.nil _ _, Below.refl _ _⟩
  case round =>
    obtain ⟨k, hk, rfl, hrw, hb⟩ := hrel
    have HR := Lib.hid hrw
    have HB := Lib.hid hb
    clear hrw hb
    by_cases hlt : k < n
    · obtain ⟨q0, _⟩ := row_at HDl.out HRow.out k hlt
      have q1 : wr.cell? ⟨gd, k, none⟩ = some (.int .i64 (d2.getD k 0)) := by rw [HB.out.cell (p := ⟨gd, k, none⟩) lgd]; exact q0
      have EPk := EP.out k hlt
      have hlen := sel_len p k
      have sw := HB.out.size
      clear q0
      generalize d2.getD k 0 = x at *
      have b1 : (0 : Int) ≤ (k : Int) := by omega
      have b2 : (k : Int) < (n : Int) := by omega
      by_cases hx : 0 ≤ x
      · have G : Hid (p (k : Int) = true) := by rw [Hid, EPk]; exact decide_eq_true hx
        clear EPk
        go_wp2_with (at_builtin; refine wpList_append_own _ rfl _ _ 23 rfl (w3.heap.size) 3 i0 (.int .i64 0) 1 8 Try.underlying23 HI.out hz0 hz1 hz2 rfl (by decide) _ _ _ rfl (World.ownsRow.alloc HR.out _) ⟨wr.heap.size, 0, none⟩ 1 1 [.int .i64 k] rfl rfl ?c1 ?c2 ?c3 ?c4 ?c5 ?_)
        case c1 => exact news_one (by simp)
        case c2 => exact ones_one _
        case c3 => unfold maxLen; omega
        case c4 => omega
        case c5 => simp; omega
        intro v' w5 hown' hgrow _
        have R1 : Hid (Row w5 w3.heap.size v' (sel p (k + 1))) := by rw [sel_hit G.out]; exact row_more hown'
        have R2 : Hid (Below w3.heap.size w3 w5) := (HB.out.alloc sw _).grown hgrow (by simp; omega) (fun g hg => (World.ownsRow.lt HR.out g hg).1)
        clear hown' hgrow
        go_wp2
        go_roundw
        case rel => exact ⟨k + 1, by omega, by go_num, R1.out, R2.out⟩
        case measure => simp [RowKit.intOf]; omega
      · have G : Hid (p (k : Int) = false) := by rw [Hid, EPk]; exact decide_eq_false hx
        clear EPk
        go_wp2
        go_roundw
        case rel => exact ⟨k + 1, by omega, by go_num, by rw [sel_miss G.out]; exact HR.out, HB.out⟩
        case measure => simp [RowKit.intOf]; omega
    · obtain rfl : k = n := by omega
      have G := Lib.hid (HR.out.mono hsz)
      have GB : Hid (Below w.heap.size w wr) := HB3.out.trans (HB.out.mono hsz)
      go_wp2
      go_ret
      exact ⟨_, rfl, by rw [← HPe.out]; exact G.out, GB.out⟩
end Go.Proofs.Ytdgkgnlilcbggaa

namespace Go.Proofs.Ytdgkgnlilcbggaa
open Go.RowKit
set_option linter.unusedVariables false

theorem getD_rgt {P Q : List Int} {i j : Nat} (h : i = P.length + j) : (P ++ Q).getD i 0 = Q.getD j 0 := by
  subst h
  rw [List.getD_eq_getElem?_getD, List.getElem?_append_right (by omega), Nat.add_sub_cancel_left, ← List.getD_eq_getElem?_getD]
theorem getD_lft {P Q : List Int} {i : Nat} (h : i < P.length) : (P ++ Q).getD i 0 = P.getD i 0 := by simp [List.getD_eq_getElem?_getD, List.getElem?_append_left h]
theorem turL_at (n : Int) (xs : List Int) : ∀ (m k : Nat), k < m → (turL n xs m).getD (k * 3) 0 = n - 1 - xs.getD (k * 3 + 1) 0 ∧ (turL n xs m).getD (k * 3 + 1) 0 = n - 1 - xs.getD (k * 3) 0 ∧ (turL n xs m).getD (k * 3 + 2) 0 = xs.getD (k * 3 + 2) 0
  | 0, k, h => by omega
  | m + 1, k, h => by
    have hl := turL_len n xs m
    unfold turL
    by_cases e : k = m
    · subst e
      exact ⟨getD_rgt (j := 0) (by omega), getD_rgt (j := 1) (by omega), getD_rgt (j := 2) (by omega)⟩
    · have ih := turL_at n xs m k (by omega)
      rw [getD_lft (by omega), getD_lft (by omega), getD_lft (by omega)]
      exact ih
theorem net_turn {n : Int} {m : Nat} {xs : List Int} (h : netB n m xs = true) : netB n m (turL n xs m) = true := by
  obtain ⟨h1, h2, h3, h4⟩ := net_true h
  unfold netB
  simp only [Bool.and_eq_true, decide_eq_true_eq]
  refine ⟨⟨h1, h2, h3⟩, edgAll_true fun k hk => ?_⟩
  obtain ⟨e1, e2, e3⟩ := turL_at n xs m k hk
  have := edg_true (edgAll_at h4 hk)
  rw [e1, e2, e3]
  exact edg_mk (by omega)
theorem netW_turn {n : Int} {m : Nat} {xs : List Int} (h : netW n m xs = true) : netW n m (turL n xs m) = true := by
  obtain ⟨h1, h2, h3, h4⟩ := netW_true h
  refine netW_mk h1 h2 h3 (edgAll_true fun k hk => ?_)
  obtain ⟨e1, e2, e3⟩ := turL_at n xs m k hk
  have := edg_true (edgAll_at h4 hk)
  rw [e1, e2, e3]
  exact edg_mk (by omega)
/-- What the answers say. -/
noncomputable def gfA (n : Int) (m : Nat) (xs : List Int) : Int := if netB n m xs then gfV n.toNat m xs else 0
noncomputable def lcP (n m : Nat) (xs : List Int) : Int → Bool := fun x => gcS n m xs x.toNat
noncomputable def lcA (n : Int) (m : Nat) (xs : List Int) : List Int := if netB n m xs then sel (lcP n.toNat m xs) n.toNat else []
noncomputable def gtP (n m : Nat) (xs : List Int) : Int → Bool := fun x => !(lcP n m (turL n xs m) ((n : Int) - 1 - x))
noncomputable def gtA (n : Int) (m : Nat) (xs : List Int) : List Int := if netB n m xs then sel (gtP n.toNat m xs) n.toNat else []
theorem gfA_no {n : Int} {m : Nat} {xs : List Int} (h : netB n m xs = false) : gfA n m xs = 0 := by unfold gfA; rw [h]; rfl
theorem gfA_yes {n : Nat} {m : Nat} {xs : List Int} (h : netB n m xs = true) : gfA n m xs = gfV n m xs := by unfold gfA; rw [h]; rfl
theorem lcA_no {n : Int} {m : Nat} {xs : List Int} (h : netB n m xs = false) : lcA n m xs = [] := by unfold lcA; rw [h]; rfl
theorem lcA_yes {n : Nat} {m : Nat} {xs : List Int} (h : netB n m xs = true) : lcA n m xs = sel (lcP n m xs) n := by unfold lcA; rw [h]; rfl
theorem gtA_no {n : Int} {m : Nat} {xs : List Int} (h : netB n m xs = false) : gtA n m xs = [] := by unfold gtA; rw [h]; rfl
theorem gtA_yes {n : Nat} {m : Nat} {xs : List Int} (h : netB n m xs = true) : gtA n m xs = sel (gtP n m xs) n := by unfold gtA; rw [h]; rfl

set_option maxHeartbeats 8000000 in
set_option maxRecDepth 100000 in
theorem c_mfMost (n m : Nat) (xs : List Int) (v : Value) (w : World) (hn : netW n m xs = true) (h : SeenP w v m xs) :
    Calls Try.prog 27 #[.int .i64 n, v] w (GivesRow w (sel (gtP n m xs) n)) := by
  obtain ⟨i0, hi0, hz0, hz1, hz2⟩ := info_parts int_info
  have HI := Lib.hid hi0
  clear hi0
  obtain ⟨n1, n2, n3, _⟩ := netW_true hn
  have C0 := Lib.hid (c_mfTurn n m xs v w (by omega) hn h)
  have HN := Lib.hid (netW_turn hn)
  obtain ⟨A, c, rfl, _, _, _⟩ := h
  have EP : Hid (∀ k : Nat, k < n → gtP n m xs (k : Int) = !(hasI (sel (lcP n m (turL n xs m)) n) ((n : Int) - 1 - k))) := fun k hk => by
    unfold gtP hasI
    congr 1
    rw [Bool.eq_iff_iff, decide_eq_true_iff, mem_sel]
    unfold inr
    simp
    intro _
    omega
  clear hn
  generalize gtP n m xs = p at *
  generalize turL n xs m = ys at *
  go_enter Try.func27, Try.ntmps27
  go_wp2_with fail
  refine C0.out.mono ?_
  rintro e w1 ⟨v1, rfl, hr, hb⟩
  have HS1 := Lib.hid hr.seen
  have HB := Lib.hid hb
  clear hr hb C0
  go_wp2_with fail
  refine (c_mfLeast n m ys v1 w1 HN.out HS1.out).mono ?_
  rintro e w2 ⟨v2, rfl, hr, hb⟩
  have HB2 : Hid (Below w.heap.size w w2) := HB.out.trans (hb.mono HB.out.size)
  have hql : (sel (lcP n m ys) n).length ≤ n := sel_len _ _
  have HQ : Hid (Seen w2 v2 (sel (lcP n m ys) n)) := hr.seen
  clear hb hr HB HS1 HN
  generalize sel (lcP n m ys) n = qs at *
  have CH : Hid (∀ (x : Int) (w3 : World), Below w2.heap.size w2 w3 → Calls Try.prog 18 #[v2, .int .i64 x] w3 fun e w' => e = .returned (.bool (hasI qs x)) ∧ w3 = w') := fun x w3 hb => c_l1Has qs x v2 w3 (by omega) (HQ.out.below hb)
  obtain ⟨A2, c2, rfl⟩ := HQ.out.shape
  clear HQ hql
  have hsz : w.heap.size ≤ w2.heap.size := HB2.out.size
  go_wp2_with fail
  go_loopw [6, 7] (fun q i wr => ∃ k : Nat, k ≤ n ∧ i = .int .i64 k ∧ Row wr w2.heap.size q (sel p k) ∧ Below w2.heap.size w2 wr) (fun _ i _ => n - (RowKit.intOf i).toNat)
  case atStart => exact ⟨0, Nat.zero_le _, rfl, Row.nil _ _, Below.refl _ _⟩
  case round =>
    obtain ⟨k, hk, rfl, hrw, hb⟩ := hrel
    have HR := Lib.hid hrw
    have HB := Lib.hid hb
    clear hrw hb
    by_cases hlt : k < n
    · have EPk := Lib.hid (EP.out k hlt)
      have CHk := Lib.hid (CH.out ((n : Int) - 1 - k) wr HB.out)
      have hlen := sel_len p k
      have sw := HB.out.size
      obtain ⟨Aq, cq, rfl⟩ := HR.out.shape
      have b1 : (0 : Int) ≤ (k : Int) := by omega
      have b2 : (k : Int) < (n : Int) := by omega
      generalize hasI qs ((n : Int) - 1 - k) = bb at *
      cases bb
      · have G : Hid (p (k : Int) = true) := EPk.out
        clear EPk
        go_wp2_with fail
        refine CHk.out.mono ?_
        rintro e w4 ⟨rfl, rfl⟩
        go_wp2_with (at_builtin; refine wpList_append_own _ rfl _ _ 23 rfl (w2.heap.size) 3 i0 (.int .i64 0) 1 8 Try.underlying23 HI.out hz0 hz1 hz2 rfl (by decide) _ _ _ rfl (World.ownsRow.alloc HR.out _) ⟨wr.heap.size, 0, none⟩ 1 1 [.int .i64 k] rfl rfl ?c1 ?c2 ?c3 ?c4 ?c5 ?_)
        case c1 => exact news_one (by simp)
        case c2 => exact ones_one _
        case c3 => unfold maxLen; omega
        case c4 => omega
        case c5 => simp; omega
        intro v' w5 hown' hgrow _
        have R1 : Hid (Row w5 w2.heap.size v' (sel p (k + 1))) := by rw [sel_hit G.out]; exact row_more hown'
        have R2 : Hid (Below w2.heap.size w2 w5) := (HB.out.alloc sw _).grown hgrow (by simp; omega) (fun g hg => (World.ownsRow.lt HR.out g hg).1)
        clear hown' hgrow
        go_wp2
        go_roundw
        case rel => exact ⟨k + 1, by omega, by go_num, R1.out, R2.out⟩
        case measure => simp [RowKit.intOf]; omega
      · have G : Hid (p (k : Int) = false) := EPk.out
        clear EPk
        go_wp2_with fail
        refine CHk.out.mono ?_
        rintro e w4 ⟨rfl, rfl⟩
        go_wp2
        go_roundw
        case rel => exact ⟨k + 1, by omega, by go_num, by rw [sel_miss G.out]; exact HR.out, HB.out⟩
        case measure => simp [RowKit.intOf]; omega
    · obtain rfl : k = n := by omega
      have G := Lib.hid (HR.out.mono hsz)
      have GB : Hid (Below w.heap.size w wr) := HB2.out.trans (HB.out.mono hsz)
      go_wp2
      go_ret
      exact ⟨_, rfl, G.out, GB.out⟩

end Go.Proofs.Ytdgkgnlilcbggaa


namespace Go.Proofs.Ytdgkgnlilcbggaa
open Go.RowKit
set_option linter.unusedVariables false

theorem rowP_noneE (w : World) : (w.alloc (.cells #[] 54)).ownsRow w.heap.size 54 3 (.slice (some ⟨w.heap.size, 0, none⟩) 0 0) 0 (ints []) := by
  have := World.ownsRow_lit (base := w.heap.size) (e := 54) (size := 3) w #[] 0 (Nat.le_refl _) (by unfold maxLen; omega) (by simp)
  simpa [ints] using this
theorem rowP_ofE {w : World} {B n : Nat} {v : Value} {X Y : List Int} (h : w.ownsRow B 54 3 v n (ints X ++ ints Y)) : RowP w B v n (X ++ Y) := by
  unfold RowP
  rw [show ints (X ++ Y) = ints X ++ ints Y by simp [ints]]
  exact h
theorem shapeE {w : World} {v : Value} {n : Nat} {xs : List Int} (h : SeenP w v n xs) : ∃ A c, v = .slice A n c := by
  obtain ⟨A, c, e, _⟩ := h
  exact ⟨A, c, e⟩
theorem src_seenE {w : World} {A : Option Addr} {n c : Nat} {xs : List Int} (h : SeenP w (.slice A n c) n xs) (h0 : 0 < n) : Src w 3 A n c (ints xs) := by
  obtain ⟨A', c', e, hm, hx, hA⟩ := h
  simp at e
  obtain ⟨rfl, rfl⟩ := e
  obtain ⟨b, off, rfl, hb, hc⟩ := hA h0
  exact src_cells 3 hx (fun e => by cases e) (fun _ => ⟨b, off, rfl, fun k hk => hc k (by omega)⟩)

/-- The capacity of edge k is greater by x. -/
def growX (xs : List Int) (k : Nat) (x : Int) : List Int := xs.set (k * 3 + 2) (xs.getD (k * 3 + 2) 0 + x)

/-- A greater, or a less, capacity: whether that can be, and what comes of it. -/
def grB (n : Int) (m : Nat) (xs : List Int) (k : Int) (z : Int) : Bool := netB n m xs && (decide (0 ≤ k ∧ k < m) && decide (xs.getD (k.toNat * 3 + 2) 0 ≠ z))
theorem net_grow {n : Int} {m k : Nat} {xs : List Int} {x : Int} (hn : netB n m xs = true) (hk : k < m) (hxs : xs.length = m * 3) (h1 : 0 ≤ xs.getD (k * 3 + 2) 0 + x) (h2 : xs.getD (k * 3 + 2) 0 + x ≤ 1000000000) : netB n m (growX xs k x) = true := by
  obtain ⟨a1, a2, a3, a4⟩ := net_true hn
  unfold netB
  simp only [Bool.and_eq_true, decide_eq_true_eq]
  refine ⟨⟨a1, a2, a3⟩, edgAll_true fun j hj => ?_⟩
  have e := edg_true (edgAll_at a4 hj)
  have g : ∀ i, (growX xs k x).getD i 0 = if i = k * 3 + 2 then xs.getD (k * 3 + 2) 0 + x else xs.getD i 0 := fun i => by
    unfold growX
    simp only [List.getD_eq_getElem?_getD, List.getElem?_set]
    by_cases c : i = k * 3 + 2
    · subst c
      simp [show k * 3 + 2 < xs.length by omega]
    · rw [if_neg (by omega), if_neg c]
  rw [g, g, g, if_neg (by omega), if_neg (by omega)]
  refine edg_mk ?_
  split
  · omega
  · omega
end Go.Proofs.Ytdgkgnlilcbggaa

namespace Go.Proofs.Ytdgkgnlilcbggaa
open Go.RowKit
set_option linter.unusedVariables false

noncomputable def meA (n : Int) (m : Nat) (xs : List Int) (k : Int) : Bool := if grB n m xs k 1000000000 then decide (gfV n.toNat m xs < gfV n.toNat m (growX xs k.toNat 1)) else false
noncomputable def blA (n : Int) (m : Nat) (xs : List Int) (k : Int) : Bool := if grB n m xs k 0 then decide (gfV n.toNat m (growX xs k.toNat (-1)) < gfV n.toNat m xs) else false
theorem grB_no {n : Int} {m : Nat} {xs : List Int} {k z : Int} (h : netB n m xs = false) : grB n m xs k z = false := by unfold grB; rw [h]; rfl
theorem grB_out {n : Int} {m : Nat} {xs : List Int} {k z : Int} (h : ¬ (0 ≤ k ∧ k < m)) : grB n m xs k z = false := by unfold grB; rw [decide_eq_false h]; simp
theorem grB_eq {n : Int} {m k : Nat} {xs : List Int} {z : Int} (h : xs.getD (k * 3 + 2) 0 = z) : grB n m xs k z = false := by unfold grB; rw [Int.toNat_natCast, decide_eq_false (show ¬ (xs.getD (k * 3 + 2) 0 ≠ z) from fun c => c h)]; simp
theorem grB_yes {n : Int} {m k : Nat} {xs : List Int} {z : Int} (hn : netB n m xs = true) (hk : k < m) (h : xs.getD (k * 3 + 2) 0 ≠ z) : grB n m xs k z = true := by
  unfold grB
  rw [Int.toNat_natCast, hn, decide_eq_true h, decide_eq_true (by omega)]
  rfl

end Go.Proofs.Ytdgkgnlilcbggaa
