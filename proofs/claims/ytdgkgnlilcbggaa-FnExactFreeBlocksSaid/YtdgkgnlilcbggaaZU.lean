/-
  Contract: the numbers of steps from the source, in the model.
-/
import Derived.Test.YtdgkgnlilcbggaaZG
import Derived.BigRegion
import Derived.IntWalk
namespace Go.Proofs.Ytdgkgnlilcbggaa
open Go.RowKit
set_option linter.unusedVariables false

/-- The heads, what is left, the arcs of each node. -/
def netX (fr tg : Nat → Nat) (n m : Nat) (R : List Int) : Nat → List Int
  | 0 => hdL fr tg m
  | 1 => R
  | u + 2 => (arcL fr tg n m).getD u []
theorem netX_res (fr tg : Nat → Nat) (cp : Nat → Int) (n m : Nat) : ∀ i, resX fr tg cp n m i = netX fr tg n m (rmL cp m) i
  | 0 => rfl
  | 1 => rfl
  | _ + 2 => rfl
theorem netX_upd (fr tg : Nat → Nat) (n m : Nat) (R R' : List Int) : ∀ i, upd (netX fr tg n m R) 1 R' i = netX fr tg n m R' i
  | 0 => by rw [upd_far _ _ (by omega)]; rfl
  | 1 => by rw [upd_same]; rfl
  | u + 2 => by rw [upd_far _ _ (by omega)]; rfl
/-- How the three slices read, in every world in which what lies below is as it was. -/
structure NetR (w : World) (n m gl : Nat) (fr tg : Nat → Nat) (R : List Int) (v0 v1 : Value) : Prop where
  hd : ∀ a, a < 2 * m → ∃ b c, v0 = .slice (some ⟨b, 0, none⟩) (2 * m) c ∧ b < w.heap.size ∧ w.cell? ⟨b, a, none⟩ = some (.int .i64 (hdA fr tg a))
  rm : ∀ a, a < 2 * m → ∃ b c, v1 = .slice (some ⟨b, 0, none⟩) (2 * m) c ∧ b < w.heap.size ∧ w.cell? ⟨b, a, none⟩ = some (.int .i64 (R.getD a 0))
  lv : ∀ u, u < n → ∃ A c, gl < w.heap.size ∧ w.cell? ⟨gl, u, none⟩ = some (.slice A ((arcL fr tg n m).getD u []).length c) ∧ ∀ t, t < ((arcL fr tg n m).getD u []).length → ∃ b, A = some ⟨b, 0, none⟩ ∧ b < w.heap.size ∧ w.cell? ⟨b, t, none⟩ = some (.int .i64 (((arcL fr tg n m).getD u []).getD t 0))
theorem NetR.below {w w' : World} {n m gl : Nat} {fr tg : Nat → Nat} {R : List Int} {v0 v1 : Value} (h : NetR w n m gl fr tg R v0 v1) (hb : Below w.heap.size w w') : NetR w' n m gl fr tg R v0 v1 := by
  refine ⟨fun a ha => ?_, fun a ha => ?_, fun u hu => ?_⟩
  · obtain ⟨b, c, e, hl, hc⟩ := h.hd a ha
    exact ⟨b, c, e, Nat.lt_of_lt_of_le hl hb.size, by rw [hb.cell (p := ⟨b, a, none⟩) hl]; exact hc⟩
  · obtain ⟨b, c, e, hl, hc⟩ := h.rm a ha
    exact ⟨b, c, e, Nat.lt_of_lt_of_le hl hb.size, by rw [hb.cell (p := ⟨b, a, none⟩) hl]; exact hc⟩
  · obtain ⟨A, c, hl, hc, ht⟩ := h.lv u hu
    refine ⟨A, c, Nat.lt_of_lt_of_le hl hb.size, by rw [hb.cell (p := ⟨gl, u, none⟩) hl]; exact hc, fun t htl => ?_⟩
    obtain ⟨b, e, hl2, hc2⟩ := ht t htl
    exact ⟨b, e, Nat.lt_of_lt_of_le hl2 hb.size, by rw [hb.cell (p := ⟨b, t, none⟩) hl2]; exact hc2⟩
theorem netR_of {w : World} {B n m gl : Nat} {fr tg : Nat → Nat} {R : List Int} {vs : Nat → Value} (hf : Fam w B (n + 2) vs (netX fr tg n m R)) (ho : w.ownsRow B 23 1 (.slice (some ⟨gl, 0, none⟩) n n) n (mapR n vs)) (hR : R.length = 2 * m) : NetR w n m gl fr tg R (vs 0) (vs 1) := by
  refine ⟨fun a ha => ?_, fun a ha => ?_, fun u hu => ?_⟩
  · have h0 : Row w B (vs 0) (hdL fr tg m) := hf.row 0 (by omega)
    obtain ⟨b, c, e, _, hl⟩ := h0.form (by rw [hdL_len]; omega)
    rw [hdL_len] at e
    rw [e, ← hdL_len fr tg m] at h0
    exact ⟨b, c, e, hl, by rw [h0.cell a (by rw [hdL_len]; exact ha), hdL_at fr tg ha]⟩
  · have h0 : Row w B (vs 1) R := hf.row 1 (by omega)
    obtain ⟨b, c, e, _, hl⟩ := h0.form (by omega)
    rw [hR] at e
    rw [e, ← hR] at h0
    exact ⟨b, c, e, hl, h0.cell a (by omega)⟩
  · have h0 : Row w B (vs (u + 2)) ((arcL fr tg n m).getD u []) := hf.row (u + 2) (by omega)
    obtain ⟨A, c, e⟩ := h0.shape
    refine ⟨A, c, (World.ownsRow.lt ho gl rfl).2, by rw [own_at ho hu, e], fun t ht => ?_⟩
    obtain ⟨b, c', e', _, hl⟩ := h0.form (by omega)
    rw [e] at e'
    simp at e'
    obtain ⟨rfl, rfl⟩ := e'
    rw [e] at h0
    exact ⟨b, rfl, hl, h0.cell t ht⟩

/-- The first k of n marked as unreached. -/
def unrL (n k : Nat) : List Int := List.replicate k (-1) ++ List.replicate (n - k) 0
theorem unrL_set (n k : Nat) (h : k < n) : (unrL n k).set k (-1) = unrL n (k + 1) := by
  unfold unrL
  rw [show n - k = (n - (k + 1)) + 1 by omega, List.replicate_succ, List.set_append_right _ _ (by simp)]
  simp [List.replicate_succ']
theorem unrL_len (n k : Nat) (h : k ≤ n) : (unrL n k).length = n := by simp [unrL]; omega
/-- What a search for steps gives. -/
def GivesLev (w : World) (n m : Nat) (fr tg : Nat → Nat) (R : List Int) (e : Ending) (w' : World) : Prop := ∃ d v, e = .returned v ∧ Row w' w.heap.size v d ∧ Lev n fr tg m R d ∧ Below w.heap.size w w'
theorem bfs_next {n : Nat} {fr tg : Nat → Nat} {m : Nat} {R d q : List Int} {i u : Nat} (hE : EndsIn n fr tg m) (hq : q.getD i 0 = (u : Int)) (h : Bfs n fr tg m R d q (fun a => (∃ j, j < i ∧ q.getD j 0 = (tlA fr tg a : Int)) ∨ ∃ s, s < ((arcL fr tg n m).getD u []).length ∧ ((arcL fr tg n m).getD u []).getD s 0 = (a : Int))) : Bfs n fr tg m R d q (fun a => ∃ j, j < i + 1 ∧ q.getD j 0 = (tlA fr tg a : Int)) :=
  h.mono fun a ha ⟨j, hj, e⟩ => by
    by_cases c : j = i
    · subst c
      have hu : u = tlA fr tg a := by omega
      subst hu
      exact .inr (arc_in_at hE ha)
    · exact .inl ⟨j, by omega, e⟩
theorem bfs_hit {n : Nat} {fr tg : Nat → Nat} {m : Nat} {R d q : List Int} {i u t a : Nat} (hE : EndsIn n fr tg m) (ha : a < 2 * m) (hi : i < q.length) (hq : q.getD i 0 = (u : Int)) (hu : tlA fr tg a = u) (hx : ((arcL fr tg n m).getD u []).getD t 0 = (a : Int)) (hR : 0 < R.getD a 0) (hd : d.getD (hdA fr tg a) 0 < 0) (h : Bfs n fr tg m R d q (fun a => (∃ j, j < i ∧ q.getD j 0 = (tlA fr tg a : Int)) ∨ ∃ s, s < t ∧ ((arcL fr tg n m).getD u []).getD s 0 = (a : Int))) :
    Bfs n fr tg m R (d.set (hdA fr tg a) (d.getD u 0 + 1)) (q ++ [(hdA fr tg a : Int)]) (fun b => (∃ j, j < i ∧ (q ++ [(hdA fr tg a : Int)]).getD j 0 = (tlA fr tg b : Int)) ∨ ∃ s, s < t + 1 ∧ ((arcL fr tg n m).getD u []).getD s 0 = (b : Int)) := by
  have := h.hit hE ha hi (by rw [hu]; exact hq) hR hd
  rw [hu] at this
  refine this.mono fun b hb hP => ?_
  rcases hP with ⟨j, hj, e⟩ | ⟨s, hs, e⟩
  · rw [getD_snoc, if_pos (by omega)] at e
    exact .inl (.inl ⟨j, hj, e⟩)
  · by_cases c : s = t
    · subst c
      exact .inr (by omega)
    · exact .inl (.inr ⟨s, by omega, e⟩)
theorem bfs_miss {n : Nat} {fr tg : Nat → Nat} {m : Nat} {R d q : List Int} {i u t a : Nat} (hx : ((arcL fr tg n m).getD u []).getD t 0 = (a : Int)) (hm : ¬ (0 < R.getD a 0 ∧ d.getD (hdA fr tg a) 0 < 0)) (h : Bfs n fr tg m R d q (fun a => (∃ j, j < i ∧ q.getD j 0 = (tlA fr tg a : Int)) ∨ ∃ s, s < t ∧ ((arcL fr tg n m).getD u []).getD s 0 = (a : Int))) :
    Bfs n fr tg m R d q (fun b => (∃ j, j < i ∧ q.getD j 0 = (tlA fr tg b : Int)) ∨ ∃ s, s < t + 1 ∧ ((arcL fr tg n m).getD u []).getD s 0 = (b : Int)) :=
  (h.miss hm).mono fun b hb hP => by
    rcases hP with hP | ⟨s, hs, e⟩
    · exact .inl (.inl hP)
    · by_cases c : s = t
      · subst c
        exact .inr (by omega)
      · exact .inl (.inr ⟨s, by omega, e⟩)

theorem row_at {w : World} {B g n c : Nat} {xs : List Int} (hn : n = xs.length) (h : Row w B (.slice (some ⟨g, 0, none⟩) n c) xs) (k : Nat) (hk : k < n) : w.cell? ⟨g, k, none⟩ = some (.int .i64 (xs.getD k 0)) ∧ w.frozen? ⟨g, k, none⟩ = false := by
  subst hn
  exact ⟨h.cell k hk, h.frozen k⟩

set_option maxHeartbeats 16000000 in
set_option maxRecDepth 100000 in
theorem c_levels (n m g gl : Nat) (fr tg : Nat → Nat) (R : List Int) (v0 v1 : Value) (w : World) (hE : EndsIn n fr tg m) (n1 : 2 ≤ n) (n2 : n ≤ 130) (n3 : m ≤ 8000) (hg : g < w.heap.size) (h0 : w.cell? ⟨g, 0, none⟩ = some (.int .i64 n)) (h1 : w.cell? ⟨g, 1, none⟩ = some v0) (h2 : w.cell? ⟨g, 2, none⟩ = some v1) (h3 : w.cell? ⟨g, 3, none⟩ = some (.slice (some ⟨gl, 0, none⟩) n n)) (h : NetR w n m gl fr tg R v0 v1) :
    Calls Try.prog 38 #[.pointer (some ⟨g, 0, none⟩)] w (GivesLev w n m fr tg R) := by
  obtain ⟨i0, hi0, hz0, hz1, hz2⟩ := info_parts int_info
  have HI := Lib.hid hi0
  have KG : Hid (∀ u, Below w.heap.size w u → u.cell? ⟨g, 0, none⟩ = some (.int .i64 n) ∧ u.cell? ⟨g, 1, none⟩ = some v0 ∧ u.cell? ⟨g, 2, none⟩ = some v1 ∧ u.cell? ⟨g, 3, none⟩ = some (.slice (some ⟨gl, 0, none⟩) n n) ∧ g < u.heap.size) := fun u hu =>
    ⟨by rw [hu.cell (p := ⟨g, 0, none⟩) hg]; exact h0, by rw [hu.cell (p := ⟨g, 1, none⟩) hg]; exact h1, by rw [hu.cell (p := ⟨g, 2, none⟩) hg]; exact h2, by rw [hu.cell (p := ⟨g, 3, none⟩) hg]; exact h3, Nat.lt_of_lt_of_le hg hu.size⟩
  have KN : Hid (∀ u, Below w.heap.size w u → NetR u n m gl fr tg R v0 v1) := fun u hu => h.below hu
  have HE : Hid (EndsIn n fr tg m) := hE
  have hmk : (Instr.makeSlice 23 (.int .i64 (n : Int)) (.int .i64 (n : Int))).run Try.prog w = .ok (.slice (some ⟨w.heap.size, 0, none⟩) n n) (w.alloc (.cells (madeCells #[.int .i64 0] n) 3)) := by
    have := run_make (P := Try.prog) w 23 3 i0 (.int .i64 0) Try.underlying23 hi0 hz0 .i64 .i64 (n : Int) (n : Int) (by omega) (by omega) (by rw [hz2]; omega) (by omega)
    simpa [hz1, Value.cells] using this
  have H0 : Hid (Row (w.alloc (.cells (madeCells #[.int .i64 0] n) 3)) w.heap.size (.slice (some ⟨w.heap.size, 0, none⟩) n n) (unrL n 0)) := by
    have := World.ownsRow_lit (base := w.heap.size) (e := 3) (size := 1) w (madeCells #[.int .i64 0] n) n (Nat.le_refl _) (by unfold maxLen; omega) (by rw [size_madeCells]; simp)
    rw [toList_madeCells_one] at this
    unfold Row Hid ints unrL
    simp only [List.replicate_zero, List.nil_append, Nat.sub_zero, List.length_replicate, List.map_replicate]
    exact this
  have US : Hid (∀ k, k < n → (unrL n k).set k (-1) = unrL n (k + 1)) := unrL_set n
  have UL : Hid (∀ k, k ≤ n → (unrL n k).length = n) := unrL_len n
  have UA : Hid (unrL n n = List.replicate n (-1)) := by show _ = _; simp [unrL]
  have BS : Hid (Bfs n fr tg m R ((List.replicate n (-1)).set 0 0) [0] (fun _ => False)) := Bfs.start fr tg m R n1
  clear hi0 hE h
  go_enter Try.func38, Try.ntmps38
  go_wp2_with fail
  clear hmk h0 h1 h2 h3
  go_loopw [16] (fun i wr => ∃ k : Nat, k ≤ n ∧ i = .int .i64 k ∧ Row wr w.heap.size (.slice (some ⟨w.heap.size, 0, none⟩) n n) (unrL n k) ∧ Below w.heap.size w wr ∧ w.heap.size + 1 = wr.heap.size) (fun i _ => n - (intOf i).toNat)
  case atStart => exact ⟨0, Nat.zero_le _, rfl, H0.out, (Below.refl _ _).alloc (Nat.le_refl _) _, by simp⟩
  case round =>
    obtain ⟨k, hk, rfl, hr, hb, hs⟩ := hrel
    have HR := Lib.hid hr
    have HB := Lib.hid hb
    clear hr hb
    by_cases hlt : k < n
    · have USk := Lib.hid (US.out k hlt)
      have HRl : Hid (n = (unrL n k).length) := (UL.out k hk).symm
      obtain ⟨p0, z0⟩ := row_at HRl.out HR.out k (by omega)
      have N1 := Lib.hid ((Row.set_ HRl.out HR.out k (-1)).1)
      rw [USk.out] at N1
      have NB : Hid (Below w.heap.size w (wr.setCell ⟨w.heap.size, k, none⟩ (.int .i64 (-1)))) := HB.out.setCell (Nat.le_refl _) _
      have b1 : (0 : Int) ≤ (k : Int) := by omega
      have b2 : (k : Int) < (n : Int) := by omega
      generalize (unrL n k).getD k 0 = y at *
      go_wp2
      go_roundw
      case rel => exact ⟨k + 1, by omega, by go_num, N1.out, NB.out, by simpa using hs⟩
      case measure => simp [intOf]; omega
    · obtain rfl : k = n := by omega
      have HRl : Hid (k = (unrL k k).length) := (UL.out k (Nat.le_refl _)).symm
      obtain ⟨p0, z0⟩ := row_at HRl.out HR.out 0 (by omega)
      have N1 := Lib.hid ((Row.set_ HRl.out HR.out 0 0).1)
      rw [UA.out] at N1
      have NB : Hid (Below w.heap.size w (wr.setCell ⟨w.heap.size, 0, none⟩ (.int .i64 0))) := HB.out.setCell (Nat.le_refl _) _
      have NQ : Hid (Row ((wr.setCell ⟨w.heap.size, 0, none⟩ (.int .i64 0)).alloc (.cells #[.int .i64 0] 3)) wr.heap.size (.slice (some ⟨wr.heap.size, 0, none⟩) 1 1) [0]) := by
        have := World.ownsRow_lit (base := wr.heap.size) (e := 3) (size := 1) (wr.setCell ⟨w.heap.size, 0, none⟩ (.int .i64 0)) #[.int .i64 0] 1 (by simp) (by unfold maxLen; omega) (by simp)
        have e : (wr.setCell ⟨w.heap.size, 0, none⟩ (.int .i64 0)).heap.size = wr.heap.size := by simp
        rw [e] at this
        exact this
      have ND : Hid (Row ((wr.setCell ⟨w.heap.size, 0, none⟩ (.int .i64 0)).alloc (.cells #[.int .i64 0] 3)) w.heap.size (.slice (some ⟨w.heap.size, 0, none⟩) k k) ((List.replicate k (-1)).set 0 0)) := World.ownsRow.alloc N1.out _
      have NB2 : Hid (Below w.heap.size w ((wr.setCell ⟨w.heap.size, 0, none⟩ (.int .i64 0)).alloc (.cells #[.int .i64 0] 3))) := NB.out.alloc (by simp; omega) _
      have b0 : (0 : Int) < (k : Int) := by omega
      clear N1 NB US UL UA H0 HR HB
      generalize (unrL k k).getD 0 0 = y at *
      generalize (List.replicate k (-1 : Int)).set 0 0 = d0 at *
      go_wp2_with fail
      clear p0 z0
      obtain ⟨B5, hB5⟩ : ∃ x, x = wr.heap.size := ⟨_, rfl⟩
      rw [← hB5] at NQ hs
      have zz : B5 ≤ ((wr.setCell ⟨w.heap.size, 0, none⟩ (.int .i64 0)).alloc (.cells #[.int .i64 0] 3)).heap.size := by simp; omega
      rw [← hB5]
      clear hB5
      generalize (wr.setCell ⟨w.heap.size, 0, none⟩ (.int .i64 0)).alloc (.cells #[.int .i64 0] 3) = wq at *
      go_loopw [5, 6] (fun sl iv wr => ∃ (i : Nat) (q d : List Int), iv = .int .i64 i ∧ i ≤ q.length ∧ Row wr B5 sl q ∧ Row wr w.heap.size (.slice (some ⟨w.heap.size, 0, none⟩) k k) d ∧ Bfs k fr tg m R d q (fun a => ∃ j, j < i ∧ q.getD j 0 = (tlA fr tg a : Int)) ∧ Below w.heap.size w wr ∧ B5 ≤ wr.heap.size) (fun _ iv _ => k - (intOf iv).toNat)
      case atStart => exact ⟨0, [0], d0, rfl, Nat.zero_le _, NQ.out, ND.out, BS.out.mono fun a _ ⟨j, hj, _⟩ => by omega, NB2.out, zz⟩
      case round =>
        obtain ⟨i, q, d, rfl, hi, hq, hd, hbf, hb, hs2⟩ := hrel
        have HQ := Lib.hid hq
        have HD := Lib.hid hd
        have HBf := Lib.hid hbf
        have HB := Lib.hid hb
        clear hq hd hbf hb zz
        have hqn := HBf.out.qlen
        by_cases hlt : i < q.length
        · obtain ⟨u, hu, e1, e2, e3⟩ := HBf.out.qok i hlt
          obtain ⟨gq, cq, rfl, hgq, lq⟩ := HQ.out.form (by omega)
          have pq := HQ.out.cell i hlt
          rw [e1] at pq
          obtain ⟨Au, cu, hgl, pl0, pt0⟩ := (KN.out w (Below.refl _ _)).lv u hu
          have pl : wr.cell? ⟨gl, u, none⟩ = _ := (HB.out.cell (p := ⟨gl, u, none⟩) hgl).trans pl0
          have PT := Lib.hid pt0
          have HA : Hid (∀ t, t < ((arcL fr tg k m).getD u []).length → ∃ a, a < 2 * m ∧ ((arcL fr tg k m).getD u []).getD t 0 = (a : Int) ∧ tlA fr tg a = u) := fun t ht => arc_at HE.out ht
          have hal : ((arcL fr tg k m).getD u []).length ≤ 16000 := by have := arcL_slen fr tg k u m HE.out; omega
          have HXT := Lib.hid (fun (q d : List Int) (hq : q.getD i 0 = (u : Int)) => bfs_next (R := R) (d := d) (q := q) (i := i) (u := u) HE.out hq)
          have HXH := Lib.hid (fun (q d : List Int) (t a : Nat) => bfs_hit (R := R) (d := d) (q := q) (i := i) (u := u) (t := t) (a := a) HE.out)
          have HXM := Lib.hid (fun (q d : List Int) (t a : Nat) => bfs_miss (n := k) (fr := fr) (tg := tg) (m := m) (R := R) (d := d) (q := q) (i := i) (u := u) (t := t) (a := a))
          have HBi : Hid (Bfs k fr tg m R d q (fun a => (∃ j, j < i ∧ q.getD j 0 = (tlA fr tg a : Int)) ∨ ∃ s, s < 0 ∧ ((arcL fr tg k m).getD u []).getD s 0 = (a : Int))) := HBf.out.mono fun a _ hP => by
            rcases hP with hP | ⟨s, hs, _⟩
            · exact hP
            · omega
          obtain ⟨g0, g1, g2, g3, g4⟩ := KG.out wr HB.out
          have HE1 := Lib.hid e1
          clear pl0 pt0 HBf e1 e2 e3
          generalize (arcL fr tg k m).getD u [] = ys at *
          have b1 : (0 : Int) ≤ (i : Int) := by omega
          have b2 : (i : Int) < (q.length : Int) := by omega
          have b3 : (0 : Int) ≤ (u : Int) := by omega
          have b4 : (u : Int) < (k : Int) := by omega
          go_wp2_with fail
          go_region
          go_wp2_with fail
          clear g0 g1 g2 g3 g4 pl pq b1 b2
          go_loopw [5, 43] (fun sl tv wr => ∃ (t : Nat) (q d : List Int), tv = .int .i64 t ∧ t ≤ ys.length ∧ i < q.length ∧ q.getD i 0 = (u : Int) ∧ Row wr B5 sl q ∧ Row wr w.heap.size (.slice (some ⟨w.heap.size, 0, none⟩) k k) d ∧ Bfs k fr tg m R d q (fun a => (∃ j, j < i ∧ q.getD j 0 = (tlA fr tg a : Int)) ∨ ∃ s, s < t ∧ ys.getD s 0 = (a : Int)) ∧ Below w.heap.size w wr ∧ B5 ≤ wr.heap.size) (fun _ tv _ => ys.length - (intOf tv).toNat)
          case atStart => exact ⟨0, q, d, rfl, Nat.zero_le _, hlt, HE1.out, HQ.out, HD.out, HBi.out, HB.out.drew, hs2⟩
          case round =>
            clear HQ HD HBi HB hs2 hgq lq HE1 hlt hi hqn
            obtain ⟨t, q, d, rfl, ht, hiq, he1, hq, hd, hbf, hb, hs2⟩ := hrel
            have HQ := Lib.hid hq
            have HD := Lib.hid hd
            have HBf := Lib.hid hbf
            have HB := Lib.hid hb
            have HE1 := Lib.hid he1
            clear hq hd hbf hb he1
            have hqn := HBf.out.qlen
            obtain ⟨gq, cq, rfl, hgq, lq⟩ := HQ.out.form (by omega)
            by_cases htl : t < ys.length
            · obtain ⟨a, ha, ea, eu⟩ := HA.out t htl
              obtain ⟨ba, rfl, hba, pa0⟩ := PT.out t htl
              rw [ea] at pa0
              have pa : wr.cell? ⟨ba, t, none⟩ = _ := (HB.out.cell (p := ⟨ba, t, none⟩) hba).trans pa0
              obtain ⟨bh, ch, rfl, hbh, ph0⟩ := (KN.out w (Below.refl _ _)).hd a ha
              have ph : wr.cell? ⟨bh, a, none⟩ = _ := (HB.out.cell (p := ⟨bh, a, none⟩) hbh).trans ph0
              obtain ⟨br, cr, rfl, hbr, pr0⟩ := (KN.out w (Below.refl _ _)).rm a ha
              have pr : wr.cell? ⟨br, a, none⟩ = _ := (HB.out.cell (p := ⟨br, a, none⟩) hbr).trans pr0
              obtain ⟨g0, g1, g2, g3, g4⟩ := KG.out wr HB.out
              have hxn := HE.out.hd ha
              have HXh := HXH.out q d t a ha hiq HE1.out eu ea
              have HXm := HXM.out q d t a ea
              have HDl : Hid (k = d.length) := HBf.out.len.symm
              obtain ⟨px, zx⟩ := row_at HDl.out HD.out (hdA fr tg a) hxn
              obtain ⟨pu, zu⟩ := row_at HDl.out HD.out u hu
              have pq := HQ.out.cell i hiq
              rw [HE1.out] at pq
              have du : d.getD u 0 ≤ 130 ∧ -1 ≤ d.getD u 0 := by
                obtain ⟨u', hu', f1, f2, f3⟩ := HBf.out.qok i hiq
                have : u' = u := by have := HE1.out; omega
                subst this
                omega
              have HH := Lib.hid (fun h1 h2 => HXh h1 h2 HBf.out)
              have HM := Lib.hid (fun h1 => HXm h1 HBf.out)
              clear HXh HXm pa0 ph0 pr0 HBf ea
              generalize hdA fr tg a = x at *
              have N1 := Lib.hid ((Row.set_ HDl.out HD.out x (d.getD u 0 + 1)).1)
              generalize hra : R.getD a 0 = ra at *
              generalize hdx : d.getD x 0 = dx at *
              generalize hdu : d.getD u 0 = du' at *
              have b1 : (0 : Int) ≤ (i : Int) := by omega
              have b2 : (i : Int) < (q.length : Int) := by omega
              have b5 : (0 : Int) ≤ (t : Int) := by omega
              have b6 : (t : Int) < (ys.length : Int) := by omega
              have b7 : (0 : Int) ≤ (a : Int) := by omega
              have b8 : (a : Int) < ((2 * m : Nat) : Int) := by omega
              have b9 : (0 : Int) ≤ (x : Int) := by omega
              have b10 : (x : Int) < (k : Int) := by omega
              have ng : g ≠ w.heap.size := by omega
              have nbh : bh ≠ w.heap.size := by omega
              have ngq : gq ≠ w.heap.size := by omega
              have hbh' : bh < wr.heap.size := by omega
              have hgw : w.heap.size < wr.heap.size := by omega
              clear hra hdx hdu
              by_cases hR : 0 < ra
              · by_cases hdx : dx < 0
                · have G := Lib.hid (HH.out hR hdx)
                  have RQ1 : Hid (Row (wr.setCell ⟨w.heap.size, x, none⟩ (.int .i64 (du' + 1))) B5 (.slice (some ⟨gq, 0, none⟩) q.length cq) q) := World.ownsRow.kept HQ.out (set_grown wr ⟨w.heap.size, x, none⟩ (.int .i64 (du' + 1))) (.inr (by simp [Value.ownBlock, ngq]))
                  have NB1 : Hid (Below w.heap.size w (wr.setCell ⟨w.heap.size, x, none⟩ (.int .i64 (du' + 1)))) := HB.out.setCell (Nat.le_refl _) _
                  go_wp2_with fail
                  go_region
                  go_wp2_with (at_builtin; refine wpList_append_lies _ rfl _ _ 23 rfl B5 3 i0 (.int .i64 0) 1 8 Try.underlying23 HI.out hz0 hz1 hz2 rfl (by decide) _ _ _ rfl (World.ownsRow.alloc RQ1.out _) ⟨wr.heap.size, 0, none⟩ 1 1 [.int .i64 x] rfl rfl ?c1 (ones_one _) (by omega) ?c3 ?c4 ?c5 (wr.heap.size + 1) (by simp) ?_)
                  case c1 => exact news_one (cells_one (wr.setCell ⟨w.heap.size, x, none⟩ (.int .i64 (du' + 1))) wr.heap.size (by simp) (.int .i64 (x : Int)) 3)
                  case c3 => unfold maxLen; omega
                  case c4 => omega
                  case c5 => simp; omega
                  intro g7 cap7 w7 hown hgrow hat hlt7
                  have M1 : Hid (Row w7 B5 (.slice (some ⟨g7, 0, none⟩) (q.length + 1) cap7) (q ++ [(x : Int)])) := row_one hown rfl
                  have N1a : Row ((wr.setCell ⟨w.heap.size, x, none⟩ (.int .i64 (du' + 1))).alloc (.cells #[.int .i64 (x : Int)] 3)).drew w.heap.size (.slice (some ⟨w.heap.size, 0, none⟩) k k) (d.set x (du' + 1)) := World.ownsRow.alloc N1.out _
                  have M2 : Hid (Row w7 w.heap.size (.slice (some ⟨w.heap.size, 0, none⟩) k k) (d.set x (du' + 1))) := World.ownsRow.kept N1a hgrow (.inr (by simp [Value.ownBlock]; omega))
                  have M3 : Hid (Below w.heap.size w w7) := (NB1.out.drew.alloc (by simp; omega) _).grown hgrow (by simp; omega) (fun j hj => by simp [Value.ownBlock] at hj; omega)
                  have M4 : B5 ≤ w7.heap.size := by have := hgrow.size; simp at this; omega
                  have M5 : Hid ((q ++ [(x : Int)]).getD i 0 = (u : Int)) := by show _ = _; rw [getD_snoc, if_pos hiq]; exact HE1.out
                  clear hown hgrow hat hlt7
                  go_wp2
                  go_roundw
                  case rel => exact ⟨t + 1, _, _, by go_num, by omega, by simp; omega, M5.out, M1.out, M2.out, G.out, M3.out, M4⟩
                  case measure => simp [intOf]; omega
                · have G := Lib.hid (HM.out (by omega))
                  go_wp2
                  go_roundw
                  case rel => exact ⟨t + 1, q, d, by go_num, by omega, hiq, HE1.out, HQ.out, HD.out, G.out, HB.out, hs2⟩
                  case measure => simp [intOf]; omega
              · have G := Lib.hid (HM.out (by omega))
                go_wp2
                go_roundw
                case rel => exact ⟨t + 1, q, d, by go_num, by omega, hiq, HE1.out, HQ.out, HD.out, G.out, HB.out, hs2⟩
                case measure => simp [intOf]; omega
            · obtain rfl : t = ys.length := by omega
              have G := Lib.hid (HXT.out q d HE1.out HBf.out)
              go_wp2
              go_roundw
              case rel => exact ⟨i + 1, q, d, by go_num, by omega, HQ.out, HD.out, G.out, HB.out, hs2⟩
              case measure => simp [intOf]; omega
        · obtain rfl : i = q.length := by omega
          have G := Lib.hid (HBf.out.done HE.out fun a _ ⟨j, hj, e⟩ => ⟨j, hj, e⟩)
          obtain ⟨A, cq, rfl⟩ := HQ.out.shape
          go_wp2
          go_ret
          exact ⟨d, _, rfl, HD.out, G.out, HB.out⟩
end Go.Proofs.Ytdgkgnlilcbggaa
