/-
  Contracts: FoldRule, in the model.
-/
import Derived.Test.YtdodmcmkelegoaaH3
import Derived.Test.YtdodmcmkelegoaaE8
import Derived.Test.YtdodmcmkelegoaaE12
namespace Go.Proofs.Ytdodmcmkelegoaa
open Go.RowKit
set_option linter.unusedVariables false
set_option linter.unusedSimpArgs false

set_option maxHeartbeats 1000000 in
set_option maxRecDepth 100000 in
theorem c_ruWithout (ks vs : Nat → Int) (b o lo len c : Nat) (w : World) (hl : len ≤ 1048576) (hc : ∀ j : Nat, j < len → w.cell? ⟨b, o + j * 2, none⟩ = some (.int .i64 (ks (lo + j))) ∧ w.cell? ⟨b, o + j * 2 + 1, none⟩ = some (.int .i64 (vs (lo + j)))) :
    Calls Try.prog 143 #[.slice (some ⟨b, o, none⟩) len c] w fun e w' => e = .returned (.bool (noFd ks lo len)) ∧ Below w.heap.size w w' := by
  have HC := Lib.hid hc
  clear hc
  go_enter Try.func143, Try.ntmps143
  go_wp2_with fail
  go_loopw [7] (fun i wr => ∃ j : Nat, j ≤ len ∧ i = .int .i64 j ∧ (∀ q, q < j → ks (lo + q) ≠ 1) ∧ Below w.heap.size w wr) (fun i _ => len - (intOf i).toNat)
  case atStart => exact ⟨0, Nat.zero_le _, rfl, fun q hq => by omega, Below.refl _ _⟩
  case round =>
    obtain ⟨j, hj, rfl, hv, hbw⟩ := hrel
    have HV := Lib.hid hv
    have HB := Lib.hid hbw
    have sw := hbw.size
    clear hv hbw
    by_cases hlt : j < len
    · obtain ⟨r0, r1⟩ := HC.out j hlt
      have q0 := cell_at HB.out r0
      have q1 := cell_at HB.out r1
      have b1 : (0 : Int) ≤ (j : Int) := by omega
      have b2 : (j : Int) < (len : Int) := by omega
      have HBa : Hid (∀ k v : Int, Below w.heap.size w (wr.alloc (.cells #[.int .i64 k, .int .i64 v] 87))) := fun k v => HB.out.alloc sw _
      clear r0 r1
      by_cases h1 : ks (lo + j) = 1
      · have G : Hid (noFd ks lo len = false) := noFd_no hlt h1
        rw [h1] at q0
        clear h1
        generalize vs (lo + j) = v at *
        go_wp2
        go_ret
        exact ⟨ret_bool G.out.symm, (HBa.out _ _)⟩
      · have G : Hid (∀ q, q < j + 1 → ks (lo + q) ≠ 1) := fun q hq => by
          by_cases e : q < j
          · exact HV.out q e
          · obtain rfl : q = j := by omega
            exact h1
        have hd : (ks (lo + j) == 1) = false := by simpa using h1
        clear h1
        generalize vs (lo + j) = v at *
        generalize ks (lo + j) = k at *
        go_wp2
        go_roundw
        case rel => exact ⟨j + 1, by omega, by go_num, G.out, HBa.out _ _⟩
        case measure => simp [intOf]; omega
    · obtain rfl : j = len := by omega
      have G : Hid (noFd ks lo j = true) := noFd_yes HV.out
      go_wp2
      go_ret
      exact ⟨ret_bool G.out.symm, HB.out⟩

/-- A part by itself is a rule's list of parts. -/
theorem c_ruEvalOwn (ks vs : Nat → Int) (t : Tr) (b o lo c e : Nat) (fv : Value) (w : World) (hA : At ks t e) (hlo : lo + t.size = e + 1) (hl : t.size ≤ 39) (hb : b < w.heap.size)
    (hv : ∀ j : Nat, j < t.size → parB (ks (lo + j)) (vs (lo + j)) = true) (hn : noFd ks lo t.size = true)
    (hcell : ∀ j : Nat, j < t.size → w.cell? ⟨b, o + j * 2, none⟩ = some (.int .i64 (ks (lo + j))) ∧ w.cell? ⟨b, o + j * 2 + 1, none⟩ = some (.int .i64 (vs (lo + j)))) (hf : Seen w fv [0, 0, 0, 0, 0]) :
    Calls Try.prog 60 #[.slice (some ⟨b, o, none⟩) t.size c, fv] w fun e' w' => e' = .returned (.tuple #[.int .i64 (tvV (ev ks vs [] t e)), .bool (ev ks vs [] t e).isSome]) ∧ Below w.heap.size w w' := by
  have hz := t.size_pos
  have hat : ∀ j, j < t.size → kdf (flat2 (fun j => (ks (lo + j), vs (lo + j))) t.size) j = ks (lo + j) ∧ vdf (flat2 (fun j => (ks (lo + j), vs (lo + j))) t.size) j = vs (lo + j) := fun j hj => flat2_at (fun j => (ks (lo + j), vs (lo + j))) t.size hj
  have hlen := flat2_len (fun j => (ks (lo + j), vs (lo + j))) t.size
  have hs : SeenP w (.slice (some ⟨b, o, none⟩) t.size c) t.size (flat2 (fun j => (ks (lo + j), vs (lo + j))) t.size) := by
    refine ⟨_, c, rfl, by unfold maxLen; omega, hlen, fun _ => ⟨b, o, rfl, hb, fun k hk => ?_⟩⟩
    have hq : k / 2 < t.size := by omega
    obtain ⟨x0, x1⟩ := hcell (k / 2) hq
    obtain ⟨y0, y1⟩ := flat2_at (fun j => (ks (lo + j), vs (lo + j))) t.size hq
    have h3 : k % 2 < 2 := Nat.mod_lt _ (by omega)
    match hr : k % 2, h3 with
    | 0, _ =>
      have e : k = k / 2 * 2 := by omega
      rw [← e] at x0 y0
      rw [x0, y0]
    | 1, _ =>
      have e : k = k / 2 * 2 + 1 := by omega
      rw [Nat.add_assoc, ← e] at x1
      rw [← e] at y1
      rw [x1, y1]
  generalize flat2 (fun j => (ks (lo + j), vs (lo + j))) t.size = xs at *
  have hsame : ∀ j, j < t.size → kdf xs (t.size - 1 - j) = ks (e - j) := fun j hj => by rw [(hat _ (by omega)).1]; congr 1; omega
  have hsamev : ∀ j, j < t.size → vdf xs (t.size - 1 - j) = vs (e - j) := fun j hj => by rw [(hat _ (by omega)).2]; congr 1; omega
  have hmis := hA.mis
  obtain ⟨hfull, hone⟩ := full_of_mis (ks := kdf xs) hz (by rw [mis_same (ks := ks) (e := e) t.size hsame]; exact hmis.1) (fun s s0 s1 => by rw [mis_same (ks := ks) (e := e) s (fun j hj => hsame j (by omega))]; have := hmis.2 s s1; omega)
  obtain ⟨t', hA', hs', _, _⟩ := tree_of hfull hone
  obtain rfl : t' = t := hA.same hA' (by omega) hsame
  have hpt : ParTo xs t'.size := fun j hj => by
    have := hv j hj
    rw [← (hat j hj).1, ← (hat j hj).2] at this
    exact this
  have hno := noFd_to hn
  have hev : ev (kdf xs) (vdf xs) [0, 0, 0, 0, 0] t' (t'.size - 1) = ev ks vs [] t' e := ev_same t' e (t'.size - 1) hA (by omega) (by omega) (fun j hj => ⟨hsame j hj, hsamev j hj⟩) (.inr fun j hj => by
    have h1 := hno (e - j - lo) (by omega)
    have h2 := parB_kind (hv (e - j - lo) (by omega))
    rw [show lo + (e - j - lo) = e - j by omega] at h1 h2
    exact ⟨h1, h2.1⟩)
  have := c_ruEval t'.size xs _ [0, 0, 0, 0, 0] fv w hz hl hs hf hpt hfull rfl (fun j => by
    match j with
    | 0 => simp
    | 1 => simp
    | 2 => simp
    | 3 => simp
    | 4 => simp
    | j + 5 => simp) t' hA' hone
  rw [hev] at this
  exact this

/-- A rule and what its parts take, in memory. -/
structure FoAt (ks vs : Nat → Int) (n g b off : Nat) (w : World) : Prop where
  l : ∀ j, j < n → w.cell? ⟨b, off + j * 2, none⟩ = some (.int .i64 (ks j)) ∧ w.cell? ⟨b, off + j * 2 + 1, none⟩ = some (.int .i64 (vs j))
  tr : ∀ i, i < n → ∃ A c' m, m = (kidI ks i).length ∧ w.cell? ⟨g, i, none⟩ = some (.slice A m c') ∧ ∀ j, j < m → ∃ g', A = some ⟨g', 0, none⟩ ∧ w.cell? ⟨g', j, none⟩ = some (.int .i64 ((kidI ks i).getD j 0))
theorem FoAt.below {ks vs : Nat → Int} {n g b off : Nat} {w u : World} (h : FoAt ks vs n g b off w) (hu : Below w.heap.size w u) : FoAt ks vs n g b off u :=
  ⟨fun j hj => ⟨cell_at hu (h.l j hj).1, cell_at hu (h.l j hj).2⟩, fun i hi => by
    obtain ⟨A, c', m, e, q, hq⟩ := h.tr i hi
    refine ⟨A, c', m, e, cell_at hu q, fun j hj => ?_⟩
    obtain ⟨g', e', q'⟩ := hq j hj
    exact ⟨g', e', cell_at hu q'⟩⟩
theorem five_zeros (w : World) : Seen (w.alloc (.cells (madeCells #[.int .i64 0] 5) 3)) (.slice (some ⟨w.heap.size, 0, none⟩) 5 5) [0, 0, 0, 0, 0] := (row_zeros w 5 (by unfold maxLen; omega)).seen

set_option maxHeartbeats 8000000 in
set_option maxRecDepth 100000 in
theorem c_ruFold (ks vs : Nat → Int) (n g gc b off c K : Nat) (hn : n ≤ 39) (hnc : n ≤ c) (hpar : ∀ j, j < n → parB (ks j) (vs j) = true) : ∀ (t : Tr) (e : Nat) (w : World), t.size ≤ K → At ks t e → e < n → b < w.heap.size →
    FoAt ks vs n g b off w →
    Calls Try.prog 100 #[.slice (some ⟨b, off, none⟩) n c, .slice (some ⟨g, 0, none⟩) n gc, .int .i64 (e : Int)] w (GivesP w (foldN ks vs t e) (foldL ks vs t e)) := by
  induction K with
  | zero =>
    intro t e w hK
    have := t.size_pos
    omega
  | succ K IHK =>
    intro t e w hK hA he hb hR
    have hse := hA.size_le
    have hz := t.size_pos
    obtain ⟨lo, hlo⟩ : ∃ lo, lo + t.size = e + 1 := ⟨e + 1 - t.size, by omega⟩
    obtain ⟨m, kd, of, S, hm4, hsm, hsz, hkid, hfold⟩ := fold_split (ks := ks) (vs := vs) hA hlo
    have hki : kidI ks e = (List.range m).map (fun j => ((lo + of (j + 1) - 1 : Nat) : Int)) := by unfold kidI; rw [hkid, List.map_map]; rfl
    obtain ⟨A, c', m', hm', q2, hcc⟩ := hR.tr e he
    have hmm : m' = m := by rw [hm', hki]; simp
    subst hmm
    obtain ⟨q0, q1⟩ := hR.l e he
    obtain ⟨i0, hi0, hz0, hz1, hz2⟩ := info_parts part_info
    have HJ := Lib.hid hi0
    obtain ⟨j0, hj0, jz0, jz1, jz2⟩ := info_parts int_info
    have hmk : ∀ (W : World), (Instr.makeSlice 24 (.int .i64 5) (.int .i64 5)).run Try.prog W = .ok (.slice (some ⟨W.heap.size, 0, none⟩) 5 5) (W.alloc (.cells (madeCells #[.int .i64 0] 5) 3)) := fun W => by
      have := run_make (P := Try.prog) W 24 3 j0 (.int .i64 0) Try.underlying24 hj0 jz0 .i64 .i64 5 5 (by omega) (by omega) (by rw [jz2]; omega) (by omega)
      simpa [jz1, Value.cells] using this
    clear hi0 hj0 jz0 jz1 jz2
    have CZ : Hid (Calls Try.prog 142 #[.slice (some ⟨g, 0, none⟩) n gc, .int .i64 (e : Int)] w fun e' w' => e' = .returned (.int .i64 (t.size : Int)) ∧ w = w') := c_ruSize ks n g gc t.size t e w (Nat.le_refl _) hA he hn (fun i hi => by
      obtain ⟨A, c', m, e1, q, hq⟩ := hR.tr i hi
      exact ⟨A, c', m, e1, q, hq⟩)
    have hown : ∀ u, Below w.heap.size w u → ∀ j : Nat, j < t.size → u.cell? ⟨b, off + lo * 2 + j * 2, none⟩ = some (.int .i64 (ks (lo + j))) ∧ u.cell? ⟨b, off + lo * 2 + j * 2 + 1, none⟩ = some (.int .i64 (vs (lo + j))) := fun u hu j hj => by
      have := (hR.below hu).l (lo + j) (by omega)
      rw [show off + (lo + j) * 2 = off + lo * 2 + j * 2 by omega] at this
      exact this
    have CW : Hid (∀ u, Below w.heap.size w u → Calls Try.prog 143 #[.slice (some ⟨b, off + lo * 2, none⟩) t.size (c - lo)] u fun e w' => e = .returned (.bool (noFd ks lo t.size)) ∧ Below u.heap.size u w') := fun u hu => c_ruWithout ks vs b (off + lo * 2) lo t.size (c - lo) u (by omega) (hown u hu)
    have CE : Hid (noFd ks lo t.size = true → ∀ (fv : Value) (u : World), Below w.heap.size w u → Seen u fv [0, 0, 0, 0, 0] → Calls Try.prog 60 #[.slice (some ⟨b, off + lo * 2, none⟩) t.size (c - lo), fv] u fun e' w' => e' = .returned (.tuple #[.int .i64 (tvV (ev ks vs [] t e)), .bool (ev ks vs [] t e).isSome]) ∧ Below u.heap.size u w') := fun h fv u hu hs =>
      c_ruEvalOwn ks vs t b (off + lo * 2) lo (c - lo) e fv u hA hlo (by omega) (Nat.lt_of_lt_of_le hb hu.size) (fun j hj => hpar _ (by omega)) h (hown u hu) hs
    have HE : Hid (∀ j, j < m' → ∃ x : Nat, (∃ g', A = some ⟨g', 0, none⟩ ∧ w.cell? ⟨g', j, none⟩ = some (.int .i64 (x : Int))) ∧ (∀ u, Below w.heap.size w u → Calls Try.prog 100 #[.slice (some ⟨b, off, none⟩) n c, .slice (some ⟨g, 0, none⟩) n gc, .int .i64 (x : Int)] u (GivesP u (kidN ks vs lo kd of j) (kidL ks vs lo kd of j)))) := fun j hj => by
      have h1 := hsm j hj
      have h2 := S.next j hj
      have h3 := S.le (j := j + 1) (by omega)
      have h4 := (kd j).size_pos
      refine ⟨lo + of (j + 1) - 1, ?_, fun u hu => IHK (kd j) _ u (by omega) (S.at_ j hj) (by omega) (Nat.lt_of_lt_of_le hb hu.size) (hR.below hu)⟩
      obtain ⟨g', e', hg⟩ := hcc j hj
      refine ⟨g', e', ?_⟩
      rw [hg, hki]
      simp [List.getD_eq_getElem?_getD, hj]
    have NB : Hid (∀ j, j ≤ m' → catN (kidN ks vs lo kd of) j ≤ 39) := fun j hj => by
      have h1 := catN_le (kidN ks vs lo kd of) kd (fun j => foldN_le ks vs _ _) j
      have h2 := smz_up kd hj
      omega
    have NP : Hid (∀ j, j < m' → 0 < kidN ks vs lo kd of j ∧ kidN ks vs lo kd of j ≤ 39) := fun j hj => by
      have h1 : 0 < kidN ks vs lo kd of j := foldN_pos _ _ _ _
      have h2 : kidN ks vs lo kd of j ≤ (kd j).size := foldN_le _ _ _ _
      have h3 := hsm j hj
      exact ⟨h1, by omega⟩
    have KL : Hid (∀ j, catL (kidL ks vs lo kd of) (j + 1) = catL (kidL ks vs lo kd of) j ++ kidL ks vs lo kd of j) := fun j => rfl
    have KN : Hid (∀ j, catN (kidN ks vs lo kd of) (j + 1) = catN (kidN ks vs lo kd of) j + kidN ks vs lo kd of j) := fun j => rfl
    have K0 : Hid (catL (kidL ks vs lo kd of) 0 = [] ∧ catN (kidN ks vs lo kd of) 0 = 0) := ⟨rfl, rfl⟩
    have HC : Hid (cst ks vs t e = if noFd ks lo t.size then (ev ks vs [] t e).bind chkN else none) := Lib.hid (by unfold cst; rw [show e + 1 - t.size = lo by omega])
    have HFold := Lib.hid hfold
    have HSome : Hid (∀ r, cst ks vs t e = some r → foldL ks vs t e = [0, r] ∧ foldN ks vs t e = 1) := fun r h => fold_some h
    have s1 : ((e : Int) + 1 - (t.size : Int)) = (lo : Int) := by omega
    have s2 : e + 1 - lo = t.size := by omega
    have s3 : (lo : Int) ≤ (e : Int) + 1 := by omega
    have s4 : (e : Int) + 1 ≤ (c : Int) := by omega
    have s5 : (0 : Int) ≤ (lo : Int) := by omega
    have s6 : (lo : Int) ≤ (c : Int) := by omega
    have s7 : ¬ c = lo := by omega
    have s8 : ((e : Int) + 1).toNat = e + 1 := by omega
    have i1 : (0 : Int) ≤ (e : Int) := by omega
    have i2 : (e : Int) < (n : Int) := by omega
    have z39 : t.size ≤ 39 := by omega
    clear hK hA S hsm hsz hkid hki hm' hcc IHK hse hfold hR hown hlo hpar hz
    generalize ev ks vs [] t e = o9 at *
    generalize noFd ks lo t.size = nf at *
    generalize cst ks vs t e = cc at *
    generalize foldL ks vs t e = FL at *
    generalize foldN ks vs t e = FN at *
    generalize t.size = z at *
    generalize catL (kidL ks vs lo kd of) = CL at *
    generalize catN (kidN ks vs lo kd of) = CNN at *
    generalize kidL ks vs lo kd of = fL at *
    generalize kidN ks vs lo kd of = fN at *
    generalize ks e = kk at *
    generalize vs e = vv at *
    have HQ : Hid (w.cell? ⟨g, e, none⟩ = some (.slice A m' c') ∧ w.cell? ⟨b, off + e * 2, none⟩ = some (.int .i64 kk) ∧ w.cell? ⟨b, off + e * 2 + 1, none⟩ = some (.int .i64 vv)) := ⟨q2, q0, q1⟩
    clear q0 q1 q2
    cases nf with
    | false =>
      have hcn : cc = none := by rw [HC.out]; rfl
      have E := Lib.hid (HFold.out hcn)
      clear HC HFold HSome hcn CE
      have HBw : Hid (Below w.heap.size w w) := Below.refl _ _
      go_enter Try.func100, Try.ntmps100
      obtain ⟨q2, q0, q1⟩ := HQ.out
      go_wp2_with fail
      refine CZ.out.mono ?_
      rintro e' w0 ⟨rfl, rfl⟩
      clear q0 q1 q2
      go_wp2_with fail
      refine (CW.out _ HBw.out).mono ?_
      rintro e' w1 ⟨rfl, hb1⟩
      have HBx := Lib.hid hb1
      clear hb1 CW CZ
      obtain ⟨q2, q0, q1⟩ := HQ.out
      have p2 := cell_at HBx.out q2
      clear q2 q0 q1
      go_wp2_with fail
      go_loopw [10, 44] (fun v i wr => ∃ j : Nat, j ≤ m' ∧ i = .int .i64 j ∧ RowP wr w1.heap.size v (CNN j) (CL j) ∧ Below w1.heap.size w1 wr) (fun _ i _ => m' - (intOf i).toNat)
      case atStart => exact ⟨0, Nat.zero_le _, rfl, by rw [K0.out.1, K0.out.2]; exact RowP.nil0 _ _, Below.refl _ _⟩
      case round =>
        obtain ⟨j, hj, rfl, hr, hbw⟩ := hrel
        have HR := Lib.hid hr
        have HB := Lib.hid hbw
        have HW : Hid (Below w.heap.size w wr) := HBx.out.trans (hbw.mono HBx.out.size)
        have sw1 := hbw.size
        clear hr hbw
        by_cases hlt : j < m'
        · obtain ⟨x, ⟨g', rfl, qx⟩, hx⟩ := HE.out j hlt
          have q3 := cell_at HW.out qx
          have C := Lib.hid (hx wr HW.out)
          have j1 : (0 : Int) ≤ (j : Int) := by omega
          have j2 : (j : Int) < (m' : Int) := by omega
          have G1 := Lib.hid (KL.out j)
          have G2 := Lib.hid (KN.out j)
          have nb1 := NB.out j hj
          obtain ⟨np0, np1⟩ := NP.out j hlt
          clear qx hx
          go_wp2_with fail
          refine C.out.mono ?_
          rintro e w3 ⟨v3, rfl, hr3, hb3⟩
          obtain ⟨g3, c3, rfl, _, _⟩ := hr3.form np0
          have HS3 := Lib.hid (rowP_src hr3)
          have HR3 := Lib.hid (HR.out.below hb3)
          have HB3 : Hid (Below w1.heap.size w1 w3) := HB.out.trans (hb3.mono sw1)
          have sw3 : w1.heap.size ≤ w3.heap.size := Nat.le_trans sw1 hb3.size
          clear hr3 hb3 C
          go_wp2_with (at_builtin; refine wpList_append_src rfl _ _ 36 rfl (base := w1.heap.size) Try.underlying36 HJ.out hz0 hz1 hz2 rfl (by decide) rfl HR3.out rfl HS3.out ints_ones ?c3 ?c4 ?c5 ?_)
          case c3 => unfold maxLen; omega
          case c4 => omega
          case c5 => first | omega | (simp; omega)
          intro v8 w8 hown8 hgrow8 _
          have R8 := Lib.hid (rowP_add hown8)
          rw [← G1.out, ← G2.out] at R8
          have B8 : Hid (Below w1.heap.size w1 w8) := HB3.out.grown hgrow8 (by first | omega | (simp; omega)) (fun g hg => (World.ownsRow.lt HR3.out g hg).1)
          clear hown8 hgrow8
          go_wp2
          go_roundw
          case rel => exact ⟨j + 1, by omega, by go_num, R8.out, B8.out⟩
          case measure => simp [intOf]; omega
        · obtain rfl : j = m' := by omega
          have d0 := cell_at HW.out HQ.out.2.1
          have d1 := cell_at HW.out HQ.out.2.2
          have nb1 := NB.out j (Nat.le_refl _)
          have hs2 := HBx.out.size
          have HRb := Lib.hid (HR.out.below ((Below.refl _ _).alloc (Nat.le_refl _) (.cells #[.int .i64 kk, .int .i64 vv] 87)))
          have HBb : Hid (Below w1.heap.size w1 (wr.alloc (.cells #[.int .i64 kk, .int .i64 vv] 87))) := HB.out.alloc sw1 _
          clear HE NB NP KL KN K0 HR
          go_wp2_with (at_builtin; refine wpList_append_src rfl _ _ 36 rfl (base := w1.heap.size) Try.underlying36 HJ.out hz0 hz1 hz2 rfl (by decide) rfl HRb.out rfl (src_pair (x := kk) (y := vv) (by simp) (by simp)) ints_ones ?c3 ?c4 ?c5 ?_)
          case c3 => unfold maxLen; omega
          case c4 => omega
          case c5 => first | omega | (simp; omega)
          intro v8 w8 hown8 hgrow8 _
          have R8 := Lib.hid (RowP.mono (rowP_add (ys := [kk, vv]) hown8) hs2)
          have B8 : Hid (Below w1.heap.size w1 w8) := HBb.out.grown hgrow8 (by first | omega | (simp; omega)) (fun g hg => (World.ownsRow.lt HRb.out g hg).1)
          have B9 : Hid (Below w.heap.size w w8) := HBx.out.trans (B8.out.mono hs2)
          clear hown8 hgrow8
          go_wp2
          go_ret
          exact ⟨_, rfl, by rw [E.out.1, E.out.2]; exact R8.out, B9.out⟩
    | true =>
      cases o9 with
      | none =>
        have CE' : Hid (∀ (fv : Value) (u : World), Below w.heap.size w u → Seen u fv [0, 0, 0, 0, 0] → Calls Try.prog 60 #[.slice (some ⟨b, off + lo * 2, none⟩) z (c - lo), fv] u fun e' w' => e' = .returned (.tuple #[.int .i64 0, .bool false]) ∧ Below u.heap.size u w') := CE.out rfl
        have hcn : cc = none := by rw [HC.out]; rfl
        have E := Lib.hid (HFold.out hcn)
        clear HC HFold HSome hcn CE
        have HBw : Hid (Below w.heap.size w w) := Below.refl _ _
        go_enter Try.func100, Try.ntmps100
        obtain ⟨q2, q0, q1⟩ := HQ.out
        go_wp2_with fail
        refine CZ.out.mono ?_
        rintro e' w0 ⟨rfl, rfl⟩
        clear q0 q1 q2
        go_wp2_with fail
        refine (CW.out _ HBw.out).mono ?_
        rintro e' w1 ⟨rfl, hb1⟩
        have HB1 := Lib.hid hb1
        have HBm : Hid (Below w.heap.size w (w1.alloc (.cells (madeCells #[.int .i64 0] 5) 3))) := hb1.alloc hb1.size _
        have H5 := Lib.hid (five_zeros w1)
        have hk1 := hmk w1
        clear hb1 hmk CW CZ
        go_wp2_with fail
        refine (CE'.out _ _ HBm.out H5.out).mono ?_
        rintro e' w2 ⟨rfl, hb2⟩
        have HBx : Hid (Below w.heap.size w w2) := HBm.out.trans (hb2.mono HBm.out.size)
        clear hb2 CE' H5
        obtain ⟨q2, q0, q1⟩ := HQ.out
        have p2 := cell_at HBx.out q2
        clear q2 q0 q1
        go_wp2_with fail
        go_loopw [10, 44] (fun v i wr => ∃ j : Nat, j ≤ m' ∧ i = .int .i64 j ∧ RowP wr w2.heap.size v (CNN j) (CL j) ∧ Below w2.heap.size w2 wr) (fun _ i _ => m' - (intOf i).toNat)
        case atStart => exact ⟨0, Nat.zero_le _, rfl, by rw [K0.out.1, K0.out.2]; exact RowP.nil0 _ _, Below.refl _ _⟩
        case round =>
          obtain ⟨j, hj, rfl, hr, hbw⟩ := hrel
          have HR := Lib.hid hr
          have HB := Lib.hid hbw
          have HW : Hid (Below w.heap.size w wr) := HBx.out.trans (hbw.mono HBx.out.size)
          have sw1 := hbw.size
          clear hr hbw
          by_cases hlt : j < m'
          · obtain ⟨x, ⟨g', rfl, qx⟩, hx⟩ := HE.out j hlt
            have q3 := cell_at HW.out qx
            have C := Lib.hid (hx wr HW.out)
            have j1 : (0 : Int) ≤ (j : Int) := by omega
            have j2 : (j : Int) < (m' : Int) := by omega
            have G1 := Lib.hid (KL.out j)
            have G2 := Lib.hid (KN.out j)
            have nb1 := NB.out j hj
            obtain ⟨np0, np1⟩ := NP.out j hlt
            clear qx hx
            go_wp2_with fail
            refine C.out.mono ?_
            rintro e w3 ⟨v3, rfl, hr3, hb3⟩
            obtain ⟨g3, c3, rfl, _, _⟩ := hr3.form np0
            have HS3 := Lib.hid (rowP_src hr3)
            have HR3 := Lib.hid (HR.out.below hb3)
            have HB3 : Hid (Below w2.heap.size w2 w3) := HB.out.trans (hb3.mono sw1)
            have sw3 : w2.heap.size ≤ w3.heap.size := Nat.le_trans sw1 hb3.size
            clear hr3 hb3 C
            go_wp2_with (at_builtin; refine wpList_append_src rfl _ _ 36 rfl (base := w2.heap.size) Try.underlying36 HJ.out hz0 hz1 hz2 rfl (by decide) rfl HR3.out rfl HS3.out ints_ones ?c3 ?c4 ?c5 ?_)
            case c3 => unfold maxLen; omega
            case c4 => omega
            case c5 => first | omega | (simp; omega)
            intro v8 w8 hown8 hgrow8 _
            have R8 := Lib.hid (rowP_add hown8)
            rw [← G1.out, ← G2.out] at R8
            have B8 : Hid (Below w2.heap.size w2 w8) := HB3.out.grown hgrow8 (by first | omega | (simp; omega)) (fun g hg => (World.ownsRow.lt HR3.out g hg).1)
            clear hown8 hgrow8
            go_wp2
            go_roundw
            case rel => exact ⟨j + 1, by omega, by go_num, R8.out, B8.out⟩
            case measure => simp [intOf]; omega
          · obtain rfl : j = m' := by omega
            have d0 := cell_at HW.out HQ.out.2.1
            have d1 := cell_at HW.out HQ.out.2.2
            have nb1 := NB.out j (Nat.le_refl _)
            have hs2 := HBx.out.size
            have HRb := Lib.hid (HR.out.below ((Below.refl _ _).alloc (Nat.le_refl _) (.cells #[.int .i64 kk, .int .i64 vv] 87)))
            have HBb : Hid (Below w2.heap.size w2 (wr.alloc (.cells #[.int .i64 kk, .int .i64 vv] 87))) := HB.out.alloc sw1 _
            clear HE NB NP KL KN K0 HR
            go_wp2_with (at_builtin; refine wpList_append_src rfl _ _ 36 rfl (base := w2.heap.size) Try.underlying36 HJ.out hz0 hz1 hz2 rfl (by decide) rfl HRb.out rfl (src_pair (x := kk) (y := vv) (by simp) (by simp)) ints_ones ?c3 ?c4 ?c5 ?_)
            case c3 => unfold maxLen; omega
            case c4 => omega
            case c5 => first | omega | (simp; omega)
            intro v8 w8 hown8 hgrow8 _
            have R8 := Lib.hid (RowP.mono (rowP_add (ys := [kk, vv]) hown8) hs2)
            have B8 : Hid (Below w2.heap.size w2 w8) := HBb.out.grown hgrow8 (by first | omega | (simp; omega)) (fun g hg => (World.ownsRow.lt HRb.out g hg).1)
            have B9 : Hid (Below w.heap.size w w8) := HBx.out.trans (B8.out.mono hs2)
            clear hown8 hgrow8
            go_wp2
            go_ret
            exact ⟨_, rfl, by rw [E.out.1, E.out.2]; exact R8.out, B9.out⟩
      | some r =>
        have CE' : Hid (∀ (fv : Value) (u : World), Below w.heap.size w u → Seen u fv [0, 0, 0, 0, 0] → Calls Try.prog 60 #[.slice (some ⟨b, off + lo * 2, none⟩) z (c - lo), fv] u fun e' w' => e' = .returned (.tuple #[.int .i64 r, .bool true]) ∧ Below u.heap.size u w') := CE.out rfl
        have hcr : cc = chkN r := by rw [HC.out]; rfl
        by_cases hd : 0 ≤ r ∧ r ≤ 1000000
        · rw [chkN_yes hd] at hcr
          have E := Lib.hid (HSome.out r hcr)
          have hd' : decide (0 ≤ r ∧ r ≤ 1000000) = true := decide_eq_true hd
          clear HC HFold HSome hcr CE hd HE NB NP KL KN K0
          have HBw : Hid (Below w.heap.size w w) := Below.refl _ _
          go_enter Try.func100, Try.ntmps100
          obtain ⟨q2, q0, q1⟩ := HQ.out
          go_wp2_with fail
          refine CZ.out.mono ?_
          rintro e' w0 ⟨rfl, rfl⟩
          clear q0 q1 q2
          go_wp2_with fail
          refine (CW.out _ HBw.out).mono ?_
          rintro e' w1 ⟨rfl, hb1⟩
          have HB1 := Lib.hid hb1
          have HBm : Hid (Below w.heap.size w (w1.alloc (.cells (madeCells #[.int .i64 0] 5) 3))) := hb1.alloc hb1.size _
          have H5 := Lib.hid (five_zeros w1)
          have hk1 := hmk w1
          clear hb1 hmk CW CZ
          go_wp2_with fail
          refine (CE'.out _ _ HBm.out H5.out).mono ?_
          rintro e' w2 ⟨rfl, hb2⟩
          have HBx : Hid (Below w.heap.size w w2) := HBm.out.trans (hb2.mono HBm.out.size)
          clear hb2 CE' H5
          go_wp2_with fail
          refine (c_l1In _ _ _ _).mono ?_
          rintro e' w4 ⟨rfl, rfl⟩
          rw [hd']
          have R9 : Hid (RowP (w2.alloc (.cells #[.int .i64 0, .int .i64 r] 87)) w.heap.size (.slice (some ⟨w2.heap.size, 0, none⟩) 1 1) 1 [0, r]) := (rowP_one w2 0 r).mono HBx.out.size
          have B9 : Hid (Below w.heap.size w (w2.alloc (.cells #[.int .i64 0, .int .i64 r] 87))) := HBx.out.alloc HBx.out.size _
          go_wp2
          go_ret
          exact ⟨_, rfl, by rw [E.out.1, E.out.2]; exact R9.out, B9.out⟩
        · rw [chkN_no hd] at hcr
          have E := Lib.hid (HFold.out hcr)
          have hd' : decide (0 ≤ r ∧ r ≤ 1000000) = false := decide_eq_false hd
          clear HC HFold HSome hcr CE hd
          have HBw : Hid (Below w.heap.size w w) := Below.refl _ _
          go_enter Try.func100, Try.ntmps100
          obtain ⟨q2, q0, q1⟩ := HQ.out
          go_wp2_with fail
          refine CZ.out.mono ?_
          rintro e' w0 ⟨rfl, rfl⟩
          clear q0 q1 q2
          go_wp2_with fail
          refine (CW.out _ HBw.out).mono ?_
          rintro e' w1 ⟨rfl, hb1⟩
          have HB1 := Lib.hid hb1
          have HBm : Hid (Below w.heap.size w (w1.alloc (.cells (madeCells #[.int .i64 0] 5) 3))) := hb1.alloc hb1.size _
          have H5 := Lib.hid (five_zeros w1)
          have hk1 := hmk w1
          clear hb1 hmk CW CZ
          go_wp2_with fail
          refine (CE'.out _ _ HBm.out H5.out).mono ?_
          rintro e' w2 ⟨rfl, hb2⟩
          have HBx : Hid (Below w.heap.size w w2) := HBm.out.trans (hb2.mono HBm.out.size)
          clear hb2 CE' H5
          go_wp2_with fail
          refine (c_l1In _ _ _ _).mono ?_
          rintro e' w4 ⟨rfl, rfl⟩
          rw [hd']
          obtain ⟨q2, q0, q1⟩ := HQ.out
          have p2 := cell_at HBx.out q2
          clear q2 q0 q1
          go_wp2_with fail
          go_loopw [10, 44] (fun v i wr => ∃ j : Nat, j ≤ m' ∧ i = .int .i64 j ∧ RowP wr w2.heap.size v (CNN j) (CL j) ∧ Below w2.heap.size w2 wr) (fun _ i _ => m' - (intOf i).toNat)
          case atStart => exact ⟨0, Nat.zero_le _, rfl, by rw [K0.out.1, K0.out.2]; exact RowP.nil0 _ _, Below.refl _ _⟩
          case round =>
            obtain ⟨j, hj, rfl, hr, hbw⟩ := hrel
            have HR := Lib.hid hr
            have HB := Lib.hid hbw
            have HW : Hid (Below w.heap.size w wr) := HBx.out.trans (hbw.mono HBx.out.size)
            have sw1 := hbw.size
            clear hr hbw
            by_cases hlt : j < m'
            · obtain ⟨x, ⟨g', rfl, qx⟩, hx⟩ := HE.out j hlt
              have q3 := cell_at HW.out qx
              have C := Lib.hid (hx wr HW.out)
              have j1 : (0 : Int) ≤ (j : Int) := by omega
              have j2 : (j : Int) < (m' : Int) := by omega
              have G1 := Lib.hid (KL.out j)
              have G2 := Lib.hid (KN.out j)
              have nb1 := NB.out j hj
              obtain ⟨np0, np1⟩ := NP.out j hlt
              clear qx hx
              go_wp2_with fail
              refine C.out.mono ?_
              rintro e w3 ⟨v3, rfl, hr3, hb3⟩
              obtain ⟨g3, c3, rfl, _, _⟩ := hr3.form np0
              have HS3 := Lib.hid (rowP_src hr3)
              have HR3 := Lib.hid (HR.out.below hb3)
              have HB3 : Hid (Below w2.heap.size w2 w3) := HB.out.trans (hb3.mono sw1)
              have sw3 : w2.heap.size ≤ w3.heap.size := Nat.le_trans sw1 hb3.size
              clear hr3 hb3 C
              go_wp2_with (at_builtin; refine wpList_append_src rfl _ _ 36 rfl (base := w2.heap.size) Try.underlying36 HJ.out hz0 hz1 hz2 rfl (by decide) rfl HR3.out rfl HS3.out ints_ones ?c3 ?c4 ?c5 ?_)
              case c3 => unfold maxLen; omega
              case c4 => omega
              case c5 => first | omega | (simp; omega)
              intro v8 w8 hown8 hgrow8 _
              have R8 := Lib.hid (rowP_add hown8)
              rw [← G1.out, ← G2.out] at R8
              have B8 : Hid (Below w2.heap.size w2 w8) := HB3.out.grown hgrow8 (by first | omega | (simp; omega)) (fun g hg => (World.ownsRow.lt HR3.out g hg).1)
              clear hown8 hgrow8
              go_wp2
              go_roundw
              case rel => exact ⟨j + 1, by omega, by go_num, R8.out, B8.out⟩
              case measure => simp [intOf]; omega
            · obtain rfl : j = m' := by omega
              have d0 := cell_at HW.out HQ.out.2.1
              have d1 := cell_at HW.out HQ.out.2.2
              have nb1 := NB.out j (Nat.le_refl _)
              have hs2 := HBx.out.size
              have HRb := Lib.hid (HR.out.below ((Below.refl _ _).alloc (Nat.le_refl _) (.cells #[.int .i64 kk, .int .i64 vv] 87)))
              have HBb : Hid (Below w2.heap.size w2 (wr.alloc (.cells #[.int .i64 kk, .int .i64 vv] 87))) := HB.out.alloc sw1 _
              clear HE NB NP KL KN K0 HR
              go_wp2_with (at_builtin; refine wpList_append_src rfl _ _ 36 rfl (base := w2.heap.size) Try.underlying36 HJ.out hz0 hz1 hz2 rfl (by decide) rfl HRb.out rfl (src_pair (x := kk) (y := vv) (by simp) (by simp)) ints_ones ?c3 ?c4 ?c5 ?_)
              case c3 => unfold maxLen; omega
              case c4 => omega
              case c5 => first | omega | (simp; omega)
              intro v8 w8 hown8 hgrow8 _
              have R8 := Lib.hid (RowP.mono (rowP_add (ys := [kk, vv]) hown8) hs2)
              have B8 : Hid (Below w2.heap.size w2 w8) := HBb.out.grown hgrow8 (by first | omega | (simp; omega)) (fun g hg => (World.ownsRow.lt HRb.out g hg).1)
              have B9 : Hid (Below w.heap.size w w8) := HBx.out.trans (B8.out.mono hs2)
              clear hown8 hgrow8
              go_wp2
              go_ret
              exact ⟨_, rfl, by rw [E.out.1, E.out.2]; exact R8.out, B9.out⟩

set_option maxHeartbeats 1000000 in
set_option maxRecDepth 100000 in
theorem c_FoldRuleS (n : Nat) (xs : List Int) (v : Value) (w : World) (hl : n ≤ 1048576) (h : SeenC w v n xs) :
    Calls Try.prog 48 #[v] w (GivesPB w (foN n xs) (foL n xs) (ruleB n xs)) := by
  have HS := Lib.hid h
  have C1 := Lib.hid (c_ruGood n xs v w hl h.1)
  cases hr : ruleB n xs
  · rw [hr] at C1
    obtain ⟨e1, e2⟩ := fo_no hr
    rw [e1, e2]
    obtain ⟨A, c, rfl, _, _, _⟩ := h.1
    clear hr h e1 e2 HS
    go_enter Try.func48, Try.ntmps48
    go_wp2_with fail
    refine C1.out.mono ?_
    rintro e w1 ⟨rfl, hb1⟩
    have HB1 := Lib.hid hb1
    clear hb1
    go_wp2
    go_ret2
    exact ⟨_, rfl, RowP.nil0 _ _, HB1.out⟩
  · rw [hr] at C1
    obtain ⟨e1, e2⟩ := fo_yes hr
    rw [e1, e2]
    obtain ⟨hA, hs⟩ := treeOf_spec hr
    obtain ⟨_, _, _, n1, n2, hp, hfull, _⟩ := rule_tree hr
    obtain ⟨y1, y2⟩ := rule_yes hr
    have CT : Hid (∀ u, Below w.heap.size w u → Calls Try.prog 99 #[v] u (GivesTree u (kidsTo (kdf xs) n) true true)) := fun u hu => by
      have := c_ruTree n xs v u n2 (by omega) (HS.out.1.below hu)
      rw [y1, y2] at this
      exact this
    obtain ⟨b, off, c, rfl, hb, hcell⟩ := seen_cells h.1 (by omega)
    have hnc := h.2 _ _ _ rfl
    obtain ⟨p, rfl⟩ : ∃ p, n = p + 1 := ⟨n - 1, by omega⟩
    have CF : Hid (∀ (tv : Value) (B : Nat) (u : World), Below w.heap.size w u → Rows u B u.heap.size tv (kidsTo (kdf xs) (p + 1)) → Calls Try.prog 100 #[.slice (some ⟨b, off, none⟩) (p + 1) c, tv, .int .i64 (p : Int)] u (GivesP u (foldN (kdf xs) (vdf xs) (treeOf (p + 1) xs) (p + 1 - 1)) (foldL (kdf xs) (vdf xs) (treeOf (p + 1) xs) (p + 1 - 1)))) := fun tv B u hu hrs => by
      obtain ⟨g, gc, rfl, hg, hrows⟩ := rows_read hrs (by rw [kidsTo_len]; omega)
      rw [kidsTo_len] at hrows ⊢
      refine c_ruFold (kdf xs) (vdf xs) (p + 1) g gc b off c (treeOf (p + 1) xs).size n2 hnc (fun j hj => hp j hj) (treeOf (p + 1) xs) p u (Nat.le_refl _) hA (by omega) (Nat.lt_of_lt_of_le hb hu.size) ⟨fun j hj => hcell u hu j hj, fun i hi => ?_⟩
      obtain ⟨A, c', h1, h2⟩ := hrows i hi
      rw [kidsTo_at (kdf xs) hi] at h1 h2
      refine ⟨A, c', _, rfl, h1, fun j hj => ?_⟩
      obtain ⟨g', e', _, hc⟩ := h2 j hj
      exact ⟨g', e', hc⟩
    generalize foldN (kdf xs) (vdf xs) (treeOf (p + 1) xs) (p + 1 - 1) = N at *
    generalize foldL (kdf xs) (vdf xs) (treeOf (p + 1) xs) (p + 1 - 1) = L at *
    clear hr h e1 e2 hA hs hp hcell hnc y1 y2 hfull HS
    generalize kidsTo (kdf xs) (p + 1) = KT at *
    go_enter Try.func48, Try.ntmps48
    go_wp2_with fail
    refine C1.out.mono ?_
    rintro e w1 ⟨rfl, hb1⟩
    have HB1 := Lib.hid hb1
    clear hb1
    go_wp2_with fail
    refine (CT.out w1 HB1.out).mono ?_
    rintro e w2 ⟨tv, rfl, hrs, hb2⟩
    have HB2 : Hid (Below w.heap.size w w2) := HB1.out.trans (hb2.mono HB1.out.size)
    have CF2 := Lib.hid (CF.out tv _ w2 HB2.out (hrs rfl))
    clear hrs hb2
    go_wp2_with fail
    refine CF2.out.mono ?_
    rintro e w3 ⟨v3, rfl, hr3, hb3⟩
    have HR3 := Lib.hid (hr3.mono HB2.out.size)
    have HB3 : Hid (Below w.heap.size w w3) := HB2.out.trans (hb3.mono HB2.out.size)
    clear hr3 hb3
    go_wp2
    go_ret2
    exact ⟨_, rfl, HR3.out, HB3.out⟩
end Go.Proofs.Ytdodmcmkelegoaa
