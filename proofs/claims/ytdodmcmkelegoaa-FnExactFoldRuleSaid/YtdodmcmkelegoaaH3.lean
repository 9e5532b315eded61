/-
  Contracts: FoldRule, in the program.
-/
import Derived.Test.YtdodmcmkelegoaaH2
import Derived.Test.YtdodmcmkelegoaaE5
import Derived.Test.YtdodmcmkelegoaaE6
import Derived.Test.YtdodmcmkelegoaaE11
import Derived.Test.YtdodmcmkelegoaaF8
namespace Go.Proofs.Ytdodmcmkelegoaa
open Go.RowKit
set_option linter.unusedVariables false
set_option linter.unusedSimpArgs false

theorem RowP.nil0 (w : World) (B : Nat) : RowP w B (.slice none 0 0) 0 [] := World.ownsRow_nil _ _ _ _
theorem rowP_add {w : World} {B n : Nat} {v : Value} {xs ys : List Int} (h : w.ownsRow B 87 2 v n (ints xs ++ ints ys)) : RowP w B v n (xs ++ ys) := by
  unfold RowP
  rw [show ints (xs ++ ys) = ints xs ++ ints ys by simp [ints]]
  exact h
theorem src_pair {w : World} {b : Nat} {x y : Int} (h0 : w.cell? ⟨b, 0, none⟩ = some (.int .i64 x)) (h1 : w.cell? ⟨b, 1, none⟩ = some (.int .i64 y)) : Src w 2 (some ⟨b, 0, none⟩) 1 1 (ints [x, y]) :=
  src_cells 2 rfl (fun e => by cases e) (fun _ => ⟨b, 0, rfl, fun k hk => by
    rcases (show k = 0 ∨ k = 1 by simp at hk; omega) with rfl | rfl
    · exact h0
    · exact h1⟩)
theorem rowP_one (w : World) (x y : Int) : RowP (w.alloc (.cells #[.int .i64 x, .int .i64 y] 87)) w.heap.size (.slice (some ⟨w.heap.size, 0, none⟩) 1 1) 1 [x, y] :=
  World.ownsRow_lit (base := w.heap.size) (e := 87) (size := 2) w #[.int .i64 x, .int .i64 y] 1 (Nat.le_refl _) (by unfold maxLen; omega) (by simp)
theorem rowP_src {w : World} {B n g c : Nat} {xs : List Int} (h : RowP w B (.slice (some ⟨g, 0, none⟩) n c) n xs) : Src w 2 (some ⟨g, 0, none⟩) n c (ints xs) :=
  src_cells 2 h.len (fun e => by cases e) (fun _ => ⟨g, 0, rfl, fun k hk => by rw [Nat.zero_add]; exact h.cell k (by have := h.len; omega)⟩)
theorem foldN_pos (ks vs : Nat → Int) : ∀ (t : Tr) (e : Nat), 0 < foldN ks vs t e
  | .leaf, e => by simp [foldN]
  | .two a b, e => by unfold foldN; split <;> omega
  | .four a b c d, e => by unfold foldN; split <;> omega
theorem smz_up (kd : Nat → Tr) {j m : Nat} (h : j ≤ m) : smz kd j ≤ smz kd m := by
  induction m with
  | zero => obtain rfl : j = 0 := by omega
            exact Nat.le_refl _
  | succ m ih =>
    by_cases e : j = m + 1
    · rw [e]; exact Nat.le_refl _
    · exact Nat.le_trans (ih (by omega)) (Nat.le_add_right _ _)

set_option maxHeartbeats 4000000 in
set_option maxRecDepth 100000 in
theorem c_foldParts (ks vs : Nat → Int) (b K : Nat) : ∀ (t : Tr) (o lo c e : Nat) (w : World), t.size ≤ K → At ks t e → lo + t.size = e + 1 → t.size ≤ 39 → t.size ≤ c → b < w.heap.size →
    (∀ j : Nat, j < t.size → 0 ≤ ks (lo + j) ∧ ks (lo + j) ≤ 8) →
    (∀ j : Nat, j < t.size → ks (lo + j) = 0 → 0 ≤ vs (lo + j) ∧ vs (lo + j) ≤ 1000000) →
    (∀ j : Nat, j < t.size → w.cell? ⟨b, o + j * 2, none⟩ = some (.int .i64 (ks (lo + j))) ∧ w.cell? ⟨b, o + j * 2 + 1, none⟩ = some (.int .i64 (vs (lo + j)))) →
    Calls Try.prog 101 #[.slice (some ⟨b, o, none⟩) t.size c] w (GivesP w (foldN ks vs t e) (foldL ks vs t e)) := by
  induction K with
  | zero =>
    intro t o lo c e w hK
    have := t.size_pos
    omega
  | succ K IHK =>
    intro t o lo c e w hK hA hlo hl hc hb hv hp hcell
    obtain ⟨m, kd, of, S, hm4, hsm, hsz, hkid, hfold⟩ := fold_split (ks := ks) (vs := vs) hA hlo
    obtain ⟨i0, hi0, hz0, hz1, hz2⟩ := info_parts part_info
    have HJ := Lib.hid hi0
    clear hkid hi0
    have CK := Lib.hid (c_constantOf ks vs b t o lo c e w hA hlo (by omega) hc hb hv hp hcell)
    cases hct : cst ks vs t e with
    | some r =>
      obtain ⟨e1, e2⟩ := fold_some hct
      rw [e1, e2]
      rw [hct] at CK
      clear hA hlo hv hp hcell hsm S hfold hct e1 e2 IHK hsz
      generalize t.size = n at *
      go_enter Try.func101, Try.ntmps101
      go_wp2_with fail
      refine CK.out.mono ?_
      intro e w1 hgo
      obtain ⟨rfl, hb1⟩ := hgo.yes
      have HB1 := Lib.hid hb1
      have sw := hb1.size
      have RL : Hid (RowP ((w1.alloc (.cells #[.int .i64 0, .int .i64 r] 87)).alloc (.cells #[.int .i64 0, .int .i64 r] 87)) w.heap.size (.slice (some ⟨w1.heap.size + 1, 0, none⟩) 1 1) 1 [0, r]) := by
        have := rowP_one (w1.alloc (.cells #[.int .i64 0, .int .i64 r] 87)) 0 r
        simp at this
        exact this.mono (by omega)
      have HB2 : Hid (Below w.heap.size w ((w1.alloc (.cells #[.int .i64 0, .int .i64 r] 87)).alloc (.cells #[.int .i64 0, .int .i64 r] 87))) := (hb1.alloc sw _).alloc (by simp; omega) _
      clear hgo hb1 CK
      go_wp2
      go_ret
      exact ⟨_, rfl, RL.out, HB2.out⟩
    | none =>
      obtain ⟨e1, e2⟩ := hfold hct
      rw [e1, e2]
      rw [hct] at CK
      have IH : Hid (∀ (j : Nat) (u : World), j < m → Below w.heap.size w u → Calls Try.prog 101 #[.slice (some ⟨b, o + of j * 2, none⟩) (kd j).size (c - of j)] u (GivesP u (kidN ks vs lo kd of j) (kidL ks vs lo kd of j))) := fun j u hj hu => by
        have h1 := hsm j hj
        have h2 := S.next j hj
        have h3 := S.le (j := j + 1) (by omega)
        have h4 := (kd j).size_pos
        refine IHK (kd j) (o + of j * 2) (lo + of j) (c - of j) (lo + of (j + 1) - 1) u (by omega) (S.at_ j hj) (by omega) (by omega) (by omega) (Nat.lt_of_lt_of_le hb hu.size) (fun q hq => ?_) (fun q hq => ?_) (fun q hq => ?_)
        · rw [Nat.add_assoc]; exact hv _ (by omega)
        · rw [Nat.add_assoc]; exact hp _ (by omega)
        · rw [hu.cell (p := ⟨b, o + of j * 2 + q * 2, none⟩) hb, hu.cell (p := ⟨b, o + of j * 2 + q * 2 + 1, none⟩) hb, show o + of j * 2 + q * 2 = o + (of j + q) * 2 by omega, Nat.add_assoc]
          exact hcell _ (by omega)
      have CN : Hid (∀ u, Below w.heap.size w u → Calls Try.prog 117 #[.slice (some ⟨b, o, none⟩) t.size c] u (GivesWins u b o c m kd of)) := fun u hu =>
        c_neededRules ks b o lo t.size c m kd of u S hm4 (by omega) hc (Nat.lt_of_lt_of_le hb hu.size) hv (fun j hj => by rw [hu.cell (p := ⟨b, o + j * 2, none⟩) hb]; exact (hcell j hj).1)
      have NB : Hid (∀ j, j ≤ m → catN (kidN ks vs lo kd of) j ≤ 39) := fun j hj => by
        have h1 := catN_le (kidN ks vs lo kd of) kd (fun j => foldN_le ks vs _ _) j
        have h2 := smz_up kd hj
        omega
      have NP : Hid (∀ j, 0 < kidN ks vs lo kd of j ∧ kidN ks vs lo kd of j ≤ (kd j).size) := fun j => ⟨foldN_pos _ _ _ _, foldN_le _ _ _ _⟩
      have NS : Hid (∀ j, j < m → (kd j).size ≤ 39) := fun j hj => by have := hsm j hj; omega
      have KL : Hid (∀ j, catL (kidL ks vs lo kd of) (j + 1) = catL (kidL ks vs lo kd of) j ++ kidL ks vs lo kd of j) := fun j => rfl
      have KN : Hid (∀ j, catN (kidN ks vs lo kd of) (j + 1) = catN (kidN ks vs lo kd of) j + kidN ks vs lo kd of j) := fun j => rfl
      have K0 : Hid (catL (kidL ks vs lo kd of) 0 = [] ∧ catN (kidN ks vs lo kd of) 0 = 0) := ⟨rfl, rfl⟩
      have hlast := S.last
      have hee : lo + of m = e := by omega
      obtain ⟨q0, q1⟩ := hcell (of m) (by omega)
      rw [hee] at q0 q1
      clear hA hlo hv hp hcell hsm S hfold hct e1 e2 IHK hsz hee
      generalize t.size = n at *
      obtain rfl : n = of m + 1 := hlast.symm
      clear hlast
      generalize catL (kidL ks vs lo kd of) = CL at *
      generalize catN (kidN ks vs lo kd of) = CNN at *
      generalize kidL ks vs lo kd of = fL at *
      generalize kidN ks vs lo kd of = fN at *
      generalize ks e = kk at *
      generalize vs e = vv at *
      have HQ := Lib.hid (And.intro q0 q1)
      clear q0 q1
      go_enter Try.func101, Try.ntmps101
      go_wp2_with fail
      refine CK.out.mono ?_
      intro e w1 hgo
      obtain ⟨⟨x, rfl⟩, hb1⟩ := hgo.no
      have HBa : Hid (Below w.heap.size w (w1.alloc (.cells #[.int .i64 0, .int .i64 x] 87))) := hb1.alloc hb1.size _
      clear hgo hb1 CK
      go_wp2_with fail
      refine (CN.out _ HBa.out).mono ?_
      rintro e w2 ⟨g, rfl, hg0, hg1, hb2, hcs⟩
      have HB2 : Hid (Below w.heap.size w w2) := HBa.out.trans (hb2.mono HBa.out.size)
      have HC2 := Lib.hid hcs
      clear hb2 hcs CN HBa
      go_wp2_with fail
      go_loopw [5, 19] (fun v i wr => ∃ j : Nat, j ≤ m ∧ i = .int .i64 j ∧ RowP wr w2.heap.size v (CNN j) (CL j) ∧ Below w2.heap.size w2 wr) (fun _ i _ => m - (intOf i).toNat)
      case atStart => exact ⟨0, Nat.zero_le _, rfl, by rw [K0.out.1, K0.out.2]; exact RowP.nil0 _ _, Below.refl _ _⟩
      case round =>
        obtain ⟨j, hj, rfl, hr, hbw⟩ := hrel
        have HR := Lib.hid hr
        have HB := Lib.hid hbw
        have HW : Hid (Below w.heap.size w wr) := HB2.out.trans (hbw.mono HB2.out.size)
        have sw1 := hbw.size
        clear hr hbw
        by_cases hlt : j < m
        · have q2 : wr.cell? ⟨g, j, none⟩ = some (.slice (some ⟨b, o + of j * 2, none⟩) (kd j).size (c - of j)) := by rw [HB.out.cell (p := ⟨g, j, none⟩) hg1]; exact HC2.out j hlt
          have i1 : (0 : Int) ≤ (j : Int) := by omega
          have i2 : (j : Int) < (m : Int) := by omega
          have C := Lib.hid (IH.out j wr hlt HW.out)
          have G1 := Lib.hid (KL.out j)
          have G2 := Lib.hid (KN.out j)
          have nb1 := NB.out j hj
          obtain ⟨np0, np1⟩ := NP.out j
          have ns1 := NS.out j hlt
          generalize (kd j).size = z at *
          generalize of j = p at *
          go_wp2_with fail
          refine C.out.mono ?_
          rintro e w3 ⟨v3, rfl, hr3, hb3⟩
          obtain ⟨g3, c3, rfl, _, _⟩ := hr3.form np0
          have HS3 := Lib.hid (rowP_src hr3)
          have HR3 := Lib.hid (HR.out.below hb3)
          have HB3 : Hid (Below w2.heap.size w2 w3) := HB.out.trans (hb3.mono sw1)
          have sw3 : w2.heap.size ≤ w3.heap.size := Nat.le_trans sw1 hb3.size
          clear hr3 hb3 C
          go_wp2_with (at_builtin; refine wpList_append_src rfl _ _ 36 rfl (base := w2.heap.size) Try.underlying36 HJ.out hz0 hz1 hz2 rfl (by decide) rfl HR3.out rfl HS3.out ints_ones ?c3 ?c4 ?c5 ?_)
          case c3 => unfold maxLen; omega
          case c4 => omega
          case c5 => first | omega | (simp; omega)
          intro v8 w8 hown8 hgrow8 _
          have R8 := Lib.hid (rowP_add hown8)
          rw [← G1.out, ← G2.out] at R8
          have B8 : Hid (Below w2.heap.size w2 w8) := HB3.out.grown hgrow8 (by first | omega | (simp; omega)) (fun g hg => (World.ownsRow.lt HR3.out g hg).1)
          clear hown8 hgrow8
          go_wp2
          go_roundw
          case rel => exact ⟨j + 1, by omega, by go_num, R8.out, B8.out⟩
          case measure => simp [intOf]; omega
        · obtain rfl : j = m := by omega
          have d0 := cell_at HW.out HQ.out.1
          have d1 := cell_at HW.out HQ.out.2
          have nb1 := NB.out j (Nat.le_refl _)
          have hs2 := HB2.out.size
          have HRb := Lib.hid (HR.out.below ((Below.refl _ _).alloc (Nat.le_refl _) (.cells #[.int .i64 kk, .int .i64 vv] 87)))
          have HBb : Hid (Below w2.heap.size w2 (wr.alloc (.cells #[.int .i64 kk, .int .i64 vv] 87))) := HB.out.alloc sw1 _
          clear IH NB NP NS KL KN K0 HC2 HR
          go_wp2_with (at_builtin; refine wpList_append_src rfl _ _ 36 rfl (base := w2.heap.size) Try.underlying36 HJ.out hz0 hz1 hz2 rfl (by decide) rfl HRb.out rfl (src_pair (x := kk) (y := vv) (by simp) (by simp)) ints_ones ?c3 ?c4 ?c5 ?_)
          case c3 => unfold maxLen; omega
          case c4 => omega
          case c5 => first | omega | (simp; omega)
          intro v8 w8 hown8 hgrow8 _
          have R8 := Lib.hid (RowP.mono (rowP_add (ys := [kk, vv]) hown8) hs2)
          have B8 : Hid (Below w2.heap.size w2 w8) := HBb.out.grown hgrow8 (by first | omega | (simp; omega)) (fun g hg => (World.ownsRow.lt HRb.out g hg).1)
          have B9 : Hid (Below w.heap.size w w8) := HB2.out.trans (B8.out.mono hs2)
          clear hown8 hgrow8
          go_wp2
          go_ret
          exact ⟨_, rfl, R8.out, B9.out⟩

/-- A list of parts and a bool. -/
def GivesPB (w : World) (n : Nat) (xs : List Int) (b : Bool) (e : Ending) (w' : World) : Prop := ∃ v, e = .returned (.tuple #[v, .bool b]) ∧ RowP w' w.heap.size v n xs ∧ Below w.heap.size w w'
noncomputable def foN (n : Nat) (xs : List Int) : Nat := if ruleB n xs then foldN (kdf xs) (vdf xs) (treeOf n xs) (n - 1) else 0
noncomputable def foL (n : Nat) (xs : List Int) : List Int := if ruleB n xs then foldL (kdf xs) (vdf xs) (treeOf n xs) (n - 1) else []
theorem fo_no {n : Nat} {xs : List Int} (h : ruleB n xs = false) : foN n xs = 0 ∧ foL n xs = [] := ⟨by unfold foN; rw [h]; rfl, by unfold foL; rw [h]; rfl⟩
theorem fo_yes {n : Nat} {xs : List Int} (h : ruleB n xs = true) : foN n xs = foldN (kdf xs) (vdf xs) (treeOf n xs) (n - 1) ∧ foL n xs = foldL (kdf xs) (vdf xs) (treeOf n xs) (n - 1) := ⟨by unfold foN; rw [h]; rfl, by unfold foL; rw [h]; rfl⟩
theorem foN_le (n : Nat) (xs : List Int) : foN n xs ≤ 1000000 := by
  cases h : ruleB n xs
  · rw [(fo_no h).1]; omega
  · rw [(fo_yes h).1]
    have := foldN_le (kdf xs) (vdf xs) (treeOf n xs) (n - 1)
    have := (treeOf_spec h).2
    have := (rule_size h).2.1
    omega

set_option maxHeartbeats 1000000 in
theorem c_FoldRule (n : Nat) (xs : List Int) (v : Value) (w : World) (hl : n ≤ 1048576) (h : SeenC w v n xs) :
    Calls Try.prog 49 #[v] w (GivesPB w (foN n xs) (foL n xs) (ruleB n xs)) := by
  have C1 := Lib.hid (c_IsRule n xs v w hl h.1 h.2)
  cases hr : ruleB n xs
  · rw [hr] at C1
    obtain ⟨e1, e2⟩ := fo_no hr
    rw [e1, e2]
    obtain ⟨A, c, rfl, _, _, _⟩ := h.1
    clear hr h e1 e2
    go_enter Try.func49, Try.ntmps49
    go_wp2_with fail
    refine C1.out.mono ?_
    rintro e w1 ⟨rfl, hb1⟩
    have HB1 := Lib.hid hb1
    clear hb1
    go_wp2
    go_ret2
    exact ⟨_, rfl, RowP.nil0 _ _, HB1.out⟩
  · rw [hr] at C1
    obtain ⟨e1, e2⟩ := fo_yes hr
    rw [e1, e2]
    obtain ⟨hA, hs⟩ := treeOf_spec hr
    obtain ⟨_, _, _, n1, n2, hp, _, _⟩ := rule_tree hr
    obtain ⟨b, off, c, rfl, hb, hcell⟩ := seen_cells h.1 (by omega)
    have hnc := h.2 _ _ _ rfl
    have CF : Hid (∀ u, Below w.heap.size w u → Calls Try.prog 101 #[.slice (some ⟨b, off, none⟩) n c] u (GivesP u (foldN (kdf xs) (vdf xs) (treeOf n xs) (n - 1)) (foldL (kdf xs) (vdf xs) (treeOf n xs) (n - 1)))) := fun u hu => by
      have := c_foldParts (kdf xs) (vdf xs) b n (treeOf n xs) off 0 c (n - 1) u (by omega) hA (by omega) (by omega) (by omega) (Nat.lt_of_lt_of_le hb hu.size)
        (by rw [hs]; intro j hj; rw [Nat.zero_add]; exact parB_kind (hp j hj))
        (by rw [hs]; intro j hj; rw [Nat.zero_add]; exact (par_num hp j hj).1)
        (by rw [hs]; intro j hj; rw [Nat.zero_add]; exact hcell u hu j hj)
      rw [hs] at this
      exact this
    generalize foldN (kdf xs) (vdf xs) (treeOf n xs) (n - 1) = N at *
    generalize foldL (kdf xs) (vdf xs) (treeOf n xs) (n - 1) = L at *
    clear hr h e1 e2 hA hs hp hcell hnc
    go_enter Try.func49, Try.ntmps49
    go_wp2_with fail
    refine C1.out.mono ?_
    rintro e w1 ⟨rfl, hb1⟩
    have HB1 := Lib.hid hb1
    clear hb1
    go_wp2_with fail
    refine (CF.out _ HB1.out).mono ?_
    rintro e w2 ⟨v2, rfl, hr2, hb2⟩
    have HR2 := Lib.hid (hr2.mono HB1.out.size)
    have HB2 : Hid (Below w.heap.size w w2) := HB1.out.trans (hb2.mono HB1.out.size)
    clear hr2 hb2
    go_wp2
    go_ret2
    exact ⟨_, rfl, HR2.out, HB2.out⟩
end Go.Proofs.Ytdodmcmkelegoaa
