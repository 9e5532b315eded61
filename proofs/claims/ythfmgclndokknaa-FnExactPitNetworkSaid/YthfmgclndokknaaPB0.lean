/-
  The network of arcs and values: plain, and its edges in the model.
-/
import Derived.Test.YthfmgclndokknaaPA0
import Derived.Test.YthfmgclndokknaaZE
namespace Go.Proofs.Ythfmgclndokknaa
open Go.RowKit
set_option linter.unusedVariables false

theorem getD_rgt {P Q : List Int} {i j : Nat} (h : i = P.length + j) : (P ++ Q).getD i 0 = Q.getD j 0 := by
  subst h
  rw [List.getD_eq_getElem?_getD, List.getElem?_append_right (by omega), Nat.add_sub_cancel_left, ← List.getD_eq_getElem?_getD]
theorem getD_lft {P Q : List Int} {i : Nat} (h : i < P.length) : (P ++ Q).getD i 0 = P.getD i 0 := by simp [List.getD_eq_getElem?_getD, List.getElem?_append_left h]

/-- The edge of a value: out of the source, into the sink, or none. -/
def vE (n i : Nat) (v : Int) : List Int := if 0 < v then [0, (i : Int) + 1, v] else if v < 0 then [(i : Int) + 1, (n : Int) + 1, -v] else []
def vN (v : Int) : Nat := if 0 < v then 1 else if v < 0 then 1 else 0
theorem vE_pos {n i : Nat} {v : Int} (h : 0 < v) : vE n i v = [0, (i : Int) + 1, v] ∧ vN v = 1 := by unfold vE vN; rw [if_pos h, if_pos h]; exact ⟨rfl, rfl⟩
theorem vE_neg {n i : Nat} {v : Int} (h : v < 0) : vE n i v = [(i : Int) + 1, (n : Int) + 1, -v] ∧ vN v = 1 := by unfold vE vN; rw [if_neg (by omega), if_pos h, if_neg (by omega), if_pos h]; exact ⟨rfl, rfl⟩
theorem vE_zero {n i : Nat} {v : Int} (h1 : ¬ 0 < v) (h : ¬ v < 0) : vE n i v = [] ∧ vN v = 0 := by unfold vE vN; rw [if_neg h1, if_neg h, if_neg h1, if_neg h]; exact ⟨rfl, rfl⟩
theorem vE_len (n i : Nat) (v : Int) : (vE n i v).length = vN v * 3 := by
  unfold vE vN
  split
  · rfl
  · split <;> rfl
theorem vN_le (v : Int) : vN v ≤ 1 := by unfold vN; split; omega; split <;> omega
/-- The edges of the first t arcs of a block. -/
def aE (i : Nat) (ys : List Int) : Nat → List Int
  | 0 => []
  | t + 1 => aE i ys t ++ [(i : Int) + 1, ys.getD t 0 + 1, 1000000000]
theorem aE_len (i : Nat) (ys : List Int) : ∀ t, (aE i ys t).length = t * 3
  | 0 => rfl
  | t + 1 => by unfold aE; rw [List.length_append, aE_len i ys t]; simp; omega
/-- The edges of the first k blocks, and how many they are. -/
def pE (xss : List (List Int)) (vs : List Int) : Nat → List Int
  | 0 => []
  | k + 1 => (pE xss vs k ++ vE xss.length k (vs.getD k 0)) ++ aE k (xss.getD k []) (xss.getD k []).length
def pN (xss : List (List Int)) (vs : List Int) : Nat → Nat
  | 0 => 0
  | k + 1 => (pN xss vs k + vN (vs.getD k 0)) + (xss.getD k []).length
theorem pE_len (xss : List (List Int)) (vs : List Int) : ∀ k, (pE xss vs k).length = pN xss vs k * 3
  | 0 => rfl
  | k + 1 => by
    unfold pE pN
    rw [List.length_append, List.length_append, pE_len xss vs k, vE_len, aE_len]
    omega
theorem pN_le {xss : List (List Int)} (ha : arcB xss = true) (vs : List Int) : ∀ k, k ≤ xss.length → 2 * pN xss vs k ≤ k * (k + 1)
  | 0, _ => Nat.le_refl _
  | k + 1, hk => by
    have ih := pN_le ha vs k (by omega)
    have h1 := ris_len (arcB_at ha (show k < xss.length by omega)) (by omega)
    have h2 := vN_le (vs.getD k 0)
    unfold pN
    rw [Nat.add_mul, Nat.mul_add k (k + 1) 1, Nat.one_mul, Nat.mul_one]
    generalize k * (k + 1) = T at *
    omega
theorem pN_max {xss : List (List Int)} (ha : arcB xss = true) (vs : List Int) {k : Nat} (hk : k ≤ xss.length) : pN xss vs k ≤ 7260 := by
  have h1 := pN_le ha vs k hk
  have h2 := arc_len ha
  have h3 : k * (k + 1) ≤ 120 * 121 := Nat.mul_le_mul (by omega) (by omega)
  omega
/-- All of the first m edges are valid. -/
theorem edg_app {n : Int} {P Q : List Int} {a b : Nat} (hP : P.length = a * 3) (h1 : EdgTo n P a) (h2 : EdgTo n Q b) : EdgTo n (P ++ Q) (a + b) := fun j hj => by
  by_cases c : j < a
  · have g : ∀ i, i < a * 3 → (P ++ Q).getD i 0 = P.getD i 0 := fun i hi => getD_lft (by omega)
    rw [g _ (by omega), g _ (by omega), g _ (by omega)]
    exact h1 j c
  · rw [getD_rgt (j := (j - a) * 3) (by omega), getD_rgt (j := (j - a) * 3 + 1) (by omega), getD_rgt (j := (j - a) * 3 + 2) (by omega)]
    exact h2 (j - a) (by omega)
theorem vE_ok {n i : Nat} {v : Int} (hi : i < n) (h1 : -1000000000 ≤ v) (h2 : v ≤ 1000000000) : EdgTo ((n : Int) + 2) (vE n i v) (vN v) := fun j hj => by
  by_cases c : 0 < v
  · obtain ⟨e1, e2⟩ := vE_pos (n := n) (i := i) c
    rw [e1]
    obtain rfl : j = 0 := by omega
    exact edg_mk (by simp; omega)
  · by_cases c2 : v < 0
    · obtain ⟨e1, e2⟩ := vE_neg (n := n) (i := i) c2
      rw [e1]
      obtain rfl : j = 0 := by omega
      exact edg_mk (by simp; omega)
    · obtain ⟨_, e2⟩ := vE_zero (n := n) (i := i) c c2
      omega
theorem aE_ok {n i : Nat} {ys : List Int} (hi : i < n) (hr : risB i ys = true) : ∀ t, t ≤ ys.length → EdgTo ((n : Int) + 2) (aE i ys t) t
  | 0, _ => EdgTo.zero _ _
  | t + 1, ht => by
    obtain ⟨a, b⟩ := ris_box hr (show t < ys.length by omega)
    unfold aE
    refine edg_app (aE_len i ys t) (aE_ok hi hr t (by omega)) fun j hj => ?_
    obtain rfl : j = 0 := by omega
    show edgB _ ((i : Int) + 1) (ys.getD t 0 + 1) 1000000000 = true
    exact edg_mk (by omega)
theorem pE_ok {xss : List (List Int)} {vs : List Int} (ha : arcB xss = true) (hv : ∀ k, k < xss.length → -1000000000 ≤ vs.getD k 0 ∧ vs.getD k 0 ≤ 1000000000) : ∀ k, k ≤ xss.length → EdgTo ((xss.length : Int) + 2) (pE xss vs k) (pN xss vs k)
  | 0, _ => EdgTo.zero _ _
  | k + 1, hk => by
    obtain ⟨h1, h2⟩ := hv k (by omega)
    unfold pE pN
    refine edg_app (by rw [List.length_append, pE_len, vE_len]; omega) (edg_app (pE_len _ _ _) (pE_ok ha hv k (by omega)) (vE_ok (by omega) h1 h2)) (aE_ok (by omega) (arcB_at ha (by omega)) _ (Nat.le_refl _))
/-- The network is one, though it may have more edges than networks have. -/
theorem pE_net {xss : List (List Int)} {vs : List Int} (ha : arcB xss = true) (hv : ∀ k, k < xss.length → -1000000000 ≤ vs.getD k 0 ∧ vs.getD k 0 ≤ 1000000000) : netW ((xss.length + 2 : Nat) : Int) (pN xss vs xss.length) (pE xss vs xss.length) = true := by
  have h := arc_len ha
  have h2 := pN_max ha vs (Nat.le_refl _)
  exact netW_mk (by omega) (by omega) (by omega) (edgAll_true (pE_ok ha hv _ (Nat.le_refl _)))
theorem val_wide {n : Int} {vs : List Int} (h : valB n vs = true) : ∀ k : Nat, k < n.toNat → -1000000000 ≤ vs.getD k 0 ∧ vs.getD k 0 ≤ 1000000000 := fun k hk => by
  obtain ⟨e, _, _, hw⟩ := val_yes h
  have := wall_at hw (show k < vs.length by omega)
  omega
theorem srcE {w : World} {B n c : Nat} {A : Option Addr} {xs : List Int} (h : RowP w B (.slice A n c) n xs) : Src w 3 A n c (ints xs) := by
  refine src_cells 3 h.len (fun e => ?_) (fun h0 => ?_)
  · rcases h.2 with ⟨e', _⟩ | ⟨g, cap, cur, e', _⟩
    · simp at e'
      exact e'.2.2
    · subst e
      simp at e'
  · obtain ⟨g, c', e, _, _⟩ := h.form h0
    simp at e
    obtain ⟨rfl, rfl⟩ := e
    exact ⟨g, 0, rfl, fun k hk => by rw [Nat.zero_add]; exact h.cell k (by rw [← h.len]; exact hk)⟩

theorem news3 (w : World) (a b c : Value) (T : TypeId) : ∀ (j : Nat) (u : Value), [a, b, c][j]? = some u → (w.alloc (.cells #[a, b, c] T)).cell? ((⟨w.heap.size, 0, none⟩ : Addr).add j) = some u
  | 0, u, hj => by simp at hj; subst hj; simp [Addr.add]
  | 1, u, hj => by simp at hj; subst hj; simp [Addr.add]
  | 2, u, hj => by simp at hj; subst hj; simp [Addr.add]
theorem ones3 (a b c : Int) : ∀ u ∈ [Value.int .i64 a, .int .i64 b, .int .i64 c], u.oneCell' = true := by
  intro u hu
  simp at hu
  rcases hu with rfl | rfl | rfl <;> rfl

set_option maxHeartbeats 8000000 in
set_option maxRecDepth 100000 in
theorem c_paEdges (xss : List (List Int)) (vs : List Int) (v u : Value) (w : World) (ha : arcB xss = true) (hvl : vs.length = xss.length) (hv : ∀ k, k < xss.length → -1000000000 ≤ vs.getD k 0 ∧ vs.getD k 0 ≤ 1000000000) (h : SeenL w v xss) (hu : Seen w u vs) :
    Calls Try.prog 28 #[v, u] w (GivesP w (pN xss vs xss.length) (pE xss vs xss.length)) := by
  obtain ⟨i0, hi0, hz0, hz1, hz2⟩ := info_parts edge_info
  have HI := Lib.hid hi0
  have HS := Lib.hid h
  have HU := Lib.hid hu
  have HA : Hid (∀ i, i < xss.length → risB i (xss.getD i []) = true) := fun i hi => arcB_at ha hi
  have HV := Lib.hid hv
  have HM : Hid (∀ k, k ≤ xss.length → pN xss vs k ≤ 7260) := fun k hk => pN_max ha vs hk
  have hN := arc_len ha
  have PE0 : Hid (pE xss vs 0 = [] ∧ pN xss vs 0 = 0) := ⟨rfl, rfl⟩
  have PES : Hid (∀ k, pE xss vs (k + 1) = (pE xss vs k ++ vE xss.length k (vs.getD k 0)) ++ aE k (xss.getD k []) (xss.getD k []).length ∧ pN xss vs (k + 1) = (pN xss vs k + vN (vs.getD k 0)) + (xss.getD k []).length) := fun k => ⟨rfl, rfl⟩
  obtain ⟨A, c, rfl, hm⟩ := h.shape
  obtain ⟨A2, c2, rfl⟩ := hu.shape
  rw [hvl] at HU ⊢
  have HVL := Lib.hid hvl
  clear h hu ha hv hi0 hvl
  generalize hE : pE xss vs = E at *
  generalize hC : pN xss vs = C at *
  clear hE hC
  obtain ⟨n, hn⟩ : ∃ n, n = xss.length := ⟨_, rfl⟩
  rw [← hn] at HS HU HA HV HM PES HVL hN hm ⊢
  have HNx := Lib.hid hn
  clear hn
  go_enter Try.func28, Try.ntmps28
  go_wp2_with fail
  go_loopw [5, 13] (fun q i wr => ∃ k : Nat, k ≤ n ∧ i = .int .i64 k ∧ RowP wr w.heap.size q (C k) (E k) ∧ Below w.heap.size w wr) (fun _ i _ => n - (RowKit.intOf i).toNat)
  case atStart => exact ⟨0, Nat.zero_le _, rfl, by rw [PE0.out.1, PE0.out.2]; exact RowP.nil _ _, Below.refl _ _⟩
  case round =>
    obtain ⟨k, hk, rfl, hr, hb⟩ := hrel
    have HR := Lib.hid hr
    have HB := Lib.hid hb
    clear hr hb
    by_cases hlt : k < n
    · obtain ⟨b, off, A', c', rfl, hbl, q0, hys⟩ := HS.out.at_ (k := k) (by have := HNx.out; omega)
      obtain ⟨b2, o2, c2', e2, hb2l, q1⟩ := HU.out.at_ (k := k) (by rw [HVL.out]; exact hlt)
      simp at e2
      obtain ⟨rfl, e9, rfl⟩ := e2
      clear e9
      have p0 : wr.cell? ⟨b, off + k, none⟩ = some (.slice A' (xss.getD k []).length c') := by rw [HB.out.cell (p := ⟨b, off + k, none⟩) hbl]; exact q0
      have p1 : wr.cell? ⟨b2, o2 + k, none⟩ = some (.int .i64 (vs.getD k 0)) := by rw [HB.out.cell (p := ⟨b2, o2 + k, none⟩) hb2l]; exact q1
      have hrk := HA.out k hlt
      have hyl := ris_len hrk (by omega)
      have HYs : Hid (∀ t, t < (xss.getD k []).length → ∃ b off, A' = some ⟨b, off, none⟩ ∧ b < w.heap.size ∧ w.cell? ⟨b, off + t, none⟩ = some (.int .i64 ((xss.getD k []).getD t 0))) := fun t ht => by
        obtain ⟨b3, o3, c3', e3, hb3, hc3⟩ := hys.at_ (k := t) ht
        simp at e3
        obtain ⟨rfl, rfl⟩ := e3
        exact ⟨b3, o3, rfl, hb3, hc3⟩
      have HBx : Hid (∀ t, t < (xss.getD k []).length → 0 ≤ (xss.getD k []).getD t 0 ∧ (xss.getD k []).getD t 0 < (k : Int)) := fun t ht => ris_box hrk ht
      obtain ⟨HE1', HC1'⟩ := PES.out k
      have HE1 := Lib.hid HE1'
      have HC1 := Lib.hid HC1'
      have hcm := HM.out k (by omega)
      have hcm1 := HM.out (k + 1) (by omega)
      rw [HC1'] at hcm1
      obtain ⟨w1, w2⟩ := HV.out k hlt
      clear q0 q1 hys hbl hb2l HE1' HC1' hrk
      generalize xss.getD k [] = ys at *
      generalize vs.getD k 0 = x at *
      have b1 : (0 : Int) ≤ (k : Int) := by omega
      have b2' : (k : Int) < (n : Int) := by omega
      have sw0 := HB.out.size
      obtain ⟨Ev, hEv⟩ : ∃ Ev, Ev = E k ++ vE n k x := ⟨_, rfl⟩
      obtain ⟨Cv, hCv⟩ : ∃ Cv, Cv = C k + vN x := ⟨_, rfl⟩
      rw [← hEv] at HE1
      rw [← hCv] at HC1 hcm1
      have HCv : Hid (Cv + ys.length ≤ 7260) := hcm1
      by_cases hp : 0 < x
      · obtain ⟨f1, f2⟩ := vE_pos (n := n) (i := k) hp
        rw [f1] at hEv
        rw [f2] at hCv
        have HEv := Lib.hid hEv
        have HCv2 := Lib.hid hCv
        clear hEv hCv f1 f2
        go_wp2_with (at_builtin; refine wpList_append_own _ rfl _ _ 25 rfl (w.heap.size) 49 i0 (.agg #[.int .i64 0, .int .i64 0, .int .i64 0]) 3 24 Try.underlying25 HI.out hz0 hz1 hz2 rfl (by decide) _ _ _ rfl (World.ownsRow.alloc HR.out _) ⟨wr.heap.size, 0, none⟩ 1 1 [.int .i64 0, .int .i64 ((k : Int) + 1), .int .i64 x] rfl rfl (news3 _ _ _ _ _) (ones3 _ _ _) ?c3 ?c4 ?c5 ?_)
        case c3 => unfold maxLen; omega
        case c4 => omega
        case c5 => first | omega | (simp; omega)
        intro v' w4 hown' hgrow _
        have HRv : Hid (RowP w4 w.heap.size v' Cv Ev) := by rw [HEv.out, HCv2.out]; exact edgP_snoc hown'
        have HBv : Hid (Below w.heap.size w w4) := (HB.out.alloc sw0 _).grown hgrow (by simp; omega) (fun g hg => (World.ownsRow.lt HR.out g hg).1)
        clear hown' hgrow
        have R5 := Lib.hid HRv.out
        have hcv := HCv.out
        go_wp2_with fail
        go_loopw [5, 48] (fun q i wr => ∃ t : Nat, t ≤ ys.length ∧ i = .int .i64 t ∧ RowP wr w.heap.size q (Cv + t) (Ev ++ aE k ys t) ∧ Below w.heap.size w wr) (fun _ i _ => ys.length - (RowKit.intOf i).toNat)
        case atStart => exact ⟨0, Nat.zero_le _, rfl, by show RowP _ _ _ (Cv + 0) (Ev ++ []); rw [List.append_nil]; exact R5.out, HBv.out⟩
        case round =>
          obtain ⟨t, ht, rfl, hr, hb⟩ := hrel
          have HRt := Lib.hid hr
          have HBt := Lib.hid hb
          clear hr hb
          by_cases htl : t < ys.length
          · obtain ⟨b3, o3, e3, hb3l, hc3⟩ := HYs.out t htl
            obtain rfl := e3
            have q3 : wr.cell? ⟨b3, o3 + t, none⟩ = some (.int .i64 (ys.getD t 0)) := by rw [HBt.out.cell (p := ⟨b3, o3 + t, none⟩) hb3l]; exact hc3
            obtain ⟨z1, z2⟩ := HBx.out t htl
            have HT : Hid (Ev ++ aE k ys (t + 1) = (Ev ++ aE k ys t) ++ [(k : Int) + 1, ys.getD t 0 + 1, 1000000000]) := by show _ = _; rw [List.append_assoc]; rfl
            clear hc3 hb3l
            generalize ys.getD t 0 = y at *
            have d1 : (0 : Int) ≤ (t : Int) := by omega
            have d2 : (t : Int) < (ys.length : Int) := by omega
            have sw := HBt.out.size
            go_wp2_with (at_builtin; refine wpList_append_own _ rfl _ _ 25 rfl (w.heap.size) 49 i0 (.agg #[.int .i64 0, .int .i64 0, .int .i64 0]) 3 24 Try.underlying25 HI.out hz0 hz1 hz2 rfl (by decide) _ _ _ rfl (World.ownsRow.alloc HRt.out _) ⟨wr.heap.size, 0, none⟩ 1 1 [.int .i64 ((k : Int) + 1), .int .i64 (y + 1), .int .i64 1000000000] rfl rfl (news3 _ _ _ _ _) (ones3 _ _ _) ?c3 ?c4 ?c5 ?_)
            case c3 => unfold maxLen; omega
            case c4 => omega
            case c5 => first | omega | (simp; omega)
            intro v' w5 hown' hgrow _
            have R1 : Hid (RowP w5 w.heap.size v' (Cv + (t + 1)) (Ev ++ aE k ys (t + 1))) := by rw [HT.out]; exact edgP_snoc hown'
            have R2 : Hid (Below w.heap.size w w5) := (HBt.out.alloc sw _).grown hgrow (by simp; omega) (fun g hg => (World.ownsRow.lt HRt.out g hg).1)
            clear hown' hgrow
            go_wp2
            go_roundw
            case rel => exact ⟨t + 1, by omega, by go_num, R1.out, R2.out⟩
            case measure => simp [RowKit.intOf]; omega
          · obtain rfl : t = ys.length := by omega
            have G : Hid (RowP wr w.heap.size u5 (C (k + 1)) (E (k + 1))) := by rw [HE1.out, HC1.out]; exact HRt.out
            go_wp2
            go_roundw
            case rel => exact ⟨k + 1, by omega, by go_num, G.out, HBt.out⟩
            case measure => simp [RowKit.intOf]; omega
      · by_cases hq : x < 0
        · obtain ⟨f1, f2⟩ := vE_neg (n := n) (i := k) hq
          rw [f1] at hEv
          rw [f2] at hCv
          have HEv := Lib.hid hEv
          have HCv2 := Lib.hid hCv
          clear hEv hCv f1 f2
          go_wp2_with (at_builtin; refine wpList_append_own _ rfl _ _ 25 rfl (w.heap.size) 49 i0 (.agg #[.int .i64 0, .int .i64 0, .int .i64 0]) 3 24 Try.underlying25 HI.out hz0 hz1 hz2 rfl (by decide) _ _ _ rfl (World.ownsRow.alloc HR.out _) ⟨wr.heap.size, 0, none⟩ 1 1 [.int .i64 ((k : Int) + 1), .int .i64 ((n : Int) + 1), .int .i64 (-x)] rfl rfl (news3 _ _ _ _ _) (ones3 _ _ _) ?c3 ?c4 ?c5 ?_)
          case c3 => unfold maxLen; omega
          case c4 => omega
          case c5 => first | omega | (simp; omega)
          intro v' w4 hown' hgrow _
          have HRv : Hid (RowP w4 w.heap.size v' Cv Ev) := by rw [HEv.out, HCv2.out]; exact edgP_snoc hown'
          have HBv : Hid (Below w.heap.size w w4) := (HB.out.alloc sw0 _).grown hgrow (by simp; omega) (fun g hg => (World.ownsRow.lt HR.out g hg).1)
          clear hown' hgrow
          have R5 := Lib.hid HRv.out
          have hcv := HCv.out
          go_wp2_with fail
          go_loopw [5, 48] (fun q i wr => ∃ t : Nat, t ≤ ys.length ∧ i = .int .i64 t ∧ RowP wr w.heap.size q (Cv + t) (Ev ++ aE k ys t) ∧ Below w.heap.size w wr) (fun _ i _ => ys.length - (RowKit.intOf i).toNat)
          case atStart => exact ⟨0, Nat.zero_le _, rfl, by show RowP _ _ _ (Cv + 0) (Ev ++ []); rw [List.append_nil]; exact R5.out, HBv.out⟩
          case round =>
            obtain ⟨t, ht, rfl, hr, hb⟩ := hrel
            have HRt := Lib.hid hr
            have HBt := Lib.hid hb
            clear hr hb
            by_cases htl : t < ys.length
            · obtain ⟨b3, o3, e3, hb3l, hc3⟩ := HYs.out t htl
              obtain rfl := e3
              have q3 : wr.cell? ⟨b3, o3 + t, none⟩ = some (.int .i64 (ys.getD t 0)) := by rw [HBt.out.cell (p := ⟨b3, o3 + t, none⟩) hb3l]; exact hc3
              obtain ⟨z1, z2⟩ := HBx.out t htl
              have HT : Hid (Ev ++ aE k ys (t + 1) = (Ev ++ aE k ys t) ++ [(k : Int) + 1, ys.getD t 0 + 1, 1000000000]) := by show _ = _; rw [List.append_assoc]; rfl
              clear hc3 hb3l
              generalize ys.getD t 0 = y at *
              have d1 : (0 : Int) ≤ (t : Int) := by omega
              have d2 : (t : Int) < (ys.length : Int) := by omega
              have sw := HBt.out.size
              go_wp2_with (at_builtin; refine wpList_append_own _ rfl _ _ 25 rfl (w.heap.size) 49 i0 (.agg #[.int .i64 0, .int .i64 0, .int .i64 0]) 3 24 Try.underlying25 HI.out hz0 hz1 hz2 rfl (by decide) _ _ _ rfl (World.ownsRow.alloc HRt.out _) ⟨wr.heap.size, 0, none⟩ 1 1 [.int .i64 ((k : Int) + 1), .int .i64 (y + 1), .int .i64 1000000000] rfl rfl (news3 _ _ _ _ _) (ones3 _ _ _) ?c3 ?c4 ?c5 ?_)
              case c3 => unfold maxLen; omega
              case c4 => omega
              case c5 => first | omega | (simp; omega)
              intro v' w5 hown' hgrow _
              have R1 : Hid (RowP w5 w.heap.size v' (Cv + (t + 1)) (Ev ++ aE k ys (t + 1))) := by rw [HT.out]; exact edgP_snoc hown'
              have R2 : Hid (Below w.heap.size w w5) := (HBt.out.alloc sw _).grown hgrow (by simp; omega) (fun g hg => (World.ownsRow.lt HRt.out g hg).1)
              clear hown' hgrow
              go_wp2
              go_roundw
              case rel => exact ⟨t + 1, by omega, by go_num, R1.out, R2.out⟩
              case measure => simp [RowKit.intOf]; omega
            · obtain rfl : t = ys.length := by omega
              have G : Hid (RowP wr w.heap.size u5 (C (k + 1)) (E (k + 1))) := by rw [HE1.out, HC1.out]; exact HRt.out
              go_wp2
              go_roundw
              case rel => exact ⟨k + 1, by omega, by go_num, G.out, HBt.out⟩
              case measure => simp [RowKit.intOf]; omega
        · obtain ⟨f1, f2⟩ := vE_zero (n := n) (i := k) hp hq
          rw [f1, List.append_nil] at hEv
          rw [f2, Nat.add_zero] at hCv
          have HRv : Hid (RowP wr w.heap.size u5 Cv Ev) := by rw [hEv, hCv]; exact HR.out
          have HBv := HB
          clear hEv hCv f1 f2
          have R5 := Lib.hid HRv.out
          have hcv := HCv.out
          go_wp2_with fail
          go_loopw [5, 48] (fun q i wr => ∃ t : Nat, t ≤ ys.length ∧ i = .int .i64 t ∧ RowP wr w.heap.size q (Cv + t) (Ev ++ aE k ys t) ∧ Below w.heap.size w wr) (fun _ i _ => ys.length - (RowKit.intOf i).toNat)
          case atStart => exact ⟨0, Nat.zero_le _, rfl, by show RowP _ _ _ (Cv + 0) (Ev ++ []); rw [List.append_nil]; exact R5.out, HBv.out⟩
          case round =>
            obtain ⟨t, ht, rfl, hr, hb⟩ := hrel
            have HRt := Lib.hid hr
            have HBt := Lib.hid hb
            clear hr hb
            by_cases htl : t < ys.length
            · obtain ⟨b3, o3, e3, hb3l, hc3⟩ := HYs.out t htl
              obtain rfl := e3
              have q3 : wr.cell? ⟨b3, o3 + t, none⟩ = some (.int .i64 (ys.getD t 0)) := by rw [HBt.out.cell (p := ⟨b3, o3 + t, none⟩) hb3l]; exact hc3
              obtain ⟨z1, z2⟩ := HBx.out t htl
              have HT : Hid (Ev ++ aE k ys (t + 1) = (Ev ++ aE k ys t) ++ [(k : Int) + 1, ys.getD t 0 + 1, 1000000000]) := by show _ = _; rw [List.append_assoc]; rfl
              clear hc3 hb3l
              generalize ys.getD t 0 = y at *
              have d1 : (0 : Int) ≤ (t : Int) := by omega
              have d2 : (t : Int) < (ys.length : Int) := by omega
              have sw := HBt.out.size
              go_wp2_with (at_builtin; refine wpList_append_own _ rfl _ _ 25 rfl (w.heap.size) 49 i0 (.agg #[.int .i64 0, .int .i64 0, .int .i64 0]) 3 24 Try.underlying25 HI.out hz0 hz1 hz2 rfl (by decide) _ _ _ rfl (World.ownsRow.alloc HRt.out _) ⟨wr.heap.size, 0, none⟩ 1 1 [.int .i64 ((k : Int) + 1), .int .i64 (y + 1), .int .i64 1000000000] rfl rfl (news3 _ _ _ _ _) (ones3 _ _ _) ?c3 ?c4 ?c5 ?_)
              case c3 => unfold maxLen; omega
              case c4 => omega
              case c5 => first | omega | (simp; omega)
              intro v' w5 hown' hgrow _
              have R1 : Hid (RowP w5 w.heap.size v' (Cv + (t + 1)) (Ev ++ aE k ys (t + 1))) := by rw [HT.out]; exact edgP_snoc hown'
              have R2 : Hid (Below w.heap.size w w5) := (HBt.out.alloc sw _).grown hgrow (by simp; omega) (fun g hg => (World.ownsRow.lt HRt.out g hg).1)
              clear hown' hgrow
              go_wp2
              go_roundw
              case rel => exact ⟨t + 1, by omega, by go_num, R1.out, R2.out⟩
              case measure => simp [RowKit.intOf]; omega
            · obtain rfl : t = ys.length := by omega
              have G : Hid (RowP wr w.heap.size u5 (C (k + 1)) (E (k + 1))) := by rw [HE1.out, HC1.out]; exact HRt.out
              go_wp2
              go_roundw
              case rel => exact ⟨k + 1, by omega, by go_num, G.out, HBt.out⟩
              case measure => simp [RowKit.intOf]; omega
    · obtain rfl : k = n := by omega
      go_wp2
      go_ret
      exact ⟨_, rfl, HR.out, HB.out⟩
end Go.Proofs.Ythfmgclndokknaa
