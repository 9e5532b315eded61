/-
The network of arcs and values: plain, and its edges in the model.
Contracts: the blocks of a cut; best pits, in the model.
Contracts: the network of arcs and values in the program.
Contract: all edges of the network of arcs and values, in the program.
Contracts: best pits, in the program and in the model.
Contracts: BestPit and LargestPit, in the program and in the model.
-/
import Derived.Test.YtdgkgnlilcbggaaPA
import Derived.Test.YtdgkgnlilcbggaaTA
import Derived.Test.YtdgkgnlilcbggaaTC
import Derived.Deep.RegionWith
import Derived.Test.YtdgkgnlilcbggaaZL
import Derived.Deep.RegionHeld3
namespace Go.Proofs.Ytdgkgnlilcbggaa
open Go.RowKit
set_option linter.unusedVariables false

/-- The edge of a value: out of the source, into the sink, or none. -/
def vE (n i : Nat) (v : Int) : List Int := if 0 < v then [0, (i : Int) + 1, v] else if v < 0 then [(i : Int) + 1, (n : Int) + 1, -v] else []
def vN (v : Int) : Nat := if 0 < v then 1 else if v < 0 then 1 else 0
theorem vE_pos {n i : Nat} {v : Int} (h : 0 < v) : vE n i v = [0, (i : Int) + 1, v] ∧ vN v = 1 := by unfold vE vN; rw [if_pos h, if_pos h]; exact ⟨rfl, rfl⟩
theorem vE_neg {n i : Nat} {v : Int} (h : v < 0) : vE n i v = [(i : Int) + 1, (n : Int) + 1, -v] ∧ vN v = 1 := by unfold vE vN; rw [if_neg (by omega), if_pos h, if_neg (by omega), if_pos h]; exact ⟨rfl, rfl⟩
theorem vE_zero {n i : Nat} {v : Int} (h1 : ¬ 0 < v) (h : ¬ v < 0) : vE n i v = [] ∧ vN v = 0 := by unfold vE vN; rw [if_neg h1, if_neg h, if_neg h1, if_neg h]; exact ⟨rfl, rfl⟩
theorem vE_len (n i : Nat) (v : Int) : (vE n i v).length = vN v * 3 := by
  unfold vE vN
  split
  · rfl
  · split <;> rfl
theorem vN_le (v : Int) : vN v ≤ 1 := by unfold vN; split; omega; split <;> omega
/-- The edges of the first t arcs of a block. -/
def aE (i : Nat) (ys : List Int) : Nat → List Int
  | 0 => []
  | t + 1 => aE i ys t ++ [(i : Int) + 1, ys.getD t 0 + 1, 1000000000]
theorem aE_len (i : Nat) (ys : List Int) : ∀ t, (aE i ys t).length = t * 3
  | 0 => rfl
  | t + 1 => by unfold aE; rw [List.length_append, aE_len i ys t]; simp; omega
/-- The edges of the first k blocks, and how many they are. -/
def pE (xss : List (List Int)) (vs : List Int) : Nat → List Int
  | 0 => []
  | k + 1 => (pE xss vs k ++ vE xss.length k (vs.getD k 0)) ++ aE k (xss.getD k []) (xss.getD k []).length
def pN (xss : List (List Int)) (vs : List Int) : Nat → Nat
  | 0 => 0
  | k + 1 => (pN xss vs k + vN (vs.getD k 0)) + (xss.getD k []).length
theorem pE_len (xss : List (List Int)) (vs : List Int) : ∀ k, (pE xss vs k).length = pN xss vs k * 3
  | 0 => rfl
  | k + 1 => by
    unfold pE pN
    rw [List.length_append, List.length_append, pE_len xss vs k, vE_len, aE_len]
    omega
theorem pN_le {xss : List (List Int)} (ha : arcB xss = true) (vs : List Int) : ∀ k, k ≤ xss.length → 2 * pN xss vs k ≤ k * (k + 1)
  | 0, _ => Nat.le_refl _
  | k + 1, hk => by
    have ih := pN_le ha vs k (by omega)
    have h1 := ris_len (arcB_at ha (show k < xss.length by omega)) (by omega)
    have h2 := vN_le (vs.getD k 0)
    unfold pN
    rw [Nat.add_mul, Nat.mul_add k (k + 1) 1, Nat.one_mul, Nat.mul_one]
    generalize k * (k + 1) = T at *
    omega
theorem pN_max {xss : List (List Int)} (ha : arcB xss = true) (vs : List Int) {k : Nat} (hk : k ≤ xss.length) : pN xss vs k ≤ 7260 := by
  have h1 := pN_le ha vs k hk
  have h2 := arc_len ha
  have h3 : k * (k + 1) ≤ 120 * 121 := Nat.mul_le_mul (by omega) (by omega)
  omega
/-- All of the first m edges are valid. -/
theorem edg_app {n : Int} {P Q : List Int} {a b : Nat} (hP : P.length = a * 3) (h1 : EdgTo n P a) (h2 : EdgTo n Q b) : EdgTo n (P ++ Q) (a + b) := fun j hj => by
  by_cases c : j < a
  · have g : ∀ i, i < a * 3 → (P ++ Q).getD i 0 = P.getD i 0 := fun i hi => getD_lft (by omega)
    rw [g _ (by omega), g _ (by omega), g _ (by omega)]
    exact h1 j c
  · rw [getD_rgt (j := (j - a) * 3) (by omega), getD_rgt (j := (j - a) * 3 + 1) (by omega), getD_rgt (j := (j - a) * 3 + 2) (by omega)]
    exact h2 (j - a) (by omega)
theorem vE_ok {n i : Nat} {v : Int} (hi : i < n) (h1 : -1000000000 ≤ v) (h2 : v ≤ 1000000000) : EdgTo ((n : Int) + 2) (vE n i v) (vN v) := fun j hj => by
  by_cases c : 0 < v
  · obtain ⟨e1, e2⟩ := vE_pos (n := n) (i := i) c
    rw [e1]
    obtain rfl : j = 0 := by omega
    exact edg_mk (by simp; omega)
  · by_cases c2 : v < 0
    · obtain ⟨e1, e2⟩ := vE_neg (n := n) (i := i) c2
      rw [e1]
      obtain rfl : j = 0 := by omega
      exact edg_mk (by simp; omega)
    · obtain ⟨_, e2⟩ := vE_zero (n := n) (i := i) c c2
      omega
theorem aE_ok {n i : Nat} {ys : List Int} (hi : i < n) (hr : risB i ys = true) : ∀ t, t ≤ ys.length → EdgTo ((n : Int) + 2) (aE i ys t) t
  | 0, _ => EdgTo.zero _ _
  | t + 1, ht => by
    obtain ⟨a, b⟩ := ris_box hr (show t < ys.length by omega)
    unfold aE
    refine edg_app (aE_len i ys t) (aE_ok hi hr t (by omega)) fun j hj => ?_
    obtain rfl : j = 0 := by omega
    show edgB _ ((i : Int) + 1) (ys.getD t 0 + 1) 1000000000 = true
    exact edg_mk (by omega)
theorem pE_ok {xss : List (List Int)} {vs : List Int} (ha : arcB xss = true) (hv : ∀ k, k < xss.length → -1000000000 ≤ vs.getD k 0 ∧ vs.getD k 0 ≤ 1000000000) : ∀ k, k ≤ xss.length → EdgTo ((xss.length : Int) + 2) (pE xss vs k) (pN xss vs k)
  | 0, _ => EdgTo.zero _ _
  | k + 1, hk => by
    obtain ⟨h1, h2⟩ := hv k (by omega)
    unfold pE pN
    refine edg_app (by rw [List.length_append, pE_len, vE_len]; omega) (edg_app (pE_len _ _ _) (pE_ok ha hv k (by omega)) (vE_ok (by omega) h1 h2)) (aE_ok (by omega) (arcB_at ha (by omega)) _ (Nat.le_refl _))
/-- The network is one, though it may have more edges than networks have. -/
theorem pE_net {xss : List (List Int)} {vs : List Int} (ha : arcB xss = true) (hv : ∀ k, k < xss.length → -1000000000 ≤ vs.getD k 0 ∧ vs.getD k 0 ≤ 1000000000) : netW ((xss.length + 2 : Nat) : Int) (pN xss vs xss.length) (pE xss vs xss.length) = true := by
  have h := arc_len ha
  have h2 := pN_max ha vs (Nat.le_refl _)
  exact netW_mk (by omega) (by omega) (by omega) (edgAll_true (pE_ok ha hv _ (Nat.le_refl _)))
theorem val_wide {n : Int} {vs : List Int} (h : valB n vs = true) : ∀ k : Nat, k < n.toNat → -1000000000 ≤ vs.getD k 0 ∧ vs.getD k 0 ≤ 1000000000 := fun k hk => by
  obtain ⟨e, _, _, hw⟩ := val_yes h
  have := wall_at hw (show k < vs.length by omega)
  omega
theorem srcE {w : World} {B n c : Nat} {A : Option Addr} {xs : List Int} (h : RowP w B (.slice A n c) n xs) : Src w 3 A n c (ints xs) := by
  refine src_cells 3 h.len (fun e => ?_) (fun h0 => ?_)
  · rcases h.2 with ⟨e', _⟩ | ⟨g, cap, cur, e', _⟩
    · simp at e'
      exact e'.2.2
    · subst e
      simp at e'
  · obtain ⟨g, c', e, _, _⟩ := h.form h0
    simp at e
    obtain ⟨rfl, rfl⟩ := e
    exact ⟨g, 0, rfl, fun k hk => by rw [Nat.zero_add]; exact h.cell k (by rw [← h.len]; exact hk)⟩

theorem news3 (w : World) (a b c : Value) (T : TypeId) : ∀ (j : Nat) (u : Value), [a, b, c][j]? = some u → (w.alloc (.cells #[a, b, c] T)).cell? ((⟨w.heap.size, 0, none⟩ : Addr).add j) = some u
  | 0, u, hj => by simp at hj; subst hj; simp [Addr.add]
  | 1, u, hj => by simp at hj; subst hj; simp [Addr.add]
  | 2, u, hj => by simp at hj; subst hj; simp [Addr.add]
theorem ones3 (a b c : Int) : ∀ u ∈ [Value.int .i64 a, .int .i64 b, .int .i64 c], u.oneCell' = true := by
  intro u hu
  simp at hu
  rcases hu with rfl | rfl | rfl <;> rfl

set_option maxHeartbeats 8000000 in
set_option maxRecDepth 100000 in
theorem c_paEdges (xss : List (List Int)) (vs : List Int) (v u : Value) (w : World) (ha : arcB xss = true) (hvl : vs.length = xss.length) (hv : ∀ k, k < xss.length → -1000000000 ≤ vs.getD k 0 ∧ vs.getD k 0 ≤ 1000000000) (h : SeenL w v xss) (hu : Seen w u vs) :
    Calls Try.prog 26 #[v, u] w (GivesP w (pN xss vs xss.length) (pE xss vs xss.length)) := by
  obtain ⟨i0, hi0, hz0, hz1, hz2⟩ := info_parts edge_info
  have HI := Lib.hid hi0
  have HS := Lib.hid h
  have HU := Lib.hid hu
  have HA : Hid (∀ i, i < xss.length → risB i (xss.getD i []) = true) := fun i hi => arcB_at ha hi
  have HV := Lib.hid hv
  have HM : Hid (∀ k, k ≤ xss.length → pN xss vs k ≤ 7260) := fun k hk => pN_max ha vs hk
  have hN := arc_len ha
  have PE0 : Hid (pE xss vs 0 = [] ∧ pN xss vs 0 = 0) := ⟨rfl, rfl⟩
  have PES : Hid (∀ k, pE xss vs (k + 1) = (pE xss vs k ++ vE xss.length k (vs.getD k 0)) ++ aE k (xss.getD k []) (xss.getD k []).length ∧ pN xss vs (k + 1) = (pN xss vs k + vN (vs.getD k 0)) + (xss.getD k []).length) := fun k => ⟨rfl, rfl⟩
  obtain ⟨A, c, rfl, hm⟩ := h.shape
  obtain ⟨A2, c2, rfl⟩ := hu.shape
  rw [hvl] at HU ⊢
  have HVL := Lib.hid hvl
  clear h hu ha hv hi0 hvl
  generalize hE : pE xss vs = E at *
  generalize hC : pN xss vs = C at *
  clear hE hC
  obtain ⟨n, hn⟩ : ∃ n, n = xss.length := ⟨_, rfl⟩
  rw [← hn] at HS HU HA HV HM PES HVL hN hm ⊢
  have HNx := Lib.hid hn
  clear hn
  go_enter Try.func26, Try.ntmps26
  go_wp2_with fail
  go_loopw [5, 13] (fun q i wr => ∃ k : Nat, k ≤ n ∧ i = .int .i64 k ∧ RowP wr w.heap.size q (C k) (E k) ∧ Below w.heap.size w wr) (fun _ i _ => n - (RowKit.intOf i).toNat)
  case atStart => exact ⟨0, Nat.zero_le _, rfl, by rw [PE0.out.1, PE0.out.2]; exact RowP.nil _ _, Below.refl _ _⟩
  case round =>
    obtain ⟨k, hk, rfl, hr, hb⟩ := hrel
    have HR := Lib.hid hr
    have HB := Lib.hid hb
    clear hr hb
    by_cases hlt : k < n
    · obtain ⟨b, off, A', c', rfl, hbl, q0, hys⟩ := HS.out.at_ (k := k) (by have := HNx.out; omega)
      obtain ⟨b2, o2, c2', e2, hb2l, q1⟩ := HU.out.at_ (k := k) (by rw [HVL.out]; exact hlt)
      simp at e2
      obtain ⟨rfl, e9, rfl⟩ := e2
      clear e9
      have p0 : wr.cell? ⟨b, off + k, none⟩ = some (.slice A' (xss.getD k []).length c') := by rw [HB.out.cell (p := ⟨b, off + k, none⟩) hbl]; exact q0
      have p1 : wr.cell? ⟨b2, o2 + k, none⟩ = some (.int .i64 (vs.getD k 0)) := by rw [HB.out.cell (p := ⟨b2, o2 + k, none⟩) hb2l]; exact q1
      have hrk := HA.out k hlt
      have hyl := ris_len hrk (by omega)
      have HYs : Hid (∀ t, t < (xss.getD k []).length → ∃ b off, A' = some ⟨b, off, none⟩ ∧ b < w.heap.size ∧ w.cell? ⟨b, off + t, none⟩ = some (.int .i64 ((xss.getD k []).getD t 0))) := fun t ht => by
        obtain ⟨b3, o3, c3', e3, hb3, hc3⟩ := hys.at_ (k := t) ht
        simp at e3
        obtain ⟨rfl, rfl⟩ := e3
        exact ⟨b3, o3, rfl, hb3, hc3⟩
      have HBx : Hid (∀ t, t < (xss.getD k []).length → 0 ≤ (xss.getD k []).getD t 0 ∧ (xss.getD k []).getD t 0 < (k : Int)) := fun t ht => ris_box hrk ht
      obtain ⟨HE1', HC1'⟩ := PES.out k
      have HE1 := Lib.hid HE1'
      have HC1 := Lib.hid HC1'
      have hcm := HM.out k (by omega)
      have hcm1 := HM.out (k + 1) (by omega)
      rw [HC1'] at hcm1
      obtain ⟨w1, w2⟩ := HV.out k hlt
      clear q0 q1 hys hbl hb2l HE1' HC1' hrk
      generalize xss.getD k [] = ys at *
      generalize vs.getD k 0 = x at *
      have b1 : (0 : Int) ≤ (k : Int) := by omega
      have b2' : (k : Int) < (n : Int) := by omega
      have sw0 := HB.out.size
      obtain ⟨Ev, hEv⟩ : ∃ Ev, Ev = E k ++ vE n k x := ⟨_, rfl⟩
      obtain ⟨Cv, hCv⟩ : ∃ Cv, Cv = C k + vN x := ⟨_, rfl⟩
      rw [← hEv] at HE1
      rw [← hCv] at HC1 hcm1
      have HCv : Hid (Cv + ys.length ≤ 7260) := hcm1
      by_cases hp : 0 < x
      · obtain ⟨f1, f2⟩ := vE_pos (n := n) (i := k) hp
        rw [f1] at hEv
        rw [f2] at hCv
        have HEv := Lib.hid hEv
        have HCv2 := Lib.hid hCv
        clear hEv hCv f1 f2
        go_wp2_with (at_builtin; refine wpList_append_own _ rfl _ _ 38 rfl (w.heap.size) 54 i0 (.agg #[.int .i64 0, .int .i64 0, .int .i64 0]) 3 24 Try.underlying38 HI.out hz0 hz1 hz2 rfl (by decide) _ _ _ rfl (World.ownsRow.alloc HR.out _) ⟨wr.heap.size, 0, none⟩ 1 1 [.int .i64 0, .int .i64 ((k : Int) + 1), .int .i64 x] rfl rfl (news3 _ _ _ _ _) (ones3 _ _ _) ?c3 ?c4 ?c5 ?_)
        case c3 => unfold maxLen; omega
        case c4 => omega
        case c5 => first | omega | (simp; omega)
        intro v' w4 hown' hgrow _
        have HRv : Hid (RowP w4 w.heap.size v' Cv Ev) := by rw [HEv.out, HCv2.out]; exact edgP_snoc hown'
        have HBv : Hid (Below w.heap.size w w4) := (HB.out.alloc sw0 _).grown hgrow (by simp; omega) (fun g hg => (World.ownsRow.lt HR.out g hg).1)
        clear hown' hgrow
        have R5 := Lib.hid HRv.out
        have hcv := HCv.out
        go_wp2_with fail
        go_loopw [5, 48] (fun q i wr => ∃ t : Nat, t ≤ ys.length ∧ i = .int .i64 t ∧ RowP wr w.heap.size q (Cv + t) (Ev ++ aE k ys t) ∧ Below w.heap.size w wr) (fun _ i _ => ys.length - (RowKit.intOf i).toNat)
        case atStart => exact ⟨0, Nat.zero_le _, rfl, by show RowP _ _ _ (Cv + 0) (Ev ++ []); rw [List.append_nil]; exact R5.out, HBv.out⟩
        case round =>
          obtain ⟨t, ht, rfl, hr, hb⟩ := hrel
          have HRt := Lib.hid hr
          have HBt := Lib.hid hb
          clear hr hb
          by_cases htl : t < ys.length
          · obtain ⟨b3, o3, e3, hb3l, hc3⟩ := HYs.out t htl
            obtain rfl := e3
            have q3 : wr.cell? ⟨b3, o3 + t, none⟩ = some (.int .i64 (ys.getD t 0)) := by rw [HBt.out.cell (p := ⟨b3, o3 + t, none⟩) hb3l]; exact hc3
            obtain ⟨z1, z2⟩ := HBx.out t htl
            have HT : Hid (Ev ++ aE k ys (t + 1) = (Ev ++ aE k ys t) ++ [(k : Int) + 1, ys.getD t 0 + 1, 1000000000]) := by show _ = _; rw [List.append_assoc]; rfl
            clear hc3 hb3l
            generalize ys.getD t 0 = y at *
            have d1 : (0 : Int) ≤ (t : Int) := by omega
            have d2 : (t : Int) < (ys.length : Int) := by omega
            have sw := HBt.out.size
            go_wp2_with (at_builtin; refine wpList_append_own _ rfl _ _ 38 rfl (w.heap.size) 54 i0 (.agg #[.int .i64 0, .int .i64 0, .int .i64 0]) 3 24 Try.underlying38 HI.out hz0 hz1 hz2 rfl (by decide) _ _ _ rfl (World.ownsRow.alloc HRt.out _) ⟨wr.heap.size, 0, none⟩ 1 1 [.int .i64 ((k : Int) + 1), .int .i64 (y + 1), .int .i64 1000000000] rfl rfl (news3 _ _ _ _ _) (ones3 _ _ _) ?c3 ?c4 ?c5 ?_)
            case c3 => unfold maxLen; omega
            case c4 => omega
            case c5 => first | omega | (simp; omega)
            intro v' w5 hown' hgrow _
            have R1 : Hid (RowP w5 w.heap.size v' (Cv + (t + 1)) (Ev ++ aE k ys (t + 1))) := by rw [HT.out]; exact edgP_snoc hown'
            have R2 : Hid (Below w.heap.size w w5) := (HBt.out.alloc sw _).grown hgrow (by simp; omega) (fun g hg => (World.ownsRow.lt HRt.out g hg).1)
            clear hown' hgrow
            go_wp2
            go_roundw
            case rel => exact ⟨t + 1, by omega, by go_num, R1.out, R2.out⟩
            case measure => simp [RowKit.intOf]; omega
          · obtain rfl : t = ys.length := by omega
            have G : Hid (RowP wr w.heap.size u5 (C (k + 1)) (E (k + 1))) := by rw [HE1.out, HC1.out]; exact HRt.out
            go_wp2
            go_roundw
            case rel => exact ⟨k + 1, by omega, by go_num, G.out, HBt.out⟩
            case measure => simp [RowKit.intOf]; omega
      · by_cases hq : x < 0
        · obtain ⟨f1, f2⟩ := vE_neg (n := n) (i := k) hq
          rw [f1] at hEv
          rw [f2] at hCv
          have HEv := Lib.hid hEv
          have HCv2 := Lib.hid hCv
          clear hEv hCv f1 f2
          go_wp2_with (at_builtin; refine wpList_append_own _ rfl _ _ 38 rfl (w.heap.size) 54 i0 (.agg #[.int .i64 0, .int .i64 0, .int .i64 0]) 3 24 Try.underlying38 HI.out hz0 hz1 hz2 rfl (by decide) _ _ _ rfl (World.ownsRow.alloc HR.out _) ⟨wr.heap.size, 0, none⟩ 1 1 [.int .i64 ((k : Int) + 1), .int .i64 ((n : Int) + 1), .int .i64 (-x)] rfl rfl (news3 _ _ _ _ _) (ones3 _ _ _) ?c3 ?c4 ?c5 ?_)
          case c3 => unfold maxLen; omega
          case c4 => omega
          case c5 => first | omega | (simp; omega)
          intro v' w4 hown' hgrow _
          have HRv : Hid (RowP w4 w.heap.size v' Cv Ev) := by rw [HEv.out, HCv2.out]; exact edgP_snoc hown'
          have HBv : Hid (Below w.heap.size w w4) := (HB.out.alloc sw0 _).grown hgrow (by simp; omega) (fun g hg => (World.ownsRow.lt HR.out g hg).1)
          clear hown' hgrow
          have R5 := Lib.hid HRv.out
          have hcv := HCv.out
          go_wp2_with fail
          go_loopw [5, 48] (fun q i wr => ∃ t : Nat, t ≤ ys.length ∧ i = .int .i64 t ∧ RowP wr w.heap.size q (Cv + t) (Ev ++ aE k ys t) ∧ Below w.heap.size w wr) (fun _ i _ => ys.length - (RowKit.intOf i).toNat)
          case atStart => exact ⟨0, Nat.zero_le _, rfl, by show RowP _ _ _ (Cv + 0) (Ev ++ []); rw [List.append_nil]; exact R5.out, HBv.out⟩
          case round =>
            obtain ⟨t, ht, rfl, hr, hb⟩ := hrel
            have HRt := Lib.hid hr
            have HBt := Lib.hid hb
            clear hr hb
            by_cases htl : t < ys.length
            · obtain ⟨b3, o3, e3, hb3l, hc3⟩ := HYs.out t htl
              obtain rfl := e3
              have q3 : wr.cell? ⟨b3, o3 + t, none⟩ = some (.int .i64 (ys.getD t 0)) := by rw [HBt.out.cell (p := ⟨b3, o3 + t, none⟩) hb3l]; exact hc3
              obtain ⟨z1, z2⟩ := HBx.out t htl
              have HT : Hid (Ev ++ aE k ys (t + 1) = (Ev ++ aE k ys t) ++ [(k : Int) + 1, ys.getD t 0 + 1, 1000000000]) := by show _ = _; rw [List.append_assoc]; rfl
              clear hc3 hb3l
              generalize ys.getD t 0 = y at *
              have d1 : (0 : Int) ≤ (t : Int) := by omega
              have d2 : (t : Int) < (ys.length : Int) := by omega
              have sw := HBt.out.size
              go_wp2_with (at_builtin; refine wpList_append_own _ rfl _ _ 38 rfl (w.heap.size) 54 i0 (.agg #[.int .i64 0, .int .i64 0, .int .i64 0]) 3 24 Try.underlying38 HI.out hz0 hz1 hz2 rfl (by decide) _ _ _ rfl (World.ownsRow.alloc HRt.out _) ⟨wr.heap.size, 0, none⟩ 1 1 [.int .i64 ((k : Int) + 1), .int .i64 (y + 1), .int .i64 1000000000] rfl rfl (news3 _ _ _ _ _) (ones3 _ _ _) ?c3 ?c4 ?c5 ?_)
              case c3 => unfold maxLen; omega
              case c4 => omega
              case c5 => first | omega | (simp; omega)
              intro v' w5 hown' hgrow _
              have R1 : Hid (RowP w5 w.heap.size v' (Cv + (t + 1)) (Ev ++ aE k ys (t + 1))) := by rw [HT.out]; exact edgP_snoc hown'
              have R2 : Hid (Below w.heap.size w w5) := (HBt.out.alloc sw _).grown hgrow (by simp; omega) (fun g hg => (World.ownsRow.lt HRt.out g hg).1)
              clear hown' hgrow
              go_wp2
              go_roundw
              case rel => exact ⟨t + 1, by omega, by go_num, R1.out, R2.out⟩
              case measure => simp [RowKit.intOf]; omega
            · obtain rfl : t = ys.length := by omega
              have G : Hid (RowP wr w.heap.size u5 (C (k + 1)) (E (k + 1))) := by rw [HE1.out, HC1.out]; exact HRt.out
              go_wp2
              go_roundw
              case rel => exact ⟨k + 1, by omega, by go_num, G.out, HBt.out⟩
              case measure => simp [RowKit.intOf]; omega
        · obtain ⟨f1, f2⟩ := vE_zero (n := n) (i := k) hp hq
          rw [f1, List.append_nil] at hEv
          rw [f2, Nat.add_zero] at hCv
          have HRv : Hid (RowP wr w.heap.size u5 Cv Ev) := by rw [hEv, hCv]; exact HR.out
          have HBv := HB
          clear hEv hCv f1 f2
          have R5 := Lib.hid HRv.out
          have hcv := HCv.out
          go_wp2_with fail
          go_loopw [5, 48] (fun q i wr => ∃ t : Nat, t ≤ ys.length ∧ i = .int .i64 t ∧ RowP wr w.heap.size q (Cv + t) (Ev ++ aE k ys t) ∧ Below w.heap.size w wr) (fun _ i _ => ys.length - (RowKit.intOf i).toNat)
          case atStart => exact ⟨0, Nat.zero_le _, rfl, by show RowP _ _ _ (Cv + 0) (Ev ++ []); rw [List.append_nil]; exact R5.out, HBv.out⟩
          case round =>
            obtain ⟨t, ht, rfl, hr, hb⟩ := hrel
            have HRt := Lib.hid hr
            have HBt := Lib.hid hb
            clear hr hb
            by_cases htl : t < ys.length
            · obtain ⟨b3, o3, e3, hb3l, hc3⟩ := HYs.out t htl
              obtain rfl := e3
              have q3 : wr.cell? ⟨b3, o3 + t, none⟩ = some (.int .i64 (ys.getD t 0)) := by rw [HBt.out.cell (p := ⟨b3, o3 + t, none⟩) hb3l]; exact hc3
              obtain ⟨z1, z2⟩ := HBx.out t htl
              have HT : Hid (Ev ++ aE k ys (t + 1) = (Ev ++ aE k ys t) ++ [(k : Int) + 1, ys.getD t 0 + 1, 1000000000]) := by show _ = _; rw [List.append_assoc]; rfl
              clear hc3 hb3l
              generalize ys.getD t 0 = y at *
              have d1 : (0 : Int) ≤ (t : Int) := by omega
              have d2 : (t : Int) < (ys.length : Int) := by omega
              have sw := HBt.out.size
              go_wp2_with (at_builtin; refine wpList_append_own _ rfl _ _ 38 rfl (w.heap.size) 54 i0 (.agg #[.int .i64 0, .int .i64 0, .int .i64 0]) 3 24 Try.underlying38 HI.out hz0 hz1 hz2 rfl (by decide) _ _ _ rfl (World.ownsRow.alloc HRt.out _) ⟨wr.heap.size, 0, none⟩ 1 1 [.int .i64 ((k : Int) + 1), .int .i64 (y + 1), .int .i64 1000000000] rfl rfl (news3 _ _ _ _ _) (ones3 _ _ _) ?c3 ?c4 ?c5 ?_)
              case c3 => unfold maxLen; omega
              case c4 => omega
              case c5 => first | omega | (simp; omega)
              intro v' w5 hown' hgrow _
              have R1 : Hid (RowP w5 w.heap.size v' (Cv + (t + 1)) (Ev ++ aE k ys (t + 1))) := by rw [HT.out]; exact edgP_snoc hown'
              have R2 : Hid (Below w.heap.size w w5) := (HBt.out.alloc sw _).grown hgrow (by simp; omega) (fun g hg => (World.ownsRow.lt HRt.out g hg).1)
              clear hown' hgrow
              go_wp2
              go_roundw
              case rel => exact ⟨t + 1, by omega, by go_num, R1.out, R2.out⟩
              case measure => simp [RowKit.intOf]; omega
            · obtain rfl : t = ys.length := by omega
              have G : Hid (RowP wr w.heap.size u5 (C (k + 1)) (E (k + 1))) := by rw [HE1.out, HC1.out]; exact HRt.out
              go_wp2
              go_roundw
              case rel => exact ⟨k + 1, by omega, by go_num, G.out, HBt.out⟩
              case measure => simp [RowKit.intOf]; omega
    · obtain rfl : k = n := by omega
      go_wp2
      go_ret
      exact ⟨_, rfl, HR.out, HB.out⟩
end Go.Proofs.Ytdgkgnlilcbggaa

namespace Go.Proofs.Ytdgkgnlilcbggaa
open Go.RowKit
set_option linter.unusedVariables false

theorem sel_shift0 (p : Int → Bool) (h0 : p 0 = true) : ∀ k : Nat, sel p (k + 1) = 0 :: (sel (fun i => p (i + 1)) k).map (· + 1)
  | 0 => by unfold sel; rw [show p ((0 : Nat) : Int) = true from h0]; rfl
  | k + 1 => by
    have ih := sel_shift0 p h0 k
    rw [sel, ih]
    show _ = 0 :: (sel (fun i => p (i + 1)) k ++ (if p ((k : Int) + 1) then [(k : Int)] else [])).map (· + 1)
    rw [List.map_append]
    cases hp : p ((k : Int) + 1)
    · rw [show p ((k + 1 : Nat) : Int) = false by rw [Int.natCast_add]; exact hp]; simp
    · rw [show p ((k + 1 : Nat) : Int) = true by rw [Int.natCast_add]; exact hp]; simp
theorem sel_shift {N : Nat} (p : Int → Bool) (h0 : p 0 = true) (hz : p ((N : Int) + 1) = false) : sel p (N + 2) = 0 :: (sel (fun i => p (i + 1)) N).map (· + 1) := by
  rw [sel_miss (k := N + 1) (by rw [Int.natCast_add]; exact hz), sel_shift0 p h0]
theorem sel_at {p : Int → Bool} {N k : Nat} (hk : k < (sel p N).length) : 0 ≤ (sel p N).getD k 0 ∧ (sel p N).getD k 0 < N := by
  obtain ⟨a, b⟩ := ris_box (sel_risB p (n := N) (N := (N : Int)) rfl) hk
  exact ⟨a, b⟩
theorem seen_make (w : World) (m : Nat) (xs : List Int) (hx : xs.length = m * 3) (hm : m ≤ maxLen) : SeenP (w.alloc (.cells (ints xs).toArray 54)) (.slice (some ⟨w.heap.size, 0, none⟩) m m) m xs := by
  have := World.ownsRow_lit (base := w.heap.size) (e := 54) (size := 3) w (ints xs).toArray m (Nat.le_refl _) hm (by simp [ints_len, hx])
  exact RowP.seen (B := w.heap.size) this
/-- The source is in each least cut, the sink in none. -/
theorem gc_ends (w : World) {n m : Nat} {xs : List Int} (hn : netW n m xs = true) (hx : xs.length = m * 3) : gcS n m xs 0 = true ∧ gcS n m xs (n - 1) = false := by
  have hm : m ≤ maxLen := by obtain ⟨_, _, h, _⟩ := netW_true hn; unfold maxLen; omega
  obtain ⟨e, w', fr, ⟨v, d, _, _, _, _, _, _, _, _, h1, h2⟩, _⟩ := fill_holds n m xs _ _ hn (seen_make w m xs hx hm) []
  exact ⟨h1, h2⟩
theorem lc_ends (w : World) {N m : Nat} {xs : List Int} (hn : netW ((N + 2 : Nat) : Int) m xs = true) (hx : xs.length = m * 3) : lcP (N + 2) m xs 0 = true ∧ lcP (N + 2) m xs ((N : Int) + 1) = false := by
  obtain ⟨h1, h2⟩ := gc_ends w hn hx
  exact ⟨h1, by unfold lcP; rw [show ((N : Int) + 1).toNat = N + 2 - 1 by omega]; exact h2⟩
theorem gt_ends (w : World) {N m : Nat} {xs : List Int} (hn : netW ((N + 2 : Nat) : Int) m xs = true) : gtP (N + 2) m xs 0 = true ∧ gtP (N + 2) m xs ((N : Int) + 1) = false := by
  obtain ⟨h1, h2⟩ := lc_ends w (netW_turn hn) (turL_len _ _ _)
  constructor
  · unfold gtP
    rw [show ((N + 2 : Nat) : Int) - 1 - 0 = (N : Int) + 1 by omega, h2]; rfl
  · unfold gtP
    rw [show ((N + 2 : Nat) : Int) - 1 - ((N : Int) + 1) = 0 by omega, h1]; rfl

set_option maxHeartbeats 4000000 in
set_option maxRecDepth 100000 in
theorem c_paOf (N : Nat) (p : Int → Bool) (B : Nat) (v : Value) (w : World) (hN : N ≤ 1000) (h0 : p 0 = true) (hz : p ((N : Int) + 1) = false) (h : Row w B v (sel p (N + 2))) :
    Calls Try.prog 24 #[v] w (GivesRow w (sel (fun i => p (i + 1)) N)) := by
  obtain ⟨i0, hi0, hz0, hz1, hz2⟩ := info_parts int_info
  have HI := Lib.hid hi0
  have e := sel_shift p h0 hz
  rw [e] at h
  have hl := sel_len (fun i => p (i + 1)) N
  obtain ⟨g, c, rfl, hB, hg⟩ := h.form (by simp)
  obtain ⟨A, hA, hl1, hlc, hcm, pq, hq⟩ := (h.queue (by simp)).cut
  have HBx : Hid (∀ k, k < (sel (fun i => p (i + 1)) N).length → 0 ≤ (sel (fun i => p (i + 1)) N).getD k 0 ∧ (sel (fun i => p (i + 1)) N).getD k 0 < N) := fun k hk => sel_at hk
  have HC : Hid (∀ k, k < (sel (fun i => p (i + 1)) N).length → ∃ b o, A = some ⟨b, o, none⟩ ∧ b < w.heap.size ∧ w.cell? ⟨b, o + k, none⟩ = some (.int .i64 ((sel (fun i => p (i + 1)) N).getD k 0 + 1))) := fun k hk => by
    obtain ⟨g', off', cap', e', _, hg', _, _, hc', _⟩ := hq
    simp at e'
    obtain ⟨rfl, _⟩ := e'
    refine ⟨g', off', rfl, hg', ?_⟩
    rw [hc' k (by simpa using hk)]
    simp [List.getD_eq_getElem?_getD, hk]
  rw [show (List.length (0 :: (sel (fun i => p (i + 1)) N).map (· + 1))) = (sel (fun i => p (i + 1)) N).length + 1 by simp] at hlc ⊢
  clear e h hi0 hq hl1 pq hz h0
  generalize sel (fun i => p (i + 1)) N = xs at *
  have HTl : Hid (xs.take xs.length = xs) := List.take_length
  have HTs : Hid (∀ k, k < xs.length → xs.take (k + 1) = xs.take k ++ [xs.getD k 0]) := fun k hk => by
    rw [List.take_add_one, List.getD_eq_getElem?_getD, List.getElem?_eq_getElem hk]
    rfl
  have HLk : Hid (∀ k, k ≤ xs.length → (xs.take k).length = k) := fun k hk => by rw [List.length_take]; omega
  generalize xs.length = n at *
  have hmx : c ≤ 9223372036854775807 := by simpa [maxLen] using hcm
  have b1 : (1 : Int) ≤ ((n + 1 : Nat) : Int) := by omega
  have b1' : (1 : Int) ≤ (n : Int) + 1 := by omega
  have b2 : ((n : Int) + 1) ≤ (c : Int) := by omega
  have b3 : 0 ≤ (n : Int) := by omega
  clear hB hcm
  go_enter Try.func24, Try.ntmps24
  go_wp2_with fail
  clear hA hlc
  go_loopw [3, 9] (fun q i wr => ∃ k : Nat, k ≤ n ∧ i = .int .i64 k ∧ Row wr w.heap.size q (xs.take k) ∧ Below w.heap.size w wr) (fun _ i _ => n - (RowKit.intOf i).toNat)
  case atStart => exact ⟨0, Nat.zero_le _, rfl, by rw [List.take_zero]; exact Row.nil _ _, Below.refl _ _⟩
  case round =>
    obtain ⟨k, hk, rfl, hr, hb⟩ := hrel
    have HR := Lib.hid hr
    have HB := Lib.hid hb
    clear hr hb
    by_cases hlt : k < n
    · obtain ⟨b, o, rfl, hbl, hcc⟩ := HC.out k hlt
      have q0 : wr.cell? ⟨b, o + k, none⟩ = some (.int .i64 (xs.getD k 0 + 1)) := by rw [HB.out.cell (p := ⟨b, o + k, none⟩) hbl]; exact hcc
      obtain ⟨x1, x2⟩ := HBx.out k hlt
      have HTk := Lib.hid (HTs.out k hlt)
      have HLn := HLk.out k hk
      clear hcc hbl
      generalize xs.getD k 0 = x at *
      have d1 : (0 : Int) ≤ (k : Int) := by omega
      have d2 : (k : Int) < (n : Int) := by omega
      have sw := HB.out.size
      go_wp2_with (at_builtin; refine wpList_append_own _ rfl _ _ 23 rfl (w.heap.size) 3 i0 (.int .i64 0) 1 8 Try.underlying23 HI.out hz0 hz1 hz2 rfl (by decide) _ _ _ rfl (World.ownsRow.alloc HR.out _) ⟨wr.heap.size, 0, none⟩ 1 1 [.int .i64 x] rfl rfl (news_one (by simp)) (ones_one _) ?c3 ?c4 ?c5 ?_)
      case c3 => unfold maxLen; omega
      case c4 => omega
      case c5 => first | omega | (simp; omega)
      intro v' w5 hown' hgrow _
      have R1 : Hid (Row w5 w.heap.size v' (xs.take (k + 1))) := by rw [HTk.out]; exact row_more (by rw [HLn]; first | exact hown' | (rw [HLn] at hown'; exact hown'))
      have R2 : Hid (Below w.heap.size w w5) := (HB.out.alloc sw _).grown hgrow (by simp; omega) (fun g hg => (World.ownsRow.lt HR.out g hg).1)
      clear hown' hgrow
      go_wp2
      go_roundw
      case rel => exact ⟨k + 1, by omega, by go_num, R1.out, R2.out⟩
      case measure => simp [RowKit.intOf]; omega
    · obtain rfl : k = n := by omega
      go_wp2
      go_ret
      exact ⟨_, rfl, by rw [← HTl.out]; exact HR.out, HB.out⟩

set_option maxHeartbeats 4000000 in
set_option maxRecDepth 100000 in
theorem c_blocksOfCut (N : Nat) (p : Int → Bool) (B : Nat) (v : Value) (w : World) (hN : N ≤ 1000) (h0 : p 0 = true) (hz : p ((N : Int) + 1) = false) (h : Row w B v (sel p (N + 2))) :
    Calls Try.prog 41 #[v] w (GivesRow w (sel (fun i => p (i + 1)) N)) := by
  obtain ⟨i0, hi0, hz0, hz1, hz2⟩ := info_parts int_info
  have HI := Lib.hid hi0
  have e := sel_shift p h0 hz
  rw [e] at h
  have hl := sel_len (fun i => p (i + 1)) N
  obtain ⟨g, c, rfl, hB, hg⟩ := h.form (by simp)
  obtain ⟨A, hA, hl1, hlc, hcm, pq, hq⟩ := (h.queue (by simp)).cut
  have HBx : Hid (∀ k, k < (sel (fun i => p (i + 1)) N).length → 0 ≤ (sel (fun i => p (i + 1)) N).getD k 0 ∧ (sel (fun i => p (i + 1)) N).getD k 0 < N) := fun k hk => sel_at hk
  have HC : Hid (∀ k, k < (sel (fun i => p (i + 1)) N).length → ∃ b o, A = some ⟨b, o, none⟩ ∧ b < w.heap.size ∧ w.cell? ⟨b, o + k, none⟩ = some (.int .i64 ((sel (fun i => p (i + 1)) N).getD k 0 + 1))) := fun k hk => by
    obtain ⟨g', off', cap', e', _, hg', _, _, hc', _⟩ := hq
    simp at e'
    obtain ⟨rfl, _⟩ := e'
    refine ⟨g', off', rfl, hg', ?_⟩
    rw [hc' k (by simpa using hk)]
    simp [List.getD_eq_getElem?_getD, hk]
  rw [show (List.length (0 :: (sel (fun i => p (i + 1)) N).map (· + 1))) = (sel (fun i => p (i + 1)) N).length + 1 by simp] at hlc ⊢
  clear e h hi0 hq hl1 pq hz h0
  generalize sel (fun i => p (i + 1)) N = xs at *
  have HTl : Hid (xs.take xs.length = xs) := List.take_length
  have HTs : Hid (∀ k, k < xs.length → xs.take (k + 1) = xs.take k ++ [xs.getD k 0]) := fun k hk => by
    rw [List.take_add_one, List.getD_eq_getElem?_getD, List.getElem?_eq_getElem hk]
    rfl
  have HLk : Hid (∀ k, k ≤ xs.length → (xs.take k).length = k) := fun k hk => by rw [List.length_take]; omega
  generalize xs.length = n at *
  have hmx : c ≤ 9223372036854775807 := by simpa [maxLen] using hcm
  have b1 : (1 : Int) ≤ ((n + 1 : Nat) : Int) := by omega
  have b1' : (1 : Int) ≤ (n : Int) + 1 := by omega
  have b2 : ((n : Int) + 1) ≤ (c : Int) := by omega
  have b3 : 0 ≤ (n : Int) := by omega
  clear hB hcm
  go_enter Try.func41, Try.ntmps41
  go_wp2_with fail
  clear hA hlc
  go_loopw [3, 9] (fun q i wr => ∃ k : Nat, k ≤ n ∧ i = .int .i64 k ∧ Row wr w.heap.size q (xs.take k) ∧ Below w.heap.size w wr) (fun _ i _ => n - (RowKit.intOf i).toNat)
  case atStart => exact ⟨0, Nat.zero_le _, rfl, by rw [List.take_zero]; exact Row.nil _ _, Below.refl _ _⟩
  case round =>
    obtain ⟨k, hk, rfl, hr, hb⟩ := hrel
    have HR := Lib.hid hr
    have HB := Lib.hid hb
    clear hr hb
    by_cases hlt : k < n
    · obtain ⟨b, o, rfl, hbl, hcc⟩ := HC.out k hlt
      have q0 : wr.cell? ⟨b, o + k, none⟩ = some (.int .i64 (xs.getD k 0 + 1)) := by rw [HB.out.cell (p := ⟨b, o + k, none⟩) hbl]; exact hcc
      obtain ⟨x1, x2⟩ := HBx.out k hlt
      have HTk := Lib.hid (HTs.out k hlt)
      have HLn := HLk.out k hk
      clear hcc hbl
      generalize xs.getD k 0 = x at *
      have d1 : (0 : Int) ≤ (k : Int) := by omega
      have d2 : (k : Int) < (n : Int) := by omega
      have sw := HB.out.size
      go_wp2_with (at_builtin; refine wpList_append_own _ rfl _ _ 23 rfl (w.heap.size) 3 i0 (.int .i64 0) 1 8 Try.underlying23 HI.out hz0 hz1 hz2 rfl (by decide) _ _ _ rfl (World.ownsRow.alloc HR.out _) ⟨wr.heap.size, 0, none⟩ 1 1 [.int .i64 x] rfl rfl (news_one (by simp)) (ones_one _) ?c3 ?c4 ?c5 ?_)
      case c3 => unfold maxLen; omega
      case c4 => omega
      case c5 => first | omega | (simp; omega)
      intro v' w5 hown' hgrow _
      have R1 : Hid (Row w5 w.heap.size v' (xs.take (k + 1))) := by rw [HTk.out]; exact row_more (by rw [HLn]; first | exact hown' | (rw [HLn] at hown'; exact hown'))
      have R2 : Hid (Below w.heap.size w w5) := (HB.out.alloc sw _).grown hgrow (by simp; omega) (fun g hg => (World.ownsRow.lt HR.out g hg).1)
      clear hown' hgrow
      go_wp2
      go_roundw
      case rel => exact ⟨k + 1, by omega, by go_num, R1.out, R2.out⟩
      case measure => simp [RowKit.intOf]; omega
    · obtain rfl : k = n := by omega
      go_wp2
      go_ret
      exact ⟨_, rfl, by rw [← HTl.out]; exact HR.out, HB.out⟩

/-- The least and the largest best pit. -/
noncomputable def bpL (xss : List (List Int)) (vs : List Int) : List Int := sel (fun i => lcP (xss.length + 2) (pN xss vs xss.length) (pE xss vs xss.length) (i + 1)) xss.length
noncomputable def lpL (xss : List (List Int)) (vs : List Int) : List Int := sel (fun i => gtP (xss.length + 2) (pN xss vs xss.length) (pE xss vs xss.length) (i + 1)) xss.length
/-- Arcs, and as many values that a network can have. -/
structure PitOk (xss : List (List Int)) (vs : List Int) : Prop where
  arcs : arcB xss = true
  len : vs.length = xss.length
  wide : ∀ k, k < xss.length → -1000000000 ≤ vs.getD k 0 ∧ vs.getD k 0 ≤ 1000000000
theorem PitOk.of {xss : List (List Int)} {vs : List Int} (h : pgB xss vs = true) : PitOk xss vs := by
  obtain ⟨ha, hv⟩ := pg_true h
  have e := (val_yes hv).1
  exact ⟨ha, by omega, fun k hk => val_wide hv k (by omega)⟩

set_option maxHeartbeats 1000000 in
theorem c_paFind (xss : List (List Int)) (vs : List Int) (v u : Value) (w : World) (hp : PitOk xss vs) (h : SeenL w v xss) (hu : Seen w u vs) :
    Calls Try.prog 16 #[v, u] w (GivesRow w (bpL xss vs)) := by
  have C0 := Lib.hid (c_paEdges xss vs v u w hp.arcs hp.len hp.wide h hu)
  have HN := Lib.hid (pE_net hp.arcs hp.wide)
  have HE := Lib.hid (lc_ends w (pE_net hp.arcs hp.wide) (pE_len _ _ _))
  have hN := arc_len hp.arcs
  obtain ⟨A, c, rfl, hm⟩ := h.shape
  obtain ⟨A2, c2, rfl⟩ := hu.shape
  unfold bpL
  clear h hu hp
  generalize pE xss vs xss.length = E at *
  generalize pN xss vs xss.length = C at *
  generalize xss.length = N at *
  go_enter Try.func16, Try.ntmps16
  go_wp2_with fail
  refine C0.out.mono ?_
  rintro e w1 ⟨v1, rfl, hr, hb⟩
  have HB := Lib.hid hb
  have CL := Lib.hid (c_mfLeast (N + 2) C E v1 w1 HN.out hr.seen)
  obtain ⟨A1, c1, rfl⟩ := hr.shape
  clear hr hb C0
  rw [show ((N + 2 : Nat) : Int) = (N : Int) + 2 by omega] at CL
  go_wp2_with fail
  refine CL.out.mono ?_
  rintro e w2 ⟨v2, rfl, hr, hb⟩
  have HB2 : Hid (Below w.heap.size w w2) := HB.out.trans (hb.mono HB.out.size)
  have CO := Lib.hid (c_paOf N (lcP (N + 2) C E) _ v2 w2 (by omega) HE.out.1 HE.out.2 hr)
  obtain ⟨A3, c3, rfl⟩ := hr.shape
  clear hr hb CL
  go_wp2_with fail
  refine CO.out.mono ?_
  rintro e w3 ⟨v3, rfl, hr, hb⟩
  have HB3 : Hid (Below w.heap.size w w3) := HB2.out.trans (hb.mono HB2.out.size)
  have HR3 := Lib.hid (hr.mono HB2.out.size)
  clear hr hb
  go_wp2
  go_ret
  exact ⟨_, rfl, HR3.out, HB3.out⟩

set_option maxHeartbeats 1000000 in
theorem c_paMost (xss : List (List Int)) (vs : List Int) (v u : Value) (w : World) (hp : PitOk xss vs) (h : SeenL w v xss) (hu : Seen w u vs) :
    Calls Try.prog 17 #[v, u] w (GivesRow w (lpL xss vs)) := by
  have C0 := Lib.hid (c_paEdges xss vs v u w hp.arcs hp.len hp.wide h hu)
  have HN := Lib.hid (pE_net hp.arcs hp.wide)
  have HE := Lib.hid (gt_ends w (pE_net hp.arcs hp.wide))
  have hN := arc_len hp.arcs
  obtain ⟨A, c, rfl, hm⟩ := h.shape
  obtain ⟨A2, c2, rfl⟩ := hu.shape
  unfold lpL
  clear h hu hp
  generalize pE xss vs xss.length = E at *
  generalize pN xss vs xss.length = C at *
  generalize xss.length = N at *
  go_enter Try.func17, Try.ntmps17
  go_wp2_with fail
  refine C0.out.mono ?_
  rintro e w1 ⟨v1, rfl, hr, hb⟩
  have HB := Lib.hid hb
  have CL := Lib.hid (c_mfMost (N + 2) C E v1 w1 HN.out hr.seen)
  obtain ⟨A1, c1, rfl⟩ := hr.shape
  clear hr hb C0
  rw [show ((N + 2 : Nat) : Int) = (N : Int) + 2 by omega] at CL
  go_wp2_with fail
  refine CL.out.mono ?_
  rintro e w2 ⟨v2, rfl, hr, hb⟩
  have HB2 : Hid (Below w.heap.size w w2) := HB.out.trans (hb.mono HB.out.size)
  have CO := Lib.hid (c_paOf N (gtP (N + 2) C E) _ v2 w2 (by omega) HE.out.1 HE.out.2 hr)
  obtain ⟨A3, c3, rfl⟩ := hr.shape
  clear hr hb CL
  go_wp2_with fail
  refine CO.out.mono ?_
  rintro e w3 ⟨v3, rfl, hr, hb⟩
  have HB3 : Hid (Below w.heap.size w w3) := HB2.out.trans (hb.mono HB2.out.size)
  have HR3 := Lib.hid (hr.mono HB2.out.size)
  clear hr hb
  go_wp2
  go_ret
  exact ⟨_, rfl, HR3.out, HB3.out⟩
end Go.Proofs.Ytdgkgnlilcbggaa

namespace Go.Proofs.Ytdgkgnlilcbggaa
open Go.RowKit
set_option linter.unusedVariables false

theorem c_nodeOf (x : Int) (w : World) (h1 : -1 ≤ x) (h2 : x ≤ 4000000) : Calls Try.prog 57 #[.int .i64 x] w fun e w' => e = .returned (.int .i64 (x + 1)) ∧ w = w' := by
  go_enter Try.func57, Try.ntmps57
  go_wp2
  go_ret
  exact ⟨by go_num, rfl⟩

set_option maxHeartbeats 1000000 in
theorem c_sink (A A2 : Option Addr) (n c n2 c2 : Nat) (w : World) (hn : n ≤ 1000) :
    Calls Try.prog 43 #[.agg #[.slice A n c, .slice A2 n2 c2]] w fun e w' => e = .returned (.int .i64 ((n : Int) + 1)) ∧ Below w.heap.size w w' := by
  have HB : Hid (Below w.heap.size w (w.alloc (.cells #[.slice A n c, .slice A2 n2 c2] 44))) := (Below.refl _ _).alloc (Nat.le_refl _) _
  go_enter Try.func43, Try.ntmps43
  go_wp2_with fail
  refine (c_nodeOf (n : Int) _ (by omega) (by omega)).mono ?_
  rintro e w1 ⟨rfl, rfl⟩
  go_wp2
  go_ret
  exact ⟨rfl, HB.out⟩

/-- The problem's two slices in its copy. -/
theorem rowP_one (w : World) (a b c : Int) : RowP (w.alloc (.cells #[.int .i64 a, .int .i64 b, .int .i64 c] 54)) w.heap.size (.slice (some ⟨w.heap.size, 0, none⟩) 1 1) 1 [a, b, c] := by
  have := World.ownsRow_lit (base := w.heap.size) (e := 54) (size := 3) w #[.int .i64 a, .int .i64 b, .int .i64 c] 1 (Nat.le_refl _) (by unfold maxLen; omega) (by simp)
  exact this
theorem rowP_at (w : World) (g : Nat) (a b c : Int) (h : w.heap.size = g) : RowP (w.alloc (.cells #[.int .i64 a, .int .i64 b, .int .i64 c] 54)) g (.slice (some ⟨g, 0, none⟩) 1 1) 1 [a, b, c] := by
  subst h
  exact rowP_one w a b c

set_option maxHeartbeats 4000000 in
set_option maxRecDepth 100000 in
theorem c_valueEdges (n k c c2 : Nat) (A : Option Addr) (vs : List Int) (A2 : Option Addr) (w : World) (hn : n ≤ 1000) (hk : k < n) (hl : vs.length = n) (hv : -1000000000 ≤ vs.getD k 0 ∧ vs.getD k 0 ≤ 1000000000) (hu : Seen w (.slice A2 n c2) vs) :
    Calls Try.prog 58 #[.agg #[.slice A n c, .slice A2 n c2], .int .i64 k] w (GivesP w (vN (vs.getD k 0)) (vE n k (vs.getD k 0))) := by
  obtain ⟨b2, o2, c2', e2, hb2l, q1⟩ := hu.at_ (k := k) (by omega)
  simp at e2
  obtain ⟨rfl, e9, rfl⟩ := e2
  clear e9 hu hl
  have HB : Hid (Below w.heap.size w (w.alloc (.cells #[.slice A n c, .slice (some ⟨b2, o2, none⟩) n c2] 44))) := (Below.refl _ _).alloc (Nat.le_refl _) _
  have HC : Hid ((w.alloc (.cells #[.slice A n c, .slice (some ⟨b2, o2, none⟩) n c2] 44)).cell? ⟨b2, o2 + k, none⟩ = some (.int .i64 (vs.getD k 0))) := by show _ = _; rw [HB.out.cell (p := ⟨b2, o2 + k, none⟩) hb2l]; exact q1
  have nb : b2 ≠ w.heap.size := Nat.ne_of_lt hb2l
  obtain ⟨h1, h2⟩ := hv
  generalize vs.getD k 0 = x at *
  have b1 : (0 : Int) ≤ (k : Int) := by omega
  have b2' : (k : Int) < (n : Int) := by omega
  by_cases hp : 0 < x
  · obtain ⟨f1, f2⟩ := vE_pos (n := n) (i := k) hp
    rw [f1, f2]
    clear f1 f2
    go_enter Try.func58, Try.ntmps58
    go_wp2_with fail
    refine (c_nodeOf (k : Int) _ (by omega) (by omega)).mono ?_
    rintro e w1 ⟨rfl, rfl⟩
    go_wp2
    go_ret
    exact ⟨_, rfl, (rowP_at _ _ _ _ _ (by simp)).mono (Nat.le_add_right _ 1), HB.out.alloc HB.out.size _⟩
  · by_cases hq : x < 0
    · obtain ⟨f1, f2⟩ := vE_neg (n := n) (i := k) hq
      rw [f1, f2]
      clear f1 f2
      have CS : Hid (∀ u, Calls Try.prog 43 #[.agg #[.slice A n c, .slice (some ⟨b2, o2, none⟩) n c2]] u fun e w' => e = .returned (.int .i64 ((n : Int) + 1)) ∧ Below u.heap.size u w') := fun u => c_sink A _ n c n c2 u hn
      go_enter Try.func58, Try.ntmps58
      go_wp2_with fail
      have hw : IntKind.i64.wrap (-x) = -x := IntWalk.i64_in _ (by omega)
      go_region_with (first
        | (go_at_call 57; refine (c_nodeOf (k : Int) _ (by omega) (by omega)).mono ?_; rintro e w1 ⟨rfl, rfl⟩)
        | (go_at_call 43; refine (CS.out _).mono ?_; rintro e w1 ⟨rfl, hb⟩))
      all_goals (
        rename_i w1 hb
        have HB1 : Hid (Below w.heap.size w w1) := HB.out.drew.trans (hb.mono HB.out.size)
        have HZ := Lib.hid hb.size
        clear hb
        go_wp2
        go_ret
        exact ⟨_, rfl, (rowP_at _ _ _ _ _ rfl).mono HB1.out.size, HB1.out.alloc HB1.out.size _⟩)
    · obtain ⟨f1, f2⟩ := vE_zero (n := n) (i := k) hp hq
      rw [f1, f2]
      clear f1 f2
      go_enter Try.func58, Try.ntmps58
      go_wp2
      go_ret
      exact ⟨_, rfl, RowP.nil _ _, HB.out⟩

set_option maxHeartbeats 4000000 in
set_option maxRecDepth 100000 in
theorem c_arcEdges (n k c c2 m2 : Nat) (xss : List (List Int)) (A : Option Addr) (A2 : Option Addr) (w : World) (hn : n ≤ 120) (hk : k < n) (hl : xss.length = n) (hr : risB k (xss.getD k []) = true) (h : SeenL w (.slice A n c) xss) :
    Calls Try.prog 59 #[.agg #[.slice A n c, .slice A2 m2 c2], .int .i64 k] w (GivesP w (xss.getD k []).length (aE k (xss.getD k []) (xss.getD k []).length)) := by
  obtain ⟨i0, hi0, hz0, hz1, hz2⟩ := info_parts edge_info
  have HI := Lib.hid hi0
  subst hl
  obtain ⟨b, off, A', c', rfl, hbl, q0, hys⟩ := h.at_ (k := k) hk
  have hyl := ris_len hr (by omega)
  have HB : Hid (Below w.heap.size w (w.alloc (.cells #[.slice (some ⟨b, off, none⟩) xss.length c, .slice A2 m2 c2] 44))) := (Below.refl _ _).alloc (Nat.le_refl _) _
  have p0 : (w.alloc (.cells #[.slice (some ⟨b, off, none⟩) xss.length c, .slice A2 m2 c2] 44)).cell? ⟨b, off + k, none⟩ = some (.slice A' (xss.getD k []).length c') := by rw [HB.out.cell (p := ⟨b, off + k, none⟩) hbl]; exact q0
  have nb : b ≠ w.heap.size := Nat.ne_of_lt hbl
  have HYs : Hid (∀ t, t < (xss.getD k []).length → ∃ b off, A' = some ⟨b, off, none⟩ ∧ b < w.heap.size ∧ w.cell? ⟨b, off + t, none⟩ = some (.int .i64 ((xss.getD k []).getD t 0))) := fun t ht => by
    obtain ⟨b3, o3, c3', e3, hb3, hc3⟩ := hys.at_ (k := t) ht
    simp at e3
    obtain ⟨rfl, rfl⟩ := e3
    exact ⟨b3, o3, rfl, hb3, hc3⟩
  have HBx : Hid (∀ t, t < (xss.getD k []).length → 0 ≤ (xss.getD k []).getD t 0 ∧ (xss.getD k []).getD t 0 < (k : Int)) := fun t ht => ris_box hr ht
  clear h hys hr hi0
  generalize xss.getD k [] = ys at *
  generalize xss.length = n at *
  have b1 : (0 : Int) ≤ (k : Int) := by omega
  have b2 : (k : Int) < (n : Int) := by omega
  have HZ : Hid (w.heap.size < (w.alloc (.cells #[.slice (some ⟨b, off, none⟩) n c, .slice A2 m2 c2] 44)).heap.size) := by simp [Hid]
  go_enter Try.func59, Try.ntmps59
  go_wp2_with fail
  clear p0
  go_loopw [5, 14] (fun q i wr => ∃ t : Nat, t ≤ ys.length ∧ i = .int .i64 t ∧ RowP wr w.heap.size q t (aE k ys t) ∧ Below w.heap.size w wr) (fun _ i _ => ys.length - (RowKit.intOf i).toNat)
  case atStart => exact ⟨0, Nat.zero_le _, rfl, RowP.nil _ _, HB.out⟩
  case round =>
    obtain ⟨t, ht, rfl, hr, hb⟩ := hrel
    have HRt := Lib.hid hr
    have HBt := Lib.hid hb
    clear hr hb
    by_cases htl : t < ys.length
    · obtain ⟨b3, o3, e3, hb3l, hc3⟩ := HYs.out t htl
      obtain rfl := e3
      have q3 : wr.cell? ⟨b3, o3 + t, none⟩ = some (.int .i64 (ys.getD t 0)) := by rw [HBt.out.cell (p := ⟨b3, o3 + t, none⟩) hb3l]; exact hc3
      obtain ⟨z1, z2⟩ := HBx.out t htl
      have HT : Hid (aE k ys (t + 1) = aE k ys t ++ [(k : Int) + 1, ys.getD t 0 + 1, 1000000000]) := rfl
      clear hc3 hb3l
      generalize ys.getD t 0 = y at *
      have d1 : (0 : Int) ≤ (t : Int) := by omega
      have d2 : (t : Int) < (ys.length : Int) := by omega
      have sw := HBt.out.size
      go_wp2_with fail
      refine (c_nodeOf (k : Int) _ (by omega) (by omega)).mono ?_
      rintro e w1 ⟨rfl, rfl⟩
      go_wp2_with fail
      refine (c_nodeOf y _ (by omega) (by omega)).mono ?_
      rintro e w1 ⟨rfl, rfl⟩
      go_wp2_with (at_builtin; refine wpList_append_own _ rfl _ _ 38 rfl (w.heap.size) 54 i0 (.agg #[.int .i64 0, .int .i64 0, .int .i64 0]) 3 24 Try.underlying38 HI.out hz0 hz1 hz2 rfl (by decide) _ _ _ rfl (World.ownsRow.alloc HRt.out _) ⟨wr.heap.size, 0, none⟩ 1 1 [.int .i64 ((k : Int) + 1), .int .i64 (y + 1), .int .i64 1000000000] rfl rfl (news3 _ _ _ _ _) (ones3 _ _ _) ?c3 ?c4 ?c5 ?_)
      case c3 => unfold maxLen; omega
      case c4 => omega
      case c5 => first | omega | (simp; omega)
      intro v' w5 hown' hgrow _
      have R1 : Hid (RowP w5 w.heap.size v' (t + 1) (aE k ys (t + 1))) := by rw [HT.out]; exact edgP_snoc hown'
      have R2 : Hid (Below w.heap.size w w5) := (HBt.out.alloc sw _).grown hgrow (by simp; omega) (fun g hg => (World.ownsRow.lt HRt.out g hg).1)
      clear hown' hgrow
      go_wp2
      go_roundw
      case rel => exact ⟨t + 1, by omega, by go_num, R1.out, R2.out⟩
      case measure => simp [RowKit.intOf]; omega
    · obtain rfl : t = ys.length := by omega
      go_wp2
      go_ret
      exact ⟨_, rfl, HRt.out, HBt.out⟩
end Go.Proofs.Ytdgkgnlilcbggaa

namespace Go.Proofs.Ytdgkgnlilcbggaa
open Go.RowKit
set_option linter.unusedVariables false

theorem edg_rows {w : World} {B n k : Nat} {v : Value} {P Q : List Int} (h : w.ownsRow B 54 3 v (n + k) (ints P ++ ints Q)) : RowP w B v (n + k) (P ++ Q) := by
  unfold RowP
  rw [show ints (P ++ Q) = ints P ++ ints Q by simp [ints]]
  exact h

set_option maxHeartbeats 8000000 in
set_option maxRecDepth 100000 in
theorem c_edges (xss : List (List Int)) (vs : List Int) (A A2 : Option Addr) (c c2 : Nat) (w : World) (hp : PitOk xss vs) (h : SeenL w (.slice A xss.length c) xss) (hu : Seen w (.slice A2 xss.length c2) vs) :
    Calls Try.prog 44 #[.agg #[.slice A xss.length c, .slice A2 xss.length c2]] w (GivesP w (pN xss vs xss.length) (pE xss vs xss.length)) := by
  obtain ⟨i0, hi0, hz0, hz1, hz2⟩ := info_parts edge_info
  have HI := Lib.hid hi0
  have hN := arc_len hp.arcs
  have CV : Hid (∀ (k : Nat) (u : World), k < xss.length → Below w.heap.size w u → Calls Try.prog 58 #[.agg #[.slice A xss.length c, .slice A2 xss.length c2], .int .i64 k] u (GivesP u (vN (vs.getD k 0)) (vE xss.length k (vs.getD k 0)))) := fun k u hk hb =>
    c_valueEdges xss.length k c c2 A vs A2 u (by omega) hk hp.len (hp.wide k hk) (hu.below hb)
  have CA : Hid (∀ (k : Nat) (u : World), k < xss.length → Below w.heap.size w u → Calls Try.prog 59 #[.agg #[.slice A xss.length c, .slice A2 xss.length c2], .int .i64 k] u (GivesP u (xss.getD k []).length (aE k (xss.getD k []) (xss.getD k []).length))) := fun k u hk hb =>
    c_arcEdges xss.length k c c2 xss.length xss A A2 u (by omega) hk rfl (arcB_at hp.arcs hk) (h.below hb)
  have HM : Hid (∀ k, k ≤ xss.length → pN xss vs k ≤ 7260) := fun k hk => pN_max hp.arcs vs hk
  have PE0 : Hid (pE xss vs 0 = [] ∧ pN xss vs 0 = 0) := ⟨rfl, rfl⟩
  have PES : Hid (∀ k, pE xss vs (k + 1) = (pE xss vs k ++ vE xss.length k (vs.getD k 0)) ++ aE k (xss.getD k []) (xss.getD k []).length ∧ pN xss vs (k + 1) = (pN xss vs k + vN (vs.getD k 0)) + (xss.getD k []).length) := fun k => ⟨rfl, rfl⟩
  have HVN : Hid (∀ k, vN (vs.getD k 0) ≤ 1) := fun k => vN_le _
  have HB0 : Hid (Below w.heap.size w (w.alloc (.cells #[.slice A xss.length c, .slice A2 xss.length c2] 44))) := (Below.refl _ _).alloc (Nat.le_refl _) _
  clear hi0 h hu hp
  generalize pE xss vs = E at *
  generalize pN xss vs = C at *
  generalize xss.length = n at *
  go_enter Try.func44, Try.ntmps44
  go_wp2_with fail
  have HBw : Hid (Below w.heap.size w ((w.alloc (.cells #[.slice A n c, .slice A2 n c2] 44)).alloc (.cells #[.func (.func 58) #[.agg #[.slice A n c, .slice A2 n c2]] #[], .func (.func 59) #[.agg #[.slice A n c, .slice A2 n c2]] #[]] 71))) := HB0.out.alloc HB0.out.size _
  have HK0 : Hid (((w.alloc (.cells #[.slice A n c, .slice A2 n c2] 44)).alloc (.cells #[.func (.func 58) #[.agg #[.slice A n c, .slice A2 n c2]] #[], .func (.func 59) #[.agg #[.slice A n c, .slice A2 n c2]] #[]] 71)).cell? ⟨w.heap.size + 1, 0, none⟩ = some (.func (.func 58) #[.agg #[.slice A n c, .slice A2 n c2]] #[])) := by simp [Hid]
  have HK1 : Hid (((w.alloc (.cells #[.slice A n c, .slice A2 n c2] 44)).alloc (.cells #[.func (.func 58) #[.agg #[.slice A n c, .slice A2 n c2]] #[], .func (.func 59) #[.agg #[.slice A n c, .slice A2 n c2]] #[]] 71)).cell? ⟨w.heap.size + 1, 0 + 1, none⟩ = some (.func (.func 59) #[.agg #[.slice A n c, .slice A2 n c2]] #[])) := by simp [Hid]
  have HZw : Hid (w.heap.size + 1 < ((w.alloc (.cells #[.slice A n c, .slice A2 n c2] 44)).alloc (.cells #[.func (.func 58) #[.agg #[.slice A n c, .slice A2 n c2]] #[], .func (.func 59) #[.agg #[.slice A n c, .slice A2 n c2]] #[]] 71)).heap.size) := by simp [Hid]
  generalize ((w.alloc (.cells #[.slice A n c, .slice A2 n c2] 44)).alloc (.cells #[.func (.func 58) #[.agg #[.slice A n c, .slice A2 n c2]] #[], .func (.func 59) #[.agg #[.slice A n c, .slice A2 n c2]] #[]] 71)) = w2 at *
  go_loopw [3, 16] (fun q i wr => ∃ k : Nat, k ≤ n ∧ i = .int .i64 k ∧ RowP wr w2.heap.size q (C k) (E k) ∧ Below w2.heap.size w2 wr) (fun _ i _ => n - (RowKit.intOf i).toNat)
  case atStart => exact ⟨0, Nat.zero_le _, rfl, by rw [PE0.out.1, PE0.out.2]; exact RowP.nil _ _, Below.refl _ _⟩
  case round =>
    obtain ⟨k, hk, rfl, hr, hb⟩ := hrel
    have HR := Lib.hid hr
    have HB := Lib.hid hb
    clear hr hb
    by_cases hlt : k < n
    · obtain ⟨HE1', HC1'⟩ := PES.out k
      have hcm := HM.out k (by omega)
      have hcm1 := HM.out (k + 1) (by omega)
      have hvn := HVN.out k
      rw [HC1'] at hcm1
      have b1 : (0 : Int) ≤ (k : Int) := by omega
      have b2 : (k : Int) < (n : Int) := by omega
      obtain ⟨Ej, hEj⟩ : ∃ Ej : Nat → List Int, Ej = fun j => if j = 0 then E k else if j = 1 then E k ++ vE n k (vs.getD k 0) else E (k + 1) := ⟨_, rfl⟩
      obtain ⟨Cj, hCj⟩ : ∃ Cj : Nat → Nat, Cj = fun j => if j = 0 then C k else if j = 1 then C k + vN (vs.getD k 0) else C (k + 1) := ⟨_, rfl⟩
      have E0 : Hid (Ej 0 = E k ∧ Cj 0 = C k) := by rw [hEj, hCj]; exact ⟨rfl, rfl⟩
      have E2 : Hid (Ej 2 = E (k + 1) ∧ Cj 2 = C (k + 1)) := by rw [hEj, hCj]; exact ⟨rfl, rfl⟩
      have HE0 : Hid (Ej (0 + 1) = Ej 0 ++ vE n k (vs.getD k 0)) := by rw [hEj]; rfl
      have HC0 : Hid (Cj (0 + 1) = Cj 0 + vN (vs.getD k 0)) := by rw [hCj]; rfl
      have HE1 : Hid (Ej (1 + 1) = Ej 1 ++ aE k (xss.getD k []) (xss.getD k []).length) := by rw [hEj]; exact HE1'
      have HC1 : Hid (Cj (1 + 1) = Cj 1 + (xss.getD k []).length) := by rw [hCj]; exact HC1'
      have hc0 : Cj 0 ≤ 7260 := by rw [hCj]; exact hcm
      have hc1 : Cj 1 + (xss.getD k []).length ≤ 7260 := by rw [hCj]; exact hcm1
      have CVk := Lib.hid (fun u hb => CV.out k u hlt hb)
      have CAk := Lib.hid (fun u hb => CA.out k u hlt hb)
      clear hEj hCj HE1' HC1' hcm hcm1
      generalize vs.getD k 0 = x at *
      generalize xss.getD k [] = ys at *
      go_wp2_with fail
      go_loopw [3, 21] (fun q i wr => ∃ j : Nat, j ≤ 2 ∧ i = .int .i64 j ∧ RowP wr w2.heap.size q (Cj j) (Ej j) ∧ Below w2.heap.size w2 wr) (fun _ i _ => 2 - (RowKit.intOf i).toNat)
      case atStart => exact ⟨0, Nat.zero_le _, rfl, by rw [E0.out.1, E0.out.2]; exact HR.out, HB.out⟩
      case round =>
        obtain ⟨j, hj, rfl, hr, hb⟩ := hrel
        have HRt := Lib.hid hr
        have HBt := Lib.hid hb
        clear hr hb
        have k0 : wr.cell? ⟨w.heap.size + 1, 0, none⟩ = _ := (HBt.out.cell (p := ⟨w.heap.size + 1, 0, none⟩) HZw.out).trans HK0.out
        have k1 : wr.cell? ⟨w.heap.size + 1, 0 + 1, none⟩ = _ := (HBt.out.cell (p := ⟨w.heap.size + 1, 0 + 1, none⟩) HZw.out).trans HK1.out
        simp only [Nat.zero_add] at k1
        by_cases j0 : j = 0
        · subst j0
          have b4 : (0 : Int) ≤ ((0 : Nat) : Int) := by omega
          go_wp2_with fail
          refine (CVk.out wr (HBw.out.trans (HBt.out.mono HBw.out.size))).mono ?_
          rintro e w4 ⟨v4, rfl, hr4, hb4⟩
          have HB4 : Hid (Below w2.heap.size w2 w4) := HBt.out.trans (hb4.mono HBt.out.size)
          have HR4 : Hid (RowP w4 w2.heap.size u3 (Cj 0) (Ej 0)) := HRt.out.below hb4
          obtain ⟨A4, c4, rfl⟩ := hr4.shape
          have HSrc := Lib.hid (srcE hr4)
          have sw4 := HB4.out.size
          clear hr4 hb4
          go_wp2_with (at_builtin; refine wpList_append_src rfl _ _ 38 rfl (base := w2.heap.size) Try.underlying38 HI.out hz0 hz1 hz2 rfl (by decide) rfl HR4.out rfl HSrc.out ints_ones ?c3 ?c4 ?c5 ?_)
          case c3 => unfold maxLen; omega
          case c4 => omega
          case c5 => first | omega | simp
          intro v5 w5 hown' hgrow _
          have R1 : Hid (RowP w5 w2.heap.size v5 (Cj (0 + 1)) (Ej (0 + 1))) := by rw [HE0.out, HC0.out]; exact edg_rows hown'
          have R2 : Hid (Below w2.heap.size w2 w5) := HB4.out.grown hgrow HB4.out.size (fun g hg => (World.ownsRow.lt HR4.out g hg).1)
          clear hown' hgrow
          go_wp2
          go_roundw
          case rel => exact ⟨0 + 1, by omega, by go_num, R1.out, R2.out⟩
          case measure => simp [RowKit.intOf]
        · by_cases j1 : j = 1
          · subst j1
            have b4 : (0 : Int) ≤ ((1 : Nat) : Int) := by omega
            go_wp2_with fail
            refine (CAk.out wr (HBw.out.trans (HBt.out.mono HBw.out.size))).mono ?_
            rintro e w4 ⟨v4, rfl, hr4, hb4⟩
            have HB4 : Hid (Below w2.heap.size w2 w4) := HBt.out.trans (hb4.mono HBt.out.size)
            have HR4 : Hid (RowP w4 w2.heap.size u3 (Cj 1) (Ej 1)) := HRt.out.below hb4
            obtain ⟨A4, c4, rfl⟩ := hr4.shape
            have HSrc := Lib.hid (srcE hr4)
            have sw4 := HB4.out.size
            clear hr4 hb4
            go_wp2_with (at_builtin; refine wpList_append_src rfl _ _ 38 rfl (base := w2.heap.size) Try.underlying38 HI.out hz0 hz1 hz2 rfl (by decide) rfl HR4.out rfl HSrc.out ints_ones ?c3 ?c4 ?c5 ?_)
            case c3 => unfold maxLen; omega
            case c4 => omega
            case c5 => first | omega | simp
            intro v5 w5 hown' hgrow _
            have R1 : Hid (RowP w5 w2.heap.size v5 (Cj (1 + 1)) (Ej (1 + 1))) := by rw [HE1.out, HC1.out]; exact edg_rows hown'
            have R2 : Hid (Below w2.heap.size w2 w5) := HB4.out.grown hgrow HB4.out.size (fun g hg => (World.ownsRow.lt HR4.out g hg).1)
            clear hown' hgrow
            go_wp2
            go_roundw
            case rel => exact ⟨1 + 1, by omega, by go_num, R1.out, R2.out⟩
            case measure => simp [RowKit.intOf]
          · obtain rfl : j = 2 := by omega
            have G : Hid (RowP wr w2.heap.size u3 (C (k + 1)) (E (k + 1))) := by rw [← E2.out.1, ← E2.out.2]; exact HRt.out
            go_wp2
            go_roundw
            case rel => exact ⟨k + 1, by omega, by go_num, G.out, HBt.out⟩
            case measure => simp [RowKit.intOf]; omega
    · obtain rfl : k = n := by omega
      have G := Lib.hid (HR.out.mono HBw.out.size)
      have GB : Hid (Below w.heap.size w wr) := HBw.out.trans (HB.out.mono HBw.out.size)
      go_wp2
      go_ret
      exact ⟨_, rfl, G.out, GB.out⟩
end Go.Proofs.Ytdgkgnlilcbggaa

namespace Go.Proofs.Ytdgkgnlilcbggaa
open Go.RowKit
set_option linter.unusedVariables false

set_option maxHeartbeats 8000000 in
set_option maxRecDepth 100000 in
theorem c_leastPit (xss : List (List Int)) (vs : List Int) (A A2 : Option Addr) (c c2 : Nat) (w : World) (hp : PitOk xss vs) (h : SeenL w (.slice A xss.length c) xss) (hu : Seen w (.slice A2 xss.length c2) vs) :
    Calls Try.prog 30 #[.agg #[.slice A xss.length c, .slice A2 xss.length c2]] w (GivesRow w (bpL xss vs)) := by
  have hN := arc_len hp.arcs
  have HN := Lib.hid (pE_net hp.arcs hp.wide)
  have HE := Lib.hid (lc_ends w (pE_net hp.arcs hp.wide) (pE_len _ _ _))
  have CE : Hid (∀ u : World, Below w.heap.size w u → Calls Try.prog 44 #[.agg #[.slice A xss.length c, .slice A2 xss.length c2]] u (GivesP u (pN xss vs xss.length) (pE xss vs xss.length))) := fun u hb => c_edges xss vs A A2 c c2 u hp (h.below hb) (hu.below hb)
  have HB0 : Hid (Below w.heap.size w (w.alloc (.cells #[.slice A xss.length c, .slice A2 xss.length c2] 44)).drew) := ((Below.refl _ _).alloc (Nat.le_refl _) _).drew
  unfold bpL
  clear h hu hp
  generalize pE xss vs xss.length = E at *
  generalize pN xss vs xss.length = C at *
  generalize xss.length = n at *
  have HZ0 : Hid (w.heap.size < (w.alloc (.cells #[.slice A n c, .slice A2 n c2] 44)).drew.heap.size) := by simp [Hid]
  have HK0 : Hid ((w.alloc (.cells #[.slice A n c, .slice A2 n c2] 44)).drew.cell? ⟨w.heap.size, 0, none⟩ = some (.slice A n c)) := by simp [Hid]
  have HK1 : Hid ((w.alloc (.cells #[.slice A n c, .slice A2 n c2] 44)).drew.cell? ⟨w.heap.size, 1, none⟩ = some (.slice A2 n c2)) := by simp [Hid]
  have CS : Hid (∀ u, Calls Try.prog 43 #[.agg #[.slice A n c, .slice A2 n c2]] u fun e w' => e = .returned (.int .i64 ((n : Int) + 1)) ∧ Below u.heap.size u w') := fun u => c_sink A A2 n c n c2 u (by omega)
  have CL : Hid (∀ (v : Value) (B : Nat) (u : World), RowP u B v C E → Calls Try.prog 45 #[.int .i64 (IntKind.i64.wrap ((n : Int) + 1 + 1)), v] u (GivesRow u (sel (lcP (n + 2) C E) (n + 2)))) := fun v B u hr => by
    rw [show IntKind.i64.wrap ((n : Int) + 1 + 1) = ((n + 2 : Nat) : Int) from (IntWalk.i64_in _ (by omega)).trans (by omega)]
    exact c_leastCutOf (n + 2) C E v u HN.out hr.seen
  have CO : Hid (∀ (v : Value) (B : Nat) (u : World), Row u B v (sel (lcP (n + 2) C E) (n + 2)) → Calls Try.prog 41 #[v] u (GivesRow u (sel (fun i => lcP (n + 2) C E (i + 1)) n))) := fun v B u hr => c_blocksOfCut n (lcP (n + 2) C E) B v u (by omega) HE.out.1 HE.out.2 hr
  go_enter Try.func30, Try.ntmps30
  go_wp2_with fail
  obtain ⟨S, hS⟩ : ∃ S : World → Prop, S = fun u => u.cell? ⟨w.heap.size, 0, none⟩ = some (.slice A n c) ∧ u.cell? ⟨w.heap.size, 1, none⟩ = some (.slice A2 n c2) := ⟨_, rfl⟩
  refine region_till S 7 (by kernel_rfl) (by rw [hS]; exact ⟨HK0.out, HK1.out⟩) (fun hHeld => ?_)
  refine till_take (i := 0) (v := ?v0) rfl (by kernel_rfl) (by kernel_rfl) (by kernel_rfl) (by kernel_rfl) (fun _ _ _ h => h) (Or.inl ⟨by rfl, ?hy0⟩) (by assumption) ?rest0
  case hy0 =>
    intro u hSw
    rw [hS] at hSw; obtain ⟨x0, x1⟩ := hSw
    go_simp
    try with_reducible rfl
  case rest0 =>
    refine till_take (i := 3) (v := ?v3) rfl (by kernel_rfl) (by kernel_rfl) (by kernel_rfl) (by kernel_rfl) (fun _ _ _ h => h) (Or.inl ⟨by rfl, ?hy3⟩) (by assumption) ?rest3
    case hy3 =>
      intro u hSw
      rw [hS] at hSw; obtain ⟨x0, x1⟩ := hSw
      go_simp
      try with_reducible rfl
    case rest3 =>
      simp only [List.getElem_toArray, List.getElem_cons_zero, List.getElem_cons_succ, Act.put, List.setIfInBounds_toArray, List.set_cons_zero, List.set_cons_succ]
      refine till_one (i := 1) rfl (by kernel_rfl) (fun K hK => ?_)
      go_simp
      refine (CS.out _).mono ?_
      rintro e w1 ⟨rfl, hb1⟩
      have HB1 : Hid (Below w.heap.size w w1) := HB0.out.trans (hb1.mono HB0.out.size)
      have HX1 : Hid (w1.cell? ⟨w.heap.size, 0, none⟩ = some (.slice A n c) ∧ w1.cell? ⟨w.heap.size, 1, none⟩ = some (.slice A2 n c2)) := ⟨(hb1.cell (p := ⟨w.heap.size, 0, none⟩) HZ0.out).trans HK0.out, (hb1.cell (p := ⟨w.heap.size, 1, none⟩) HZ0.out).trans HK1.out⟩
      have HZ1 : Hid (w.heap.size < w1.heap.size) := Nat.lt_of_lt_of_le HZ0.out hb1.size
      clear hb1
      refine hK.out _ _ (fun hz => by rw [hS]; exact HX1.out) (fun hH => ?_)
      have hHeld := hH (by omega)
      clear hK K hH
      refine till_take (i := 2) (v := ?v2) rfl (by kernel_rfl) (by kernel_rfl) (by kernel_rfl) (by kernel_rfl) (fun _ _ _ h => h) (Or.inl ⟨by rfl, ?hy2⟩) (by assumption) ?rest2
      case hy2 =>
        intro u hSw
        rw [hS] at hSw; obtain ⟨x0, x1⟩ := hSw
        go_simp
        try with_reducible rfl
      case rest2 =>
        simp only [List.getElem_toArray, List.getElem_cons_zero, List.getElem_cons_succ, Act.put, List.setIfInBounds_toArray, List.set_cons_zero, List.set_cons_succ]
        refine till_one (i := 4) rfl (by kernel_rfl) (fun K hK => ?_)
        go_simp
        refine (CE.out _ HB1.out).mono ?_
        rintro e w2 ⟨v2, rfl, hr2, hb2⟩
        have HB2 : Hid (Below w.heap.size w w2) := HB1.out.trans (hb2.mono HB1.out.size)
        have HC2 := Lib.hid (CL.out _ _ _ hr2)
        have HX2 : Hid (w2.cell? ⟨w.heap.size, 0, none⟩ = some (.slice A n c) ∧ w2.cell? ⟨w.heap.size, 1, none⟩ = some (.slice A2 n c2)) := ⟨(hb2.cell (p := ⟨w.heap.size, 0, none⟩) HZ1.out).trans HX1.out.1, (hb2.cell (p := ⟨w.heap.size, 1, none⟩) HZ1.out).trans HX1.out.2⟩
        have HZ2 : Hid (w.heap.size < w2.heap.size) := Nat.lt_of_lt_of_le HZ1.out hb2.size
        obtain ⟨A4, c4, rfl⟩ := hr2.shape
        clear hr2 hb2
        refine hK.out _ _ (fun hz => by rw [hS]; exact HX2.out) (fun hH => ?_)
        have hHeld := hH (by omega)
        clear hK K hH
        refine till_one (i := 5) rfl (by kernel_rfl) (fun K hK => ?_)
        go_simp
        refine (HC2.out).mono ?_
        rintro e w3 ⟨v3, rfl, hr3, hb3⟩
        have HB3 : Hid (Below w.heap.size w w3) := HB2.out.trans (hb3.mono HB2.out.size)
        have HC3 := Lib.hid (CO.out _ _ _ hr3)
        have HX3 : Hid (w3.cell? ⟨w.heap.size, 0, none⟩ = some (.slice A n c) ∧ w3.cell? ⟨w.heap.size, 1, none⟩ = some (.slice A2 n c2)) := ⟨(hb3.cell (p := ⟨w.heap.size, 0, none⟩) HZ2.out).trans HX2.out.1, (hb3.cell (p := ⟨w.heap.size, 1, none⟩) HZ2.out).trans HX2.out.2⟩
        have HZ3 : Hid (w.heap.size < w3.heap.size) := Nat.lt_of_lt_of_le HZ2.out hb3.size
        obtain ⟨A5, c5, rfl⟩ := hr3.shape
        clear hr3 hb3
        refine hK.out _ _ (fun hz => by rw [hS]; exact HX3.out) (fun hH => ?_)
        have hHeld := hH (by omega)
        clear hK K hH
        refine till_one (i := 6) rfl (by kernel_rfl) (fun K hK => ?_)
        go_simp
        refine (HC3.out).mono ?_
        rintro e w4 ⟨v4, rfl, hr4, hb4⟩
        have HB4 : Hid (Below w.heap.size w w4) := HB3.out.trans (hb4.mono HB3.out.size)
        have HR4 := Lib.hid (hr4.mono HB3.out.size)
        have HX4 : Hid (w4.cell? ⟨w.heap.size, 0, none⟩ = some (.slice A n c) ∧ w4.cell? ⟨w.heap.size, 1, none⟩ = some (.slice A2 n c2)) := ⟨(hb4.cell (p := ⟨w.heap.size, 0, none⟩) HZ3.out).trans HX3.out.1, (hb4.cell (p := ⟨w.heap.size, 1, none⟩) HZ3.out).trans HX3.out.2⟩
        clear hr4 hb4
        refine hK.out _ _ (fun hz => by rw [hS]; exact HX4.out) (fun hH => ?_)
        have hHeld := hH (by omega)
        clear hK K hH
        refine till_one (i := 7) rfl (by kernel_rfl) (fun K hK => ?_)
        go_simp
        refine hK.out _ _ (fun hz => absurd rfl hz) (fun hH => ?_)
        clear hK K hH
        refine till_done (by kernel_rfl) ?_ _
        go_wp2
        go_ret
        exact ⟨_, rfl, HR4.out, HB4.out⟩

set_option maxHeartbeats 8000000 in
set_option maxRecDepth 100000 in
theorem c_largestPit (xss : List (List Int)) (vs : List Int) (A A2 : Option Addr) (c c2 : Nat) (w : World) (hp : PitOk xss vs) (h : SeenL w (.slice A xss.length c) xss) (hu : Seen w (.slice A2 xss.length c2) vs) :
    Calls Try.prog 29 #[.agg #[.slice A xss.length c, .slice A2 xss.length c2]] w (GivesRow w (lpL xss vs)) := by
  have hN := arc_len hp.arcs
  have HN := Lib.hid (pE_net hp.arcs hp.wide)
  have HE := Lib.hid (gt_ends w (pE_net hp.arcs hp.wide))
  have CE : Hid (∀ u : World, Below w.heap.size w u → Calls Try.prog 44 #[.agg #[.slice A xss.length c, .slice A2 xss.length c2]] u (GivesP u (pN xss vs xss.length) (pE xss vs xss.length))) := fun u hb => c_edges xss vs A A2 c c2 u hp (h.below hb) (hu.below hb)
  have HB0 : Hid (Below w.heap.size w (w.alloc (.cells #[.slice A xss.length c, .slice A2 xss.length c2] 44)).drew) := ((Below.refl _ _).alloc (Nat.le_refl _) _).drew
  unfold lpL
  clear h hu hp
  generalize pE xss vs xss.length = E at *
  generalize pN xss vs xss.length = C at *
  generalize xss.length = n at *
  have HZ0 : Hid (w.heap.size < (w.alloc (.cells #[.slice A n c, .slice A2 n c2] 44)).drew.heap.size) := by simp [Hid]
  have HK0 : Hid ((w.alloc (.cells #[.slice A n c, .slice A2 n c2] 44)).drew.cell? ⟨w.heap.size, 0, none⟩ = some (.slice A n c)) := by simp [Hid]
  have HK1 : Hid ((w.alloc (.cells #[.slice A n c, .slice A2 n c2] 44)).drew.cell? ⟨w.heap.size, 1, none⟩ = some (.slice A2 n c2)) := by simp [Hid]
  have CS : Hid (∀ u, Calls Try.prog 43 #[.agg #[.slice A n c, .slice A2 n c2]] u fun e w' => e = .returned (.int .i64 ((n : Int) + 1)) ∧ Below u.heap.size u w') := fun u => c_sink A A2 n c n c2 u (by omega)
  have CL : Hid (∀ (v : Value) (B : Nat) (u : World), RowP u B v C E → Calls Try.prog 42 #[.int .i64 (IntKind.i64.wrap ((n : Int) + 1 + 1)), v] u (GivesRow u (sel (gtP (n + 2) C E) (n + 2)))) := fun v B u hr => by
    rw [show IntKind.i64.wrap ((n : Int) + 1 + 1) = ((n + 2 : Nat) : Int) from (IntWalk.i64_in _ (by omega)).trans (by omega)]
    exact c_greatestCutOf (n + 2) C E v u HN.out hr.seen
  have CO : Hid (∀ (v : Value) (B : Nat) (u : World), Row u B v (sel (gtP (n + 2) C E) (n + 2)) → Calls Try.prog 41 #[v] u (GivesRow u (sel (fun i => gtP (n + 2) C E (i + 1)) n))) := fun v B u hr => c_blocksOfCut n (gtP (n + 2) C E) B v u (by omega) HE.out.1 HE.out.2 hr
  go_enter Try.func29, Try.ntmps29
  go_wp2_with fail
  obtain ⟨S, hS⟩ : ∃ S : World → Prop, S = fun u => u.cell? ⟨w.heap.size, 0, none⟩ = some (.slice A n c) ∧ u.cell? ⟨w.heap.size, 1, none⟩ = some (.slice A2 n c2) := ⟨_, rfl⟩
  refine region_till S 7 (by kernel_rfl) (by rw [hS]; exact ⟨HK0.out, HK1.out⟩) (fun hHeld => ?_)
  refine till_take (i := 0) (v := ?v0) rfl (by kernel_rfl) (by kernel_rfl) (by kernel_rfl) (by kernel_rfl) (fun _ _ _ h => h) (Or.inl ⟨by rfl, ?hy0⟩) (by assumption) ?rest0
  case hy0 =>
    intro u hSw
    rw [hS] at hSw; obtain ⟨x0, x1⟩ := hSw
    go_simp
    try with_reducible rfl
  case rest0 =>
    refine till_take (i := 3) (v := ?v3) rfl (by kernel_rfl) (by kernel_rfl) (by kernel_rfl) (by kernel_rfl) (fun _ _ _ h => h) (Or.inl ⟨by rfl, ?hy3⟩) (by assumption) ?rest3
    case hy3 =>
      intro u hSw
      rw [hS] at hSw; obtain ⟨x0, x1⟩ := hSw
      go_simp
      try with_reducible rfl
    case rest3 =>
      simp only [List.getElem_toArray, List.getElem_cons_zero, List.getElem_cons_succ, Act.put, List.setIfInBounds_toArray, List.set_cons_zero, List.set_cons_succ]
      refine till_one (i := 1) rfl (by kernel_rfl) (fun K hK => ?_)
      go_simp
      refine (CS.out _).mono ?_
      rintro e w1 ⟨rfl, hb1⟩
      have HB1 : Hid (Below w.heap.size w w1) := HB0.out.trans (hb1.mono HB0.out.size)
      have HX1 : Hid (w1.cell? ⟨w.heap.size, 0, none⟩ = some (.slice A n c) ∧ w1.cell? ⟨w.heap.size, 1, none⟩ = some (.slice A2 n c2)) := ⟨(hb1.cell (p := ⟨w.heap.size, 0, none⟩) HZ0.out).trans HK0.out, (hb1.cell (p := ⟨w.heap.size, 1, none⟩) HZ0.out).trans HK1.out⟩
      have HZ1 : Hid (w.heap.size < w1.heap.size) := Nat.lt_of_lt_of_le HZ0.out hb1.size
      clear hb1
      refine hK.out _ _ (fun hz => by rw [hS]; exact HX1.out) (fun hH => ?_)
      have hHeld := hH (by omega)
      clear hK K hH
      refine till_take (i := 2) (v := ?v2) rfl (by kernel_rfl) (by kernel_rfl) (by kernel_rfl) (by kernel_rfl) (fun _ _ _ h => h) (Or.inl ⟨by rfl, ?hy2⟩) (by assumption) ?rest2
      case hy2 =>
        intro u hSw
        rw [hS] at hSw; obtain ⟨x0, x1⟩ := hSw
        go_simp
        try with_reducible rfl
      case rest2 =>
        simp only [List.getElem_toArray, List.getElem_cons_zero, List.getElem_cons_succ, Act.put, List.setIfInBounds_toArray, List.set_cons_zero, List.set_cons_succ]
        refine till_one (i := 4) rfl (by kernel_rfl) (fun K hK => ?_)
        go_simp
        refine (CE.out _ HB1.out).mono ?_
        rintro e w2 ⟨v2, rfl, hr2, hb2⟩
        have HB2 : Hid (Below w.heap.size w w2) := HB1.out.trans (hb2.mono HB1.out.size)
        have HC2 := Lib.hid (CL.out _ _ _ hr2)
        have HX2 : Hid (w2.cell? ⟨w.heap.size, 0, none⟩ = some (.slice A n c) ∧ w2.cell? ⟨w.heap.size, 1, none⟩ = some (.slice A2 n c2)) := ⟨(hb2.cell (p := ⟨w.heap.size, 0, none⟩) HZ1.out).trans HX1.out.1, (hb2.cell (p := ⟨w.heap.size, 1, none⟩) HZ1.out).trans HX1.out.2⟩
        have HZ2 : Hid (w.heap.size < w2.heap.size) := Nat.lt_of_lt_of_le HZ1.out hb2.size
        obtain ⟨A4, c4, rfl⟩ := hr2.shape
        clear hr2 hb2
        refine hK.out _ _ (fun hz => by rw [hS]; exact HX2.out) (fun hH => ?_)
        have hHeld := hH (by omega)
        clear hK K hH
        refine till_one (i := 5) rfl (by kernel_rfl) (fun K hK => ?_)
        go_simp
        refine (HC2.out).mono ?_
        rintro e w3 ⟨v3, rfl, hr3, hb3⟩
        have HB3 : Hid (Below w.heap.size w w3) := HB2.out.trans (hb3.mono HB2.out.size)
        have HC3 := Lib.hid (CO.out _ _ _ hr3)
        have HX3 : Hid (w3.cell? ⟨w.heap.size, 0, none⟩ = some (.slice A n c) ∧ w3.cell? ⟨w.heap.size, 1, none⟩ = some (.slice A2 n c2)) := ⟨(hb3.cell (p := ⟨w.heap.size, 0, none⟩) HZ2.out).trans HX2.out.1, (hb3.cell (p := ⟨w.heap.size, 1, none⟩) HZ2.out).trans HX2.out.2⟩
        have HZ3 : Hid (w.heap.size < w3.heap.size) := Nat.lt_of_lt_of_le HZ2.out hb3.size
        obtain ⟨A5, c5, rfl⟩ := hr3.shape
        clear hr3 hb3
        refine hK.out _ _ (fun hz => by rw [hS]; exact HX3.out) (fun hH => ?_)
        have hHeld := hH (by omega)
        clear hK K hH
        refine till_one (i := 6) rfl (by kernel_rfl) (fun K hK => ?_)
        go_simp
        refine (HC3.out).mono ?_
        rintro e w4 ⟨v4, rfl, hr4, hb4⟩
        have HB4 : Hid (Below w.heap.size w w4) := HB3.out.trans (hb4.mono HB3.out.size)
        have HR4 := Lib.hid (hr4.mono HB3.out.size)
        have HX4 : Hid (w4.cell? ⟨w.heap.size, 0, none⟩ = some (.slice A n c) ∧ w4.cell? ⟨w.heap.size, 1, none⟩ = some (.slice A2 n c2)) := ⟨(hb4.cell (p := ⟨w.heap.size, 0, none⟩) HZ3.out).trans HX3.out.1, (hb4.cell (p := ⟨w.heap.size, 1, none⟩) HZ3.out).trans HX3.out.2⟩
        clear hr4 hb4
        refine hK.out _ _ (fun hz => by rw [hS]; exact HX4.out) (fun hH => ?_)
        have hHeld := hH (by omega)
        clear hK K hH
        refine till_one (i := 7) rfl (by kernel_rfl) (fun K hK => ?_)
        go_simp
        refine hK.out _ _ (fun hz => absurd rfl hz) (fun hH => ?_)
        clear hK K hH
        refine till_done (by kernel_rfl) ?_ _
        go_wp2
        go_ret
        exact ⟨_, rfl, HR4.out, HB4.out⟩
end Go.Proofs.Ytdgkgnlilcbggaa

namespace Go.Proofs.Ytdgkgnlilcbggaa
open Go.RowKit
set_option linter.unusedVariables false

noncomputable def bpA (xss : List (List Int)) (vs : List Int) : List Int := if pgB xss vs then bpL xss vs else []
noncomputable def lpA (xss : List (List Int)) (vs : List Int) : List Int := if pgB xss vs then lpL xss vs else []
theorem bpA_len (xss : List (List Int)) (vs : List Int) : (bpA xss vs).length ≤ 4000000 := by
  unfold bpA
  split
  · rename_i h
    have h1 := arc_len (pg_true h).1
    have h2 := sel_len (fun i => lcP (xss.length + 2) (pN xss vs xss.length) (pE xss vs xss.length) (i + 1)) xss.length
    unfold bpL
    omega
  · simp
theorem lpA_len (xss : List (List Int)) (vs : List Int) : (lpA xss vs).length ≤ 4000000 := by
  unfold lpA
  split
  · rename_i h
    have h1 := arc_len (pg_true h).1
    have h2 := sel_len (fun i => gtP (xss.length + 2) (pN xss vs xss.length) (pE xss vs xss.length) (i + 1)) xss.length
    unfold lpL
    omega
  · simp

set_option maxHeartbeats 1000000 in
theorem c_solve_leastPit (xss : List (List Int)) (vs : List Int) (v u : Value) (w : World) (hs : ShortL xss) (hl : vs.length ≤ 4000000) (h : SeenL w v xss) (hu : Seen w u vs) :
    Calls Try.prog 28 #[v, u, .func (.func 30) #[] #[]] w (GivesRow2 w (bpA xss vs) (pgB xss vs)) := by
  have C0 := Lib.hid (c_areArcsAndValues xss vs v u w hs hl h hu)
  have HS := Lib.hid h
  have HU := Lib.hid hu
  obtain ⟨A, c, rfl, hm⟩ := h.shape
  obtain ⟨A2, c2, rfl⟩ := hu.shape
  unfold bpA
  clear h hu hs hl
  cases hp : pgB xss vs
  · rw [hp] at C0
    rw [if_neg (by simp)]
    clear hp
    go_enter Try.func28, Try.ntmps28
    go_wp2_with fail
    refine C0.out.mono ?_
    rintro e w1 ⟨rfl, rfl⟩
    go_wp2
    go_ret2
    exact ⟨_, rfl, Row.nil _ _, Below.refl _ _⟩
  · rw [hp] at C0
    have hk := PitOk.of hp
    have e := hk.len
    rw [e] at HU C0 ⊢
    have C1 := Lib.hid (c_leastPit xss vs A A2 c c2 w hk HS.out HU.out)
    rw [if_pos rfl]
    clear hp hk e
    generalize bpL xss vs = X at *
    generalize xss.length = n at *
    go_enter Try.func28, Try.ntmps28
    go_wp2_with fail
    refine C0.out.mono ?_
    rintro e w1 ⟨rfl, rfl⟩
    go_wp2_with fail
    refine C1.out.mono ?_
    rintro e w1 ⟨v1, rfl, hr, hb⟩
    have HR := Lib.hid hr
    have HB := Lib.hid hb
    clear hr hb
    go_wp2
    go_ret2
    exact ⟨_, rfl, HR.out, HB.out⟩

set_option maxHeartbeats 1000000 in
theorem c_BestPit (xss : List (List Int)) (vs : List Int) (v u : Value) (w : World) (hs : ShortL xss) (hl : vs.length ≤ 4000000) (h : SeenL w v xss) (hu : Seen w u vs) :
    Calls Try.prog 20 #[v, u] w (GivesRow2 w (bpA xss vs) (pgB xss vs)) := by
  have C0 := Lib.hid (c_solve_leastPit xss vs v u w hs hl h hu)
  obtain ⟨A, c, rfl, hm⟩ := h.shape
  obtain ⟨A2, c2, rfl⟩ := hu.shape
  clear h hu hs hl
  generalize bpA xss vs = X at *
  generalize pgB xss vs = bb at *
  go_enter Try.func20, Try.ntmps20
  go_wp2_with fail
  refine C0.out.mono ?_
  rintro e w1 ⟨v1, rfl, hr, hb⟩
  have HR := Lib.hid hr
  have HB := Lib.hid hb
  obtain ⟨A3, c3, rfl⟩ := hr.shape
  clear hr hb
  go_wp2
  go_ret2
  exact ⟨_, rfl, HR.out, HB.out⟩

set_option maxHeartbeats 1000000 in
theorem c_solve_largestPit (xss : List (List Int)) (vs : List Int) (v u : Value) (w : World) (hs : ShortL xss) (hl : vs.length ≤ 4000000) (h : SeenL w v xss) (hu : Seen w u vs) :
    Calls Try.prog 28 #[v, u, .func (.func 29) #[] #[]] w (GivesRow2 w (lpA xss vs) (pgB xss vs)) := by
  have C0 := Lib.hid (c_areArcsAndValues xss vs v u w hs hl h hu)
  have HS := Lib.hid h
  have HU := Lib.hid hu
  obtain ⟨A, c, rfl, hm⟩ := h.shape
  obtain ⟨A2, c2, rfl⟩ := hu.shape
  unfold lpA
  clear h hu hs hl
  cases hp : pgB xss vs
  · rw [hp] at C0
    rw [if_neg (by simp)]
    clear hp
    go_enter Try.func28, Try.ntmps28
    go_wp2_with fail
    refine C0.out.mono ?_
    rintro e w1 ⟨rfl, rfl⟩
    go_wp2
    go_ret2
    exact ⟨_, rfl, Row.nil _ _, Below.refl _ _⟩
  · rw [hp] at C0
    have hk := PitOk.of hp
    have e := hk.len
    rw [e] at HU C0 ⊢
    have C1 := Lib.hid (c_largestPit xss vs A A2 c c2 w hk HS.out HU.out)
    rw [if_pos rfl]
    clear hp hk e
    generalize lpL xss vs = X at *
    generalize xss.length = n at *
    go_enter Try.func28, Try.ntmps28
    go_wp2_with fail
    refine C0.out.mono ?_
    rintro e w1 ⟨rfl, rfl⟩
    go_wp2_with fail
    refine C1.out.mono ?_
    rintro e w1 ⟨v1, rfl, hr, hb⟩
    have HR := Lib.hid hr
    have HB := Lib.hid hb
    clear hr hb
    go_wp2
    go_ret2
    exact ⟨_, rfl, HR.out, HB.out⟩

set_option maxHeartbeats 1000000 in
theorem c_LargestPit (xss : List (List Int)) (vs : List Int) (v u : Value) (w : World) (hs : ShortL xss) (hl : vs.length ≤ 4000000) (h : SeenL w v xss) (hu : Seen w u vs) :
    Calls Try.prog 19 #[v, u] w (GivesRow2 w (lpA xss vs) (pgB xss vs)) := by
  have C0 := Lib.hid (c_solve_largestPit xss vs v u w hs hl h hu)
  obtain ⟨A, c, rfl, hm⟩ := h.shape
  obtain ⟨A2, c2, rfl⟩ := hu.shape
  clear h hu hs hl
  generalize lpA xss vs = X at *
  generalize pgB xss vs = bb at *
  go_enter Try.func19, Try.ntmps19
  go_wp2_with fail
  refine C0.out.mono ?_
  rintro e w1 ⟨v1, rfl, hr, hb⟩
  have HR := Lib.hid hr
  have HB := Lib.hid hb
  obtain ⟨A3, c3, rfl⟩ := hr.shape
  clear hr hb
  go_wp2
  go_ret2
  exact ⟨_, rfl, HR.out, HB.out⟩
end Go.Proofs.Ytdgkgnlilcbggaa
