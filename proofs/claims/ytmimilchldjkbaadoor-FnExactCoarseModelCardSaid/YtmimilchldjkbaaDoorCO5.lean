/-
  Contract: CoarseModel, in the model.
-/
import Derived.Test.YtmimilchldjkbaaDoorCO4
import Derived.Test.YtmimilchldjkbaaDoorJ4
import Derived.Test.YtmimilchldjkbaaDoorGrow
namespace Go.Proofs.YtmimilchldjkbaaDoor
open Go.RowKit
set_option linter.unusedVariables false
set_option linter.unusedSimpArgs false

theorem Box3.kept {u wa w' : World} {b : Nat} {x y z : Int} {o : Option Nat} (h : Box3 u b x y z) (hb : Below u.heap.size u wa) (hg : wa.grownBy w' o) (ho : o ≠ some b) : Box3 w' b x y z := by
  have e : w'.heap[b]? = u.heap[b]? := (hg.block b (Nat.lt_of_lt_of_le h.lt hb.size) (fun e => ho (by simpa using e.symm))).trans (hb.block b h.lt)
  have hc : ∀ i, w'.cell? ⟨b, i, none⟩ = u.cell? ⟨b, i, none⟩ := fun i => World.cell?_of_block (w := u) e
  exact ⟨Nat.lt_of_lt_of_le h.lt (Nat.le_trans hb.size hg.size), by rw [hc]; exact h.c0, by rw [hc]; exact h.c1, by rw [hc]; exact h.c2⟩
theorem Box6.app {u wa w' : World} {b L j : Nat} {x y z : Int} {v1 v2 v3 : Value} {o : Option Nat} {v : Value} (h : Box6 u b x y z v1 v2 v3) (hb : Below u.heap.size u wa) (hg : wa.grownBy w' o) (ho : o ≠ some b) (hL : L ≠ b) : Box6 (w'.setCell ⟨L, j, none⟩ v) b x y z v1 v2 v3 := by
  have e : (w'.setCell ⟨L, j, none⟩ v).heap[b]? = u.heap[b]? := (Below.heap_setCell _ _ _ b (fun e => hL (show b = L from e).symm)).trans ((hg.block b (Nat.lt_of_lt_of_le h.lt hb.size) (fun e => ho (by simpa using e.symm))).trans (hb.block b h.lt))
  have hc : ∀ i, (w'.setCell ⟨L, j, none⟩ v).cell? ⟨b, i, none⟩ = u.cell? ⟨b, i, none⟩ := fun i => World.cell?_of_block (w := u) e
  refine ⟨?_, by rw [hc]; exact h.c0, by rw [hc]; exact h.c1, by rw [hc]; exact h.c2, by rw [hc]; exact h.c3, by rw [hc]; exact h.c4, by rw [hc]; exact h.c5⟩
  have := hg.size
  have := hb.size
  have := h.lt
  simp
  omega
theorem cj_pie {x y : Nat} {ts gs rs : List Int} {N k : Nat} (hp : PieTo (cpL x y ts gs rs k N) (coC x y k N)) : pieB (cjT x y ts gs rs N k) (cjM x y ts gs rs N k) (cjR x y ts gs rs N k) = cjB x y ts gs rs N k := by
  obtain ⟨a, b, c, d⟩ := suF_box _ hp
  have a' : 0 ≤ cjT x y ts gs rs N k := a
  have c' : 0 ≤ cjM x y ts gs rs N k := c
  have d' : cjM x y ts gs rs N k ≤ 1000 * cjT x y ts gs rs N k := d
  have hr := bestR_lt (rkT (cpL x y ts gs rs k N) (coC x y k N)) 5
  have r0 : 0 ≤ cjR x y ts gs rs N k := by unfold cjR; omega
  have r1 : cjR x y ts gs rs N k ≤ 4 := by unfold cjR; omega
  unfold pieB cjB
  rw [decide_eq_decide]
  exact ⟨fun h => h.2.1, fun h => ⟨a', h, c', d', r0, r1⟩⟩

set_option maxHeartbeats 32000000 in
set_option maxRecDepth 100000 in
theorem c_CoarseModelS (X Y Z : Nat) (v1 v2 v3 : Value) (ts gs rs : List Int) (w : World) (l1 : ts.length ≤ 4000000) (l2 : gs.length ≤ 4000000) (l3 : rs.length ≤ 4000000) (h : Look w v1 v2 v3 ts gs rs) :
    Calls Tryd.prog 23 #[.agg #[.int .i64 X, .int .i64 Y, .int .i64 Z, v1, v2, v3]] w (GivesCo w X Y Z ts gs rs) := by
  have H := Lib.hid h
  obtain ⟨A1, c1, rfl⟩ := h.t.shape
  obtain ⟨A2, c2, rfl⟩ := h.g.shape
  obtain ⟨A3, c3, rfl⟩ := h.r.shape
  clear h
  have CM := Lib.hid (fun u hu => c_moGood (X : Int) (Y : Int) (Z : Int) _ _ _ ts gs rs u l1 l2 l3 (H.out.below hu))
  cases hm : moB (X : Int) (Y : Int) (Z : Int) ts gs rs
  · rw [givesCo_no (show cmB X Y Z ts gs rs = false by unfold cmB; rw [hm]; rfl)]
    rw [hm] at CM
    clear hm
    have H0 := Lib.hid (HeadM.of w (X : Int) (Y : Int) (Z : Int) (.slice A1 ts.length c1) (.slice A2 gs.length c2) (.slice A3 rs.length c3))
    go_enter Tryd.func23, Tryd.ntmps23
    go_wp2_with fail
    generalize ((w.alloc (.cells #[.int .i64 (X : Int), .int .i64 (Y : Int), .int .i64 (Z : Int), .slice A1 ts.length c1, .slice A2 gs.length c2, .slice A3 rs.length c3] 49)).alloc (.cells #[.int .i64 0, .int .i64 0, .int .i64 0, .slice none 0 0, .slice none 0 0, .slice none 0 0] 49)) = W0 at *
    have x0 := H0.out.m.c0
    have x1 := H0.out.m.c1
    have x2 := H0.out.m.c2
    have x3 := H0.out.m.c3
    have x4 := H0.out.m.c4
    have x5 := H0.out.m.c5
    go_wp2_with fail
    refine (CM.out _ H0.out.b).mono ?_
    rintro e w1 ⟨rfl, hb⟩
    have H1 := Lib.hid (H0.out.below hb)
    clear hb x0 x1 x2 x3 x4 x5
    have y0 := H1.out.r.c0
    have y1 := H1.out.r.c1
    have y2 := H1.out.r.c2
    have y3 := H1.out.r.c3
    have y4 := H1.out.r.c4
    have y5 := H1.out.r.c5
    have y6 := H1.out.r.fz
    have y7 := H1.out.r.lt
    have HF := Lib.hid (fin_none H1.out.r H1.out.b)
    go_wp2
    unfold putM at HF
    generalize ((((((w1.setCell ⟨w.heap.size + 1, 0, none⟩ (.int .i64 0)).setCell ⟨w.heap.size + 1, 1, none⟩ (.int .i64 0)).setCell ⟨w.heap.size + 1, 2, none⟩ (.int .i64 0)).setCell ⟨w.heap.size + 1, 3, none⟩ (.slice none 0 0)).setCell ⟨w.heap.size + 1, 4, none⟩ (.slice none 0 0)).setCell ⟨w.heap.size + 1, 5, none⟩ (.slice none 0 0)) = we at *
    obtain ⟨P1, P2, P3⟩ := HF.out
    have f0 := P1.c0
    have f1 := P1.c1
    have f2 := P1.c2
    have f3 := P1.c3
    have f4 := P1.c4
    have f5 := P1.c5
    refine bodyPost_ret (v := .tuple #[.agg #[.int .i64 0, .int .i64 0, .int .i64 0, .slice none 0 0, .slice none 0 0, .slice none 0 0], .int .i64 0, .bool false]) (by simp [results, Tryd.results23, go_sem, f0, f1, f2, f3, f4, f5]) rfl ⟨_, _, _, rfl, P2, P3⟩
  have ho := coOk hm
  have hcm : cmB X Y Z ts gs rs = cjAll X Y ts gs rs (X * Y * Z) (coQ X Y Z) := by unfold cmB; rw [hm]; rfl
  rw [hm] at CM
  obtain ⟨x1', x2', y1', y2', z1', z2', _⟩ := good_box ho.g
  have CG := Lib.hid (fun u => c_sbGrid (X : Int) (Y : Int) (Z : Int) u x1' x2' y1' y2')
  have hK : ((coQ X Y Z : Nat) : Int) = ((X : Int) + 1) / 2 * (((Y : Int) + 1) / 2) * (Z : Int) := coQ_int X Y Z
  have HCn : Hid (∀ u, Calls Tryd.prog 66 #[.agg #[.int .i64 (((X : Int) + 1) / 2), .int .i64 (((Y : Int) + 1) / 2), .int .i64 Z]] u fun e w' => e = .returned (.int .i64 (coQ X Y Z : Nat)) ∧ Below u.heap.size u w') := fun u => by
    rw [hK]
    exact c_grCount _ _ _ u (by omega) (by omega) (by omega) (by omega) (by omega) (by omega)
  have HCo : Hid (∀ (i : Nat) u, i < X * Y * Z → Calls Tryd.prog 67 #[.agg #[.int .i64 X, .int .i64 Y, .int .i64 Z], .int .i64 i] u fun e w' => e = .returned (.int .i64 (coK X Y i : Nat)) ∧ Below u.heap.size u w') := fun i u hi => by
    have hh : hasB (X : Int) (Y : Int) (Z : Int) (i : Int) = true := by
      unfold hasB
      rw [ho.g, Bool.true_and, decide_eq_true_eq]
      have e : ((X * Y * Z : Nat) : Int) = (X : Int) * (Y : Int) * (Z : Int) := by simp
      omega
    have := c_sbCoarse (X : Int) (Y : Int) (Z : Int) (i : Int) u hh
    rw [coV_nat ho.g hi] at this
    exact this
  have HOf : Hid (∀ (i : Nat) u, i < X * Y * Z → Below w.heap.size w u → Calls Tryd.prog 68 #[.agg #[.int .i64 X, .int .i64 Y, .int .i64 Z, .slice A1 ts.length c1, .slice A2 gs.length c2, .slice A3 rs.length c3], .int .i64 i] u fun e w' => e = .returned (.agg #[.int .i64 (ts.getD i 0), .int .i64 (metal ts gs i), .int .i64 (rs.getD i 0)]) ∧ Below u.heap.size u w') := fun i u hi hu => by
    obtain ⟨⟨t0, t1⟩, g0, g1⟩ := ho.box i hi
    have h1 := ho.t
    have h2 := ho.gl
    have h3 := ho.r
    have := ho.n2
    exact c_sbOf _ _ _ _ _ _ ts gs rs i u (H.out.below hu) (by omega) (by omega) (by omega) (by omega) (by omega) (by omega) t0 t1 g0 g1
  have HGN : Hid (cjAll X Y ts gs rs (X * Y * Z) (coQ X Y Z) = false → GivesCo w X Y Z ts gs rs = GivesMod3 w 0 0 0 [] [] [] 0 false) := fun hh => givesCo_no (by rw [hcm]; exact hh)
  have HGY : Hid (cjAll X Y ts gs rs (X * Y * Z) (coQ X Y Z) = true → GivesCo w X Y Z ts gs rs = GivesMod3 w (((X : Int) + 1) / 2) (((Y : Int) + 1) / 2) (Z : Int) (byP (cjT X Y ts gs rs (X * Y * Z)) (coQ X Y Z)) (byP (cjG X Y ts gs rs (X * Y * Z)) (coQ X Y Z)) (byP (cjR X Y ts gs rs (X * Y * Z)) (coQ X Y Z)) (cjGap X Y ts gs rs (X * Y * Z) (coQ X Y Z)) true) := fun hh => givesCo_yes (by rw [hcm]; exact hh)
  rw [ho.t, ho.gl, ho.r] at CM HOf ⊢
  have k2 := ho.k2
  have n2 := ho.n2
  clear hm hcm hK
  generalize hN : X * Y * Z = N at *
  generalize hKq : coQ X Y Z = K at *
  clear hN hKq
  have HJ : Hid (∀ (k : Nat) (v : Value) u, k < K → RowP u 0 v (coC X Y k N) (cpL X Y ts gs rs k N) → Calls Tryd.prog 69 #[v] u fun e w' => e = .returned (.agg #[.int .i64 (cjT X Y ts gs rs N k), .int .i64 (cjM X Y ts gs rs N k), .int .i64 (cjR X Y ts gs rs N k)]) ∧ Below u.heap.size u w') := fun k v u hk hr => by
    have jo := joOk ho hk
    exact c_sbJoin _ _ v u _ rfl jo.n1 jo.n2 jo.p hr.seen
  have CPi : Hid (∀ k u, k < K → Calls Tryd.prog 70 #[.agg #[.int .i64 (cjT X Y ts gs rs N k), .int .i64 (cjM X Y ts gs rs N k), .int .i64 (cjR X Y ts gs rs N k)]] u fun e w' => e = .returned (.bool (cjB X Y ts gs rs N k)) ∧ Below u.heap.size u w') := fun k u hk => by
    rw [← cj_pie (joOk ho hk).p]
    exact c_sbPiece _ _ _ u
  have HBx : Hid (∀ k, k < K → cjB X Y ts gs rs N k = true → (0 ≤ cjT X Y ts gs rs N k ∧ cjT X Y ts gs rs N k ≤ 10000) ∧ (0 ≤ cjM X Y ts gs rs N k ∧ cjM X Y ts gs rs N k ≤ 10000000) ∧ (0 ≤ cjR X Y ts gs rs N k ∧ cjR X Y ts gs rs N k ≤ 4) ∧ (0 ≤ cjG X Y ts gs rs N k ∧ cjG X Y ts gs rs N k ≤ 1000)) := fun k hk hb => cj_box (joOk ho hk).p hb
  have HGb : Hid (∀ n, cjAll X Y ts gs rs N n = true → -(20000000 * (n : Int)) ≤ cjGap X Y ts gs rs N n ∧ cjGap X Y ts gs rs N n ≤ 20000000 * (n : Int)) := cjGap_box (fun k => cpL_pie N (fun i hi => ho.pie i hi))
  have HRd : Hid (∀ k u, k < K → cjB X Y ts gs rs N k = true → Calls Tryd.prog 71 #[.agg #[.int .i64 (cjT X Y ts gs rs N k), .int .i64 (cjM X Y ts gs rs N k), .int .i64 (cjR X Y ts gs rs N k)]] u fun e w' => e = .returned (.int .i64 (cjG X Y ts gs rs N k)) ∧ Below u.heap.size u w') := fun k u hk hb => by
    obtain ⟨⟨a1, a2⟩, ⟨b1, b2⟩, _⟩ := cj_box (joOk ho hk).p hb
    exact c_sbRound _ _ _ u a1 a2 b1 (by omega)
  have HPs : Hid (∀ k i, coK X Y i = k → cpL X Y ts gs rs k (i + 1) = cpL X Y ts gs rs k i ++ [ts.getD i 0, metal ts gs i, rs.getD i 0] ∧ coC X Y k (i + 1) = coC X Y k i + 1) := fun k i e => ⟨cpL_hit e, by rw [coC, if_pos e]⟩
  have HPn : Hid (∀ k i, coK X Y i ≠ k → cpL X Y ts gs rs k (i + 1) = cpL X Y ts gs rs k i ∧ coC X Y k (i + 1) = coC X Y k i) := fun k i e => ⟨cpL_miss e, by rw [coC, if_neg e, Nat.add_zero]⟩
  have HP0 : Hid (∀ k, cpL X Y ts gs rs k 0 = [] ∧ coC X Y k 0 = 0) := fun k => ⟨rfl, rfl⟩
  have HLn : Hid (∀ k i, (cpL X Y ts gs rs k i).length = coC X Y k i * 3 ∧ coC X Y k i ≤ i) := fun k i => ⟨cpL_len X Y ts gs rs k i, by
    induction i with
    | zero => exact Nat.le_refl _
    | succ i ih =>
      rw [coC]
      split <;> omega⟩
  have HAs : Hid (∀ k, cjAll X Y ts gs rs N (k + 1) = (cjAll X Y ts gs rs N k && cjB X Y ts gs rs N k)) := fun k => rfl
  have HAn : Hid (∀ k, k < K → cjB X Y ts gs rs N k = false → cjAll X Y ts gs rs N K = false) := fun k hk hb => cjAll_no hk hb
  have HA0 : Hid (cjAll X Y ts gs rs N 0 = true) := rfl
  have HG0 : Hid (cjGap X Y ts gs rs N 0 = 0) := rfl
  have HGs : Hid (∀ k, cjGap X Y ts gs rs N (k + 1) = cjGap X Y ts gs rs N k + (cjT X Y ts gs rs N k * cjG X Y ts gs rs N k - cjM X Y ts gs rs N k)) := fun k => rfl
  obtain ⟨i0, hi0, hz0, hz1, hz2⟩ := info_parts int_info
  have HI := Lib.hid hi0
  obtain ⟨j0, hj0, hy0, hy1, hy2⟩ := info_parts piece_info
  have HIP := Lib.hid hj0
  have H0 := Lib.hid (HeadM.of w (X : Int) (Y : Int) (Z : Int) (.slice A1 N c1) (.slice A2 N c2) (.slice A3 N c3))
  clear hi0 hj0 ho x1' x2' y1' y2' z1' z2'
  generalize GivesCo w X Y Z ts gs rs = GG at *
  generalize cjT X Y ts gs rs N = T at *
  generalize cjM X Y ts gs rs N = M at *
  generalize cjR X Y ts gs rs N = R at *
  generalize cjG X Y ts gs rs N = G at *
  generalize cjB X Y ts gs rs N = BB at *
  generalize cjAll X Y ts gs rs N = AL at *
  generalize cjGap X Y ts gs rs N = GP at *
  generalize cpL X Y ts gs rs = PL at *
  generalize coC X Y = CC at *
  generalize coK X Y = CK at *
  go_enter Tryd.func23, Tryd.ntmps23
  go_wp2_with fail
  generalize ((w.alloc (.cells #[.int .i64 (X : Int), .int .i64 (Y : Int), .int .i64 (Z : Int), .slice A1 N c1, .slice A2 N c2, .slice A3 N c3] 49)).alloc (.cells #[.int .i64 0, .int .i64 0, .int .i64 0, .slice none 0 0, .slice none 0 0, .slice none 0 0] 49)) = W0 at *
  have x0 := H0.out.m.c0
  have x1 := H0.out.m.c1
  have x2 := H0.out.m.c2
  have x3 := H0.out.m.c3
  have x4 := H0.out.m.c4
  have x5 := H0.out.m.c5
  go_wp2_with fail
  refine (CM.out _ H0.out.b).mono ?_
  rintro e w1 ⟨rfl, hb⟩
  have H1 := Lib.hid (H0.out.below hb)
  clear hb x0 x1 x2 x3 x4 x5
  have x0 := H1.out.m.c0
  have x1 := H1.out.m.c1
  have x2 := H1.out.m.c2
  go_wp2_with fail
  refine (CG.out _).mono ?_
  rintro e w2 ⟨rfl, hb⟩
  have H2 := Lib.hid (H1.out.below hb)
  clear hb x0 x1 x2
  generalize ((X : Int) + 1) / 2 = cx at *
  generalize ((Y : Int) + 1) / 2 = cy at *
  have hb3 : Below w2.heap.size w2 (w2.alloc (.cells #[.int .i64 cx, .int .i64 cy, .int .i64 Z, .slice none 0 0, .slice none 0 0, .slice none 0 0] 49)) := (Below.refl _ _).alloc (Nat.le_refl _) _
  have H3 := Lib.hid (H2.out.below hb3)
  have HO3 : Hid (Six (w2.alloc (.cells #[.int .i64 cx, .int .i64 cy, .int .i64 Z, .slice none 0 0, .slice none 0 0, .slice none 0 0] 49)) w2.heap.size cx cy Z (.slice none 0 0) (.slice none 0 0) (.slice none 0 0)) := Six.new _ _ _ _ _ _ _ _
  have hL3 : w.heap.size + 1 < w2.heap.size := H2.out.r.lt
  clear hb3
  have hL4 : w2.heap.size < (w2.alloc (.cells #[.int .i64 cx, .int .i64 cy, .int .i64 Z, .slice none 0 0, .slice none 0 0, .slice none 0 0] 49)).heap.size := HO3.out.lt
  have C3 : Hid (CSt w (w2.alloc (.cells #[.int .i64 cx, .int .i64 cy, .int .i64 Z, .slice none 0 0, .slice none 0 0, .slice none 0 0] 49)) w2.heap.size (w2.alloc (.cells #[.int .i64 cx, .int .i64 cy, .int .i64 Z, .slice none 0 0, .slice none 0 0, .slice none 0 0] 49)).heap.size cx cy Z (.slice none 0 0) (.slice none 0 0) (.slice none 0 0) [] [] []) := ⟨HO3.out, ⟨Row.nil _ _, Row.nil _ _, Row.nil _ _, .inl rfl, .inl rfl, .inl rfl⟩, H3.out.r, H3.out.b, hL4, hL3, Nat.le_refl _⟩
  have HX3 := Lib.hid H3.out.m
  go_wp2_with fail
  generalize w2.alloc (.cells #[.int .i64 cx, .int .i64 cy, .int .i64 Z, .slice none 0 0, .slice none 0 0, .slice none 0 0] 49) = w3 at *
  generalize w2.heap.size = L at *
  generalize w3.heap.size = B at *
  clear H0 H1 H2 H3 HO3
  go_loopw [6, 7] (fun g i wr => ∃ k : Nat, k ≤ K ∧ i = .int .i64 k ∧ g = .int .i64 (GP k) ∧ AL k = true ∧ (∃ v1 v2 v3, CSt w wr L B cx cy Z v1 v2 v3 (byP T k) (byP G k) (byP R k)) ∧ Box6 wr w.heap.size X Y Z (.slice A1 N c1) (.slice A2 N c2) (.slice A3 N c3)) (fun _ i _ => K - (intOf i).toNat)
  case atStart => exact ⟨0, Nat.zero_le _, rfl, by rw [HG0.out], HA0.out, ⟨_, _, _, C3.out⟩, HX3.out⟩
  case round =>
    obtain ⟨k, hk, rfl, rfl, hal, ⟨v1, v2, v3, hc⟩, hx⟩ := hrel
    obtain ⟨VA1, vc1, hv1⟩ := hc.mod.t.shape
    obtain ⟨VA2, vc2, hv2⟩ := hc.mod.g.shape
    obtain ⟨VA3, vc3, hv3⟩ := hc.mod.r.shape
    rw [byP_len] at hv1 hv2 hv3
    subst hv1
    subst hv2
    subst hv3
    have HC := Lib.hid hc
    have HX := Lib.hid hx
    have HAL := Lib.hid hal
    have hgb := HGb.out k hal
    clear hc hx hal C3 HX3
    have o0 := HC.out.out.c0
    have o1 := HC.out.out.c1
    have o2 := HC.out.out.c2
    go_wp2_with fail
    refine (HCn.out _).mono ?_
    rintro e w5 ⟨rfl, hb⟩
    have HC5 := Lib.hid (HC.out.below hb)
    have HX5 := Lib.hid (HX.out.below hb)
    have sz5 : wr.heap.size ≤ w5.heap.size := hb.size
    clear hb o0 o1 o2
    by_cases hlt : k < K
    · have b0 : (0 : Int) ≤ (k : Int) := by omega
      have b9 : (k : Int) < (K : Int) := by omega
      have x3 := HX5.out.c3
      have HJk := Lib.hid (fun v u hr => HJ.out k v u hlt hr)
      have CPk := Lib.hid (fun u => CPi.out k u hlt)
      have HBk := Lib.hid (HBx.out k hlt)
      have HRdk := Lib.hid (fun u => HRd.out k u hlt)
      have HAsk := Lib.hid (HAs.out k)
      have HAnk := Lib.hid (HAn.out k hlt)
      have HGsk := Lib.hid (HGs.out k)
      have HT1 := Lib.hid (byP_go T k)
      have HT2 := Lib.hid (byP_go G k)
      have HT3 := Lib.hid (byP_go R k)
      have HS := Lib.hid (HPs.out k)
      have HN := Lib.hid (HPn.out k)
      have HL := Lib.hid (HLn.out k)
      have HRow0 : Hid (RowP w5 w5.heap.size (.slice none 0 0) (CC k 0) (PL k 0)) := by
        rw [(HP0.out k).1, (HP0.out k).2]
        exact World.ownsRow_nil _ _ _ _
      generalize PL k = PK at *
      generalize CC k = CN at *
      go_wp2_with fail
      go_loopw [8, 29] (fun q j w6 => ∃ i : Nat, i ≤ N ∧ j = .int .i64 i ∧ RowP w6 w5.heap.size q (CN i) (PK i) ∧ Below w5.heap.size w5 w6) (fun _ j _ => N - (intOf j).toNat)
      case atStart => exact ⟨0, Nat.zero_le _, rfl, HRow0.out, Below.refl _ _⟩
      case round =>
        obtain ⟨i, hi, rfl, hr, hb⟩ := hrel
        rename_i w6
        obtain ⟨QA, qc, hqa⟩ := hr.shape
        subst hqa
        have HR := Lib.hid hr
        have HB := Lib.hid hb
        have HX6 := Lib.hid (HX5.out.below hb)
        have hci := HL.out i
        clear hr hb x3
        have g0 := HX6.out.c0
        have g1 := HX6.out.c1
        have g2 := HX6.out.c2
        by_cases hlt2 : i < N
        · have d1 : (0 : Int) ≤ (i : Int) := by omega
          have d2 : (i : Int) < (N : Int) := by omega
          go_wp2_with fail
          refine (HCo.out i _ hlt2).mono ?_
          rintro e w7 ⟨rfl, hb⟩
          have HB7 : Hid (Below w5.heap.size w5 w7) := HB.out.trans (hb.mono HB.out.size)
          have HR7 := Lib.hid (RowP.below HR.out hb)
          have HX7 := Lib.hid (HX6.out.below hb)
          clear hb g0 g1 g2
          have fs := HS.out i
          have fn := HN.out i
          have HOi := Lib.hid (fun u hu => HOf.out i u hlt2 hu)
          generalize CK i = q at *
          by_cases hq : q = k
          · obtain ⟨q1, q2⟩ := fs hq
            have hqi : (q : Int) = (k : Int) := by omega
            have Q1 := Lib.hid q1
            have Q2 := Lib.hid q2
            clear fs fn q1 q2 hq
            have g0 := HX7.out.c0
            have g1 := HX7.out.c1
            have g2 := HX7.out.c2
            have g3 := HX7.out.c3
            have g4 := HX7.out.c4
            have g5 := HX7.out.c5
            go_wp2_with fail
            refine (HOi.out _ (HC5.out.bel.trans (HB7.out.mono HC5.out.bel.size))).mono ?_
            rintro e w8 ⟨rfl, hb⟩
            have HB8 : Hid (Below w5.heap.size w5 w8) := HB7.out.trans (hb.mono HB7.out.size)
            have HR8 := Lib.hid (RowP.below HR7.out hb)
            clear hb g0 g1 g2 g3 g4 g5 HOi
            generalize ts.getD i 0 = tt at *
            generalize metal ts gs i = mm at *
            generalize rs.getD i 0 = rr at *
            have sw := HB8.out.size
            go_wp2_with (at_builtin; refine wpList_append_src rfl _ _ 103 rfl (base := w5.heap.size) Tryd.underlying103 HIP.out hy0 hy1 hy2 rfl (by decide) rfl (World.ownsRow.alloc HR8.out _) rfl (src_cells 3 (xs := [tt, mm, rr]) rfl (fun e => by cases e) (fun _ => ⟨w8.heap.size, 0, rfl, fun j hj => by match j, hj with | 0, _ => simp | 1, _ => simp | 2, _ => simp⟩)) ints_ones ?c3_i ?c4_i ?c5_i ?_)
            case c3_i => unfold maxLen; omega
            case c4_i => omega
            case c5_i => first | omega | (simp; omega)
            intro v9 w9 o9 g9 _
            have R9 : Hid (RowP w9 w5.heap.size v9 (CN (i + 1)) (PK (i + 1))) := by
              show RowP _ _ _ _ _
              rw [Q1.out, Q2.out]
              unfold RowP
              rw [show ints (PK i ++ [tt, mm, rr]) = ints (PK i) ++ ints [tt, mm, rr] by simp [ints]]
              exact o9
            have B9 : Hid (Below w5.heap.size w5 w9) := (HB8.out.alloc sw _).grown g9 (by simp; omega) (fun j hj => (World.ownsRow.lt HR8.out j hj).1)
            clear o9 g9
            go_wp2_with fail
            go_roundw
            case rel => exact ⟨i + 1, by omega, by go_num, R9.out, B9.out⟩
            case measure => simp [intOf]; omega
          · obtain ⟨q1, q2⟩ := fn hq
            have hqi : ¬ (q : Int) = (k : Int) := by omega
            have R9 : Hid (RowP w7 w5.heap.size (.slice QA (CN i) qc) (CN (i + 1)) (PK (i + 1))) := by
              show RowP _ _ _ _ _
              rw [q1, q2]
              exact HR7.out
            clear fs fn q1 q2 hq
            go_wp2_with fail
            go_roundw
            case rel => exact ⟨i + 1, by omega, by go_num, R9.out, HB7.out⟩
            case measure => simp [intOf]; omega
        · obtain rfl : N = i := by omega
          have nlt : ¬ (N : Int) < (N : Int) := by omega
          clear g0 g1 g2
          go_wp2_with fail
          refine (HJk.out _ _ (HR.out.mono (Nat.zero_le _))).mono ?_
          rintro e w7 ⟨rfl, hb⟩
          have hb6 := HB.out
          have HC7 := Lib.hid ((HC5.out.below hb6).below hb)
          have HX7 := Lib.hid (HX6.out.below hb)
          have sz7 := Nat.le_trans sz5 (Nat.le_trans hb6.size hb.size)
          have hba : Below w7.heap.size w7 (w7.alloc (.cells #[.int .i64 (T k), .int .i64 (M k), .int .i64 (R k)] 105)) := (Below.refl _ _).alloc (Nat.le_refl _) _
          have HCa := Lib.hid (HC7.out.below hba)
          have HXa := Lib.hid (HX7.out.below hba)
          have HPa : Hid (Box3 (w7.alloc (.cells #[.int .i64 (T k), .int .i64 (M k), .int .i64 (R k)] 105)) w7.heap.size (T k) (M k) (R k)) := Box3.new _ _ _ _ _
          have szB : B ≤ w7.heap.size := HC7.out.sz
          clear hb hb6 hba
          go_wp2_with fail
          refine (CPk.out _).mono ?_
          rintro e w8 ⟨rfl, hb⟩
          have HC8 := Lib.hid (HCa.out.below hb)
          have HX8 := Lib.hid (HXa.out.below hb)
          have HP8 := Lib.hid (HPa.out.below hb)
          clear hb HC5 HX5 HC7 HX7 HCa HXa HPa HX6 HR HB
          generalize w7.heap.size = P at *
          cases hbk : BB k
          · have HNo := Lib.hid (HGN.out (HAnk.out hbk))
            have HF := Lib.hid (fin_none HC8.out.res HC8.out.bel)
            have y0 := HC8.out.res.c0
            have y1 := HC8.out.res.c1
            have y2 := HC8.out.res.c2
            have y3 := HC8.out.res.c3
            have y4 := HC8.out.res.c4
            have y5 := HC8.out.res.c5
            have y6 := HC8.out.res.fz
            have y7 := HC8.out.res.lt
            go_wp2_with fail
            rw [HNo.out]
            unfold putM at HF
            generalize ((((((w8.setCell ⟨w.heap.size + 1, 0, none⟩ (.int .i64 0)).setCell ⟨w.heap.size + 1, 1, none⟩ (.int .i64 0)).setCell ⟨w.heap.size + 1, 2, none⟩ (.int .i64 0)).setCell ⟨w.heap.size + 1, 3, none⟩ (.slice none 0 0)).setCell ⟨w.heap.size + 1, 4, none⟩ (.slice none 0 0)).setCell ⟨w.heap.size + 1, 5, none⟩ (.slice none 0 0)) = we at *
            obtain ⟨P1, P2, P3⟩ := HF.out
            have f0 := P1.c0
            have f1 := P1.c1
            have f2 := P1.c2
            have f3 := P1.c3
            have f4 := P1.c4
            have f5 := P1.c5
            refine bodyPost_ret (v := .tuple #[.agg #[.int .i64 0, .int .i64 0, .int .i64 0, .slice none 0 0, .slice none 0 0, .slice none 0 0], .int .i64 0, .bool false]) (by simp [results, Tryd.results23, go_sem, f0, f1, f2, f3, f4, f5]) rfl ⟨_, _, _, rfl, P2, P3⟩
          · obtain ⟨⟨t0, t1⟩, ⟨m0, m1⟩, ⟨r0, r1⟩, g0', g1'⟩ := HBk.out hbk
            obtain ⟨q0, q1⟩ := mul_box (a := T k) (b := G k) (m := 10000) (n := 1000) t0 t1 g0' g1'
            have hRd := Lib.hid (fun u => HRdk.out u hbk)
            have hA1 : Hid (AL (k + 1) = true) := by show _ = _; rw [HAsk.out, HAL.out, hbk]; rfl
            have hLB : L < B := HC.out.LB
            have e1 : (byP T k).length = k := byP_len T k
            have e2 : (byP G k).length = k := byP_len G k
            have e3 : (byP R k).length = k := byP_len R k
            have sz8 := HC8.out.sz
            clear HAsk HAnk HBk HRdk
            have p0 := HP8.out.c0
            have o0 := HC8.out.out.c3
            go_wp2_with (at_builtin; refine wpList_append_src rfl _ _ 24 rfl (base := B) Tryd.underlying24 HI.out hz0 hz1 hz2 rfl (by decide) rfl (World.ownsRow.alloc HC8.out.mod.t _) rfl (src_one (x := T k) (one_new _ _ (by first | rfl | simp) _ _)) ints_ones ?c3_1 ?c4_1 ?c5_1 ?_)
            case c3_1 => unfold maxLen; omega
            case c4_1 => omega
            case c5_1 => first | omega | (simp; omega)
            intro vv w1' o1 g1 a1
            have hB1 : Below (w8).heap.size (w8) ((w8).alloc (.cells #[.int .i64 (T k)] 3)) := (Below.refl _ _).alloc (Nat.le_refl _) _
            have r1 := row_app (by simp [e1]) o1
            obtain ⟨VB1, vd1, hv1⟩ := r1.shape
            rw [show (byP T k ++ [T k]).length = k + 1 by simp [e1]] at hv1
            subst hv1
            obtain ⟨S1, C1⟩ := HC8.out.app1 hB1 r1 g1 (by simpa using a1)
            have HC9 := Lib.hid C1
            have HX9 := Lib.hid (HX8.out.app (L := L) (j := 3) (v := (.slice VB1 (k + 1) vd1)) hB1 g1 (fun e => by have := (World.ownsRow.lt HC.out.mod.t _ e).1; omega) (by omega))
            have HP9 := Lib.hid (HP8.out.app (L := L) (j := 3) (v := (.slice VB1 (k + 1) vd1)) hB1 g1 (fun e => by have := (World.ownsRow.lt HC.out.mod.t _ e).2; omega) (by omega))
            have sz9 := HC9.out.sz
            simp at sz9
            clear o1 r1 g1 a1 hB1 C1
            have s0 := S1.c3
            have s1 := S1.fz
            have s2 := S1.lt
            have KA' : Hid (∀ u, Below (w1'.setCell ⟨L, 3, none⟩ (.slice VB1 (k + 1) vd1)).heap.size (w1'.setCell ⟨L, 3, none⟩ (.slice VB1 (k + 1) vd1)) u → (fun u => u.cell? ⟨L, 4, none⟩ = some (.slice VA2 k vc2) ∧ u.cell? ⟨P, 0, none⟩ = some (.int .i64 (T k)) ∧ u.cell? ⟨P, 1, none⟩ = some (.int .i64 (M k)) ∧ u.cell? ⟨P, 2, none⟩ = some (.int .i64 (R k))) u) := fun u hu =>
              ⟨(HC9.out.below hu).out.c4, (HP9.out.below hu).c0, (HP9.out.below hu).c1, (HP9.out.below hu).c2⟩
            clear p0 o0
            go_wp2_with fail
            generalize w1'.setCell ⟨L, 3, none⟩ (.slice VB1 (k + 1) vd1) = w9 at *
            clear s0 s1 s2
            have KA := KA'
            have KD : Hid (Below w9.heap.size w9 w9.drew) := (Below.refl _ _).drew
            obtain ⟨Sa, hSa⟩ : ∃ S : World → Prop, S = (fun u => u.cell? ⟨L, 4, none⟩ = some (.slice VA2 k vc2) ∧ u.cell? ⟨P, 0, none⟩ = some (.int .i64 (T k)) ∧ u.cell? ⟨P, 1, none⟩ = some (.int .i64 (M k)) ∧ u.cell? ⟨P, 2, none⟩ = some (.int .i64 (R k))) := ⟨_, rfl⟩
            refine region_till Sa 7 (by kernel_rfl) (by rw [hSa]; exact KA.out _ KD.out) (fun hHeld => ?_)
            refine till_take (i := 0) (v := ?va_0) rfl (by kernel_rfl) (by kernel_rfl) (by kernel_rfl) (by kernel_rfl) (fun _ _ _ h => h) (Or.inl ⟨by rfl, ?hya_0⟩) (by assumption) ?resta_0
            case hya_0 =>
              intro u hSw
              rw [hSa] at hSw; obtain ⟨x0, x1, x2, x3⟩ := hSw
              go_simp
              try with_reducible rfl
            case resta_0 =>
              refine till_take (i := 1) (v := ?va_1) rfl (by kernel_rfl) (by kernel_rfl) (by kernel_rfl) (by kernel_rfl) (fun _ _ _ h => h) (Or.inl ⟨by rfl, ?hya_1⟩) (by assumption) ?resta_1
              case hya_1 =>
                intro u hSw
                rw [hSa] at hSw; obtain ⟨x0, x1, x2, x3⟩ := hSw
                go_simp
                try with_reducible rfl
              case resta_1 =>
                refine till_take (i := 2) (v := ?va_2) rfl (by kernel_rfl) (by kernel_rfl) (by kernel_rfl) (by kernel_rfl) (fun _ _ _ h => h) (Or.inl ⟨by rfl, ?hya_2⟩) (by assumption) ?resta_2
                case hya_2 =>
                  intro u hSw
                  rw [hSa] at hSw; obtain ⟨x0, x1, x2, x3⟩ := hSw
                  go_simp
                  try with_reducible rfl
                case resta_2 =>
                  simp only [List.getElem_toArray, List.getElem_cons_zero, List.getElem_cons_succ, Act.put, List.setIfInBounds_toArray, List.set_cons_zero, List.set_cons_succ]
                  refine till_one (i := 3) rfl (by kernel_rfl) (fun K hK => ?_)
                  go_simp
                  go_at_call 71
                  refine (hRd.out _).mono ?_
                  rintro e wb ⟨rfl, hb⟩
                  have U5 : Hid (Below w9.heap.size w9 wb) := KD.out.trans (hb.mono (Nat.le_refl _))
                  have K5 := Lib.hid (KA.out _ U5.out)
                  clear hb
                  show K _ _
                  refine hK.out _ _ (fun hz => by rw [hSa]; exact K5.out) (fun hH => ?_)
                  have hHeld := hH (by omega)
                  clear hK K hH
                  refine till_one (i := 4) rfl (by kernel_rfl) (fun K hK => ?_)
                  go_simp
                  refine hK.out _ _ (fun hz => by rw [hSa]; exact KA.out _ (U5.out.alloc U5.out.size _)) (fun hH => ?_)
                  have hHeld := hH (by omega)
                  clear hK K hH
                  refine till_one (i := 5) rfl (by kernel_rfl) (fun K hK => ?_)
                  refine step_append_src rfl _ _ 24 (by rfl) (base := B) Tryd.underlying24 HI.out hz0 hz1 hz2 rfl (by decide) (by rfl) (World.ownsRow.alloc (HC9.out.below U5.out).mod.g _) (by rfl) (src_one (x := G k) (one_new _ _ (by first | rfl | simp) _ _)) ints_ones (by unfold maxLen; omega) (by omega) (by have := U5.out.size; have := HC9.out.sz; simp; omega) ?_
                  intro vv w2' o2 g2 a2
                  have hB2 : Below w9.heap.size w9 (wb.alloc (.cells #[.int .i64 (G k)] 3)) := U5.out.alloc U5.out.size _
                  have r2 := row_app (by simp [e2]) o2
                  obtain ⟨VB2, vd2, hv2⟩ := r2.shape
                  rw [show (byP G k ++ [G k]).length = k + 1 by simp [e2]] at hv2
                  subst hv2
                  obtain ⟨S2, C2⟩ := HC9.out.app2 hB2 r2 g2 (by simpa using a2)
                  have HC10 := Lib.hid C2
                  have HX10 := Lib.hid (HX9.out.app (L := L) (j := 4) (v := (.slice VB2 (k + 1) vd2)) hB2 g2 (fun e => by have := (World.ownsRow.lt HC.out.mod.g _ e).1; omega) (by omega))
                  have HP10 := Lib.hid (HP9.out.app (L := L) (j := 4) (v := (.slice VB2 (k + 1) vd2)) hB2 g2 (fun e => by have := (World.ownsRow.lt HC.out.mod.g _ e).2; omega) (by omega))
                  have sz10 := HC10.out.sz
                  simp at sz10
                  have BP := HP9.out.kept hB2 g2 (fun e => by have := (World.ownsRow.lt HC.out.mod.g _ e).2; omega)
                  have K6 : Hid ((fun u => u.cell? ⟨L, 4, none⟩ = some (.slice VA2 k vc2) ∧ u.cell? ⟨P, 0, none⟩ = some (.int .i64 (T k)) ∧ u.cell? ⟨P, 1, none⟩ = some (.int .i64 (M k)) ∧ u.cell? ⟨P, 2, none⟩ = some (.int .i64 (R k))) w2') := ⟨S2.c4, BP.c0, BP.c1, BP.c2⟩
                  have p7 := S2.c4
                  have p8 := S2.fz
                  have p9 := S2.lt
                  clear o2 r2 g2 a2 hB2 C2 BP
                  refine hK.out _ _ (fun hz => by rw [hSa]; exact K6.out) (fun hH => ?_)
                  have hHeld := hH (by omega)
                  clear hK K hH
                  refine till_take (i := 6) (v := ?va_6) rfl (by kernel_rfl) (by kernel_rfl) (by kernel_rfl) (by kernel_rfl) (fun _ _ _ h => h) (Or.inl ⟨by rfl, ?hya_6⟩) (by assumption) ?resta_6
                  case hya_6 =>
                    intro u hSw
                    rw [hSa] at hSw; obtain ⟨x0, x1, x2, x3⟩ := hSw
                    go_simp
                    try with_reducible rfl
                  case resta_6 =>
                    simp only [List.getElem_toArray, List.getElem_cons_zero, List.getElem_cons_succ, Act.put, List.setIfInBounds_toArray, List.set_cons_zero, List.set_cons_succ]
                    refine till_one (i := 7) rfl (by kernel_rfl) (fun K hK => ?_)
                    go_simp
                    refine hK.out _ _ (fun hz => absurd rfl hz) (fun hH => ?_)
                    clear hK K hH
                    refine till_done (by kernel_rfl) ?_ _
                    have p2 := HP10.out.c2
                    have o4 := HC10.out.out.c5
                    go_wp2_with (at_builtin; refine wpList_append_src rfl _ _ 24 rfl (base := B) Tryd.underlying24 HI.out hz0 hz1 hz2 rfl (by decide) rfl (World.ownsRow.alloc HC10.out.mod.r _) rfl (src_one (x := R k) (one_new _ _ (by first | rfl | simp) _ _)) ints_ones ?c3_3 ?c4_3 ?c5_3 ?_)
                    case c3_3 => unfold maxLen; omega
                    case c4_3 => omega
                    case c5_3 => first | omega | (simp; omega)
                    intro vv w3' o3 g3 a3
                    have hB3 : Below (w2'.setCell ⟨L, 4, none⟩ (.slice VB2 (k + 1) vd2)).heap.size (w2'.setCell ⟨L, 4, none⟩ (.slice VB2 (k + 1) vd2)) ((w2'.setCell ⟨L, 4, none⟩ (.slice VB2 (k + 1) vd2)).alloc (.cells #[.int .i64 (R k)] 3)) := (Below.refl _ _).alloc (Nat.le_refl _) _
                    have r3 := row_app (by simp [e3]) o3
                    obtain ⟨VB3, vd3, hv3⟩ := r3.shape
                    rw [show (byP R k ++ [R k]).length = k + 1 by simp [e3]] at hv3
                    subst hv3
                    obtain ⟨S3, C3⟩ := HC10.out.app3 hB3 r3 g3 (by simpa using a3)
                    have HC11 := Lib.hid C3
                    have HX11 := Lib.hid (HX10.out.app (L := L) (j := 5) (v := (.slice VB3 (k + 1) vd3)) hB3 g3 (fun e => by have := (World.ownsRow.lt HC.out.mod.r _ e).1; omega) (by omega))
                    have HP11 := Lib.hid (HP10.out.app (L := L) (j := 5) (v := (.slice VB3 (k + 1) vd3)) hB3 g3 (fun e => by have := (World.ownsRow.lt HC.out.mod.r _ e).2; omega) (by omega))
                    have sz11 := HC11.out.sz
                    simp at sz11
                    clear o3 r3 g3 a3 hB3 C3
                    have s0 := S3.c5
                    have s1 := S3.fz
                    have s2 := S3.lt
                    clear p2 o4
                    have p0 := HP11.out.c0
                    have p1 := HP11.out.c1
                    have p2 := HP11.out.c2
                    have plt := HP11.out.lt
                    have hgp : -(20000000 * (k : Int)) ≤ GP k ∧ GP k ≤ 20000000 * (k : Int) := hgb
                    have iw1 : IntKind.i64.wrap (T k * G k) = T k * G k := IntWalk.i64_in _ (by omega)
                    have iw2 : IntKind.i64.wrap (T k * G k - M k) = T k * G k - M k := IntWalk.i64_in _ (by omega)
                    have iw3 : IntKind.i64.wrap (GP k + (T k * G k - M k)) = GP k + (T k * G k - M k) := IntWalk.i64_in _ (by omega)
                    go_wp2_with fail
                    generalize w3'.setCell ⟨L, 5, none⟩ (.slice VB3 (k + 1) vd3) = w11 at *
                    clear s0 s1 s2
                    refine wp_region_grow (by kernel_rfl) (by kernel_rfl) ?_
                    repeat (go_big_quiet_step ((go_at_call 71; exact grow_of (hRd.out _))))
                    refine wpQuiet_nil ?_
                    intro _ hw'
                    obtain ⟨u, hw''⟩ := hw'
                    subst hw''
                    have hb2 := wOf_below w11 u
                    generalize wOf w11 u = w12 at hb2 ⊢
                    have HC12 := Lib.hid (HC11.out.below hb2)
                    have HX12 := Lib.hid (HX11.out.below hb2)
                    clear hb2
                    go_wp2_with fail
                    go_roundw
                    case rel => exact ⟨k + 1, by omega, by rw [show ((k + 1 : Nat) : Int) = (k : Int) + 1 by omega], by rw [HGsk.out], hA1.out, ⟨_, _, _, by rw [HT1.out, HT2.out, HT3.out]; exact HC12.out⟩, HX12.out⟩
                    case measure => simp [intOf]; omega
    · obtain rfl : k = K := by omega
      have nlt : ¬ (k : Int) < (k : Int) := by omega
      have HYe := Lib.hid (HGY.out HAL.out)
      have HF := Lib.hid HC5.out.fin
      have o0 := HC5.out.out.c0
      have o1 := HC5.out.out.c1
      have o2 := HC5.out.out.c2
      have o3 := HC5.out.out.c3
      have o4 := HC5.out.out.c4
      have o5 := HC5.out.out.c5
      have o6 := HC5.out.out.lt
      have y0 := HC5.out.res.c0
      have y1 := HC5.out.res.c1
      have y2 := HC5.out.res.c2
      have y3 := HC5.out.res.c3
      have y4 := HC5.out.res.c4
      have y5 := HC5.out.res.c5
      have y6 := HC5.out.res.fz
      have y7 := HC5.out.res.lt
      go_wp2_with fail
      rw [HYe.out]
      unfold putM at HF
      generalize ((((((w5.setCell ⟨w.heap.size + 1, 0, none⟩ (.int .i64 cx)).setCell ⟨w.heap.size + 1, 1, none⟩ (.int .i64 cy)).setCell ⟨w.heap.size + 1, 2, none⟩ (.int .i64 Z)).setCell ⟨w.heap.size + 1, 3, none⟩ (.slice VA1 k vc1)).setCell ⟨w.heap.size + 1, 4, none⟩ (.slice VA2 k vc2)).setCell ⟨w.heap.size + 1, 5, none⟩ (.slice VA3 k vc3)) = we at *
      obtain ⟨P1, P2, P3⟩ := HF.out
      have f0 := P1.c0
      have f1 := P1.c1
      have f2 := P1.c2
      have f3 := P1.c3
      have f4 := P1.c4
      have f5 := P1.c5
      refine bodyPost_ret (v := .tuple #[.agg #[.int .i64 cx, .int .i64 cy, .int .i64 Z, .slice VA1 k vc1, .slice VA2 k vc2, .slice VA3 k vc3], .int .i64 (GP k), .bool true]) (by simp [results, Tryd.results23, go_sem, f0, f1, f2, f3, f4, f5]) rfl ⟨_, _, _, rfl, P2, P3⟩
end Go.Proofs.YtmimilchldjkbaaDoor
