/-
  Contract: CoarseModel, in the program.
-/
import Derived.Test.YtmimilchldjkbaaDoorCOD
namespace Go.Proofs.YtmimilchldjkbaaDoor
open Go.RowKit
set_option linter.unusedVariables false
set_option linter.unusedSimpArgs false

theorem one_new (W : World) (n : Nat) (h : W.heap.size = n) (x : Int) (t : TypeId) : (W.alloc (.cells #[.int .i64 x] t)).cell? ⟨n, 0, none⟩ = some (.int .i64 x) := by subst h; simp
theorem Box3.app {u wa w' : World} {b L j : Nat} {x y z : Int} {o : Option Nat} {v : Value} (h : Box3 u b x y z) (hb : Below u.heap.size u wa) (hg : wa.grownBy w' o) (ho : o ≠ some b) (hL : L ≠ b) : Box3 (w'.setCell ⟨L, j, none⟩ v) b x y z := by
  have e : (w'.setCell ⟨L, j, none⟩ v).heap[b]? = u.heap[b]? := (Below.heap_setCell _ _ _ b (fun e => hL (show b = L from e).symm)).trans ((hg.block b (Nat.lt_of_lt_of_le h.lt hb.size) (fun e => ho (by simpa using e.symm))).trans (hb.block b h.lt))
  have hc : ∀ i, (w'.setCell ⟨L, j, none⟩ v).cell? ⟨b, i, none⟩ = u.cell? ⟨b, i, none⟩ := fun i => World.cell?_of_block (w := u) e
  refine ⟨?_, by rw [hc]; exact h.c0, by rw [hc]; exact h.c1, by rw [hc]; exact h.c2⟩
  have := hg.size
  have := hb.size
  have := h.lt
  simp
  omega
theorem RowsO.app {u wa w' : World} {A U L j : Nat} {o : Option Nat} {v v' : Value} {xss : List (List Int)} (h : RowsO u A U v xss) (hb : Below u.heap.size u wa) (hU : U ≤ u.heap.size) (hg : wa.grownBy w' o) (ho : ∀ i, o = some i → U ≤ i) (hL : L < A) : RowsO (w'.setCell ⟨L, j, none⟩ v') A U v xss :=
  h.stays fun k h1 h2 => (Below.heap_setCell _ _ _ k (fun e => absurd (show k = L from e) (by omega))).trans ((hg.block k (Nat.lt_of_lt_of_le (by omega) hb.size) (fun e => by have := ho k (by simpa using e.symm); omega)).trans (hb.block k (by omega)))

set_option maxHeartbeats 32000000 in
set_option maxRecDepth 100000 in
theorem c_CoarseModel (X Y Z : Nat) (v1 v2 v3 : Value) (ts gs rs : List Int) (w : World) (l1 : ts.length ≤ 4000000) (l2 : gs.length ≤ 4000000) (l3 : rs.length ≤ 4000000) (h : Look w v1 v2 v3 ts gs rs) (hrk : RK w) :
    Calls Tryd.prog 25 #[.agg #[.int .i64 X, .int .i64 Y, .int .i64 Z, v1, v2, v3]] w (GivesCo w X Y Z ts gs rs) := by
  have H := Lib.hid h
  have HK := Lib.hid hrk
  obtain ⟨A1, c1, rfl⟩ := h.t.shape
  obtain ⟨A2, c2, rfl⟩ := h.g.shape
  obtain ⟨A3, c3, rfl⟩ := h.r.shape
  clear h hrk
  have CM := Lib.hid (fun u hu => c_IsModel (X : Int) (Y : Int) (Z : Int) _ _ _ ts gs rs u l1 l2 l3 (H.out.below hu))
  cases hm : moB (X : Int) (Y : Int) (Z : Int) ts gs rs
  · rw [givesCo_no (show cmB X Y Z ts gs rs = false by unfold cmB; rw [hm]; rfl)]
    rw [hm] at CM
    clear hm
    have H0 := Lib.hid (HeadM.of w (X : Int) (Y : Int) (Z : Int) (.slice A1 ts.length c1) (.slice A2 gs.length c2) (.slice A3 rs.length c3))
    go_enter Tryd.func25, Tryd.ntmps25
    go_wp2_with fail
    generalize ((w.alloc (.cells #[.int .i64 (X : Int), .int .i64 (Y : Int), .int .i64 (Z : Int), .slice A1 ts.length c1, .slice A2 gs.length c2, .slice A3 rs.length c3] 49)).alloc (.cells #[.int .i64 0, .int .i64 0, .int .i64 0, .slice none 0 0, .slice none 0 0, .slice none 0 0] 49)) = W0 at *
    have x0 := H0.out.m.c0
    have x1 := H0.out.m.c1
    have x2 := H0.out.m.c2
    have x3 := H0.out.m.c3
    have x4 := H0.out.m.c4
    have x5 := H0.out.m.c5
    go_wp2_with fail
    refine (CM.out _ H0.out.b).mono ?_
    rintro e w1 ⟨rfl, hb⟩
    have H1 := Lib.hid (H0.out.below hb)
    clear hb x0 x1 x2 x3 x4 x5
    have y0 := H1.out.r.c0
    have y1 := H1.out.r.c1
    have y2 := H1.out.r.c2
    have y3 := H1.out.r.c3
    have y4 := H1.out.r.c4
    have y5 := H1.out.r.c5
    have y6 := H1.out.r.fz
    have y7 := H1.out.r.lt
    have HN := Lib.hid (fin_none H1.out.r H1.out.b)
    go_wp2
    unfold putM at HN
    generalize ((((((w1.setCell ⟨w.heap.size + 1, 0, none⟩ (.int .i64 0)).setCell ⟨w.heap.size + 1, 1, none⟩ (.int .i64 0)).setCell ⟨w.heap.size + 1, 2, none⟩ (.int .i64 0)).setCell ⟨w.heap.size + 1, 3, none⟩ (.slice none 0 0)).setCell ⟨w.heap.size + 1, 4, none⟩ (.slice none 0 0)).setCell ⟨w.heap.size + 1, 5, none⟩ (.slice none 0 0)) = we at *
    obtain ⟨P1, P2, P3⟩ := HN.out
    have f0 := P1.c0
    have f1 := P1.c1
    have f2 := P1.c2
    have f3 := P1.c3
    have f4 := P1.c4
    have f5 := P1.c5
    refine bodyPost_ret (v := .tuple #[.agg #[.int .i64 0, .int .i64 0, .int .i64 0, .slice none 0 0, .slice none 0 0, .slice none 0 0], .int .i64 0, .bool false]) (by simp [results, Tryd.results25, go_sem, f0, f1, f2, f3, f4, f5]) rfl ⟨_, _, _, rfl, P2, P3⟩
  have ho := coOk hm
  have hcm : cmB X Y Z ts gs rs = cjAll X Y ts gs rs (X * Y * Z) (coQ X Y Z) := by unfold cmB; rw [hm]; rfl
  rw [hm] at CM
  have CPc := Lib.hid (fun u hu => c_coarsePieces X Y Z _ _ _ ts gs rs _ _ u ho (H.out.below hu))
  obtain ⟨x1', x2', y1', y2', z1', z2', _⟩ := good_box ho.g
  have CG := Lib.hid (fun u => c_coarseGrid (X : Int) (Y : Int) (Z : Int) u x1' x2' y1' y2')
  have HGN : Hid (cjAll X Y ts gs rs (X * Y * Z) (coQ X Y Z) = false → GivesCo w X Y Z ts gs rs = GivesMod3 w 0 0 0 [] [] [] 0 false) := fun hh => givesCo_no (by rw [hcm]; exact hh)
  have HGY : Hid (cjAll X Y ts gs rs (X * Y * Z) (coQ X Y Z) = true → GivesCo w X Y Z ts gs rs = GivesMod3 w (((X : Int) + 1) / 2) (((Y : Int) + 1) / 2) (Z : Int) (byP (cjT X Y ts gs rs (X * Y * Z)) (coQ X Y Z)) (byP (cjG X Y ts gs rs (X * Y * Z)) (coQ X Y Z)) (byP (cjR X Y ts gs rs (X * Y * Z)) (coQ X Y Z)) (cjGap X Y ts gs rs (X * Y * Z) (coQ X Y Z)) true) := fun hh => givesCo_yes (by rw [hcm]; exact hh)
  rw [ho.t, ho.gl, ho.r] at CM CPc ⊢
  have k2 := ho.k2
  clear hm hcm
  generalize hN : X * Y * Z = N at *
  generalize hKq : coQ X Y Z = K at *
  clear hN hKq
  have HJ : Hid (∀ (k : Nat) (v : Value) u, k < K → RowP u 0 v (coC X Y k N) (cpL X Y ts gs rs k N) → Below w.heap.size w u → Calls Tryd.prog 75 #[v] u fun e w' => (∃ a b c : Int, e = .returned (.tuple #[.agg #[.int .i64 a, .int .i64 b, .int .i64 c], .bool (cjB X Y ts gs rs N k)]) ∧ (cjB X Y ts gs rs N k = true → a = cjT X Y ts gs rs N k ∧ b = cjM X Y ts gs rs N k ∧ c = cjR X Y ts gs rs N k)) ∧ Below u.heap.size u w') := fun k v u hk hr hu => by
    have jo := joOk ho hk
    refine (c_JoinPieces _ _ v u (by have := jo.n2; omega) hr.seen (HK.out.below hu)).mono ?_
    rintro e w' ⟨he, hb⟩
    exact ⟨⟨_, _, _, by rw [he, jo.b], fun hh => jo.vals hh⟩, hb⟩
  have HBx : Hid (∀ k, k < K → cjB X Y ts gs rs N k = true → (0 ≤ cjT X Y ts gs rs N k ∧ cjT X Y ts gs rs N k ≤ 10000) ∧ (0 ≤ cjM X Y ts gs rs N k ∧ cjM X Y ts gs rs N k ≤ 10000000) ∧ (0 ≤ cjR X Y ts gs rs N k ∧ cjR X Y ts gs rs N k ≤ 4) ∧ (0 ≤ cjG X Y ts gs rs N k ∧ cjG X Y ts gs rs N k ≤ 1000)) := fun k hk hb => cj_box (joOk ho hk).p hb
  have HGb : Hid (∀ n, cjAll X Y ts gs rs N n = true → -(20000000 * (n : Int)) ≤ cjGap X Y ts gs rs N n ∧ cjGap X Y ts gs rs N n ≤ 20000000 * (n : Int)) := cjGap_box (fun k => cpL_pie N (fun i hi => ho.pie i hi))
  have HRd : Hid (∀ k u, k < K → cjB X Y ts gs rs N k = true → Calls Tryd.prog 76 #[.agg #[.int .i64 (cjT X Y ts gs rs N k), .int .i64 (cjM X Y ts gs rs N k), .int .i64 (cjR X Y ts gs rs N k)]] u fun e w' => e = .returned (.int .i64 (cjG X Y ts gs rs N k)) ∧ Below u.heap.size u w') := fun k u hk hb => by
    obtain ⟨⟨a1, a2⟩, ⟨b1, b2⟩, _⟩ := cj_box (joOk ho hk).p hb
    exact c_roundGrade _ _ _ u a1 a2 b1 (by omega)
  have HAl : Hid ((cpA X Y ts gs rs K N).length = K) := cpA_len X Y ts gs rs K N
  have HAt : Hid (∀ k, k < K → (cpA X Y ts gs rs K N).getD k [] = cpL X Y ts gs rs k N) := fun k hk => cpA_at X Y ts gs rs K N hk
  have HLn : Hid (∀ k, (cpL X Y ts gs rs k N).length = coC X Y k N * 3) := fun k => cpL_len X Y ts gs rs k N
  have HAs : Hid (∀ k, cjAll X Y ts gs rs N (k + 1) = (cjAll X Y ts gs rs N k && cjB X Y ts gs rs N k)) := fun k => rfl
  have HAn : Hid (∀ k, k < K → cjB X Y ts gs rs N k = false → cjAll X Y ts gs rs N K = false) := fun k hk hb => cjAll_no hk hb
  have HA0 : Hid (cjAll X Y ts gs rs N 0 = true) := rfl
  have HG0 : Hid (cjGap X Y ts gs rs N 0 = 0) := rfl
  have HGs : Hid (∀ k, cjGap X Y ts gs rs N (k + 1) = cjGap X Y ts gs rs N k + (cjT X Y ts gs rs N k * cjG X Y ts gs rs N k - cjM X Y ts gs rs N k)) := fun k => rfl
  obtain ⟨i0, hi0, hz0, hz1, hz2⟩ := info_parts int_info
  have HI := Lib.hid hi0
  have H0 := Lib.hid (HeadM.of w (X : Int) (Y : Int) (Z : Int) (.slice A1 N c1) (.slice A2 N c2) (.slice A3 N c3))
  clear hi0 ho x1' x2' y1' y2' z1' z2'
  generalize GivesCo w X Y Z ts gs rs = GG at *
  generalize cpA X Y ts gs rs K N = AA at *
  generalize cjT X Y ts gs rs N = T at *
  generalize cjM X Y ts gs rs N = M at *
  generalize cjR X Y ts gs rs N = R at *
  generalize cjG X Y ts gs rs N = G at *
  generalize cjB X Y ts gs rs N = BB at *
  generalize cjAll X Y ts gs rs N = AL at *
  generalize cjGap X Y ts gs rs N = GP at *
  go_enter Tryd.func25, Tryd.ntmps25
  go_wp2_with fail
  generalize ((w.alloc (.cells #[.int .i64 (X : Int), .int .i64 (Y : Int), .int .i64 (Z : Int), .slice A1 N c1, .slice A2 N c2, .slice A3 N c3] 49)).alloc (.cells #[.int .i64 0, .int .i64 0, .int .i64 0, .slice none 0 0, .slice none 0 0, .slice none 0 0] 49)) = W0 at *
  have x0 := H0.out.m.c0
  have x1 := H0.out.m.c1
  have x2 := H0.out.m.c2
  have x3 := H0.out.m.c3
  have x4 := H0.out.m.c4
  have x5 := H0.out.m.c5
  go_wp2_with fail
  refine (CM.out _ H0.out.b).mono ?_
  rintro e w1 ⟨rfl, hb⟩
  have H1 := Lib.hid (H0.out.below hb)
  clear hb x0 x1 x2 x3 x4 x5
  have x0 := H1.out.m.c0
  have x1 := H1.out.m.c1
  have x2 := H1.out.m.c2
  go_wp2_with fail
  refine (CG.out _).mono ?_
  rintro e w2 ⟨rfl, hb⟩
  have H2 := Lib.hid (H1.out.below hb)
  clear hb x0 x1 x2
  generalize ((X : Int) + 1) / 2 = cx at *
  generalize ((Y : Int) + 1) / 2 = cy at *
  have hb3 : Below w2.heap.size w2 (w2.alloc (.cells #[.int .i64 cx, .int .i64 cy, .int .i64 Z, .slice none 0 0, .slice none 0 0, .slice none 0 0] 49)) := (Below.refl _ _).alloc (Nat.le_refl _) _
  have H3 := Lib.hid (H2.out.below hb3)
  have HO3 : Hid (Six (w2.alloc (.cells #[.int .i64 cx, .int .i64 cy, .int .i64 Z, .slice none 0 0, .slice none 0 0, .slice none 0 0] 49)) w2.heap.size cx cy Z (.slice none 0 0) (.slice none 0 0) (.slice none 0 0)) := Six.new _ _ _ _ _ _ _ _
  have hL3 : w.heap.size + 1 < w2.heap.size := H2.out.r.lt
  clear hb3
  have x0 := H2.out.m.c0
  have x1 := H2.out.m.c1
  have x2 := H2.out.m.c2
  have x3 := H2.out.m.c3
  have x4 := H2.out.m.c4
  have x5 := H2.out.m.c5
  have x6 := H2.out.m.lt
  go_wp2_with fail
  generalize w2.alloc (.cells #[.int .i64 cx, .int .i64 cy, .int .i64 Z, .slice none 0 0, .slice none 0 0, .slice none 0 0] 49) = w3 at *
  refine (CPc.out _ H3.out.b).mono ?_
  rintro e w4 ⟨pv, rfl, hr, hb⟩
  obtain ⟨PA, pc, rfl⟩ := hr.shape
  rw [HAl.out] at hr ⊢
  have HR4 := Lib.hid hr
  have H4 := Lib.hid (H3.out.below hb)
  have HO4 := Lib.hid (HO3.out.below hb)
  have hL4 : w2.heap.size < w3.heap.size := HO3.out.lt
  have S4 := hb.size
  clear hr hb x0 x1 x2 x3 x4 x5 x6
  have C4 : Hid (CSt w w4 w2.heap.size w4.heap.size cx cy Z (.slice none 0 0) (.slice none 0 0) (.slice none 0 0) [] [] []) := ⟨HO4.out, ⟨Row.nil _ _, Row.nil _ _, Row.nil _ _, .inl rfl, .inl rfl, .inl rfl⟩, H4.out.r, H4.out.b, by omega, hL3, Nat.le_refl _⟩
  go_wp2_with fail
  generalize w2.heap.size = L at *
  generalize hB : w4.heap.size = B at *
  generalize hB3 : w3.heap.size = B3 at *
  clear H0 H1 H2 H3 HO3 HO4 hB3
  go_loopw [6, 23] (fun g i wr => ∃ k : Nat, k ≤ K ∧ i = .int .i64 k ∧ g = .int .i64 (GP k) ∧ AL k = true ∧ (∃ v1 v2 v3, CSt w wr L B cx cy Z v1 v2 v3 (byP T k) (byP G k) (byP R k)) ∧ RowsO wr B3 B (.slice PA K pc) AA) (fun _ i _ => K - (intOf i).toNat)
  case atStart => exact ⟨0, Nat.zero_le _, rfl, by rw [HG0.out], HA0.out, ⟨_, _, _, C4.out⟩, by have := HR4.out; first | exact this | (rw [hB] at this; exact this)⟩
  case round =>
    obtain ⟨k, hk, rfl, rfl, hal, ⟨v1, v2, v3, hc⟩, hr⟩ := hrel
    obtain ⟨VA1, vc1, hv1⟩ := hc.mod.t.shape
    obtain ⟨VA2, vc2, hv2⟩ := hc.mod.g.shape
    obtain ⟨VA3, vc3, hv3⟩ := hc.mod.r.shape
    rw [byP_len] at hv1 hv2 hv3
    subst hv1
    subst hv2
    subst hv3
    have HC := Lib.hid hc
    have HR := Lib.hid hr
    have HAL := Lib.hid hal
    have hgb := HGb.out k hal
    clear hc hr hal C4 HR4 H4
    by_cases hlt : k < K
    · obtain ⟨vs, hv⟩ := HR.out
      have hrk := hv.row k (by rw [HAl.out]; exact hlt)
      rw [HAt.out k hlt] at hrk
      have hln := HLn.out k
      have HRP := hrk.of hln
      obtain ⟨QA, qc, hq⟩ := HRP.shape
      have hq5 : vs.getD k (.slice none 0 0) = .slice QA (coC X Y k N) qc := hq
      rw [hq5] at HRP
      obtain ⟨pb, hpa⟩ : ∃ pb, PA = some ⟨pb, 0, none⟩ := by
        have hf := hv.own
        rcases hf.2 with ⟨e1, h0⟩ | ⟨g, cap, cur, e1, _⟩
        · rw [HAl.out] at h0; omega
        · injection e1 with e1 _ _
          exact ⟨g, e1⟩
      subst hpa
      have q5 : wr.cell? ⟨pb, k, none⟩ = some (.slice QA (coC X Y k N) qc) := by
        have h2 := hv
        rw [← HAl.out] at h2
        rw [h2.cell (by rw [HAl.out]; exact hlt), hq5]
      have HJk := Lib.hid (fun u hr hu => HJ.out k (.slice QA (coC X Y k N) qc) u hlt hr hu)
      have HRQ : Hid (RowP wr 0 (.slice QA (coC X Y k N) qc) (coC X Y k N) (cpL X Y ts gs rs k N)) := HRP.mono (Nat.zero_le _)
      have HBk := Lib.hid (HBx.out k hlt)
      have HRdk := Lib.hid (fun u => HRd.out k u hlt)
      have HAsk := Lib.hid (HAs.out k)
      have HAnk := Lib.hid (HAn.out k hlt)
      have HGsk := Lib.hid (HGs.out k)
      have HT1 := Lib.hid (byP_go T k)
      have HT2 := Lib.hid (byP_go G k)
      have HT3 := Lib.hid (byP_go R k)
      have b0 : (0 : Int) ≤ (k : Int) := by omega
      have b9 : (k : Int) < (K : Int) := by omega
      clear hrk hln HRP hq hq5 hv
      generalize coC X Y k N = nk at *
      generalize cpL X Y ts gs rs k N = ys at *
      go_wp2_with fail
      refine (HJk.out _ HRQ.out HC.out.bel).mono ?_
      rintro e w5 ⟨⟨ja, jb, jc, rfl, hj⟩, hb⟩
      have HC5 := Lib.hid (HC.out.below hb)
      have HR5 := Lib.hid (HR.out.below hb HC.out.sz)
      have hz5 := hb.size
      clear hb HRQ q5
      have hb6 : Below w5.heap.size w5 (w5.alloc (.cells #[.int .i64 ja, .int .i64 jb, .int .i64 jc] 105)) := (Below.refl _ _).alloc (Nat.le_refl _) _
      have HC6 := Lib.hid (HC5.out.below hb6)
      have HR6 := Lib.hid (HR5.out.below hb6 HC5.out.sz)
      have HP6 : Hid (Box3 (w5.alloc (.cells #[.int .i64 ja, .int .i64 jb, .int .i64 jc] 105)) w5.heap.size ja jb jc) := Box3.new _ _ _ _ _
      have sz5 : B ≤ w5.heap.size := HC5.out.sz
      clear hb6
      cases hbk : BB k
      · have HN := Lib.hid (HGN.out (HAnk.out hbk))
        have HF := Lib.hid (fin_none HC6.out.res HC6.out.bel)
        have y0 := HC6.out.res.c0
        have y1 := HC6.out.res.c1
        have y2 := HC6.out.res.c2
        have y3 := HC6.out.res.c3
        have y4 := HC6.out.res.c4
        have y5 := HC6.out.res.c5
        have y6 := HC6.out.res.fz
        have y7 := HC6.out.res.lt
        clear hj
        go_wp2_with fail
        rw [HN.out]
        generalize w5.alloc (.cells #[.int .i64 ja, .int .i64 jb, .int .i64 jc] 105) = w6 at *
        unfold putM at HF
        generalize ((((((w6.setCell ⟨w.heap.size + 1, 0, none⟩ (.int .i64 0)).setCell ⟨w.heap.size + 1, 1, none⟩ (.int .i64 0)).setCell ⟨w.heap.size + 1, 2, none⟩ (.int .i64 0)).setCell ⟨w.heap.size + 1, 3, none⟩ (.slice none 0 0)).setCell ⟨w.heap.size + 1, 4, none⟩ (.slice none 0 0)).setCell ⟨w.heap.size + 1, 5, none⟩ (.slice none 0 0)) = we at *
        obtain ⟨P1, P2, P3⟩ := HF.out
        have f0 := P1.c0
        have f1 := P1.c1
        have f2 := P1.c2
        have f3 := P1.c3
        have f4 := P1.c4
        have f5 := P1.c5
        refine bodyPost_ret (v := .tuple #[.agg #[.int .i64 0, .int .i64 0, .int .i64 0, .slice none 0 0, .slice none 0 0, .slice none 0 0], .int .i64 0, .bool false]) (by simp [results, Tryd.results25, go_sem, f0, f1, f2, f3, f4, f5]) rfl ⟨_, _, _, rfl, P2, P3⟩
      · obtain ⟨rfl, rfl, rfl⟩ := hj (by first | exact hbk | rfl)
        obtain ⟨⟨t0, t1⟩, ⟨m0, m1⟩, ⟨r0, r1⟩, g0, g1⟩ := HBk.out hbk
        obtain ⟨q0, q1⟩ := mul_box (a := T k) (b := G k) (m := 10000) (n := 1000) t0 t1 g0 g1
        have hRd := Lib.hid (fun u => HRdk.out u hbk)
        have hA1 : Hid (AL (k + 1) = true) := by show _ = _; rw [HAsk.out, HAL.out, hbk]; rfl
        have hLB : L < B := HC.out.LB
        have e1 : (byP T k).length = k := byP_len T k
        have e2 : (byP G k).length = k := byP_len G k
        have e3 : (byP R k).length = k := byP_len R k
        clear HAsk HAnk HBk HRdk
        go_wp2_with fail
        refine (hRd.out _).mono ?_
        rintro e w7 ⟨rfl, hb⟩
        have HC7 := Lib.hid (HC6.out.below hb)
        have HP7 := Lib.hid (HP6.out.below hb)
        have HR7 := Lib.hid (HR6.out.below hb HC6.out.sz)
        have sz7 := HC7.out.sz
        clear hb hRd HC5 HC6 HP6 HR5 HR6
        generalize w5.heap.size = P at *
        have p0 := HP7.out.c0
        have u0 := HC7.out.out.c3
        go_wp2_with (at_builtin; refine wpList_append_src rfl _ _ 24 rfl (base := B) Tryd.underlying24 HI.out hz0 hz1 hz2 rfl (by decide) rfl (World.ownsRow.alloc HC7.out.mod.t _) rfl (src_one (x := T k) (one_new _ _ (by first | rfl | simp) _ _)) ints_ones ?c3_1 ?c4_1 ?c5_1 ?_)
        case c3_1 => unfold maxLen; omega
        case c4_1 => omega
        case c5_1 => first | omega | (simp; omega)
        intro v1' w1' o1 g1 a1
        have r1 := row_app (by simp [e1]) o1
        obtain ⟨VB1, vd1, hv1⟩ := r1.shape
        rw [show (byP T k ++ [T k]).length = k + 1 by simp [e1]] at hv1
        subst hv1
        have hB1 : Below w7.heap.size w7 (w7.alloc (.cells #[.int .i64 (T k)] 3)) := (Below.refl _ _).alloc (Nat.le_refl _) _
        obtain ⟨S1, C1⟩ := HC7.out.app1 hB1 r1 g1 (by simpa using a1)
        have HC8 := Lib.hid C1
        have HR8 := Lib.hid (HR7.out.app (L := L) (j := 3) (v' := (.slice VB1 (k + 1) vd1)) hB1 HC7.out.sz g1 (fun i e => (World.ownsRow.lt HC.out.mod.t i e).1) hL4)
        have HP8 := Lib.hid (HP7.out.app (L := L) (j := 3) (v := (.slice VB1 (k + 1) vd1)) hB1 g1 (fun e => by have := (World.ownsRow.lt HC.out.mod.t _ e).2; omega) (by omega))
        have sz8 := HC8.out.sz
        simp at sz8
        clear o1 r1 g1 a1 hB1 C1
        have s0 := S1.c3
        have s1 := S1.fz
        have s2 := S1.lt
        have s3 := S1.c4
        clear p0 u0
        go_wp2_with (at_builtin; refine wpList_append_src rfl _ _ 24 rfl (base := B) Tryd.underlying24 HI.out hz0 hz1 hz2 rfl (by decide) rfl (World.ownsRow.alloc HC8.out.mod.g _) rfl (src_one (x := G k) (one_new _ _ (by first | rfl | simp) _ _)) ints_ones ?c3_2 ?c4_2 ?c5_2 ?_)
        case c3_2 => unfold maxLen; omega
        case c4_2 => omega
        case c5_2 => first | omega | (simp; omega)
        intro v2' w2' o2 g2 a2
        have r2 := row_app (by simp [e2]) o2
        obtain ⟨VB2, vd2, hv2⟩ := r2.shape
        rw [show (byP G k ++ [G k]).length = k + 1 by simp [e2]] at hv2
        subst hv2
        have hB2 : Below (w1'.setCell ⟨L, 3, none⟩ (.slice VB1 (k + 1) vd1)).heap.size (w1'.setCell ⟨L, 3, none⟩ (.slice VB1 (k + 1) vd1)) ((w1'.setCell ⟨L, 3, none⟩ (.slice VB1 (k + 1) vd1)).alloc (.cells #[.int .i64 (G k)] 3)) := (Below.refl _ _).alloc (Nat.le_refl _) _
        obtain ⟨S2, C2⟩ := HC8.out.app2 hB2 r2 g2 (by simpa using a2)
        have HC9 := Lib.hid C2
        have HR9 := Lib.hid (HR8.out.app (L := L) (j := 4) (v' := (.slice VB2 (k + 1) vd2)) hB2 HC8.out.sz g2 (fun i e => (World.ownsRow.lt HC.out.mod.g i e).1) hL4)
        have HP9 := Lib.hid (HP8.out.app (L := L) (j := 4) (v := (.slice VB2 (k + 1) vd2)) hB2 g2 (fun e => by have := (World.ownsRow.lt HC.out.mod.g _ e).2; omega) (by omega))
        have sz9 := HC9.out.sz
        simp at sz9
        clear o2 r2 g2 a2 hB2 C2
        clear s0 s1 s2 s3
        have s0 := S2.c4
        have s1 := S2.fz
        have s2 := S2.lt
        have s3 := S2.c5
        have p2 := HP9.out.c2
        go_wp2_with (at_builtin; refine wpList_append_src rfl _ _ 24 rfl (base := B) Tryd.underlying24 HI.out hz0 hz1 hz2 rfl (by decide) rfl (World.ownsRow.alloc HC9.out.mod.r _) rfl (src_one (x := R k) (one_new _ _ (by first | rfl | simp) _ _)) ints_ones ?c3_3 ?c4_3 ?c5_3 ?_)
        case c3_3 => unfold maxLen; omega
        case c4_3 => omega
        case c5_3 => first | omega | (simp; omega)
        intro v3' w3' o3 g3 a3
        have r3 := row_app (by simp [e3]) o3
        obtain ⟨VB3, vd3, hv3⟩ := r3.shape
        rw [show (byP R k ++ [R k]).length = k + 1 by simp [e3]] at hv3
        subst hv3
        have hB3 : Below (w2'.setCell ⟨L, 4, none⟩ (.slice VB2 (k + 1) vd2)).heap.size (w2'.setCell ⟨L, 4, none⟩ (.slice VB2 (k + 1) vd2)) ((w2'.setCell ⟨L, 4, none⟩ (.slice VB2 (k + 1) vd2)).alloc (.cells #[.int .i64 (R k)] 3)) := (Below.refl _ _).alloc (Nat.le_refl _) _
        obtain ⟨S3, C3⟩ := HC9.out.app3 hB3 r3 g3 (by simpa using a3)
        have HC10 := Lib.hid C3
        have HR10 := Lib.hid (HR9.out.app (L := L) (j := 5) (v' := (.slice VB3 (k + 1) vd3)) hB3 HC9.out.sz g3 (fun i e => (World.ownsRow.lt HC.out.mod.r i e).1) hL4)
        have HP10 := Lib.hid (HP9.out.app (L := L) (j := 5) (v := (.slice VB3 (k + 1) vd3)) hB3 g3 (fun e => by have := (World.ownsRow.lt HC.out.mod.r _ e).2; omega) (by omega))
        have sz10 := HC10.out.sz
        simp at sz10
        clear o3 r3 g3 a3 hB3 C3
        clear s0 s1 s2 s3 p2
        have s0 := S3.c5
        have s1 := S3.fz
        have s2 := S3.lt
        have p0 := HP10.out.c0
        have p1 := HP10.out.c1
        have hgp : -(20000000 * (k : Int)) ≤ GP k ∧ GP k ≤ 20000000 * (k : Int) := hgb
        have iw1 : IntKind.i64.wrap (T k * G k) = T k * G k := IntWalk.i64_in _ (by omega)
        have iw2 : IntKind.i64.wrap (T k * G k - M k) = T k * G k - M k := IntWalk.i64_in _ (by omega)
        have iw3 : IntKind.i64.wrap (GP k + (T k * G k - M k)) = GP k + (T k * G k - M k) := IntWalk.i64_in _ (by omega)
        go_wp2_with fail
        go_roundw
        case rel => exact ⟨k + 1, by omega, by rw [show ((k + 1 : Nat) : Int) = (k : Int) + 1 by omega], by rw [HGsk.out], hA1.out, ⟨_, _, _, by rw [HT1.out, HT2.out, HT3.out]; exact HC10.out⟩, HR10.out⟩
        case measure => simp [intOf]; omega
    · obtain rfl : k = K := by omega
      have nlt : ¬ (k : Int) < (k : Int) := by omega
      have HY := Lib.hid (HGY.out HAL.out)
      have HF := Lib.hid HC.out.fin
      have o0 := HC.out.out.c0
      have o1 := HC.out.out.c1
      have o2 := HC.out.out.c2
      have o3 := HC.out.out.c3
      have o4 := HC.out.out.c4
      have o5 := HC.out.out.c5
      have o6 := HC.out.out.lt
      have y0 := HC.out.res.c0
      have y1 := HC.out.res.c1
      have y2 := HC.out.res.c2
      have y3 := HC.out.res.c3
      have y4 := HC.out.res.c4
      have y5 := HC.out.res.c5
      have y6 := HC.out.res.fz
      have y7 := HC.out.res.lt
      go_wp2_with fail
      rw [HY.out]
      unfold putM at HF
      generalize ((((((wr.setCell ⟨w.heap.size + 1, 0, none⟩ (.int .i64 cx)).setCell ⟨w.heap.size + 1, 1, none⟩ (.int .i64 cy)).setCell ⟨w.heap.size + 1, 2, none⟩ (.int .i64 Z)).setCell ⟨w.heap.size + 1, 3, none⟩ (.slice VA1 k vc1)).setCell ⟨w.heap.size + 1, 4, none⟩ (.slice VA2 k vc2)).setCell ⟨w.heap.size + 1, 5, none⟩ (.slice VA3 k vc3)) = we at *
      obtain ⟨P1, P2, P3⟩ := HF.out
      have f0 := P1.c0
      have f1 := P1.c1
      have f2 := P1.c2
      have f3 := P1.c3
      have f4 := P1.c4
      have f5 := P1.c5
      refine bodyPost_ret (v := .tuple #[.agg #[.int .i64 cx, .int .i64 cy, .int .i64 Z, .slice VA1 k vc1, .slice VA2 k vc2, .slice VA3 k vc3], .int .i64 (GP k), .bool true]) (by simp [results, Tryd.results25, go_sem, f0, f1, f2, f3, f4, f5]) rfl ⟨_, _, _, rfl, P2, P3⟩
end Go.Proofs.YtmimilchldjkbaaDoor
