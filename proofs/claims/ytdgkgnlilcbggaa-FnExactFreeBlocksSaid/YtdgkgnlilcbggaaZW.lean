/-
  Contract: one push along growing steps, in the model.
-/
import Derived.Test.YtdgkgnlilcbggaaZV
import Derived.Deep.RegionHeld3
import Derived.Deep.DeepCutAuto
import Derived.Laws.BitsAllLaws
namespace Go.Proofs.Ytdgkgnlilcbggaa
open Go.RowKit
set_option linter.unusedVariables false

theorem xor_rev (a : Nat) : a ^^^ 1 = revA a := by
  unfold revA
  by_cases h : a % 2 = 0
  · rw [if_pos h]
    apply Nat.eq_of_testBit_eq
    intro i
    cases i with
    | zero => simp [Nat.testBit_zero, h]; omega
    | succ i => rw [Nat.testBit_xor, Nat.testBit_succ, Nat.testBit_succ, Nat.testBit_succ, show (a + 1) / 2 = a / 2 by omega]; simp
  · rw [if_neg h]
    apply Nat.eq_of_testBit_eq
    intro i
    cases i with
    | zero => simp [Nat.testBit_zero]; omega
    | succ i => rw [Nat.testBit_xor, Nat.testBit_succ, Nat.testBit_succ, Nat.testBit_succ, show (a - 1) / 2 = a / 2 by omega]; simp
theorem i64_xor_one (a : Nat) (ha : a < 4294967296) : bits .xor .i64 (a : Int) 1 = ((revA a : Nat) : Int) := by
  have h : revA a ≤ a + 1 := by unfold revA; split <;> omega
  have h1 : (BitVec.ofInt 64 (a : Int)).toNat = a := by simp; omega
  have h2 : (BitVec.ofInt 64 (1 : Int)).toNat = 1 := by simp
  show IntKind.i64.wrap ((BitVec.ofInt 64 (a : Int) ^^^ BitVec.ofInt 64 (1 : Int)).toNat : Int) = _
  rw [BitVec.toNat_xor, h1, h2, xor_rev]
  exact IntWalk.i64_in _ (by omega)

/-- The state of a push: the struct in block g, its slices, and two more rows. -/
structure PushS (w : World) (B g gl n : Nat) (vs : Nat → Value) (xs : Nat → List Int) : Prop where
  fam : Fam w B (n + 4) vs xs
  own : w.ownsRow B 23 1 (.slice (some ⟨gl, 0, none⟩) n n) n (mapR n vs)
  n0 : w.cell? ⟨g, 0, none⟩ = some (.int .i64 n)
  c0 : w.cell? ⟨g, 1, none⟩ = some (vs 0)
  c1 : w.cell? ⟨g, 2, none⟩ = some (vs 1)
  c2 : w.cell? ⟨g, 3, none⟩ = some (.slice (some ⟨gl, 0, none⟩) n n)
  fz : ∀ j, w.frozen? ⟨g, j, none⟩ = false
  ty : TyAt w g 63
  base : B ≤ g
section
variable {w w' : World} {B g gl n m : Nat} {vs : Nat → Value} {xs : Nat → List Int} {fr tg : Nat → Nat} {R nx d : List Int}
theorem PushS.below (h : PushS w B g gl n vs xs) (hb : Below w.heap.size w w') : PushS w' B g gl n vs xs :=
  have lg := h.ty.lt
  ⟨h.fam.below hb, World.ownsRow.kept (row := none) h.own ⟨hb.os, hb.tape, hb.output, hb.size, fun k hk _ => hb.block k hk⟩ (.inr (by simp [Value.ownBlock])), by rw [hb.cell (p := ⟨g, 0, none⟩) lg]; exact h.n0, by rw [hb.cell (p := ⟨g, 1, none⟩) lg]; exact h.c0, by rw [hb.cell (p := ⟨g, 2, none⟩) lg]; exact h.c1, by rw [hb.cell (p := ⟨g, 3, none⟩) lg]; exact h.c2, fun j => by rw [hb.frozen (p := ⟨g, j, none⟩) lg]; exact h.fz j, h.ty.below hb lg, h.base⟩
theorem PushS.turn {i : Nat} {ys : List Int} (h : PushS w B g gl n vs xs) (hi : i < n + 4) (hr : Row w' B (vs i) ys) (hg : w.grownBy w' (vs i).ownBlock) : PushS w' B g gl n vs (upd xs i ys) := by
  have ng := own_off (h.fam.row i hi) h.ty (show (63 : TypeId) ≠ 3 by decide)
  have nl := own_off (h.fam.row i hi) (own_gl h.own) (by decide)
  have kg : ∀ j, w'.cell? ⟨g, j, none⟩ = w.cell? ⟨g, j, none⟩ := fun j => hg.cell_far ⟨g, j, none⟩ h.ty.lt (fun e => ng e.symm)
  exact ⟨h.fam.turn hi hr hg, World.ownsRow.kept h.own hg (.inr (fun e => nl e.symm)), by rw [kg]; exact h.n0, by rw [kg]; exact h.c0, by rw [kg]; exact h.c1, by rw [kg]; exact h.c2, fun j => by rw [hg.frozen_far ⟨g, j, none⟩ h.ty.lt (fun e => ng e.symm)]; exact h.fz j, h.ty.grown hg ng, h.base⟩
theorem PushS.congr {ys : Nat → List Int} (h : PushS w B g gl n vs xs) (e : ∀ i, xs i = ys i) : PushS w B g gl n vs ys :=
  ⟨h.fam.congr fun i _ => e i, h.own, h.n0, h.c0, h.c1, h.c2, h.fz, h.ty, h.base⟩
theorem PushS.net (h : PushS w B g gl n vs (pushX fr tg n m R nx d)) (hR : R.length = 2 * m) : NetR w n m gl fr tg R (vs 0) (vs 1) :=
  netR_of ⟨fun i hi => by rw [← pushX_low (nx := nx) (d := d) hi]; exact h.fam.row i (by omega), fun i j hi hj => h.fam.apart i j (by omega) (by omega)⟩ h.own hR
theorem PushS.rowN (h : PushS w B g gl n vs (pushX fr tg n m R nx d)) : Row w B (vs (n + 2)) nx := by rw [← pushX_nx (fr := fr) (tg := tg) (n := n) (m := m) (R := R) (nx := nx) (d := d)]; exact h.fam.row (n + 2) (by omega)
theorem PushS.rowD (h : PushS w B g gl n vs (pushX fr tg n m R nx d)) : Row w B (vs (n + 3)) d := by rw [← pushX_d (fr := fr) (tg := tg) (n := n) (m := m) (R := R) (nx := nx) (d := d)]; exact h.fam.row (n + 3) (by omega)
theorem PushS.rowR (h : PushS w B g gl n vs (pushX fr tg n m R nx d)) : Row w B (vs 1) R := by
  have := h.fam.row 1 (by omega)
  rw [pushX_low (by omega)] at this
  exact this
theorem PushS.setN {gx cx : Nat} (h : PushS w B g gl n vs (pushX fr tg n m R nx d)) (hx : vs (n + 2) = .slice (some ⟨gx, 0, none⟩) n cx) (hl : nx.length = n) (i : Nat) (y : Int) : PushS (w.setCell ⟨gx, i, none⟩ (.int .i64 y)) B g gl n vs (pushX fr tg n m R (nx.set i y) d) := by
  have hr := h.rowN
  rw [hx] at hr
  have hs := Row.set_ hl.symm hr i y
  exact (h.turn (i := n + 2) (by omega) (by rw [hx]; exact hs.1) (by rw [hx]; exact hs.2)).congr pushX_setN
theorem PushS.setR {b c : Nat} (h : PushS w B g gl n vs (pushX fr tg n m R nx d)) (hx : vs 1 = .slice (some ⟨b, 0, none⟩) (2 * m) c) (hl : R.length = 2 * m) (a : Nat) (y : Int) : PushS (w.setCell ⟨b, a, none⟩ (.int .i64 y)) B g gl n vs (pushX fr tg n m (R.set a y) nx d) := by
  have hr := h.rowR
  rw [hx] at hr
  have hs := Row.set_ hl.symm hr a y
  exact (h.turn (i := 1) (by omega) (by rw [hx]; exact hs.1) (by rw [hx]; exact hs.2)).congr pushX_setR
end

set_option maxHeartbeats 400000 in
theorem c_l1Least (a b : Int) (w : World) : Calls Try.prog 64 #[.int .i64 a, .int .i64 b] w fun e w' => e = .returned (.int .i64 (min a b)) ∧ w = w' := by
  by_cases h : a < b
  · rw [show min a b = a by omega]
    go_enter Try.func64, Try.ntmps64
    go_wp2
    go_ret
    exact ⟨rfl, rfl⟩
  · rw [show min a b = b by omega]
    go_enter Try.func64, Try.ntmps64
    go_wp2
    go_ret
    exact ⟨rfl, rfl⟩

/-- What a push gives. -/
def GivesPush (w : World) (B g gl n m : Nat) (vs : Nat → Value) (fr tg : Nat → Nat) (cp : Nat → Int) (d Rd : List Int) (i : Nat) (amount : Int) (R nx : List Int) (e : Ending) (w' : World) : Prop :=
  ∃ s R' nx', e = .returned (.int .i64 s) ∧ Pushed n fr tg cp m d Rd i amount R nx s R' nx' ∧ PushS w' B g gl n vs (pushX fr tg n m R' nx' d) ∧ Below B w w'

theorem res_pair {cp : Nat → Int} {m a : Nat} {R : List Int} (h : Res cp m R) (ha : a < 2 * m) : R.getD a 0 + R.getD (revA a) 0 = cp (a / 2) := by
  have := h.sum (a / 2) (by omega)
  unfold revA
  by_cases e : a % 2 = 0
  · rw [if_pos e, show a + 1 = 2 * (a / 2) + 1 by omega]
    rw [show 2 * (a / 2) = a by omega] at this ⊢
    exact this
  · rw [if_neg e, show a - 1 = 2 * (a / 2) by omega]
    rw [show 2 * (a / 2) + 1 = a by omega] at this
    omega
theorem push_kept {w : World} {B g gl n m bh ch br cr a x : Nat} {vs : Nat → Value} {fr tg : Nat → Nat} {R nx d : List Int} {ra : Int} (h : PushS w B g gl n vs (pushX fr tg n m R nx d)) (hR : R.length = 2 * m) (ha : a < 2 * m) (e0 : vs 0 = .slice (some ⟨bh, 0, none⟩) (2 * m) ch) (e1 : vs 1 = .slice (some ⟨br, 0, none⟩) (2 * m) cr) (ex : x = hdA fr tg a) (er : R.getD a 0 = ra) :
    w.cell? ⟨g, 1, none⟩ = some (.slice (some ⟨bh, 0, none⟩) (2 * m) ch) ∧ w.cell? ⟨g, 2, none⟩ = some (.slice (some ⟨br, 0, none⟩) (2 * m) cr) ∧ w.cell? ⟨bh, a, none⟩ = some (.int .i64 x) ∧ w.cell? ⟨br, a, none⟩ = some (.int .i64 ra) := by
  obtain ⟨b, c, f, _, p⟩ := (h.net hR).hd a ha
  obtain ⟨b', c', f', _, p'⟩ := (h.net hR).rm a ha
  rw [e0] at f
  rw [e1] at f'
  simp at f f'
  obtain ⟨rfl, rfl⟩ := f
  obtain ⟨rfl, rfl⟩ := f'
  exact ⟨by rw [h.c0, e0], by rw [h.c1, e1], by rw [ex]; exact p, by rw [← er]; exact p'⟩

set_option maxHeartbeats 16000000 in
set_option maxRecDepth 100000 in
theorem c_push (n m g gl gx cx gd cd B : Nat) (fr tg : Nat → Nat) (cp : Nat → Int) (d Rd : List Int) (vs : Nat → Value) (hE : EndsIn n fr tg m) (n1 : 2 ≤ n) (n2 : n ≤ 130) (n3 : m ≤ 8000) (hdl : d.length = n) (hd : ∀ v, v < n → -1 ≤ d.getD v 0 ∧ d.getD v 0 < n) (hx : vs (n + 2) = .slice (some ⟨gx, 0, none⟩) n cx) (hy : vs (n + 3) = .slice (some ⟨gd, 0, none⟩) n cd) (hcp : ∀ k, k < m → cp k ≤ 1000000000) :
    ∀ (h i : Nat) (amount : Int) (R nx : List Int) (w : World), i < n → (n : Int) - d.getD i 0 ≤ h → 0 < amount → amount ≤ 1125899906842624 → Res cp m R → TriedOk n fr tg m nx → Dead n fr tg m Rd d nx → (∀ a, 0 < Rd.getD a 0 → 0 < R.getD a 0) → PushS w B g gl n vs (pushX fr tg n m R nx d) →
    Calls Try.prog 49 #[.pointer (some ⟨g, 0, none⟩), .int .i64 i, .int .i64 amount, .slice (some ⟨gd, 0, none⟩) n cd, .slice (some ⟨gx, 0, none⟩) n cx] w (GivesPush w B g gl n m vs fr tg cp d Rd i amount R nx) := by
  intro h
  induction h with
  | zero => intro i amount R nx w hi hh; have := hd i hi; omega
  | succ h ih =>
    intro i amount R nx w hi hh ha0 ha1 hres htr hdead hrd hps
    have IH := Lib.hid ih
    have HD := Lib.hid hd
    have HE : Hid (EndsIn n fr tg m) := hE
    have HX := Lib.hid hx
    have HY := Lib.hid hy
    have HCP := Lib.hid hcp
    have HRes := Lib.hid hres
    have HPS := Lib.hid hps
    have HDead : Hid (Dead n fr tg m Rd d nx) := hdead
    have HTr := Lib.hid htr
    have HRd := Lib.hid hrd
    have p0 := hps.n0
    have b1 : (0 : Int) ≤ (i : Int) := by omega
    have b2 : (i : Int) < (n : Int) := by omega
    clear ih hd hE hx hy hcp hres hps hdead htr hrd
    by_cases hz : i = n - 1
    · have G := Lib.hid (pushed_sink (n := n) (fr := fr) (tg := tg) (d := d) (Rd := Rd) ha0 HRes.out HTr.out)
      rw [← hz] at G
      have hzi : (i : Int) = (n : Int) - 1 := by omega
      clear hz
      go_enter Try.func49, Try.ntmps49
      go_wp2
      go_ret
      exact ⟨amount, R, nx, rfl, G.out, HPS.out, Below.refl _ _⟩
    · have hzi : ((i : Int) == (n : Int) - 1) = false := beq_eq_false_iff_ne.2 (by omega)
      have hzi2 : ¬ (i : Int) = (n : Int) - 1 := by omega
      have HZ := Lib.hid hz
      clear hz
      go_enter Try.func49, Try.ntmps49
      have hBx : B ≤ gx := by
        have := (World.ownsRow.lt HPS.out.rowN gx (by rw [HX.out]; rfl)).1
        exact this
      obtain ⟨ys, hys⟩ : ∃ ys, ys = (arcL fr tg n m).getD i [] := ⟨_, rfl⟩
      have HA : Hid (∀ t, t < ys.length → ∃ a, a < 2 * m ∧ ys.getD t 0 = (a : Int) ∧ tlA fr tg a = i) := fun t ht => by subst hys; exact arc_at HE.out ht
      have hyl : ys.length ≤ 16000 := by subst hys; have := arcL_slen fr tg n i m HE.out; omega
      have HPN : Hid (∀ nx', TriedOk n fr tg m nx' → Dead n fr tg m Rd d nx' → (ys.length : Int) ≤ nx'.getD i 0 → (∀ u, u < n → d.getD u 0 < d.getD i 0 → nx'.getD u 0 = nx.getD u 0) → Pushed n fr tg cp m d Rd i amount R nx 0 R nx') := fun nx' h1 h2 h3 h4 => pushed_none (by omega) HRes.out h1 h2 (by rw [← hys]; exact h3) HZ.out h4
      have HDN : Hid (∀ (nx' : List Int) (a : Nat), Dead n fr tg m Rd d nx' → nx'.length = n → 0 ≤ nx'.getD i 0 → ys.getD (nx'.getD i 0).toNat 0 = (a : Int) → (0 < Rd.getD a 0 → d.getD (hdA fr tg a) 0 = d.getD i 0 + 1 → hdA fr tg a ≠ n - 1 ∧ (((arcL fr tg n m).getD (hdA fr tg a) []).length : Int) ≤ nx'.getD (hdA fr tg a) 0) → Dead n fr tg m Rd d (nx'.set i (nx'.getD i 0 + 1))) := fun nx' a h1 h2 h3 h4 h5 => h1.next h2 hi h3 (by rw [← hys]; exact h4) h5
      have HTN : Hid (∀ nx', TriedOk n fr tg m nx' → nx'.getD i 0 < (ys.length : Int) → TriedOk n fr tg m (nx'.set i (nx'.getD i 0 + 1))) := fun nx' h1 h2 => h1.next hi (by rw [← hys]; exact h2)
      have HTH : Hid (∀ nx', TriedOk n fr tg m nx' → 0 ≤ nx'.getD i 0 ∧ nx'.getD i 0 ≤ (ys.length : Int)) := fun nx' h1 => ⟨h1.lo i hi, by rw [hys]; exact h1.hi i hi⟩
      have HLV : Hid (∀ (u : World) (nx' : List Int), PushS u B g gl n vs (pushX fr tg n m R nx' d) → ∃ A c, u.cell? ⟨gl, i, none⟩ = some (.slice A ys.length c) ∧ ∀ t, t < ys.length → ∃ b, A = some ⟨b, 0, none⟩ ∧ b < u.heap.size ∧ u.cell? ⟨b, t, none⟩ = some (.int .i64 (ys.getD t 0))) := fun u nx' hp => by
        obtain ⟨A, c, _, h1, h2⟩ := (hp.net HRes.out.len).lv i hi
        rw [← hys] at h1 h2
        exact ⟨A, c, h1, h2⟩
      clear hys
      go_wp2_with fail
      clear p0
      go_loopw [] (fun wr => ∃ nx', TriedOk n fr tg m nx' ∧ Dead n fr tg m Rd d nx' ∧ (∀ u, u < n → d.getD u 0 < d.getD i 0 → nx'.getD u 0 = nx.getD u 0) ∧ PushS wr B g gl n vs (pushX fr tg n m R nx' d) ∧ Below B w wr) (fun wr => ys.length - (RowKit.intOf ((wr.cell? ⟨gx, i, none⟩).getD undef)).toNat)
      case atStart => exact ⟨nx, HTr.out, HDead.out, fun _ _ _ => rfl, HPS.out, Below.refl _ _⟩
      case round =>
        obtain ⟨nx', htr, hdead, hsame, hps, hb⟩ := hrel
        have HT := Lib.hid htr
        have HDe : Hid (Dead n fr tg m Rd d nx') := hdead
        have HSa := Lib.hid hsame
        have HP := Lib.hid hps
        have HB := Lib.hid hb
        clear htr hdead hsame hps hb
        have hrowN := HP.out.rowN
        rw [HX.out] at hrowN
        have hrowD := HP.out.rowD
        rw [HY.out] at hrowD
        obtain ⟨pi, zi⟩ := row_at HT.out.len.symm hrowN i hi
        obtain ⟨pd, _⟩ := row_at hdl.symm hrowD i hi
        obtain ⟨j0, j1⟩ := HTH.out nx' HT.out
        obtain ⟨J, hJ⟩ := Int.eq_ofNat_of_zero_le j0
        have PI := Lib.hid pi
        rw [hJ] at pi j1
        obtain ⟨Ai, ci, pl, hpt⟩ := HLV.out wr nx' HP.out
        have PT := Lib.hid hpt
        have p0 := HP.out.n0
        have p1 := HP.out.c0
        have p2 := HP.out.c1
        have p3 := HP.out.c2
        have HRD := Lib.hid hrowD
        have HJ := Lib.hid hJ
        have hgl : g < wr.heap.size := HP.out.ty.lt
        have ngx : gx < wr.heap.size := (World.ownsRow.lt hrowN gx rfl).2
        clear hpt hrowN hrowD hJ j0
        go_wp2_with fail
        go_region
        by_cases hlt : J < ys.length
        · obtain ⟨a, ha, ea, eu⟩ := HA.out J hlt
          obtain ⟨ba, rfl, hba, pa⟩ := PT.out J hlt
          rw [ea] at pa
          obtain ⟨bh, ch, ev0, hbh, ph⟩ := (HP.out.net HRes.out.len).hd a ha
          obtain ⟨br, cr, ev1, hbr, pr⟩ := (HP.out.net HRes.out.len).rm a ha
          have hxn := HE.out.hd ha
          obtain ⟨px, _⟩ := row_at hdl.symm HRD.out (hdA fr tg a) hxn
          rw [ev0] at p1
          rw [ev1] at p2
          have EV0 := Lib.hid ev0
          have EV1 := Lib.hid ev1
          have ra0 := HRes.out.lo a ha
          have EA : Hid (ys.getD (nx'.getD i 0).toNat 0 = (a : Int)) := by show _ = _; rw [HJ.out]; exact ea
          have hdi := HD.out i hi
          have hdx := HD.out _ hxn
          have HNX : Hid (d.getD (hdA fr tg a) 0 = d.getD i 0 + 1 → hdA fr tg a ≠ i) := fun h e => by rw [e] at h; omega
          clear ev0 ev1 ea
          obtain ⟨x, hx⟩ : ∃ x, x = hdA fr tg a := ⟨_, rfl⟩
          rw [← hx] at px ph hdx hxn
          have HXe := Lib.hid hx
          clear hx
          generalize hra : R.getD a 0 = ra at *
          have HRA := Lib.hid hra
          generalize hdiE : d.getD i 0 = di at *
          have HDI := Lib.hid hdiE
          generalize hdxE : d.getD x 0 = dx at *
          have HDX := Lib.hid hdxE
          clear hra hdiE hdxE
          have b5 : (0 : Int) ≤ (J : Int) := by omega
          have b6 : (J : Int) < (ys.length : Int) := by omega
          have b7 : (0 : Int) ≤ (a : Int) := by omega
          have b8 : (a : Int) < ((2 * m : Nat) : Int) := by omega
          have b8' : (a : Int) < 2 * (m : Int) := by omega
          have b9 : (0 : Int) ≤ (x : Int) := by omega
          have b10 : (x : Int) < (n : Int) := by omega
          go_wp2_with fail
          go_region
          go_wp2_with fail
          by_cases hr0 : ra = 0
          · have hrb : (ra == 0) = true := by rw [hr0]; rfl
            have G1 := Lib.hid (HTN.out nx' HT.out (by rw [HJ.out]; omega))
            have G2 : Hid (Dead n fr tg m Rd d (nx'.set i (nx'.getD i 0 + 1))) := HDN.out nx' a HDe.out HT.out.len (by rw [HJ.out]; omega) EA.out (fun h1' h2 => by have h1 := HRd.out a h1'; rw [HRA.out] at h1; rw [← HXe.out, HDX.out] at h2; omega)
            have G3 : Hid (∀ u, u < n → d.getD u 0 < di → (nx'.set i (nx'.getD i 0 + 1)).getD u 0 = nx.getD u 0) := fun u hu hlt => by
              have hne : i ≠ u := fun e => by rw [← e, HDI.out] at hlt; omega
              rw [getD_set _ _ _ _ (by rw [HT.out.len]; exact hi), if_neg hne]
              exact HSa.out u hu hlt
            have G4 := Lib.hid (HP.out.setN HX.out HT.out.len i (nx'.getD i 0 + 1))
            have G5 : Hid (Below B w (wr.setCell ⟨gx, i, none⟩ (.int .i64 (nx'.getD i 0 + 1)))) := HB.out.setCell hBx _
            have mc := World.cell?_setCell_same wr ⟨gx, i, none⟩ (.int .i64 (nx'.getD i 0 + 1)) pi
            rw [HJ.out] at G1 G2 G3 G4 G5 mc
            go_region
            go_wp2
            go_roundw
            case rel => exact ⟨_, G1.out, G2.out, by rw [HDI.out]; exact G3.out, G4.out.below (Below.refl _ _).drew.drew.drew, G5.out.drew.drew.drew⟩
            case measure => simp [RowKit.intOf, mc, pi]; omega
          · have hrb : (ra == 0) = false := beq_eq_false_iff_ne.2 hr0
            by_cases hdd : dx = di + 1
            · have hdb : (dx != di + 1) = false := by simp [hdd]
              go_region
              go_wp2_with fail
              have CL := Lib.hid (c_l1Least amount ra)
              have IHc : Hid (∀ u, Below wr.heap.size wr u → Calls Try.prog 49 #[.pointer (some ⟨g, 0, none⟩), .int .i64 x, .int .i64 (min amount ra), .slice (some ⟨gd, 0, none⟩) n cd, .slice (some ⟨gx, 0, none⟩) n cx] u (GivesPush u B g gl n m vs fr tg cp d Rd x (min amount ra) R nx')) := fun u hu => IH.out x _ R nx' u hxn (by rw [HDX.out]; omega) (by omega) (by omega) HRes.out HT.out HDe.out HRd.out (HP.out.below hu)
              have KD : Hid (Below wr.heap.size wr wr.drew.drew.drew.drew) := (Below.refl _ _).drew.drew.drew.drew
              have KS : Hid (wr.drew.drew.drew.drew.cell? ⟨g, 1, none⟩ = some (.slice (some ⟨bh, 0, none⟩) (2 * m) ch) ∧ wr.drew.drew.drew.drew.cell? ⟨g, 2, none⟩ = some (.slice (some ⟨br, 0, none⟩) (2 * m) cr) ∧ wr.drew.drew.drew.drew.cell? ⟨bh, a, none⟩ = some (.int .i64 x) ∧ wr.drew.drew.drew.drew.cell? ⟨br, a, none⟩ = some (.int .i64 ra)) := ⟨p1, p2, ph, pr⟩
              go_region_held3 (fun u => u.cell? ⟨g, 1, none⟩ = some (.slice (some ⟨bh, 0, none⟩) (2 * m) ch) ∧ u.cell? ⟨g, 2, none⟩ = some (.slice (some ⟨br, 0, none⟩) (2 * m) cr) ∧ u.cell? ⟨bh, a, none⟩ = some (.int .i64 x) ∧ u.cell? ⟨br, a, none⟩ = some (.int .i64 ra)) (first | exact KS.out | with_reducible exact KB.out)
                (first
                  | (go_at_call 64; refine (CL.out _).mono ?_; rintro e w6 ⟨rfl, rfl⟩)
                  | (go_at_call 49; refine (IHc.out _ KD.out).mono ?_; rintro e w7 ⟨s, R', nx2, rfl, hpu, hps, hb⟩; have HPu := Lib.hid hpu; have HP7 := Lib.hid hps; have HB7 : Hid (Below B w w7) := HB.out.drew.drew.drew.drew.trans hb; have KB : Hid (w7.cell? ⟨g, 1, none⟩ = some (.slice (some ⟨bh, 0, none⟩) (2 * m) ch) ∧ w7.cell? ⟨g, 2, none⟩ = some (.slice (some ⟨br, 0, none⟩) (2 * m) cr) ∧ w7.cell? ⟨bh, a, none⟩ = some (.int .i64 x) ∧ w7.cell? ⟨br, a, none⟩ = some (.int .i64 ra)) := push_kept HP7.out HPu.out.res.len ha EV0.out EV1.out HXe.out (by rw [← HRA.out]; exact HPu.out.far a ha (.inl (by rw [eu, HDI.out, HDX.out]; omega))); clear hpu hps hb))
              clear CL IHc KD KS
              by_cases hs0 : 0 < s
              · have G := Lib.hid (pushed_arc (nx := nx) (i := i) (amount := amount) (d := d) (Rd := Rd) ha eu (by rw [← HXe.out, HDX.out, HDI.out]; exact hdd) hs0 (by rw [← HXe.out, HRA.out]; exact HPu.out) (by rw [HDI.out]; exact HSa.out))
                have hrr := HP7.out.rowR
                rw [EV1.out] at hrr
                have hra7 : R'.getD a 0 = ra := by rw [← HRA.out]; exact HPu.out.far a ha (.inl (by rw [eu, HDI.out, HDX.out]; omega))
                obtain ⟨p7, z7⟩ := row_at HPu.out.res.len.symm hrr a ha
                have hrl := revA_lt ha
                obtain ⟨p8, z8⟩ := row_at HPu.out.res.len.symm hrr (revA a) hrl
                have hpair := res_pair HPu.out.res ha
                have hcpa := HCP.out (a / 2) (by omega)
                have hr0' := HPu.out.res.lo (revA a) hrl
                have hhi := HPu.out.hi
                have M1 := HP7.out.setR EV1.out HPu.out.res.len a (R'.getD a 0 - s)
                have M2 := Lib.hid (M1.setR EV1.out (by rw [List.length_set]; exact HPu.out.res.len) (revA a) (R'.getD (revA a) 0 + s))
                have hbr : B ≤ br := by
                  have := (World.ownsRow.lt hrr br rfl).1
                  exact this
                have q8 : (w7.setCell ⟨br, a, none⟩ (.int .i64 (ra - s))).cell? ⟨br, revA a, none⟩ = some (.int .i64 (R'.getD (revA a) 0)) := by rw [cell_off _ _ _ _ _ (Ne.symm (revA_ne a))]; exact p8
                have hxo := i64_xor_one a (by omega)
                rw [hra7] at p7 M2 hpair
                clear hra7 hrr M1 p8
                have M3 : Hid (Below B w ((w7.setCell ⟨br, a, none⟩ (.int .i64 (ra - s))).setCell ⟨br, revA a, none⟩ (.int .i64 (R'.getD (revA a) 0 + s)))) := (HB7.out.setCell hbr _).setCell hbr _
                have M4 : Hid (PushS ((w7.setCell ⟨br, a, none⟩ (.int .i64 (ra - s))).setCell ⟨br, revA a, none⟩ (.int .i64 (R'.getD (revA a) 0 + s))) B g gl n vs (pushX fr tg n m (sendA R' a s) nx2 d)) := by
                  have e : sendA R' a s = (R'.set a (ra - s)).set (revA a) (R'.getD (revA a) 0 + s) := by
                    unfold sendA
                    rw [HPu.out.far a ha (.inl (by rw [eu, HDI.out, HDX.out]; omega)), HRA.out]
                  rw [e]
                  exact M2.out
                obtain ⟨k1, k2, _, _⟩ := KB.out
                have nbg : br ≠ g := by
                  have := own_off HP7.out.rowR HP7.out.ty (show (63 : TypeId) ≠ 3 by decide)
                  rw [EV1.out] at this
                  simpa [Value.ownBlock] using this
                have ngb : g ≠ br := Ne.symm nbg
                generalize hry : R'.getD (revA a) 0 = y at *
                clear hry M2
                generalize hrv : revA a = rv at *
                clear hrv
                have c1 : (0 : Int) ≤ (rv : Int) := by omega
                have c2 : (rv : Int) < ((2 * m : Nat) : Int) := by omega
                have c3 : (rv : Int) < 2 * (m : Int) := by omega
                go_wp2
                go_ret
                exact ⟨s, sendA R' a s, nx2, rfl, G.out, M4.out, M3.out⟩
              · obtain ⟨e1, hD2, hdg, hxs⟩ := HPu.out.none (by have := HPu.out.lo; omega)
                subst e1
                have hJ2 : nx2.getD i 0 = (J : Int) := by rw [HPu.out.same i hi (by rw [HDI.out, HDX.out]; omega)]; exact HJ.out
                have HJ2 := Lib.hid hJ2
                have T2 := HPu.out.tried
                have hrN := HP7.out.rowN
                rw [HX.out] at hrN
                obtain ⟨pi7, zi7⟩ := row_at T2.len.symm hrN i hi
                rw [hJ2] at pi7
                have EA2 : Hid (ys.getD (nx2.getD i 0).toNat 0 = (a : Int)) := by show _ = _; rw [HJ2.out, ← HJ.out]; exact EA.out
                have G1 := Lib.hid (HTN.out nx2 T2 (by rw [HJ2.out]; omega))
                have G2 : Hid (Dead n fr tg m Rd d (nx2.set i (nx2.getD i 0 + 1))) := HDN.out nx2 a hD2 T2.len (by rw [HJ2.out]; omega) EA2.out (fun _ _ => by rw [← HXe.out]; exact ⟨hxs, hdg⟩)
                have G3 : Hid (∀ u, u < n → d.getD u 0 < di → (nx2.set i (nx2.getD i 0 + 1)).getD u 0 = nx.getD u 0) := fun u hu hlt => by
                  have hne : i ≠ u := fun e => by rw [← e, HDI.out] at hlt; omega
                  rw [getD_set _ _ _ _ (by rw [T2.len]; exact hi), if_neg hne, HPu.out.same u hu (by rw [HDX.out]; omega)]
                  exact HSa.out u hu hlt
                have G4 := Lib.hid (HP7.out.setN HX.out T2.len i (nx2.getD i 0 + 1))
                have G5 : Hid (Below B w (w7.setCell ⟨gx, i, none⟩ (.int .i64 (nx2.getD i 0 + 1)))) := HB7.out.setCell hBx _
                have mc := World.cell?_setCell_same w7 ⟨gx, i, none⟩ (.int .i64 (nx2.getD i 0 + 1)) pi7
                rw [HJ2.out] at G1 G2 G3 G4 G5 mc
                clear hJ2 hrN hD2 hdg T2
                go_wp2
                go_roundw
                case rel => exact ⟨_, G1.out, G2.out, by rw [HDI.out]; exact G3.out, G4.out, G5.out⟩
                case measure => simp [RowKit.intOf, mc, pi]; omega
            · have hdb : (dx != di + 1) = true := by simp [hdd]
              have G1 := Lib.hid (HTN.out nx' HT.out (by rw [HJ.out]; omega))
              have G2 : Hid (Dead n fr tg m Rd d (nx'.set i (nx'.getD i 0 + 1))) := HDN.out nx' a HDe.out HT.out.len (by rw [HJ.out]; omega) EA.out (fun h1' h2 => by have h1 := HRd.out a h1'; rw [HRA.out] at h1; rw [← HXe.out, HDX.out] at h2; omega)
              have G3 : Hid (∀ u, u < n → d.getD u 0 < di → (nx'.set i (nx'.getD i 0 + 1)).getD u 0 = nx.getD u 0) := fun u hu hlt => by
                have hne : i ≠ u := fun e => by rw [← e, HDI.out] at hlt; omega
                rw [getD_set _ _ _ _ (by rw [HT.out.len]; exact hi), if_neg hne]
                exact HSa.out u hu hlt
              have G4 := Lib.hid (HP.out.setN HX.out HT.out.len i (nx'.getD i 0 + 1))
              have G5 : Hid (Below B w (wr.setCell ⟨gx, i, none⟩ (.int .i64 (nx'.getD i 0 + 1)))) := HB.out.setCell hBx _
              have mc := World.cell?_setCell_same wr ⟨gx, i, none⟩ (.int .i64 (nx'.getD i 0 + 1)) pi
              rw [HJ.out] at G1 G2 G3 G4 G5 mc
              go_region
              go_wp2
              go_roundw
              case rel => exact ⟨_, G1.out, G2.out, by rw [HDI.out]; exact G3.out, G4.out.below (Below.refl _ _).drew.drew.drew, G5.out.drew.drew.drew⟩
              case measure => simp [RowKit.intOf, mc, pi]; omega
        · obtain rfl : J = ys.length := by omega
          have G := Lib.hid (HPN.out nx' HT.out HDe.out (by rw [HJ.out]; exact Int.le_refl _) HSa.out)
          go_wp2
          go_ret
          exact ⟨0, R, nx', rfl, G.out, HP.out.below (Below.refl _ _).drew, HB.out.drew⟩
end Go.Proofs.Ytdgkgnlilcbggaa
