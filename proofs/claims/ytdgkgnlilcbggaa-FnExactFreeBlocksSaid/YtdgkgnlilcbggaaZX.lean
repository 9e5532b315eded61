/-
  Contract: the run of the model: the greatest flow flows.
-/
import Derived.Test.YtdgkgnlilcbggaaZW
namespace Go.Proofs.Ytdgkgnlilcbggaa
open Go.RowKit
set_option linter.unusedVariables false

theorem Fam.ext {w : World} {B N : Nat} {vs : Nat → Value} {xs : Nat → List Int} {v : Value} {ys : List Int} (h : Fam w B N vs xs) (hr : Row w B v ys) (ha : ∀ k, v.ownBlock = some k → ∀ i, i < N → (vs i).ownBlock ≠ some k) : Fam w B (N + 1) (upd vs N v) (upd xs N ys) := by
  have key : ∀ i, i < N → Apart (vs i).ownBlock v.ownBlock := fun i hi => by
    cases e : (vs i).ownBlock with
    | none => exact .inl rfl
    | some k => exact .inr fun e' => ha k e'.symm i hi e
  refine ⟨fun i hi => ?_, fun i j hi hj hne => ?_⟩
  · by_cases e : i = N
    · subst e; rw [upd_same, upd_same]; exact hr
    · rw [upd_far _ _ e, upd_far _ _ e]; exact h.row i (by omega)
  · by_cases e : i = N
    · subst e
      rw [upd_same, upd_far _ _ (Ne.symm hne)]
      exact (key j (by omega)).symm
    · rw [upd_far _ _ e]
      by_cases e2 : j = N
      · subst e2; rw [upd_same]; exact key i (by omega)
      · rw [upd_far _ _ e2]; exact h.apart i j (by omega) (by omega) hne
theorem Fam.lt {w : World} {B N : Nat} {vs : Nat → Value} {xs : Nat → List Int} (h : Fam w B N vs xs) {i k : Nat} (hi : i < N) (hk : (vs i).ownBlock = some k) : k < w.heap.size := (World.ownsRow.lt (h.row i hi) k hk).2
theorem mapR_far {n : Nat} (vs : Nat → Value) {i : Nat} (v : Value) (h : n + 2 ≤ i) : mapR n (upd vs i v) = mapR n vs := by
  unfold mapR
  apply List.map_congr_left
  intro u hu
  have := List.mem_range.1 hu
  rw [upd_far _ _ (by omega)]
theorem flow_le {fr tg : Nat → Nat} {cp : Nat → Int} {m : Nat} {R : List Int} (hr : Res cp m R) (hcp : ∀ k, k < m → cp k ≤ 1000000000) (p : Nat → Bool) : net fr tg m R p ≤ m * 1000000000 := by
  refine Int.le_trans (net_le hr p) (sumZ_bound (by omega) fun k hk => ?_)
  have h1 := hr.sum k hk
  have h2 := hr.lo (2 * k) (by omega)
  have h3 := hr.lo (2 * k + 1) (by omega)
  have h4 := hcp k hk
  show cp k * io _ ≤ _
  generalize (p (fr k) && !p (tg k)) = b
  cases b <;> simp [io] <;> omega
/-- What a run gives. -/
def GivesRun (w : World) (B g gl n m : Nat) (vs : Nat → Value) (fr tg : Nat → Nat) (cp : Nat → Int) (e : Ending) (w' : World) : Prop :=
  ∃ s R d, e = .returned (.int .i64 s) ∧ RQ w' B g 1 gl n 63 vs (netX fr tg n m R) ∧ w'.cell? ⟨g, 0, none⟩ = some (.int .i64 n) ∧ Res cp m R ∧ (∀ p : Nat → Bool, p 0 = true → p (n - 1) = false → net fr tg m R p = s) ∧ Lev n fr tg m R d ∧ d.getD (n - 1) 0 < 0 ∧ Below B w w'
theorem RQ.below {w w' : World} {B g o gl n : Nat} {T : TypeId} {vs : Nat → Value} {xs : Nat → List Int} (h : RQ w B g o gl n T vs xs) (hb : Below w.heap.size w w') : RQ w' B g o gl n T vs xs :=
  have lg := h.ty.lt
  ⟨h.fam.below hb, World.ownsRow.kept (row := none) h.own ⟨hb.os, hb.tape, hb.output, hb.size, fun k hk _ => hb.block k hk⟩ (.inr (by simp [Value.ownBlock])), by rw [hb.cell (p := ⟨g, o, none⟩) lg]; exact h.c0, by rw [hb.cell (p := ⟨g, o + 1, none⟩) lg]; exact h.c1, by rw [hb.cell (p := ⟨g, o + 2, none⟩) lg]; exact h.c2, fun j => by rw [hb.frozen (p := ⟨g, j, none⟩) lg]; exact h.fz j, h.ty.below hb lg⟩
/-- A push begins: two rows more, newer than the others. -/
theorem push_start {w w' : World} {B g gl n m gx cx gd cd : Nat} {vs : Nat → Value} {fr tg : Nat → Nat} {R nx d : List Int} (h : RQ w B g 1 gl n 63 vs (netX fr tg n m R)) (hn : w.cell? ⟨g, 0, none⟩ = some (.int .i64 n)) (hBg : B ≤ g) (hb : Below w.heap.size w w') (hd : Row w' B (.slice (some ⟨gd, 0, none⟩) n cd) d) (hx : Row w' B (.slice (some ⟨gx, 0, none⟩) n cx) nx) (h1 : w.heap.size ≤ gd) (h2 : w.heap.size ≤ gx) (h3 : gd ≠ gx) :
    PushS w' B g gl n (upd (upd vs (n + 2) (.slice (some ⟨gx, 0, none⟩) n cx)) (n + 3) (.slice (some ⟨gd, 0, none⟩) n cd)) (pushX fr tg n m R nx d) := by
  have lg := h.ty.lt
  have h' := h.below hb
  have f1 := h'.fam.ext hx (fun k hk i hi e => by
    have := h.fam.lt hi e
    simp [Value.ownBlock] at hk
    omega)
  have f2 := f1.ext hd (fun k hk i hi e => by
    simp [Value.ownBlock] at hk
    subst hk
    by_cases c : i = n + 2
    · subst c
      rw [upd_same] at e
      simp [Value.ownBlock] at e
      exact h3 e.symm
    · rw [upd_far _ _ c] at e
      have := h.fam.lt (show i < n + 2 by omega) e
      omega)
  exact ⟨f2, by rw [mapR_far _ _ (by omega), mapR_far _ _ (by omega)]; exact h'.own, by rw [hb.cell (p := ⟨g, 0, none⟩) lg]; exact hn, by rw [upd_far _ _ (by omega), upd_far _ _ (by omega)]; exact h'.c0, by rw [upd_far _ _ (by omega), upd_far _ _ (by omega)]; exact h'.c1, h'.c2, h'.fz, h'.ty, hBg⟩
/-- And ends. -/
theorem push_end {w : World} {B g gl n m : Nat} {vs : Nat → Value} {v1 v2 : Value} {fr tg : Nat → Nat} {R nx d : List Int} (h : PushS w B g gl n (upd (upd vs (n + 2) v1) (n + 3) v2) (pushX fr tg n m R nx d)) : RQ w B g 1 gl n 63 vs (netX fr tg n m R) ∧ w.cell? ⟨g, 0, none⟩ = some (.int .i64 n) := by
  have e : ∀ i, i < n + 2 → upd (upd vs (n + 2) v1) (n + 3) v2 i = vs i := fun i hi => by rw [upd_far _ _ (by omega), upd_far _ _ (by omega)]
  refine ⟨⟨⟨fun i hi => ?_, fun i j hi hj hne => ?_⟩, ?_, ?_, ?_, h.c2, h.fz, h.ty⟩, h.n0⟩
  · have := h.fam.row i (by omega)
    rw [e i hi, pushX_low hi] at this
    exact this
  · have := h.fam.apart i j (by omega) (by omega) hne
    rw [e i hi, e j hj] at this
    exact this
  · have := h.own
    rw [mapR_far _ _ (by omega), mapR_far _ _ (by omega)] at this
    exact this
  · have := h.c0
    rw [e 0 (by omega)] at this
    exact this
  · have := h.c1
    rw [e 1 (by omega)] at this
    exact this

set_option maxHeartbeats 16000000 in
set_option maxRecDepth 100000 in
theorem c_run (n m g gl B : Nat) (fr tg : Nat → Nat) (cp : Nat → Int) (R0 : List Int) (vs : Nat → Value) (w : World) (hE : EndsIn n fr tg m) (n1 : 2 ≤ n) (n2 : n ≤ 130) (n3 : m ≤ 8000) (hcp : ∀ k, k < m → cp k ≤ 1000000000) (hBg : B ≤ g) (hq : RQ w B g 1 gl n 63 vs (netX fr tg n m R0)) (hn : w.cell? ⟨g, 0, none⟩ = some (.int .i64 n)) (hres : Res cp m R0) (hnet : ∀ p : Nat → Bool, net fr tg m R0 p = 0) :
    Calls Try.prog 37 #[.pointer (some ⟨g, 0, none⟩)] w (GivesRun w B g gl n m vs fr tg cp) := by
  obtain ⟨i0, hi0, hz0, hz1, hz2⟩ := info_parts int_info
  have hmk : Hid (∀ u : World, (Instr.makeSlice 23 (.int .i64 (n : Int)) (.int .i64 (n : Int))).run Try.prog u = .ok (.slice (some ⟨u.heap.size, 0, none⟩) n n) (u.alloc (.cells (madeCells #[.int .i64 0] n) 3))) := fun u => by
    have := run_make (P := Try.prog) u 23 3 i0 (.int .i64 0) Try.underlying23 hi0 hz0 .i64 .i64 (n : Int) (n : Int) (by omega) (by omega) (by rw [hz2]; omega) (by omega)
    simpa [hz1, Value.cells] using this
  have HE : Hid (EndsIn n fr tg m) := hE
  have HCP := Lib.hid hcp
  have HQ0 := Lib.hid hq
  have HN0 := Lib.hid hn
  have HR0 := Lib.hid hres
  have HF0 := Lib.hid hnet
  have hBl : B ≤ w.heap.size := Nat.le_trans hBg (Nat.le_of_lt hq.ty.lt)
  clear hE hcp hq hn hres hnet hi0 hz0 hz1 hz2
  go_enter Try.func37, Try.ntmps37
  go_wp2_with fail
  go_loopw [3] (fun sv wr => ∃ (s : Int) (R : List Int), sv = .int .i64 s ∧ 0 ≤ s ∧ RQ wr B g 1 gl n 63 vs (netX fr tg n m R) ∧ wr.cell? ⟨g, 0, none⟩ = some (.int .i64 n) ∧ Res cp m R ∧ (∀ p : Nat → Bool, p 0 = true → p (n - 1) = false → net fr tg m R p = s) ∧ Below B w wr) (fun sv _ => (8000000000001 - RowKit.intOf sv).toNat)
  case atStart => exact ⟨0, R0, rfl, by omega, HQ0.out, HN0.out, HR0.out, fun p _ _ => HF0.out p, Below.refl _ _⟩
  case round =>
    obtain ⟨s, R, rfl, hs0, hq, hn, hres, hnet, hb⟩ := hrel
    have HQ := Lib.hid hq
    have HN := Lib.hid hn
    have HR := Lib.hid hres
    have HF := Lib.hid hnet
    have HB := Lib.hid hb
    have hs1 : s ≤ 8000000000000 := by
      have h1 := hnet (fun u => decide (u = 0)) (by simp) (by simp; omega)
      have h2 := flow_le (fr := fr) (tg := tg) hres HCP.out (fun u => decide (u = 0))
      omega
    have hg := hq.ty.lt
    have CL := Lib.hid (c_levels n m g gl fr tg R (vs 0) (vs 1) wr HE.out n1 n2 n3 hg hn hq.c0 hq.c1 hq.c2 (netR_of hq.fam hq.own hres.len))
    have hBw : B ≤ wr.heap.size := by have := hb.size; omega
    clear hq hn hres hnet hb
    go_wp2_with fail
    refine CL.out.mono ?_
    rintro e w1 ⟨d, v, rfl, hrow, hlev, hb⟩
    have HL : Hid (Lev n fr tg m R d) := hlev
    have HB1 := Lib.hid hb
    obtain ⟨gd, cd, rfl, hgd, lgd⟩ := hrow.form (by rw [hlev.len]; omega)
    rw [hlev.len] at hrow ⊢
    have HRow := Lib.hid hrow
    obtain ⟨pz, _⟩ := row_at hlev.len.symm hrow (n - 1) (by omega)
    have hdz := hlev.lo (n - 1) (by omega)
    have p0 : w1.cell? ⟨g, 0, none⟩ = some (.int .i64 n) := by rw [hb.cell (p := ⟨g, 0, none⟩) hg]; exact HN.out
    have HBB : Hid (Below B w w1) := HB.out.trans (hb.mono hBw)
    clear hrow hlev hb CL
    generalize hdzE : d.getD (n - 1) 0 = dz at *
    have HDZ := Lib.hid hdzE
    clear hdzE
    have b1 : (0 : Int) ≤ (n : Int) - 1 := by omega
    have b2 : (n : Int) - 1 < (n : Int) := by omega
    by_cases hz : dz < 0
    · have G := Lib.hid (HQ.out.below HB1.out)
      go_wp2
      go_ret
      exact ⟨s, R, d, rfl, G.out, p0, HR.out, HF.out, HL.out, by rw [HDZ.out]; exact hz, HBB.out⟩
    · have hmk1 := hmk.out w1
      go_wp2_with fail
      clear hmk1
      have HXr : Hid (Row (w1.alloc (.cells (madeCells #[.int .i64 0] n) 3)) B (.slice (some ⟨w1.heap.size, 0, none⟩) n n) (List.replicate n 0)) := by
        have := World.ownsRow_lit (base := B) (e := 3) (size := 1) w1 (madeCells #[.int .i64 0] n) n (by have := HBB.out.size; omega) (by unfold maxLen; omega) (by rw [size_madeCells]; simp)
        rw [toList_madeCells_one] at this
        unfold Row Hid ints
        rw [List.length_replicate, List.map_replicate]
        exact this
      have HDr : Hid (Row (w1.alloc (.cells (madeCells #[.int .i64 0] n) 3)) B (.slice (some ⟨gd, 0, none⟩) n cd) d) := World.ownsRow.alloc (HRow.out.mono hBw) _
      have HBa : Hid (Below wr.heap.size wr (w1.alloc (.cells (madeCells #[.int .i64 0] n) 3))) := HB1.out.alloc HB1.out.size _
      have HP0 := Lib.hid (push_start HQ.out HN.out hBg HBa.out HDr.out HXr.out hgd HB1.out.size (by omega))
      have HBP : Hid (Below B w (w1.alloc (.cells (madeCells #[.int .i64 0] n) 3))) := HBB.out.alloc (by have := HBB.out.size; omega) _
      have CP := Lib.hid (fun (Rd : List Int) => c_push n m g gl w1.heap.size n gd cd B fr tg cp d Rd (upd (upd vs (n + 2) (.slice (some ⟨w1.heap.size, 0, none⟩) n n)) (n + 3) (.slice (some ⟨gd, 0, none⟩) n cd)) HE.out n1 n2 n3 HL.out.len (fun v hv => ⟨HL.out.lo v hv, HL.out.hi v hv⟩) (by rw [upd_far _ _ (by omega), upd_same]) (by rw [upd_same]) HCP.out n 0 1125899906842624)
      have hd0 := HL.out.src
      have HDE := Lib.hid (fun (nx : List Int) => dead_end (n := n) (fr := fr) (m := m) (R := R) (d := d) (nx := nx) n1 HE.out HL.out (by rw [HDZ.out]; omega))
      have hTZ := Lib.hid (TriedOk.zero n fr tg m)
      have hDZ : Hid (Dead n fr tg m R d (List.replicate n 0)) := Dead.zero n fr tg m R d
      have CPd : Hid (∀ (Rd R' nx : List Int) (u : World), Res cp m R' → TriedOk n fr tg m nx → Dead n fr tg m Rd d nx → (∀ a, 0 < Rd.getD a 0 → 0 < R'.getD a 0) → PushS u B g gl n (upd (upd vs (n + 2) (.slice (some ⟨w1.heap.size, 0, none⟩) n n)) (n + 3) (.slice (some ⟨gd, 0, none⟩) n cd)) (pushX fr tg n m R' nx d) → Calls Try.prog 49 #[.pointer (some ⟨g, 0, none⟩), .int .i64 0, .int .i64 1125899906842624, .slice (some ⟨gd, 0, none⟩) n cd, .slice (some ⟨w1.heap.size, 0, none⟩) n n] u (GivesPush u B g gl n m (upd (upd vs (n + 2) (.slice (some ⟨w1.heap.size, 0, none⟩) n n)) (n + 3) (.slice (some ⟨gd, 0, none⟩) n cd)) fr tg cp d Rd 0 1125899906842624 R' nx)) := fun Rd R' nx u h1 h2 h3 h4 h5 => CP.out Rd R' nx u (by omega) (by omega) (by omega) (by omega) h1 h2 h3 h4 h5
      clear CP HXr HDr HBa hd0 p0 pz
      generalize w1.alloc (.cells (madeCells #[.int .i64 0] n) 3) = w2 at *
      go_loopw [3] (fun sv wr => ∃ (s' : Int) (R' nx : List Int), sv = .int .i64 s' ∧ s ≤ s' ∧ PushS wr B g gl n (upd (upd vs (n + 2) (.slice (some ⟨w1.heap.size, 0, none⟩) n n)) (n + 3) (.slice (some ⟨gd, 0, none⟩) n cd)) (pushX fr tg n m R' nx d) ∧ Res cp m R' ∧ (∀ p : Nat → Bool, p 0 = true → p (n - 1) = false → net fr tg m R' p = s') ∧ TriedOk n fr tg m nx ∧ (s' = s → R' = R ∧ Dead n fr tg m R d nx) ∧ Below B w wr) (fun sv _ => (8000000000001 - RowKit.intOf sv).toNat)
      case atStart => exact ⟨s, R, _, rfl, Int.le_refl _, HP0.out, HR.out, HF.out, hTZ.out, fun _ => ⟨rfl, hDZ.out⟩, HBP.out⟩
      case round =>
        obtain ⟨s', R', nx, rfl, hss, hp, hres, hnet, htr, hde, hb⟩ := hrel
        have HP := Lib.hid hp
        have HR' := Lib.hid hres
        have HF' := Lib.hid hnet
        have HT := Lib.hid htr
        have HBr := Lib.hid hb
        have hs2 : s' ≤ 8000000000000 := by
          have h1 := hnet (fun u => decide (u = 0)) (by simp) (by simp; omega)
          have h2 := flow_le (fr := fr) (tg := tg) hres HCP.out (fun u => decide (u = 0))
          omega
        obtain ⟨Rd, hr1, hr2, hr3⟩ : ∃ Rd : List Int, Dead n fr tg m Rd d nx ∧ (∀ a, 0 < Rd.getD a 0 → 0 < R'.getD a 0) ∧ (s' = s → Rd = R ∧ R' = R) := by
          by_cases e : s' = s
          · obtain ⟨e1, e2⟩ := hde e
            exact ⟨R, e2, fun a h => by rw [e1]; exact h, fun _ => ⟨rfl, e1⟩⟩
          · exact ⟨[], fun u hu j hj a ha hR => by simp at hR, fun a h => by simp at h, fun h => absurd h e⟩
        have CC := Lib.hid (CPd.out Rd R' nx wr hres htr hr1 hr2 hp)
        have HR3 := Lib.hid hr3
        clear hp hres hnet htr hde hb hr1 hr2 hr3
        go_wp2_with fail
        refine CC.out.mono ?_
        rintro e w3 ⟨t, R2, nx2, rfl, hpu, hps, hb3⟩
        have HPu := Lib.hid hpu
        have HP3 := Lib.hid hps
        have HB3 : Hid (Below B w w3) := HBr.out.trans hb3
        have ht0 := hpu.lo
        have ht1 := hpu.hi
        clear hpu hps hb3 CC
        by_cases ht : t = 0
        · subst ht
          obtain ⟨e1, e2, e3, e4⟩ := HPu.out.none rfl
          subst e1
          have hlt : s < s' := by
            by_cases e : s' = s
            · obtain ⟨f1, f2⟩ := HR3.out e
              subst f1
              exact (HDE.out nx2 e2 e3).elim
            · omega
          obtain ⟨k1, k2⟩ := push_end HP3.out
          have K1 := Lib.hid k1
          have K2 := Lib.hid k2
          clear k1 k2 e2 e3 e4
          go_wp2
          go_roundw
          case rel => exact ⟨s', R2, rfl, by omega, K1.out, K2.out, HR'.out, HF'.out, HB3.out⟩
          case measure => simp [RowKit.intOf]; omega
        · have htb : (t == 0) = false := beq_eq_false_iff_ne.2 ht
          have HN2 : Hid (∀ p : Nat → Bool, p 0 = true → p (n - 1) = false → net fr tg m R2 p = s' + t) := fun p h1 h2 => by rw [HPu.out.flow, HF'.out p h1 h2, h1, h2]; simp [io]
          have hs3 : s' + t ≤ 8000000000000 := by
            have h1 := HN2.out (fun u => decide (u = 0)) (by simp) (by simp; omega)
            have h2 := flow_le (fr := fr) (tg := tg) HPu.out.res HCP.out (fun u => decide (u = 0))
            omega
          go_wp2
          go_roundw
          case rel => exact ⟨s' + t, R2, nx2, rfl, by omega, HP3.out, HPu.out.res, HN2.out, HPu.out.tried, fun e => by omega, HB3.out⟩
          case measure => simp [RowKit.intOf]; omega
end Go.Proofs.Ytdgkgnlilcbggaa
