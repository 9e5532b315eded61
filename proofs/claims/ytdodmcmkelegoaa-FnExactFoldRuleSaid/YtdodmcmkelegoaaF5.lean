/-
  Contracts: the function of the fields that a rule becomes.
-/
import Derived.Test.YtdodmcmkelegoaaF4
namespace Go.Proofs.Ytdodmcmkelegoaa
open Go.RowKit
set_option linter.unusedVariables false

theorem fnv_num (nf : Bool) (lo hi b : Nat) (v : Int) (w : World) (hl : lo ≤ b) (hb : b < hi) (hh : hi ≤ w.heap.size) (h : w.cell? ⟨b, 1, none⟩ = some (.int .i64 v)) : FnV nf lo hi w (.func (.func 118) #[] #[.pointer (some ⟨b, 0, none⟩)]) (fun _ => some v) :=
  ⟨hh, _, _, rfl, ent1, fun u fv fs hu hs hf => (c_fnNum fv b v u (hu.cell hl hb h)).mono fun e u' h => ⟨h.1, h.2 ▸ Below.refl _ _⟩⟩
theorem fnv_field (lo hi b k : Nat) (w : World) (hl : lo ≤ b) (hb : b < hi) (hh : hi ≤ w.heap.size) (hk : k < 5) (h : w.cell? ⟨b, 1, none⟩ = some (.int .i64 (k : Int))) : FnV false lo hi w (.func (.func 119) #[] #[.pointer (some ⟨b, 0, none⟩)]) (fun fs => some (fs.getD k 0)) :=
  ⟨hh, _, _, rfl, ent2, fun u fv fs hu hs hf => (c_fnField fv fs b k u (hu.cell hl hb h) hs (by simpa using hf.1) hk).mono fun e u' h => ⟨h.1, h.2⟩⟩

/-- The functions that the first j rules have become, in a list of the call's own. -/
def Fns (nf : Bool) (w : World) (B : Nat) (v : Value) (j : Nat) (R : Nat → List Int → Option Int) : Prop :=
  ∃ Fs : List Value, w.ownsRow B 94 1 v j Fs ∧ Fs.length = j ∧ ∀ q, q < j → ∃ F lo hi, Fs[q]? = some F ∧ B ≤ lo ∧ FnV nf lo hi w F (R q) ∧ ∀ k, v.ownBlock = some k → k < lo ∨ hi ≤ k
theorem Fns.nil (nf : Bool) (w : World) (B : Nat) (R : Nat → List Int → Option Int) : Fns nf w B (.slice none 0 0) 0 R := ⟨[], World.ownsRow_nil _ _ _ _, rfl, fun q hq => by omega⟩
theorem Fns.below {nf : Bool} {w w' : World} {B j : Nat} {v : Value} {R : Nat → List Int → Option Int} (h : Fns nf w B v j R) (hb : Below w.heap.size w w') : Fns nf w' B v j R := by
  obtain ⟨Fs, h1, hl, h2⟩ := h
  refine ⟨Fs, World.ownsRow.kept (row := none) h1 ⟨hb.os, hb.tape, hb.output, hb.size, fun k hk _ => hb.block k hk⟩ (by cases v.ownBlock <;> simp), hl, fun q hq => ?_⟩
  obtain ⟨F, lo, hi, e, hB, hf, hk⟩ := h2 q hq
  exact ⟨F, lo, hi, e, hB, hf.below hb, hk⟩
theorem Fns.form {nf : Bool} {w : World} {B j : Nat} {v : Value} {R : Nat → List Int → Option Int} (h : Fns nf w B v j R) (h0 : 0 < j) : ∃ g c, v = .slice (some ⟨g, 0, none⟩) j c ∧ B ≤ g ∧ g < w.heap.size := by
  obtain ⟨Fs, h1, _⟩ := h
  exact World.ownsRow.form h1 h0
theorem Fns.at_ {nf : Bool} {w : World} {B j g c : Nat} {R : Nat → List Int → Option Int} (h : Fns nf w B (.slice (some ⟨g, 0, none⟩) j c) j R) {q : Nat} (hq : q < j) : ∃ F lo hi, w.cell? ⟨g, q, none⟩ = some F ∧ B ≤ lo ∧ FnV nf lo hi w F (R q) := by
  obtain ⟨Fs, h1, hl, h2⟩ := h
  obtain ⟨F, lo, hi, e, hB, hf, _⟩ := h2 q hq
  refine ⟨F, lo, hi, ?_, hB, hf⟩
  rw [World.ownsRow.cellAt h1 q (by omega)]
  have hx : Fs[q]'(by omega) = F := by
    have := List.getElem?_eq_getElem (l := Fs) (i := q) (by omega)
    rw [this] at e
    simpa using e
  simp [hx, hl, hq]
/-- One function more. w3: where the last one is made; w4: behind the append. -/
theorem Fns.push {nf : Bool} {wr w3 w3' w4 : World} {B j : Nat} {v v' F : Value} {Fs : List Value} {R : Nat → List Int → Option Int} (hl : Fs.length = j) (h1 : wr.ownsRow B 94 1 v j Fs) (h2 : ∀ q, q < j → ∃ F lo hi, Fs[q]? = some F ∧ B ≤ lo ∧ FnV nf lo hi wr F (R q) ∧ ∀ k, v.ownBlock = some k → k < lo ∨ hi ≤ k)
    (hB : B ≤ wr.heap.size) (hb3 : Below wr.heap.size wr w3) (hF : FnV nf wr.heap.size w3.heap.size w3 F (R j)) (ha : Below w3.heap.size w3 w3') (hown : w4.ownsRow B 94 1 v' (j + 1) (Fs ++ [F])) (hgrow : w3'.grownBy w4 v.ownBlock)
    (hnew : v'.ownBlock = v.ownBlock ∨ v'.ownBlock = some w3'.heap.size) : Fns nf w4 B v' (j + 1) R := by
  have hs : ∀ lo hi, hi ≤ w3.heap.size → (∀ k, v.ownBlock = some k → k < lo ∨ hi ≤ k) → Same lo hi w3 w4 := fun lo hi hh hk => ⟨Nat.le_trans hh (Nat.le_trans ha.size hgrow.size), fun k k1 k2 => by
    rw [hgrow.block k (by have := ha.size; omega) (by
      intro e
      rcases hk k e.symm with h | h <;> omega)]
    exact ha.block k (by omega)⟩
  have hv : ∀ k, v.ownBlock = some k → k < wr.heap.size := fun k e => (World.ownsRow.lt h1 k e).2
  have hw3 : w3.heap.size ≤ w3'.heap.size := ha.size
  refine ⟨Fs ++ [F], hown, by simp [hl], fun q hq => ?_⟩
  by_cases e : q < j
  · obtain ⟨G, lo, hi, e1, hB1, hf, hk⟩ := h2 q e
    have hh : hi ≤ w3.heap.size := Nat.le_trans hf.1 hb3.size
    refine ⟨G, lo, hi, by rw [List.getElem?_append_left (by omega)]; exact e1, hB1, (hf.below hb3).turn (hs lo hi hh hk), fun k hk' => ?_⟩
    rcases hnew with h | h
    · exact hk k (by rw [← h]; exact hk')
    · rw [h] at hk'
      cases hk'
      exact .inr (by omega)
  · obtain rfl : q = j := by omega
    refine ⟨F, wr.heap.size, w3.heap.size, by rw [List.getElem?_append_right (by omega), hl]; simp, hB, hF.turn (hs _ _ (Nat.le_refl _) fun k e => .inl (hv k e)), fun k hk' => ?_⟩
    rcases hnew with h | h
    · exact .inl (hv k (by rw [← h]; exact hk'))
    · rw [h] at hk'
      cases hk'
      exact .inr hw3
theorem src_func (w : World) (k : Nat) (caps : Array Value) (T : TypeId) : Src (w.alloc (.cells #[.func (.func k) #[] caps] T)) 1 (some ⟨w.heap.size, 0, none⟩) 1 1 [.func (.func k) #[] caps] := by
  refine ⟨rfl, fun h => (by cases h), fun _ => ⟨_, rfl, fun j u hj => ?_⟩⟩
  match j, hj with
  | 0, hj => simp at hj; subst hj; simp [Addr.add]
theorem formula_info : (Try.prog.info? 94).map (fun i => (i.zero, i.size, i.bytes)) = some (some .nilFunc, 1, 8) := by kernel_rfl

set_option maxHeartbeats 4000000 in
set_option maxRecDepth 100000 in
theorem c_formulaOf (nf : Bool) (ks vs : Nat → Int) (b K : Nat) : ∀ (t : Tr) (o lo c e : Nat) (w : World), t.size ≤ K → At ks t e → lo + t.size = e + 1 → t.size ≤ 1048576 → t.size ≤ c → b < w.heap.size →
    (∀ j : Nat, j < t.size → 0 ≤ ks (lo + j) ∧ ks (lo + j) ≤ 8) →
    (∀ j : Nat, j < t.size → (ks (lo + j) = 0 → 0 ≤ vs (lo + j) ∧ vs (lo + j) ≤ 1000000) ∧ (ks (lo + j) = 1 → nf = false ∧ 0 ≤ vs (lo + j) ∧ vs (lo + j) ≤ 4)) →
    (∀ j : Nat, j < t.size → w.cell? ⟨b, o + j * 2, none⟩ = some (.int .i64 (ks (lo + j))) ∧ w.cell? ⟨b, o + j * 2 + 1, none⟩ = some (.int .i64 (vs (lo + j)))) →
    Calls Try.prog 68 #[.slice (some ⟨b, o, none⟩) t.size c] w (GivesF nf w.heap.size w (fun fs => ev ks vs fs t e)) := by
  induction K with
  | zero =>
    intro t o lo c e w hK
    have := t.size_pos
    omega
  | succ K IHK =>
    intro t o lo c e w hK hA hlo hl hc hb hv hp hcell
    obtain ⟨m, kd, of, S, hm4, hsm, hdep, hsz, hkid, hev⟩ := ev_split (vs := vs) hA hlo
    obtain ⟨i0, hi0, hz0, hz1, hz2⟩ := info_parts formula_info
    have HJ := Lib.hid hi0
    have hmf : ∀ (fn : Fn) (first cap : Array Value) (w : World), (Instr.makeFunc fn first cap).run Try.prog w = .ok (.func fn first cap) w := fun _ _ _ _ => rfl
    clear hdep hsz hkid hi0
    have IH : Hid (∀ (j : Nat) (u : World), j < m → Below w.heap.size w u → Calls Try.prog 68 #[.slice (some ⟨b, o + of j * 2, none⟩) (kd j).size (c - of j)] u (GivesF nf u.heap.size u (fun fs => kidV ks vs fs lo kd of j))) := fun j u hj hu => by
      have h1 := hsm j hj
      have h2 := S.next j hj
      have h3 := S.le (j := j + 1) (by omega)
      have h4 := (kd j).size_pos
      refine IHK (kd j) (o + of j * 2) (lo + of j) (c - of j) (lo + of (j + 1) - 1) u (by omega) (S.at_ j hj) (by omega) (by omega) (by omega) (Nat.lt_of_lt_of_le hb hu.size) (fun q hq => ?_) (fun q hq => ?_) (fun q hq => ?_)
      · rw [Nat.add_assoc]; exact hv _ (by omega)
      · rw [Nat.add_assoc]; exact hp _ (by omega)
      · rw [hu.cell (p := ⟨b, o + of j * 2 + q * 2, none⟩) hb, hu.cell (p := ⟨b, o + of j * 2 + q * 2 + 1, none⟩) hb, show o + of j * 2 + q * 2 = o + (of j + q) * 2 by omega, Nat.add_assoc]
        exact hcell _ (by omega)
    have I9 : Hid (∀ j, j < m → ∀ fs, FldOk nf fs → In9 (kidV ks vs fs lo kd of j)) := fun j hj fs hf => by
      have h1 := hsm j hj
      have h2 := S.next j hj
      have h3 := S.le (j := j + 1) (by omega)
      have h4 := (kd j).size_pos
      refine ev_in9w (kd j) _ (S.at_ j hj) (fun i h1 h2 => ?_) hf.2
      have := (hp (i - lo) (by omega)).1
      rw [show lo + (i - lo) = i by omega] at this
      exact this
    have CN : Hid (∀ u, Below w.heap.size w u → Calls Try.prog 117 #[.slice (some ⟨b, o, none⟩) t.size c] u (GivesWins u b o c m kd of)) := fun u hu =>
      c_neededRules ks b o lo t.size c m kd of u S hm4 hl hc (Nat.lt_of_lt_of_le hb hu.size) hv (fun j hj => by rw [hu.cell (p := ⟨b, o + j * 2, none⟩) hb]; exact (hcell j hj).1)
    have er : (fun fs => ev ks vs fs t e) = fun fs => topV (ks e) (vs e) fs (fun j => kidV ks vs fs lo kd of j) := funext hev
    have hnd : ndK (ks e) = m := by have := S.nd; rw [show lo + t.size - 1 = e by omega] at this; exact this
    have hlast := S.last
    have hee : lo + of m = e := by omega
    obtain ⟨q0, q1⟩ := hcell (of m) (by omega)
    obtain ⟨k0, k8⟩ := hv (of m) (by omega)
    have hp1 := (hp (of m) (by omega)).2
    rw [hee] at q0 q1 k0 k8 hp1
    rw [er]
    have R0 : ∃ R : Nat → List Int → Option Int, R = fun j fs => kidV ks vs fs lo kd of j := ⟨_, rfl⟩
    obtain ⟨R, hR⟩ := R0
    have hR' : ∀ j fs, kidV ks vs fs lo kd of j = R j fs := fun j fs => by rw [hR]
    simp only [hR'] at IH I9 ⊢
    clear hR hR' er hee IHK hA hlo hv hp hcell hsm S hev
    generalize t.size = n at *
    generalize ks e = kk at *
    generalize vs e = vv at *
    obtain rfl : n = of m + 1 := hlast.symm
    have HN := Lib.hid hnd
    have HP1 := Lib.hid hp1
    clear hnd hp1 hlast
    go_enter Try.func68, Try.ntmps68
    go_wp2_with fail
    have HBA : Hid (Below w.heap.size w (w.alloc (.cells #[.int .i64 kk, .int .i64 vv] 87))) := (Below.refl _ _).alloc (Nat.le_refl _) _
    have x0 : (w.alloc (.cells #[.int .i64 kk, .int .i64 vv] 87)).cell? ⟨w.heap.size, 0, none⟩ = some (.int .i64 kk) := by simp
    have x1 : (w.alloc (.cells #[.int .i64 kk, .int .i64 vv] 87)).cell? ⟨w.heap.size, 1, none⟩ = some (.int .i64 vv) := by simp
    have HL0 := Lib.hid (And.intro x0 x1)
    clear x0 x1
    refine (CN.out _ HBA.out).mono ?_
    rintro e w1 ⟨g, rfl, hg0, hg1, hb1, hcs⟩
    have HB1 : Hid (Below w.heap.size w w1) := HBA.out.trans (hb1.mono HBA.out.size)
    have HC1 := Lib.hid hcs
    have HL1 : Hid (w1.cell? ⟨w.heap.size, 0, none⟩ = some (.int .i64 kk) ∧ w1.cell? ⟨w.heap.size, 1, none⟩ = some (.int .i64 vv)) := ⟨cell_at hb1 HL0.out.1, cell_at hb1 HL0.out.2⟩
    clear hb1 hcs HBA HL0 CN
    go_wp2_with fail
    go_loopw [4, 16] (fun v i wr => ∃ j : Nat, j ≤ m ∧ i = .int .i64 j ∧ Fns nf wr w1.heap.size v j R ∧ Below w1.heap.size w1 wr) (fun _ i _ => m - (intOf i).toNat)
    case atStart => exact ⟨0, Nat.zero_le _, rfl, Fns.nil _ _ _ _, Below.refl _ _⟩
    case round =>
      obtain ⟨j, hj, rfl, hr, hbw⟩ := hrel
      have HR := Lib.hid hr
      have HB := Lib.hid hbw
      have HW : Hid (Below w.heap.size w wr) := HB1.out.trans (hbw.mono HB1.out.size)
      clear hr hbw
      by_cases hlt : j < m
      · have q2 : wr.cell? ⟨g, j, none⟩ = some (.slice (some ⟨b, o + of j * 2, none⟩) (kd j).size (c - of j)) := by rw [HB.out.cell (p := ⟨g, j, none⟩) hg1]; exact HC1.out j hlt
        have i1 : (0 : Int) ≤ (j : Int) := by omega
        have i2 : (j : Int) < (m : Int) := by omega
        have C := Lib.hid (IH.out j wr hlt HW.out)
        generalize (kd j).size = z at *
        generalize of j = p at *
        go_wp2_with fail
        refine C.out.mono ?_
        rintro e w3 ⟨F, rfl, hF, hb3⟩
        obtain ⟨kf, capsf, rfl⟩ : ∃ kf capsf, F = .func (.func kf) #[] capsf := by
          obtain ⟨_, kf, capsf, e, _⟩ := hF
          exact ⟨kf, capsf, e⟩
        have HF := Lib.hid hF
        have HB3 := Lib.hid hb3
        obtain ⟨Fs, hown, hfl, hat⟩ := HR.out
        have HO := Lib.hid hown
        have HFL := Lib.hid hfl
        have HAT := Lib.hid hat
        have HOA := Lib.hid (World.ownsRow.alloc (World.ownsRow.kept (row := none) (w' := w3) hown ⟨hb3.os, hb3.tape, hb3.output, hb3.size, fun k hk _ => hb3.block k hk⟩ (by cases u4.ownBlock <;> simp)) (.cells #[.func (.func kf) #[] capsf] 94))
        have sw3 := hb3.size
        have sw1 := HB.out.size
        clear hF hb3 hown hfl hat
        go_wp2_with (at_builtin; refine wpList_append_src rfl _ _ 133 rfl (base := w1.heap.size) Try.underlying133 HJ.out hz0 hz1 hz2 rfl (by decide) rfl HOA.out rfl (src_func w3 kf capsf _) (by intro u hu; simp at hu; subst hu; rfl) ?c3 ?c4 ?c5 ?_)
        case c3 => unfold maxLen; omega
        case c4 => omega
        case c5 => simp; omega
        intro v4 w4 hown4 hgrow4 hnew4
        have HA : Hid (Below w3.heap.size w3 (w3.alloc (.cells #[.func (.func kf) #[] capsf] 94))) := (Below.refl _ _).alloc (Nat.le_refl _) _
        have N1 : Hid (Fns nf w4 w1.heap.size v4 (j + 1) R) := Fns.push HFL.out HO.out HAT.out sw1 HB3.out HF.out HA.out hown4 hgrow4 (by simpa using hnew4)
        have N2 : Hid (Below w1.heap.size w1 w4) := ((HB.out.trans (HB3.out.mono sw1)).alloc (by omega) _).grown hgrow4 (by simp; omega) (fun g hg => (World.ownsRow.lt HO.out g hg).1)
        clear hown4 hgrow4 hnew4
        go_wp2
        go_roundw
        case rel => exact ⟨j + 1, by omega, by go_num, N1.out, N2.out⟩
        case measure => simp [intOf]; omega
      · obtain rfl : j = m := by omega
        have d0 := cell_at HB.out HL1.out.1
        have d1 := cell_at HB.out HL1.out.2
        have hwl := lt_of_cell HL1.out.1
        have hws := HB.out.size
        have hw1 := HB1.out.size
        clear IH HC1 HL1 HJ hz0 hz1 hz2 q0 q1 hlt
        rcases (show kk = 0 ∨ kk = 1 ∨ kk = 2 ∨ kk = 3 ∨ kk = 4 ∨ kk = 5 ∨ kk = 6 ∨ kk = 7 ∨ kk = 8 by omega) with rfl | rfl | rfl | rfl | rfl | rfl | rfl | rfl | rfl
        · have G : Hid (GivesF nf w.heap.size w (fun fs => topV 0 vv fs (fun j => R j fs)) (.returned (.func (.func 118) #[] #[.pointer (some ⟨w.heap.size, 0, none⟩)])) wr) := ⟨_, rfl, by simp only [topV_zero]; exact fnv_num nf w.heap.size wr.heap.size w.heap.size vv wr (Nat.le_refl _) (by omega) (Nat.le_refl _) d1, HW.out⟩
          clear HP1 HR I9 HN
          go_wp2
          go_ret
          exact G.out
        · obtain ⟨rfl, v0, v4⟩ := HP1.out rfl
          obtain ⟨kv, rfl⟩ := Int.eq_ofNat_of_zero_le v0
          have G : Hid (GivesF false w.heap.size w (fun fs => topV 1 (kv : Int) fs (fun j => R j fs)) (.returned (.func (.func 119) #[] #[.pointer (some ⟨w.heap.size, 0, none⟩)])) wr) := ⟨_, rfl, by simp only [topV_one, Int.toNat_natCast]; exact fnv_field w.heap.size wr.heap.size w.heap.size kv wr (Nat.le_refl _) (by omega) (Nat.le_refl _) (by omega) d1, HW.out⟩
          clear HP1 HR I9 HN
          go_wp2
          go_ret
          exact G.out
        · obtain rfl : j = 2 := HN.out.symm
          obtain ⟨gg, gc, rfl, hgB, hgl⟩ := HR.out.form (by omega)
          obtain ⟨F0, l0, h0, c0, m0, f0⟩ := HR.out.at_ (q := 0) (by omega)
          obtain ⟨F1, l1, h1, c1, m1, f1⟩ := HR.out.at_ (q := 1) (by omega)
          have CC := Lib.hid (c_combine nf 2 gg gc w.heap.size l0 l1 h0 h1 _ F0 F1 (R 0) (R 1) wr opF2 HW.out.size (by omega) c0 c1 f0 f1 (by omega) (by omega) (I9.out 0 (by omega)) (I9.out 1 (by omega)))
          clear c0 c1 f0 f1 HR I9 HN HP1
          go_wp2_with fail
          refine CC.out.mono ?_
          rintro e w9 ⟨F, rfl, hF, hb9⟩
          have G : Hid (GivesF nf w.heap.size w (fun fs => topV 2 vv fs (fun j => R j fs)) (.returned F) w9) := ⟨F, rfl, by simp only [topV_bin (show (2 : Int) ≤ 2 ∧ (2 : Int) ≤ 5 by omega)]; exact hF, HW.out.trans (hb9.mono HW.out.size)⟩
          clear hF hb9 CC
          go_wp2
          go_ret
          exact G.out
        · obtain rfl : j = 2 := HN.out.symm
          obtain ⟨gg, gc, rfl, hgB, hgl⟩ := HR.out.form (by omega)
          obtain ⟨F0, l0, h0, c0, m0, f0⟩ := HR.out.at_ (q := 0) (by omega)
          obtain ⟨F1, l1, h1, c1, m1, f1⟩ := HR.out.at_ (q := 1) (by omega)
          have CC := Lib.hid (c_combine nf 3 gg gc w.heap.size l0 l1 h0 h1 _ F0 F1 (R 0) (R 1) wr opF3 HW.out.size (by omega) c0 c1 f0 f1 (by omega) (by omega) (I9.out 0 (by omega)) (I9.out 1 (by omega)))
          clear c0 c1 f0 f1 HR I9 HN HP1
          go_wp2_with fail
          refine CC.out.mono ?_
          rintro e w9 ⟨F, rfl, hF, hb9⟩
          have G : Hid (GivesF nf w.heap.size w (fun fs => topV 3 vv fs (fun j => R j fs)) (.returned F) w9) := ⟨F, rfl, by simp only [topV_bin (show (2 : Int) ≤ 3 ∧ (3 : Int) ≤ 5 by omega)]; exact hF, HW.out.trans (hb9.mono HW.out.size)⟩
          clear hF hb9 CC
          go_wp2
          go_ret
          exact G.out
        · obtain rfl : j = 2 := HN.out.symm
          obtain ⟨gg, gc, rfl, hgB, hgl⟩ := HR.out.form (by omega)
          obtain ⟨F0, l0, h0, c0, m0, f0⟩ := HR.out.at_ (q := 0) (by omega)
          obtain ⟨F1, l1, h1, c1, m1, f1⟩ := HR.out.at_ (q := 1) (by omega)
          have CC := Lib.hid (c_combine nf 4 gg gc w.heap.size l0 l1 h0 h1 _ F0 F1 (R 0) (R 1) wr opF4 HW.out.size (by omega) c0 c1 f0 f1 (by omega) (by omega) (I9.out 0 (by omega)) (I9.out 1 (by omega)))
          clear c0 c1 f0 f1 HR I9 HN HP1
          go_wp2_with fail
          refine CC.out.mono ?_
          rintro e w9 ⟨F, rfl, hF, hb9⟩
          have G : Hid (GivesF nf w.heap.size w (fun fs => topV 4 vv fs (fun j => R j fs)) (.returned F) w9) := ⟨F, rfl, by simp only [topV_bin (show (2 : Int) ≤ 4 ∧ (4 : Int) ≤ 5 by omega)]; exact hF, HW.out.trans (hb9.mono HW.out.size)⟩
          clear hF hb9 CC
          go_wp2
          go_ret
          exact G.out
        · obtain rfl : j = 2 := HN.out.symm
          obtain ⟨gg, gc, rfl, hgB, hgl⟩ := HR.out.form (by omega)
          obtain ⟨F0, l0, h0, c0, m0, f0⟩ := HR.out.at_ (q := 0) (by omega)
          obtain ⟨F1, l1, h1, c1, m1, f1⟩ := HR.out.at_ (q := 1) (by omega)
          have CC := Lib.hid (c_combine nf 5 gg gc w.heap.size l0 l1 h0 h1 _ F0 F1 (R 0) (R 1) wr opF5 HW.out.size (by omega) c0 c1 f0 f1 (by omega) (by omega) (I9.out 0 (by omega)) (I9.out 1 (by omega)))
          clear c0 c1 f0 f1 HR I9 HN HP1
          go_wp2_with fail
          refine CC.out.mono ?_
          rintro e w9 ⟨F, rfl, hF, hb9⟩
          have G : Hid (GivesF nf w.heap.size w (fun fs => topV 5 vv fs (fun j => R j fs)) (.returned F) w9) := ⟨F, rfl, by simp only [topV_bin (show (2 : Int) ≤ 5 ∧ (5 : Int) ≤ 5 by omega)]; exact hF, HW.out.trans (hb9.mono HW.out.size)⟩
          clear hF hb9 CC
          go_wp2
          go_ret
          exact G.out
        · obtain rfl : j = 4 := HN.out.symm
          obtain ⟨gg, gc, rfl, hgB, hgl⟩ := HR.out.form (by omega)
          obtain ⟨F0, l0, h0, c0, m0, f0⟩ := HR.out.at_ (q := 0) (by omega)
          obtain ⟨F1, l1, h1, c1, m1, f1⟩ := HR.out.at_ (q := 1) (by omega)
          obtain ⟨F2, l2, h2, c2, m2, f2⟩ := HR.out.at_ (q := 2) (by omega)
          obtain ⟨F3, l3, h3, c3, m3, f3⟩ := HR.out.at_ (q := 3) (by omega)
          have CC := Lib.hid (c_choose nf 6 gg gc w.heap.size l0 l1 l2 l3 h0 h1 h2 h3 _ F0 F1 F2 F3 (R 0) (R 1) (R 2) (R 3) wr testF6 HW.out.size (by omega) c0 c1 c2 c3 f0 f1 f2 f3 (by omega) (by omega) (by omega) (by omega) (I9.out 0 (by omega)) (I9.out 1 (by omega)))
          clear c0 c1 c2 c3 f0 f1 f2 f3 HR I9 HN HP1
          go_wp2_with fail
          refine CC.out.mono ?_
          rintro e w9 ⟨F, rfl, hF, hb9⟩
          have G : Hid (GivesF nf w.heap.size w (fun fs => topV 6 vv fs (fun j => R j fs)) (.returned F) w9) := ⟨F, rfl, by simp only [topV_cho (show (6 : Int) ≤ 6 by omega)]; exact hF, HW.out.trans (hb9.mono HW.out.size)⟩
          clear hF hb9 CC
          go_wp2
          go_ret
          exact G.out
        · obtain rfl : j = 4 := HN.out.symm
          obtain ⟨gg, gc, rfl, hgB, hgl⟩ := HR.out.form (by omega)
          obtain ⟨F0, l0, h0, c0, m0, f0⟩ := HR.out.at_ (q := 0) (by omega)
          obtain ⟨F1, l1, h1, c1, m1, f1⟩ := HR.out.at_ (q := 1) (by omega)
          obtain ⟨F2, l2, h2, c2, m2, f2⟩ := HR.out.at_ (q := 2) (by omega)
          obtain ⟨F3, l3, h3, c3, m3, f3⟩ := HR.out.at_ (q := 3) (by omega)
          have CC := Lib.hid (c_choose nf 7 gg gc w.heap.size l0 l1 l2 l3 h0 h1 h2 h3 _ F0 F1 F2 F3 (R 0) (R 1) (R 2) (R 3) wr testF7 HW.out.size (by omega) c0 c1 c2 c3 f0 f1 f2 f3 (by omega) (by omega) (by omega) (by omega) (I9.out 0 (by omega)) (I9.out 1 (by omega)))
          clear c0 c1 c2 c3 f0 f1 f2 f3 HR I9 HN HP1
          go_wp2_with fail
          refine CC.out.mono ?_
          rintro e w9 ⟨F, rfl, hF, hb9⟩
          have G : Hid (GivesF nf w.heap.size w (fun fs => topV 7 vv fs (fun j => R j fs)) (.returned F) w9) := ⟨F, rfl, by simp only [topV_cho (show (6 : Int) ≤ 7 by omega)]; exact hF, HW.out.trans (hb9.mono HW.out.size)⟩
          clear hF hb9 CC
          go_wp2
          go_ret
          exact G.out
        · obtain rfl : j = 4 := HN.out.symm
          obtain ⟨gg, gc, rfl, hgB, hgl⟩ := HR.out.form (by omega)
          obtain ⟨F0, l0, h0, c0, m0, f0⟩ := HR.out.at_ (q := 0) (by omega)
          obtain ⟨F1, l1, h1, c1, m1, f1⟩ := HR.out.at_ (q := 1) (by omega)
          obtain ⟨F2, l2, h2, c2, m2, f2⟩ := HR.out.at_ (q := 2) (by omega)
          obtain ⟨F3, l3, h3, c3, m3, f3⟩ := HR.out.at_ (q := 3) (by omega)
          have CC := Lib.hid (c_choose nf 8 gg gc w.heap.size l0 l1 l2 l3 h0 h1 h2 h3 _ F0 F1 F2 F3 (R 0) (R 1) (R 2) (R 3) wr testF8 HW.out.size (by omega) c0 c1 c2 c3 f0 f1 f2 f3 (by omega) (by omega) (by omega) (by omega) (I9.out 0 (by omega)) (I9.out 1 (by omega)))
          clear c0 c1 c2 c3 f0 f1 f2 f3 HR I9 HN HP1
          go_wp2_with fail
          refine CC.out.mono ?_
          rintro e w9 ⟨F, rfl, hF, hb9⟩
          have G : Hid (GivesF nf w.heap.size w (fun fs => topV 8 vv fs (fun j => R j fs)) (.returned F) w9) := ⟨F, rfl, by simp only [topV_cho (show (6 : Int) ≤ 8 by omega)]; exact hF, HW.out.trans (hb9.mono HW.out.size)⟩
          clear hF hb9 CC
          go_wp2
          go_ret
          exact G.out
end Go.Proofs.Ytdodmcmkelegoaa
