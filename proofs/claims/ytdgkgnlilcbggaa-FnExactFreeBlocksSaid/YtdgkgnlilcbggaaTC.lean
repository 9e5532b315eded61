/-
Flows, plain: ways from the source whose arcs lead a step farther each, and what flows along them.
Contract: what a way has room for flows along it, in the program.
Contract: the program's greatest flow, given what it lets flow along shortest ways.
Contracts: the program's answers about greatest flows and cuts, given what fillNetwork gives.
A scope in which the run jumps back to one label, with a ghost; plain facts of the search for ways.
Contract: what can flows along shortest ways, in the program.
Contract: what can flows along shortest ways, in the program.
Contracts: least and greatest cuts, in the program.
Contracts: the greatest flow, and how it turns with a capacity, in the program.
-/
import Derived.Test.YtdgkgnlilcbggaaZU
import Derived.Test.YtdgkgnlilcbggaaZW
import Derived.Test.YtdgkgnlilcbggaaTA
import Derived.Test.YtdgkgnlilcbggaaTB
import Derived.Test.YtdgkgnlilcbggaaZH
import Derived.ScopeJumps
namespace Go.Proofs.Ytdgkgnlilcbggaa
open Go.RowKit
set_option linter.unusedVariables false

/-- A way from node 0 to node z: arcs with room, each of which leads a step farther. -/
structure WayOk (fr tg : Nat → Nat) (m : Nat) (R d : List Int) (P : Nat → Nat) (len z : Nat) : Prop where
  arc : ∀ i, i < len → P i < 2 * m
  room : ∀ i, i < len → 0 < R.getD (P i) 0
  first : 0 < len → tlA fr tg (P 0) = 0
  link : ∀ i, i + 1 < len → hdA fr tg (P i) = tlA fr tg (P (i + 1))
  last : z = if len = 0 then 0 else hdA fr tg (P (len - 1))
  lev : ∀ i, i < len → d.getD (tlA fr tg (P i)) 0 = i ∧ d.getD (hdA fr tg (P i)) 0 = i + 1
theorem WayOk.nil (fr tg : Nat → Nat) (m : Nat) (R d : List Int) (P : Nat → Nat) : WayOk fr tg m R d P 0 0 :=
  ⟨fun i h => by omega, fun i h => by omega, fun h => by omega, fun i h => by omega, rfl, fun i h => by omega⟩
theorem WayOk.level {fr tg : Nat → Nat} {m : Nat} {R d : List Int} {P : Nat → Nat} {len z : Nat} (h : WayOk fr tg m R d P len z) (h0 : d.getD 0 0 = 0) : d.getD z 0 = len := by
  rw [h.last]
  by_cases e : len = 0
  · rw [if_pos e, h0, e]; rfl
  · rw [if_neg e, (h.lev (len - 1) (by omega)).2]; omega
theorem WayOk.apart {fr tg : Nat → Nat} {m : Nat} {R d : List Int} {P : Nat → Nat} {len z : Nat} (h : WayOk fr tg m R d P len z) {i j : Nat} (hij : i < j) (hj : j < len) : P j ≠ P i ∧ P j ≠ revA (P i) := by
  obtain ⟨a1, a2⟩ := h.lev i (by omega)
  obtain ⟨b1, b2⟩ := h.lev j hj
  refine ⟨fun e => by rw [e] at b1; omega, fun e => ?_⟩
  rw [e, tl_rev] at b1
  rw [e, hd_rev] at b2
  omega
/-- One arc more. -/
theorem WayOk.push {fr tg : Nat → Nat} {m : Nat} {R d : List Int} {P : Nat → Nat} {len z a : Nat} (h : WayOk fr tg m R d P len z) (h0 : d.getD 0 0 = 0) (ha : a < 2 * m) (ht : tlA fr tg a = z) (hr : 0 < R.getD a 0) (hl : d.getD (hdA fr tg a) 0 = d.getD z 0 + 1) : WayOk fr tg m R d (upd P len a) (len + 1) (hdA fr tg a) := by
  have hz := h.level h0
  have e : ∀ i, i < len → upd P len a i = P i := fun i hi => upd_far _ _ (by omega)
  refine ⟨fun i hi => ?_, fun i hi => ?_, fun _ => ?_, fun i hi => ?_, by rw [if_neg (by omega), Nat.add_sub_cancel, upd_same], fun i hi => ?_⟩
  · by_cases c : i = len
    · subst c; rw [upd_same]; exact ha
    · rw [e i (by omega)]; exact h.arc i (by omega)
  · by_cases c : i = len
    · subst c; rw [upd_same]; exact hr
    · rw [e i (by omega)]; exact h.room i (by omega)
  · by_cases c : len = 0
    · subst c
      rw [upd_same, ht, h.last]; rfl
    · rw [e 0 (by omega)]; exact h.first (by omega)
  · by_cases c : i + 1 = len
    · rw [e i (by omega), c, upd_same, ht, h.last, if_neg (by omega)]
      congr 2; omega
    · rw [e i (by omega), e (i + 1) (by omega)]; exact h.link i (by omega)
  · by_cases c : i = len
    · subst c; rw [upd_same, ht, hl, hz]; exact ⟨rfl, rfl⟩
    · rw [e i (by omega)]; exact h.lev i (by omega)
/-- One arc back. -/
theorem WayOk.pop {fr tg : Nat → Nat} {m : Nat} {R d : List Int} {P : Nat → Nat} {len z : Nat} (h : WayOk fr tg m R d P (len + 1) z) : WayOk fr tg m R d P len (tlA fr tg (P len)) ∧ z = hdA fr tg (P len) := by
  refine ⟨⟨fun i hi => h.arc i (by omega), fun i hi => h.room i (by omega), fun hl => h.first (by omega), fun i hi => h.link i (by omega), ?_, fun i hi => h.lev i (by omega)⟩, ?_⟩
  · by_cases c : len = 0
    · subst c
      rw [if_pos rfl]; exact h.first (by omega)
    · rw [if_neg c, h.link (len - 1) (by omega)]
      congr 2; omega
  · have := h.last
    rw [if_neg (by omega), Nat.add_sub_cancel] at this
    exact this

/-- x flows along the first k arcs. -/
def sendTo (R : List Int) (P : Nat → Nat) (x : Int) : Nat → List Int
  | 0 => R
  | k + 1 => sendA (sendTo R P x k) (P k) x
theorem sendTo_len (R : List Int) (P : Nat → Nat) (x : Int) : ∀ k, (sendTo R P x k).length = R.length
  | 0 => rfl
  | k + 1 => by unfold sendTo; rw [send_len, sendTo_len R P x k]
theorem sendTo_far {fr tg : Nat → Nat} {m : Nat} {R d : List Int} {P : Nat → Nat} {len z : Nat} (h : WayOk fr tg m R d P len z) (hR : R.length = 2 * m) (x : Int) : ∀ (k j : Nat), k ≤ j → j < len → (sendTo R P x k).getD (P j) 0 = R.getD (P j) 0
  | 0, _, _, _ => rfl
  | k + 1, j, hk, hj => by
    obtain ⟨e1, e2⟩ := h.apart (show k < j by omega) hj
    unfold sendTo
    rw [send_far (by rw [sendTo_len]; exact hR) (h.arc k (by omega)) _ e1 e2]
    exact sendTo_far h hR x k j (by omega) hj
theorem sendTo_res {fr tg : Nat → Nat} {cp : Nat → Int} {m : Nat} {R d : List Int} {P : Nat → Nat} {len z : Nat} (h : WayOk fr tg m R d P len z) (hr : Res cp m R) {x : Int} (hx : 0 ≤ x) (hm : ∀ i, i < len → x ≤ R.getD (P i) 0) : ∀ k, k ≤ len → Res cp m (sendTo R P x k)
  | 0, _ => hr
  | k + 1, hk => send_res (sendTo_res h hr hx hm k (by omega)) (h.arc k (by omega)) hx (by rw [sendTo_far h hr.len x k k (Nat.le_refl _) (by omega)]; exact hm k (by omega))
theorem sendTo_net {fr tg : Nat → Nat} {m : Nat} {R d : List Int} {P : Nat → Nat} {len z : Nat} (h : WayOk fr tg m R d P len z) (hR : R.length = 2 * m) (x : Int) (p : Nat → Bool) : ∀ k, k ≤ len → 0 < k → net fr tg m (sendTo R P x k) p = net fr tg m R p + x * (io (p 0) - io (p (hdA fr tg (P (k - 1)))))
  | k + 1, hk, _ => by
    unfold sendTo
    rw [send_net (by rw [sendTo_len]; exact hR) (h.arc k (by omega))]
    by_cases c : k = 0
    · subst c
      rw [h.first (by omega)]; rfl
    · rw [sendTo_net h hR x p k (by omega) (by omega), ← (show hdA fr tg (P (k - 1)) = tlA fr tg (P k) by rw [h.link (k - 1) (by omega)]; congr 2; omega), Nat.add_sub_cancel, Int.mul_sub, Int.mul_sub, Int.mul_sub]
      omega
/-- The least room of the first k arcs, and no more than x. -/
def leastR (R : List Int) (P : Nat → Nat) (x : Int) : Nat → Int
  | 0 => x
  | k + 1 => min (leastR R P x k) (R.getD (P k) 0)
theorem leastR_le (R : List Int) (P : Nat → Nat) (x : Int) : ∀ k, leastR R P x k ≤ x ∧ ∀ i, i < k → leastR R P x k ≤ R.getD (P i) 0
  | 0 => ⟨Int.le_refl _, fun i hi => by omega⟩
  | k + 1 => by
    obtain ⟨h1, h2⟩ := leastR_le R P x k
    refine ⟨by unfold leastR; omega, fun i hi => ?_⟩
    by_cases c : i = k
    · subst c; unfold leastR; omega
    · have := h2 i (by omega)
      unfold leastR; omega
theorem leastR_pos {R : List Int} {P : Nat → Nat} {x : Int} (hx : 0 < x) : ∀ k, (∀ i, i < k → 0 < R.getD (P i) 0) → 0 < leastR R P x k
  | 0, _ => hx
  | k + 1, h => by
    have h1 := leastR_pos hx k fun i hi => h i (by omega)
    have h2 := h k (by omega)
    unfold leastR; omega
end Go.Proofs.Ytdgkgnlilcbggaa

namespace Go.Proofs.Ytdgkgnlilcbggaa
open Go.RowKit
set_option linter.unusedVariables false

set_option maxHeartbeats 16000000 in
set_option maxRecDepth 100000 in
theorem c_fillWay (m B br cr bw cw len z : Nat) (fr tg : Nat → Nat) (cp : Nat → Int) (R d : List Int) (P : Nat → Nat) (A0 A1 : Option Addr) (l0 c0 l1 c1 : Nat) (w : World) (n3 : m ≤ 8000) (hW : WayOk fr tg m R d P len z) (hl0 : 0 < len) (hl1 : len ≤ 16000) (hres : Res cp m R) (hcp : ∀ k, k < m → cp k ≤ 1000000000) (hrow : Row w B (.slice (some ⟨br, 0, none⟩) (2 * m) cr) R) (hne : bw ≠ br) (hbw : bw < w.heap.size) (hway : ∀ i, i < len → w.cell? ⟨bw, i, none⟩ = some (.int .i64 (P i))) :
    Calls Try.prog 74 #[.agg #[.slice A0 l0 c0, .slice (some ⟨br, 0, none⟩) (2 * m) cr, .slice A1 l1 c1], .slice (some ⟨bw, 0, none⟩) len cw] w fun e w' => ∃ x : Int, e = .returned (.int .i64 x) ∧ 0 < x ∧ (∀ i, i < len → x ≤ R.getD (P i) 0) ∧ Row w' B (.slice (some ⟨br, 0, none⟩) (2 * m) cr) (sendTo R P x len) ∧ w.grownBy w' (some br) := by
  have hbr := (World.ownsRow.lt hrow br rfl).2
  have HA : Hid (∀ i, i < len → P i < 2 * m) := hW.arc
  have HWay := Lib.hid hway
  have HR := Lib.hid hrow
  have HRl : Hid (2 * m = R.length) := hres.len.symm
  have HX0 : Hid (0 < R.getD (P 0) 0) := hW.room 0 hl0
  have HLe := Lib.hid (leastR_le R P (R.getD (P 0) 0))
  have HLp := Lib.hid (fun k (hk : k ≤ len) => leastR_pos (R := R) (P := P) (x := R.getD (P 0) 0) (hW.room 0 hl0) k fun i hi => hW.room i (by omega))
  have HLs : Hid (∀ k, leastR R P (R.getD (P 0) 0) (k + 1) = min (leastR R P (R.getD (P 0) 0) k) (R.getD (P k) 0)) := fun k => rfl
  have HLz : Hid (leastR R P (R.getD (P 0) 0) 0 = R.getD (P 0) 0) := rfl
  have HW := Lib.hid hW
  have HRes := Lib.hid hres
  have HCP := Lib.hid hcp
  have hc : Hid (∀ i, i < len → w.cell? ⟨br, P i, none⟩ = some (.int .i64 (R.getD (P i) 0))) := fun i hi => (row_at HRl.out hrow (P i) (hW.arc i hi)).1
  have q0 := hway 0 hl0
  have q1 := hc.out 0 hl0
  have a0 := hW.arc 0 hl0
  have r0 := hres.lo (P 0) a0
  clear hW hway hrow hres hcp
  have hLhi : Hid (∀ k, k ≤ len → 0 < leastR R P (R.getD (P 0) 0) k ∧ leastR R P (R.getD (P 0) 0) k ≤ R.getD (P 0) 0) := fun k hk => ⟨HLp.out k hk, (HLe.out k).1⟩
  have HB0 : Hid (R.getD (P 0) 0 ≤ 1000000000) := by
    have h1 := res_pair HRes.out a0
    have h2 := HRes.out.lo _ (revA_lt a0)
    have h3 := HCP.out (P 0 / 2) (by omega)
    show _ ≤ _
    omega
  generalize hL : leastR R P (R.getD (P 0) 0) = L at *
  clear hL
  generalize hy0 : R.getD (P 0) 0 = y0 at *
  clear hy0
  have b0 : (0 : Int) < (len : Int) := by omega
  have b1 : (0 : Int) ≤ (P 0 : Int) := by omega
  have b2 : (P 0 : Int) < 2 * (m : Int) := by omega
  have b3 : (P 0 : Int) < ((2 * m : Nat) : Int) := by omega
  go_enter Try.func74, Try.ntmps74
  go_wp2_with fail
  go_region
  go_wp2_with fail
  clear q0 q1 b1 b2 b3
  go_loop [5, 19] (fun x i => ∃ k : Nat, k ≤ len ∧ i = .int .i64 k ∧ x = .int .i64 (L k)) (fun _ i => len - (RowKit.intOf i).toNat)
  case atStart => exact ⟨0, Nat.zero_le _, rfl, by rw [HLz.out]⟩
  case round =>
    obtain ⟨k, hk, rfl, rfl⟩ := hrel
    by_cases hlt : k < len
    · have q0 := HWay.out k hlt
      have q1 := hc.out k hlt
      have a1 := HA.out k hlt
      have HS := Lib.hid (HLs.out k)
      obtain ⟨s1, s2⟩ := hLhi.out k hk
      have r1 := HRes.out.lo (P k) a1
      generalize P k = a at *
      generalize hra : R.getD a 0 = ra at *
      clear hra
      have hmin : (if ra < L k then ra else L k) = min (L k) ra := by split <;> omega
      have HM := Lib.hid hmin
      have b1 : (0 : Int) ≤ (k : Int) := by omega
      have b2 : (k : Int) < (len : Int) := by omega
      have b3 : (0 : Int) ≤ (a : Int) := by omega
      have b4 : (a : Int) < 2 * (m : Int) := by omega
      have b5 : (a : Int) < ((2 * m : Nat) : Int) := by omega
      clear hmin
      go_wp2
      go_round
      case rel => exact ⟨k + 1, by omega, by go_num, by rw [HM.out, HS.out]⟩
      case measure => simp [RowKit.intOf]; omega
    · obtain rfl : k = len := by omega
      obtain ⟨x1, x2⟩ := hLhi.out k (Nat.le_refl _)
      have HXm := Lib.hid ((HLe.out k).2)
      have HSr := Lib.hid (fun j hj => sendTo_res HW.out HRes.out (Int.le_of_lt x1) HXm.out j hj)
      have HSf := Lib.hid (sendTo_far HW.out HRes.out.len (L k))
      have HSs : Hid (∀ j, sendTo R P (L k) (j + 1) = sendA (sendTo R P (L k) j) (P j) (L k)) := fun j => rfl
      have HSz : Hid (sendTo R P (L k) 0 = R) := rfl
      have HG0 : Hid (w.grownBy (w.alloc (.cells #[.slice A0 l0 c0, .slice (some ⟨br, 0, none⟩) (2 * m) cr, .slice A1 l1 c1] 75)).drew (some br)) := grow_below ((Below.refl _ _).alloc (Nat.le_refl _) _).drew (some br)
      have HR1 : Hid (Row (w.alloc (.cells #[.slice A0 l0 c0, .slice (some ⟨br, 0, none⟩) (2 * m) cr, .slice A1 l1 c1] 75)).drew B (.slice (some ⟨br, 0, none⟩) (2 * m) cr) R) := World.ownsRow.alloc HR.out _
      have HC1 : Hid ((w.alloc (.cells #[.slice A0 l0 c0, .slice (some ⟨br, 0, none⟩) (2 * m) cr, .slice A1 l1 c1] 75)).drew.cell? ⟨w.heap.size, 1, none⟩ = some (.slice (some ⟨br, 0, none⟩) (2 * m) cr)) := by show _ = _; simp
      have HSZ : Hid ((w.alloc (.cells #[.slice A0 l0 c0, .slice (some ⟨br, 0, none⟩) (2 * m) cr, .slice A1 l1 c1] 75)).drew.heap.size = w.heap.size + 1) := by show _ = _; simp
      have HW1 : Hid (∀ i, i < k → (w.alloc (.cells #[.slice A0 l0 c0, .slice (some ⟨br, 0, none⟩) (2 * m) cr, .slice A1 l1 c1] 75)).drew.cell? ⟨bw, i, none⟩ = some (.int .i64 (P i))) := fun i hi => by
        have hb : Below w.heap.size w (w.alloc (.cells #[.slice A0 l0 c0, .slice (some ⟨br, 0, none⟩) (2 * m) cr, .slice A1 l1 c1] 75)).drew := ((Below.refl _ _).alloc (Nat.le_refl _) _).drew
        rw [hb.cell (p := ⟨bw, i, none⟩) hbw]; exact HWay.out i hi
      have HCp : Hid (∀ j, j < k → cp (P j / 2) ≤ 1000000000) := fun j hj => HCP.out _ (by have := HA.out j hj; omega)
      clear HLe HLp HLs HLz HX0 hc HWay
      generalize L k = x at *
      clear hLhi
      go_wp2_with fail
      generalize (w.alloc (.cells #[.slice A0 l0 c0, .slice (some ⟨br, 0, none⟩) (2 * m) cr, .slice A1 l1 c1] 75)).drew = w1 at *
      go_loopw [33] (fun i wr => ∃ j : Nat, j ≤ k ∧ i = .int .i64 j ∧ Row wr B (.slice (some ⟨br, 0, none⟩) (2 * m) cr) (sendTo R P x j) ∧ w1.grownBy wr (some br)) (fun i _ => k - (RowKit.intOf i).toNat)
      case atStart => exact ⟨0, Nat.zero_le _, rfl, by rw [HSz.out]; exact HR1.out, ⟨rfl, rfl, rfl, Nat.le_refl _, fun _ _ _ => rfl⟩⟩
      case round =>
        obtain ⟨j, hj, rfl, hrow, hg⟩ := hrel
        have HRow := Lib.hid hrow
        have HG := Lib.hid hg
        clear hrow hg
        by_cases hlt2 : j < k
        · have hres := HSr.out j hj
          have q0 : wr.cell? ⟨bw, j, none⟩ = some (.int .i64 (P j)) := by
            rw [HG.out.cell_far ⟨bw, j, none⟩ (by have := HSZ.out; show bw < _; omega) (by simp [hne])]; exact HW1.out j hlt2
          have q1 : wr.cell? ⟨w.heap.size, 1, none⟩ = some (.slice (some ⟨br, 0, none⟩) (2 * m) cr) := by
            rw [HG.out.cell_far ⟨w.heap.size, 1, none⟩ (by have := HSZ.out; show w.heap.size < _; omega) (by simp; omega)]; exact HC1.out
          have ha := HA.out j hlt2
          have hrl := revA_lt ha
          obtain ⟨p7, z7⟩ := row_at hres.len.symm HRow.out (P j) ha
          obtain ⟨p8, z8⟩ := row_at hres.len.symm HRow.out (revA (P j)) hrl
          have hpair := res_pair hres ha
          have hcpa := HCp.out j hlt2
          have hr0' := hres.lo (revA (P j)) hrl
          have hsame := HSf.out j j (Nat.le_refl _) hlt2
          have hxm := HXm.out j hlt2
          have M1 := (Row.set_ hres.len.symm HRow.out (P j) ((sendTo R P x j).getD (P j) 0 - x)).1
          have M2 := Lib.hid ((Row.set_ (by rw [List.length_set]; exact hres.len.symm) M1 (revA (P j)) ((sendTo R P x j).getD (revA (P j)) 0 + x)).1)
          have q8 : (wr.setCell ⟨br, P j, none⟩ (.int .i64 ((sendTo R P x j).getD (P j) 0 - x))).cell? ⟨br, revA (P j), none⟩ = some (.int .i64 ((sendTo R P x j).getD (revA (P j)) 0)) := by rw [cell_off _ _ _ _ _ (Ne.symm (revA_ne (P j)))]; exact p8
          have hxo := i64_xor_one (P j) (by omega)
          have M4 : Hid (Row ((wr.setCell ⟨br, P j, none⟩ (.int .i64 ((sendTo R P x j).getD (P j) 0 - x))).setCell ⟨br, revA (P j), none⟩ (.int .i64 ((sendTo R P x j).getD (revA (P j)) 0 + x))) B (.slice (some ⟨br, 0, none⟩) (2 * m) cr) (sendTo R P x (j + 1))) := by rw [HSs.out]; exact M2.out
          have M3 : Hid (w1.grownBy ((wr.setCell ⟨br, P j, none⟩ (.int .i64 ((sendTo R P x j).getD (P j) 0 - x))).setCell ⟨br, revA (P j), none⟩ (.int .i64 ((sendTo R P x j).getD (revA (P j)) 0 + x))) (some br)) := grown_trans (grown_trans HG.out (set_grown _ ⟨br, P j, none⟩ _)) (set_grown _ ⟨br, revA (P j), none⟩ _)
          have nbr : w.heap.size ≠ br := by omega
          clear M1 M2 p8 hres
          rw [hsame] at p7 hpair q8 M3 M4
          generalize hry : (sendTo R P x j).getD (revA (P j)) 0 = y at *
          clear hry hsame
          generalize hrv : revA (P j) = rv at *
          clear hrv
          generalize hra : R.getD (P j) 0 = ra at *
          clear hra
          generalize P j = a at *
          have b1 : (0 : Int) ≤ (j : Int) := by omega
          have b2 : (j : Int) < (k : Int) := by omega
          have b3 : (0 : Int) ≤ (a : Int) := by omega
          have b4 : (a : Int) < 2 * (m : Int) := by omega
          have b5 : (a : Int) < ((2 * m : Nat) : Int) := by omega
          have c1 : (0 : Int) ≤ (rv : Int) := by omega
          have c2 : (rv : Int) < ((2 * m : Nat) : Int) := by omega
          have c3 : (rv : Int) < 2 * (m : Int) := by omega
          go_wp2
          go_roundw
          case rel => exact ⟨j + 1, by omega, by go_num, M4.out, M3.out⟩
          case measure => simp [RowKit.intOf]; omega
        · obtain rfl : j = k := by omega
          have GF : Hid (w.grownBy wr (some br)) := by
            have h0 := HG0.out
            exact grown_trans h0 HG.out
          go_wp2
          go_ret
          exact ⟨x, rfl, x1, HXm.out, HRow.out, GF.out⟩
end Go.Proofs.Ytdgkgnlilcbggaa

namespace Go.Proofs.Ytdgkgnlilcbggaa
open Go.RowKit
set_option linter.unusedVariables false

/-- The room has turned. -/
theorem RQ.turn {w w' : World} {B g gl n m : Nat} {vs : Nat → Value} {fr tg : Nat → Nat} {R R' : List Int} (h : RQ w B g 0 gl n 75 vs (netX fr tg n m R)) (hr : Row w' B (vs 1) R') (hg : w.grownBy w' (vs 1).ownBlock) : RQ w' B g 0 gl n 75 vs (netX fr tg n m R') := by
  have h1 : Row w B (vs 1) R := h.fam.row 1 (by omega)
  have k1 : (vs 1).ownBlock ≠ some g := own_off h1 h.ty residual_ne.1
  have k2 : (vs 1).ownBlock ≠ some gl := own_off h1 (own_gl h.own) (by decide)
  have lg := h.ty.lt
  have hb := hg.block g lg (fun e => k1 e.symm)
  refine ⟨(h.fam.turn (i := 1) (by omega) hr hg).congr fun i _ => netX_upd _ _ _ _ _ _ i, World.ownsRow.kept h.own hg (.inr (by simp only [Value.ownBlock]; exact fun e => k2 e.symm)), ?_, ?_, ?_, fun j => ?_, h.ty.grown hg k1⟩
  · rw [World.cell?_of_block (w := w) (a := ⟨g, 0, none⟩) hb]; exact h.c0
  · rw [World.cell?_of_block (w := w) (a := ⟨g, 0 + 1, none⟩) hb]; exact h.c1
  · rw [World.cell?_of_block (w := w) (a := ⟨g, 0 + 2, none⟩) hb]; exact h.c2
  · rw [World.frozen?_of_block (w := w) (a := ⟨g, j, none⟩) hb]; exact h.fz j
/-- What letting flow along shortest ways gives. -/
def GivesShort (w : World) (B n m : Nat) (v1 : Value) (fr tg : Nat → Nat) (cp : Nat → Int) (R : List Int) (e : Ending) (w' : World) : Prop :=
  ∃ (x : Int) (R' : List Int), e = .returned (.int .i64 x) ∧ 0 < x ∧ Res cp m R' ∧ Row w' B v1 R' ∧ (∀ p : Nat → Bool, p 0 = true → p (n - 1) = false → net fr tg m R' p = net fr tg m R p + x) ∧ w.grownBy w' v1.ownBlock
/-- That it does so. -/
def ShortHolds (n m : Nat) (fr tg : Nat → Nat) (cp : Nat → Int) : Prop :=
  ∀ (B gl gd cd : Nat) (R d : List Int) (vs : Nat → Value) (w : World), Fam w B (n + 2) vs (netX fr tg n m R) → w.ownsRow B 23 1 (.slice (some ⟨gl, 0, none⟩) n n) n (mapR n vs) → Res cp m R → Lev n fr tg m R d → 0 ≤ d.getD (n - 1) 0 → Row w B (.slice (some ⟨gd, 0, none⟩) n cd) d → (vs 1).ownBlock ≠ some gd →
    Calls Try.prog 69 #[.agg #[vs 0, vs 1, .slice (some ⟨gl, 0, none⟩) n n], .slice (some ⟨gd, 0, none⟩) n cd] w (GivesShort w B n m (vs 1) fr tg cp R)
/-- What fillNetwork gives. -/
def GivesFill (w : World) (n m : Nat) (xs : List Int) (e : Ending) (w' : World) : Prop :=
  ∃ v d, e = .returned (.tuple #[.int .i64 (gfV n m xs), v]) ∧ Row w' w.heap.size v d ∧ d.length = n ∧ (∀ u, u < n → -1 ≤ d.getD u 0) ∧ (∀ u, u < n → gcS n m xs u = decide (0 ≤ d.getD u 0)) ∧ Below w.heap.size w w' ∧ 0 ≤ gfV n m xs ∧ gfV n m xs ≤ 8000000000000 ∧ gcS n m xs 0 = true ∧ gcS n m xs (n - 1) = false

set_option maxHeartbeats 16000000 in
set_option maxRecDepth 100000 in
theorem c_fillNetwork (n m : Nat) (xs : List Int) (v : Value) (w : World) (hn : netW n m xs = true) (hsh : ShortHolds n m (eF xs) (eT xs) (eC xs)) (h : SeenP w v m xs) :
    Calls Try.prog 52 #[.int .i64 n, v] w (GivesFill w n m xs) := by
  have C0 := Lib.hid (c_residualOf n m xs v w hn h)
  have HN := Lib.hid hn
  have HSh := Lib.hid hsh
  obtain ⟨n1, n2, n3, _⟩ := netW_true hn
  have HE : Hid (EndsIn n (eF xs) (eT xs) m) := ends_in hn
  have HCP : Hid (∀ k, k < m → eC xs k ≤ 1000000000) := fun k hk => (eF_at hn hk).2.2.2
  obtain ⟨A, c, rfl, _, _, _⟩ := h
  clear hn hsh
  go_enter Try.func52, Try.ntmps52
  go_wp2_with fail
  refine C0.out.mono ?_
  rintro e w1 ⟨gl, vs, rfl, hf, ho, hb⟩
  obtain ⟨A0, c0, s0⟩ := (show Row w1 w.heap.size (vs 0) _ from hf.row 0 (by omega)).shape
  obtain ⟨A1, c1, s1⟩ := (show Row w1 w.heap.size (vs 1) _ from hf.row 1 (by omega)).shape
  have HF := Lib.hid hf
  have HO := Lib.hid ho
  have HB := Lib.hid hb
  have S0 := Lib.hid s0
  have S1 := Lib.hid s1
  have HB1 : Hid (Below w1.heap.size w1 (w1.alloc (.cells #[vs 0, vs 1, .slice (some ⟨gl, 0, none⟩) n n] 75))) := (Below.refl _ _).alloc (Nat.le_refl _) _
  have HQ0 : Hid (RQ (w1.alloc (.cells #[vs 0, vs 1, .slice (some ⟨gl, 0, none⟩) n n] 75)) w.heap.size w1.heap.size 0 gl n 75 vs (netX (eF xs) (eT xs) n m (rmL (eC xs) m))) :=
    ⟨(hf.below HB1.out).congr fun i _ => netX_res _ _ _ _ _ i, World.ownsRow.alloc ho _, by simp, by simp, by simp, fun j => by unfold World.frozen?; rw [heap_alloc_new]; simp, TyAt.new _ _ _⟩
  have HB0 : Hid (Below w.heap.size w (w1.alloc (.cells #[vs 0, vs 1, .slice (some ⟨gl, 0, none⟩) n n] 75))) := hb.alloc hb.size _
  have hR0 : Hid (Res (eC xs) m (rmL (eC xs) m)) := rmL_res fun k hk => (eF_at HN.out hk).2.2.1
  have hN0 : Hid (∀ p : Nat → Bool, net (eF xs) (eT xs) m (rmL (eC xs) m) p = 0) := fun p => rmL_net p
  have hgw : w.heap.size ≤ w1.heap.size := hb.size
  have L0 : Hid (∀ R : List Int, netX (eF xs) (eT xs) n m R 0 = hdL (eF xs) (eT xs) m) := fun R => rfl
  clear hf ho hb HF HO HB C0
  rw [s0, s1] at HQ0 HB0 HB1 ⊢
  clear s0 s1
  generalize (resX (eF xs) (eT xs) (eC xs) n m 0).length = l0 at *
  generalize (resX (eF xs) (eT xs) (eC xs) n m 1).length = l1 at *
  go_wp2_with fail
  generalize w1.alloc (.cells #[.slice A0 l0 c0, .slice A1 l1 c1, .slice (some ⟨gl, 0, none⟩) n n] 75) = w2 at *
  go_loopw [7] (fun sv wr => ∃ (s : Int) (R : List Int), sv = .int .i64 s ∧ 0 ≤ s ∧ RQ wr w.heap.size w1.heap.size 0 gl n 75 vs (netX (eF xs) (eT xs) n m R) ∧ Res (eC xs) m R ∧ (∀ p : Nat → Bool, p 0 = true → p (n - 1) = false → net (eF xs) (eT xs) m R p = s) ∧ Below w.heap.size w wr) (fun sv _ => (8000000000001 - RowKit.intOf sv).toNat)
  case atStart => exact ⟨0, _, rfl, by omega, HQ0.out, hR0.out, fun p _ _ => hN0.out p, HB0.out⟩
  case round =>
    obtain ⟨s, R, rfl, hs0, hq, hres, hnet, hb⟩ := hrel
    have HQ := Lib.hid hq
    have HR := Lib.hid hres
    have HF := Lib.hid hnet
    have HB := Lib.hid hb
    have hs1 : s ≤ 8000000000000 := by
      have h1 := hnet (fun u => decide (u = 0)) (by simp) (by simp; omega)
      have h2 := flow_le (fr := eF xs) (tg := eT xs) hres HCP.out (fun u => decide (u = 0))
      omega
    have g0 := hq.c0
    have g1 := hq.c1
    have g2 := hq.c2
    rw [S0.out] at g0
    rw [S1.out] at g1
    have hnr := netR_of hq.fam hq.own hres.len
    rw [S0.out, S1.out] at hnr
    have CL := Lib.hid (c_steps n m gl n l0 c0 l1 c1 A0 A1 (eF xs) (eT xs) R wr HE.out (by omega) (by omega) n3 hnr)
    have hgb := hq.ty.lt
    have hsw := hb.size
    clear hq hres hnet hb hnr HQ0 HB0 hR0 hN0
    simp only [Nat.zero_add] at g1 g2
    go_wp2_with fail
    refine CL.out.mono ?_
    rintro e w3 ⟨d, v, rfl, hrow, hlev, hb⟩
    have HL : Hid (Lev n (eF xs) (eT xs) m R d) := hlev
    have HB1 := Lib.hid hb
    obtain ⟨gd, cd, rfl, hgd, lgd⟩ := hrow.form (by rw [hlev.len]; omega)
    rw [hlev.len] at hrow ⊢
    have HRow := Lib.hid hrow
    obtain ⟨pz, _⟩ := row_at hlev.len.symm hrow (n - 1) (by omega)
    have hdz := hlev.lo (n - 1) (by omega)
    have HBB : Hid (Below w.heap.size w w3) := HB.out.trans (hb.mono hsw)
    clear hrow hlev hb CL g0 g1 g2
    generalize hdzE : d.getD (n - 1) 0 = dz at *
    have HDZ := Lib.hid hdzE
    clear hdzE
    have b1 : (0 : Int) ≤ (n : Int) - 1 := by omega
    have b2 : (n : Int) - 1 < (n : Int) := by omega
    by_cases hz : dz = -1
    · have hf : FullX n m xs s (fun u => decide (0 ≤ d.getD u 0)) := full_of_lev HE.out HR.out HF.out HL.out (by rw [HDZ.out]; omega)
      have G1 : Hid (s = gfV n m xs) := (gf_eq hf).symm
      have G2 : Hid (∀ u, u < n → gcS n m xs u = decide (0 ≤ d.getD u 0)) := fun u hu => gc_eq hf hu
      have G3 := Lib.hid (HRow.out.mono hsw)
      have HZ9 : Hid (d.getD (n - 1) 0 = -1) := by show _ = _; rw [HDZ.out, hz]
      clear hf HDZ
      subst hz
      go_wp2
      go_ret2
      exact ⟨_, d, by rw [G1.out]; rfl, G3.out, HL.out.len, HL.out.lo, G2.out, HBB.out, by have := G1.out; omega, by have := G1.out; omega, by rw [G2.out 0 (by omega), HL.out.src]; rfl, by rw [G2.out (n - 1) (by omega), HZ9.out]; rfl⟩
    · have hz' : (dz == -1) = false := beq_eq_false_iff_ne.2 hz
      have HQ3 := Lib.hid (HQ.out.below HB1.out)
      have hne : (vs 1).ownBlock ≠ some gd := fun e => by
        have := HQ.out.fam.lt (show 1 < n + 2 by omega) e
        omega
      have CS := Lib.hid (HSh.out w.heap.size gl gd cd R d vs w3 HQ3.out.fam HQ3.out.own HR.out HL.out (by rw [HDZ.out]; omega) (HRow.out.mono hsw) hne)
      rw [S0.out, S1.out] at CS
      have g0 := HQ3.out.c0
      have g1 := HQ3.out.c1
      have g2 := HQ3.out.c2
      rw [S0.out] at g0
      rw [S1.out] at g1
      simp only [Nat.zero_add] at g1 g2
      clear hne
      go_wp2_with fail
      refine CS.out.mono ?_
      rintro e w4 ⟨x, R', rfl, hx, hres, hrow, hnet, hg⟩
      rw [← S1.out] at hrow hg
      have HQ4 := Lib.hid (HQ3.out.turn hrow hg)
      have HR4 := Lib.hid hres
      have HF4 : Hid (∀ p : Nat → Bool, p 0 = true → p (n - 1) = false → net (eF xs) (eT xs) m R' p = s + x) := fun p h0 h1 => by rw [hnet p h0 h1, HF.out p h0 h1]
      have hs2 : s + x ≤ 8000000000000 := by
        have h1 := HF4.out (fun u => decide (u = 0)) (by simp) (by simp; omega)
        have h2 := flow_le (fr := eF xs) (tg := eT xs) hres HCP.out (fun u => decide (u = 0))
        omega
      have HB4 : Hid (Below w.heap.size w w4) := HBB.out.grown hg HBB.out.size (fun k hk => (World.ownsRow.lt hrow k hk).1)
      clear hres hrow hnet hg CS g0 g1 g2 pz
      go_wp2
      go_roundw
      case rel => exact ⟨s + x, R', by go_num, by omega, HQ4.out, HR4.out, HF4.out, HB4.out⟩
      case measure => simp [RowKit.intOf]; omega
end Go.Proofs.Ytdgkgnlilcbggaa

namespace Go.Proofs.Ytdgkgnlilcbggaa
open Go.RowKit
set_option linter.unusedVariables false

/-- That fillNetwork does so. -/
def FillHolds : Prop := ∀ (n m : Nat) (xs : List Int) (v : Value) (w : World), netW n m xs = true → SeenP w v m xs → Calls Try.prog 52 #[.int .i64 n, v] w (GivesFill w n m xs)

theorem sel_in {n m : Nat} {xs d : List Int} (hd : d.length = n) (hlo : ∀ u, u < n → -1 ≤ d.getD u 0) (hgc : ∀ u, u < n → gcS n m xs u = decide (0 ≤ d.getD u 0)) : sel (pAtR (fun t => !(decide (t = -1))) d) d.length = sel (lcP n m xs) n := by
  rw [hd]
  refine sel_congr fun k hk => ?_
  unfold pAtR lcP
  rw [Int.toNat_natCast, hgc k hk]
  have := hlo k hk
  show (!(decide (d.getD k 0 = -1))) = decide (0 ≤ d.getD k 0)
  by_cases c : d.getD k 0 = -1
  · rw [decide_eq_true c, decide_eq_false (by omega)]; rfl
  · rw [decide_eq_false c, decide_eq_true (by omega)]; rfl
theorem sel_out {n m : Nat} {xs d : List Int} (hd : d.length = n) (hlo : ∀ u, u < n → -1 ≤ d.getD u 0) (hgc : ∀ u, u < n → gcS n m (turL n xs m) u = decide (0 ≤ d.getD u 0)) : sel (pAtR (fun t => decide (t = -1)) (revK d n n)) (revK d n n).length = sel (gtP n m xs) n := by
  rw [revK_len]
  refine sel_congr fun k hk => ?_
  unfold pAtR gtP lcP
  rw [Int.toNat_natCast, revK_done d (by omega) hk, show ((n : Int) - 1 - (k : Int)).toNat = n - 1 - k by omega, hgc _ (by omega)]
  have := hlo (n - 1 - k) (by omega)
  show decide (d.getD (n - 1 - k) 0 = -1) = !(decide (0 ≤ d.getD (n - 1 - k) 0))
  by_cases c : d.getD (n - 1 - k) 0 = -1
  · rw [decide_eq_true c, decide_eq_false (by omega)]; rfl
  · rw [decide_eq_false c, decide_eq_true (by omega)]; rfl
end Go.Proofs.Ytdgkgnlilcbggaa

namespace Go.Proofs.Ytdgkgnlilcbggaa
open Go.RowKit
set_option linter.unusedVariables false

theorem least_of {p : Nat → Prop} (h : ∃ k, p k) : ∃ k, p k ∧ ∀ j, p j → k ≤ j := by
  obtain ⟨k, hk⟩ := h
  induction k using Nat.strongRecOn with
  | _ k ih =>
    by_cases c : ∃ j, j < k ∧ p j
    · obtain ⟨j, hj, hp⟩ := c
      exact ih j hj hp
    · refine ⟨k, hk, fun j hp => ?_⟩
      by_cases e : k ≤ j
      · exact e
      · exact absurd ⟨j, by omega, hp⟩ c
open Classical in
noncomputable def leastN (p : Nat → Prop) : Nat := if h : ∃ k, p k then (least_of h).choose else 0
theorem leastN_at {p : Nat → Prop} (h : ∃ k, p k) : p (leastN p) := by
  unfold leastN
  rw [dif_pos h]
  exact (least_of h).choose_spec.1
theorem leastN_le {p : Nat → Prop} {k : Nat} (h : p k) : leastN p ≤ k := by
  unfold leastN
  rw [dif_pos ⟨k, h⟩]
  exact (least_of ⟨k, h⟩).choose_spec.2 k h
/-- What holds at every jump, of a ghost that every pass from the label makes less; the first pass is one of these. -/
theorem scope_ghost {P : Program} {Q : Exit → Act → World → Prop} {a : Act} {w : World} {c rest : Code} {G : Type} (l : Nat) (J : G → Act → World → Prop) (μ : G → Nat) (hf : findLabel c l = some (.seq .skip rest))
    (first : (∀ g a w, J g a w → rest.wp P (Exit.jump l (fun a' w' => ∃ g', J g' a' w') Q) a w) → c.wp P (Exit.jump l (fun a w => ∃ g, J g a w) Q) a w)
    (pass : ∀ g a w, J g a w → rest.wp P (Exit.jump l (fun a' w' => ∃ g', J g' a' w' ∧ μ g' < μ g) Q) a w) : (Code.scope c).wp P Q a w := by
  refine wp_scope_jumps l (fun a w => ∃ g, J g a w) (fun a w => leastN fun k => ∃ g, J g a w ∧ μ g = k) hf (first fun g a w h => ?_) ?_
  · refine Code.wp_mono (fun e a' w' q => ?_) (pass g a w h)
    cases e <;> try exact q
    obtain ⟨e1, g', hg', _⟩ := q
    exact ⟨e1, g', hg'⟩
  rintro a w ⟨g0, h0⟩
  obtain ⟨g, hg, hm⟩ := leastN_at (p := fun k => ∃ g, J g a w ∧ μ g = k) ⟨_, g0, h0, rfl⟩
  refine wp_seq (wp_skip ?_)
  refine Code.wp_mono (fun e a' w' q => ?_) (pass g a w hg)
  cases e <;> try exact q
  obtain ⟨e1, g', hg', hlt⟩ := q
  refine ⟨e1, ⟨g', hg'⟩, ?_⟩
  show leastN _ < leastN _
  have := leastN_le (p := fun k => ∃ g, J g a' w' ∧ μ g = k) ⟨g', hg', rfl⟩
  omega

theorem Row.pop {w : World} {B g c L : Nat} {xs : List Int} (h : Row w B (.slice (some ⟨g, 0, none⟩) (L + 1) c) xs) (hx : xs.length = L + 1) : Row w B (.slice (some ⟨g, 0, none⟩) L c) (xs.take L) := by
  unfold Row World.ownsRow at *
  have hl : (xs.take L).length = L := by simp; omega
  refine ⟨by rw [ints_len, Nat.mul_one], .inr ?_⟩
  rcases h.2 with ⟨e, _⟩ | ⟨g', cap, cur, e, h1, h2, h3, h4, h5, h6⟩
  · simp at e
  · simp at e
    obtain ⟨rfl, e2, rfl⟩ := e
    refine ⟨g, c, cur, by rw [hl], h1, h2, by omega, h4, h5, ?_⟩
    have : (cur.toList.take (xs.length * 1)).take (L * 1) = (ints xs).take (L * 1) := by rw [h6]
    rw [List.take_take] at this
    rw [show min (L * 1) (xs.length * 1) = L * 1 by omega] at this
    rw [hl, this]
    simp [ints, List.map_take]

/-- The arcs of a way as a list. -/
def wayL (P : Nat → Nat) (len : Nat) : List Int := (List.range len).map fun i => (P i : Int)
theorem wayL_len (P : Nat → Nat) (len : Nat) : (wayL P len).length = len := by simp [wayL]
theorem wayL_at (P : Nat → Nat) (len i : Nat) (h : i < len) : (wayL P len).getD i 0 = (P i : Int) := by simp [wayL, h]
theorem wayL_push (P : Nat → Nat) (len a : Nat) : wayL (upd P len a) (len + 1) = wayL P len ++ [(a : Int)] := by
  unfold wayL
  rw [List.range_succ, List.map_append, List.map_singleton, upd_same]
  congr 1
  apply List.map_congr_left
  intro i hi
  have := List.mem_range.1 hi
  rw [upd_far _ _ (by omega)]
theorem wayL_pop (P : Nat → Nat) (len : Nat) : (wayL P (len + 1)).take len = wayL P len := by
  unfold wayL
  rw [List.range_succ, List.map_append, List.take_append_of_le_length (by simp), List.take_of_length_le (by simp)]

/-- How the search stands: the way to node z; how many arcs of each node were tried; what is left. -/
structure Srch (n m : Nat) (fr tg : Nat → Nat) (cp : Nat → Int) (R0 d : List Int) (s : Int) (z len : Nat) (P : Nat → Nat) (R nx : List Int) : Prop where
  way : WayOk fr tg m R d P len z
  tried : TriedOk n fr tg m nx
  last : ∀ i, i < len → nx.getD (tlA fr tg (P i)) 0 < (((arcL fr tg n m).getD (tlA fr tg (P i)) []).length : Int) ∧ ((arcL fr tg n m).getD (tlA fr tg (P i)) []).getD (nx.getD (tlA fr tg (P i)) 0).toNat 0 = (P i : Int)
  res : Res cp m R
  lo : 0 ≤ s
  net : ∀ p : Nat → Bool, p 0 = true → p (n - 1) = false → Go.Proofs.Ytdgkgnlilcbggaa.net fr tg m R p = Go.Proofs.Ytdgkgnlilcbggaa.net fr tg m R0 p + s
  dead : s = 0 → R = R0 ∧ Dead n fr tg m R0 d nx
def sumNx (nx : List Int) (n : Nat) : Int := sumZ (fun u => nx.getD u 0) n
theorem sumNx_next {nx : List Int} {n i : Nat} (hl : nx.length = n) (hi : i < n) (y : Int) : sumNx (nx.set i y) n = sumNx nx n + (y - nx.getD i 0) := by
  unfold sumNx
  rw [sumZ_one (f := fun u => nx.getD u 0) (g := fun u => (nx.set i y).getD u 0) hi fun k hk hne => ?_]
  · show _ + ((nx.set i y).getD i 0 - _) = _
    rw [getD_set _ _ _ _ (by omega), if_pos rfl]
  · show nx.getD k 0 = (nx.set i y).getD k 0
    rw [getD_set _ _ _ _ (by omega), if_neg (Ne.symm hne)]
section
variable {n m : Nat} {fr tg : Nat → Nat} {cp : Nat → Int} {R0 d : List Int} {s : Int} {z len : Nat} {P : Nat → Nat} {R nx : List Int}
theorem Srch.zlt (h : Srch n m fr tg cp R0 d s z len P R nx) (hE : EndsIn n fr tg m) (hn : 2 ≤ n) : z < n := by
  rw [h.way.last]
  split
  · omega
  · exact hE.hd (h.way.arc _ (by omega))
theorem Srch.llt (h : Srch n m fr tg cp R0 d s z len P R nx) (hE : EndsIn n fr tg m) (hn : 2 ≤ n) (hL : Lev n fr tg m R0 d) : len < n := by
  have h1 := h.way.level hL.src
  have h2 := hL.hi z (h.zlt hE hn)
  omega
theorem Srch.sum_le (h : Srch n m fr tg cp R0 d s z len P R nx) (hE : EndsIn n fr tg m) : 0 ≤ sumNx nx n ∧ sumNx nx n ≤ ((n * (2 * m) : Nat) : Int) := by
  constructor
  · have e := sumZ_zero (f := fun _ => 0) (n := n) fun _ _ => rfl
    have := sumZ_le (f := fun _ => 0) (g := fun u => nx.getD u 0) (n := n) fun u hu => h.tried.lo u hu
    unfold sumNx
    omega
  · rw [Int.natCast_mul]
    refine sumZ_bound (by omega) fun u hu => ?_
    have h1 := h.tried.hi u hu
    have h2 := arcL_slen fr tg n u m hE
    show nx.getD u 0 ≤ _
    omega
theorem Srch.start (hR : Res cp m R0) : Srch n m fr tg cp R0 d 0 0 0 (fun _ => 0) R0 (List.replicate n 0) :=
  ⟨WayOk.nil _ _ _ _ _ _, TriedOk.zero _ _ _ _, fun i h => by omega, hR, Int.le_refl _, fun p _ _ => by rw [Int.add_zero], fun _ => ⟨rfl, Dead.zero _ _ _ _ _ _⟩⟩
/-- The tried arc of the node at the way's end leads no farther. -/
theorem Srch.skip (h : Srch n m fr tg cp R0 d s z len P R nx) (hE : EndsIn n fr tg m) (hn : 2 ≤ n) (hL : Lev n fr tg m R0 d) {a : Nat} (hlt : nx.getD z 0 < (((arcL fr tg n m).getD z []).length : Int)) (ha : ((arcL fr tg n m).getD z []).getD (nx.getD z 0).toNat 0 = (a : Int)) (hno : ¬ (0 < R.getD a 0 ∧ d.getD (hdA fr tg a) 0 = d.getD z 0 + 1)) : Srch n m fr tg cp R0 d s z len P R (nx.set z (nx.getD z 0 + 1)) := by
  have hz := h.zlt hE hn
  have hl := h.tried.len
  refine ⟨h.way, h.tried.next hz hlt, fun i hi => ?_, h.res, h.lo, h.net, fun e => ?_⟩
  · have h1 := h.way.level hL.src
    have h2 := h.way.lev i hi
    have hne : z ≠ tlA fr tg (P i) := fun e => by rw [← e] at h2; omega
    rw [getD_set _ _ _ _ (by omega), if_neg hne]
    exact h.last i hi
  · obtain ⟨e1, hD⟩ := h.dead e
    subst e1
    exact ⟨rfl, hD.next hl hz (h.tried.lo z hz) ha fun h1 h2 => absurd ⟨h1, h2⟩ hno⟩
/-- It leads farther. -/
theorem Srch.push (h : Srch n m fr tg cp R0 d s z len P R nx) (hL : Lev n fr tg m R0 d) {a : Nat} (ha2 : a < 2 * m) (ht : tlA fr tg a = z) (hlt : nx.getD z 0 < (((arcL fr tg n m).getD z []).length : Int)) (ha : ((arcL fr tg n m).getD z []).getD (nx.getD z 0).toNat 0 = (a : Int)) (h1 : 0 < R.getD a 0) (h2 : d.getD (hdA fr tg a) 0 = d.getD z 0 + 1) : Srch n m fr tg cp R0 d s (hdA fr tg a) (len + 1) (upd P len a) R nx := by
  refine ⟨h.way.push hL.src ha2 ht h1 h2, h.tried, fun i hi => ?_, h.res, h.lo, h.net, h.dead⟩
  by_cases c : i = len
  · subst c
    rw [upd_same, ht]
    exact ⟨hlt, ha⟩
  · rw [upd_far _ _ c]
    exact h.last i (by omega)
/-- The node at the way's end is done with. -/
theorem Srch.pop (h : Srch n m fr tg cp R0 d s z (len + 1) P R nx) (hE : EndsIn n fr tg m) (hn : 2 ≤ n) (hL : Lev n fr tg m R0 d) (hz : z ≠ n - 1) (hdone : (((arcL fr tg n m).getD z []).length : Int) ≤ nx.getD z 0) : Srch n m fr tg cp R0 d s (tlA fr tg (P len)) len P R (nx.set (tlA fr tg (P len)) (nx.getD (tlA fr tg (P len)) 0 + 1)) := by
  obtain ⟨hw, he⟩ := h.way.pop
  have ht := hE.tl (h.way.arc len (by omega))
  obtain ⟨g1, g2⟩ := h.last len (by omega)
  have hl := h.tried.len
  refine ⟨hw, h.tried.next ht g1, fun i hi => ?_, h.res, h.lo, h.net, fun e => ?_⟩
  · have h1 := h.way.lev len (by omega)
    have h2 := h.way.lev i (by omega)
    have hne : tlA fr tg (P len) ≠ tlA fr tg (P i) := fun e => by rw [← e] at h2; omega
    rw [getD_set _ _ _ _ (by omega), if_neg hne]
    exact h.last i (by omega)
  · obtain ⟨e1, hD⟩ := h.dead e
    subst e1
    exact ⟨rfl, hD.next hl ht (h.tried.lo _ ht) g2 fun _ _ => by rw [← he]; exact ⟨hz, hdone⟩⟩
/-- The way leads to the sink: x flows along it. -/
theorem Srch.fill (h : Srch n m fr tg cp R0 d s (n - 1) len P R nx) (hn : 2 ≤ n) (hL : Lev n fr tg m R0 d) {x : Int} (hx : 0 < x) (hm : ∀ i, i < len → x ≤ R.getD (P i) 0) : 0 < len ∧ Srch n m fr tg cp R0 d (s + x) 0 0 P (sendTo R P x len) nx := by
  have hlen : 0 < len := by
    have := h.way.last
    by_cases c : len = 0
    · rw [if_pos c] at this; omega
    · omega
  have hs := h.lo
  refine ⟨hlen, WayOk.nil _ _ _ _ _ _, h.tried, fun i hi => by omega, sendTo_res h.way h.res (by omega) hm len (Nat.le_refl _), by omega, fun p h0 h1 => ?_, fun e => by omega⟩
  have hlast := h.way.last
  rw [if_neg (by omega)] at hlast
  rw [sendTo_net h.way h.res.len x p len (Nat.le_refl _) hlen, ← hlast, h0, h1, h.net p h0 h1]
  simp [io]
  omega
theorem Srch.some (h : Srch n m fr tg cp R0 d s 0 0 P R nx) (hn : 2 ≤ n) (hE : EndsIn n fr tg m) (hL : Lev n fr tg m R0 d) (hz : 0 ≤ d.getD (n - 1) 0) (hdone : (((arcL fr tg n m).getD 0 []).length : Int) ≤ nx.getD 0 0) : 0 < s := by
  by_cases c : s = 0
  · exact (dead_end hn hE hL hz (h.dead c).2 hdone).elim
  · have := h.lo
    omega
/-- What every jump makes less. -/
def srchM (n T : Nat) (s : Int) (len : Nat) (nx : List Int) : Nat := (16000000000001 - s).toNat * (T * 2 + n + 1) + ((T : Int) - sumNx nx n).toNat * 2 + (n - len)
theorem srchM_fill {T len len' : Nat} {s x : Int} {nx : List Int} (h0 : 0 < x) (h1 : s + x ≤ 16000000000000) (h3 : 0 ≤ sumNx nx n) : srchM n T (s + x) len' nx < srchM n T s len nx := by
  unfold srchM
  obtain ⟨j, hj⟩ : ∃ j, (16000000000001 - s).toNat = (16000000000001 - (s + x)).toNat + (j + 1) := ⟨x.toNat - 1, by omega⟩
  rw [hj, Nat.add_mul, Nat.succ_mul]
  have : ((T : Int) - sumNx nx n).toNat ≤ T := by omega
  generalize (16000000000001 - (s + x)).toNat * (T * 2 + n + 1) = X
  generalize j * (T * 2 + n + 1) = Y
  omega
theorem srchM_push {T len : Nat} {s : Int} {nx nx' : List Int} (h : len < n) (hs : sumNx nx n ≤ sumNx nx' n) : srchM n T s (len + 1) nx' < srchM n T s len nx := by
  unfold srchM
  generalize (16000000000001 - s).toNat * (T * 2 + n + 1) = X
  omega
theorem srchM_pop {T len : Nat} {s : Int} {nx nx' : List Int} (hs : sumNx nx n + 1 ≤ sumNx nx' n) (hT : sumNx nx' n ≤ (T : Int)) : srchM n T s len nx' < srchM n T s (len + 1) nx := by
  unfold srchM
  generalize (16000000000001 - s).toNat * (T * 2 + n + 1) = X
  omega
end
end Go.Proofs.Ytdgkgnlilcbggaa

namespace Go.Proofs.Ytdgkgnlilcbggaa
open Go.RowKit
set_option linter.unusedVariables false

/-- The search in memory: the room, how many arcs of each node were tried, the way, the struct's copy. -/
structure SrchW (w0 w : World) (B n gl : Nat) (vs : Nat → Value) (R nx : List Int) (vw : Value) (ws : List Int) : Prop where
  grow : w0.grownBy w (vs 1).ownBlock
  room : Row w B (vs 1) R
  tr : Row w (w0.heap.size + 1) (.slice (some ⟨w0.heap.size + 1, 0, none⟩) n n) nx
  way : Row w (w0.heap.size + 1 + 1) vw ws
  ty : TyAt w w0.heap.size 75
  c0 : w.cell? ⟨w0.heap.size, 0, none⟩ = some (vs 0)
  c1 : w.cell? ⟨w0.heap.size, 0 + 1, none⟩ = some (vs 1)
  c2 : w.cell? ⟨w0.heap.size, 0 + 2, none⟩ = some (.slice (some ⟨gl, 0, none⟩) n n)
  old : ∀ k, (vs 1).ownBlock = some k → k < w0.heap.size
section
variable {w0 w w' : World} {B n gl : Nat} {vs : Nat → Value} {R R' nx nx' ws ws' : List Int} {vw vw' : Value}
theorem SrchW.big (h : SrchW w0 w B n gl vs R nx vw ws) : w0.heap.size + 1 < w.heap.size := (World.ownsRow.lt h.tr _ rfl).2
theorem SrchW.far (h : SrchW w0 w B n gl vs R nx vw ws) {k : Nat} (hk : vw.ownBlock = some k) : w0.heap.size + 1 + 1 ≤ k ∧ k < w.heap.size := World.ownsRow.lt h.way k hk
theorem SrchW.step {o : Option Nat} (h : SrchW w0 w B n gl vs R nx vw ws) (hg : w.grownBy w' o) (hb : o ≠ some w0.heap.size) (ho : ∀ j, o = some j → w0.heap.size ≤ j ∨ (vs 1).ownBlock = some j) (hroom : Row w' B (vs 1) R') (htr : Row w' (w0.heap.size + 1) (.slice (some ⟨w0.heap.size + 1, 0, none⟩) n n) nx') (hway : Row w' (w0.heap.size + 1 + 1) vw' ws') : SrchW w0 w' B n gl vs R' nx' vw' ws' :=
  have lb : w0.heap.size < w.heap.size := h.ty.lt
  ⟨h.grow.andThen hg ho, hroom, htr, hway, h.ty.grown hg hb, by rw [hg.cell_far ⟨w0.heap.size, 0, none⟩ lb (fun e => hb e.symm)]; exact h.c0, by rw [hg.cell_far ⟨w0.heap.size, 0 + 1, none⟩ lb (fun e => hb e.symm)]; exact h.c1, by rw [hg.cell_far ⟨w0.heap.size, 0 + 2, none⟩ lb (fun e => hb e.symm)]; exact h.c2, h.old⟩
theorem SrchW.drew (h : SrchW w0 w B n gl vs R nx vw ws) : SrchW w0 w.drew B n gl vs R nx vw ws :=
  have hb : Below w.heap.size w w.drew := (Below.refl _ _).drew
  h.step (o := none) ⟨hb.os, hb.tape, hb.output, hb.size, fun k hk _ => hb.block k hk⟩ (by simp) (fun j hj => by cases hj) (h.room.below hb) (h.tr.below hb) (h.way.below hb)
theorem SrchW.alloc (h : SrchW w0 w B n gl vs R nx vw ws) (o : Obj) : SrchW w0 (w.alloc o) B n gl vs R nx vw ws :=
  h.step (o := none) (World.grownBy_alloc _ _ _) (by simp) (fun j hj => by cases hj) (World.ownsRow.alloc h.room _) (World.ownsRow.alloc h.tr _) (World.ownsRow.alloc h.way _)
theorem SrchW.setN (h : SrchW w0 w B n gl vs R nx vw ws) (hl : nx.length = n) (i : Nat) (y : Int) : SrchW w0 (w.setCell ⟨w0.heap.size + 1, i, none⟩ (.int .i64 y)) B n gl vs R (nx.set i y) vw ws := by
  have hs := Row.set_ hl.symm h.tr i y
  refine h.step (o := some (w0.heap.size + 1)) hs.2 (by simp) (fun j hj => .inl (by simp at hj; omega)) (World.ownsRow.kept h.room hs.2 (.inr fun e => ?_)) hs.1 (World.ownsRow.kept h.way hs.2 (.inr fun e => ?_))
  · have := h.old (w0.heap.size + 1) e; omega
  · have := (h.far (k := w0.heap.size + 1) e).1; omega
theorem SrchW.setW (h : SrchW w0 w B n gl vs R nx vw ws) (hg : w.grownBy w' vw.ownBlock) (hr : Row w' (w0.heap.size + 1 + 1) vw' ws') : SrchW w0 w' B n gl vs R nx vw' ws' := by
  refine h.step (o := vw.ownBlock) hg (fun e => ?_) (fun j hj => .inl ?_) (World.ownsRow.kept h.room hg ?_) (World.ownsRow.kept h.tr hg (.inr fun e => ?_)) hr
  · have := (h.far e).1; omega
  · have := (h.far hj).1; omega
  · cases e : (vs 1).ownBlock with
    | none => exact .inl rfl
    | some k =>
      refine .inr fun e2 => ?_
      have h1 := h.old k e
      have h2 := (h.far e2.symm).1
      omega
  · have h2 := (h.far (k := w0.heap.size + 1) e.symm).1
    omega
theorem SrchW.setR (h : SrchW w0 w B n gl vs R nx vw ws) (hg : w.grownBy w' (vs 1).ownBlock) (hr : Row w' B (vs 1) R') : SrchW w0 w' B n gl vs R' nx (.slice none 0 0) [] := by
  refine h.step (o := (vs 1).ownBlock) hg (fun e => ?_) (fun j hj => .inr hj) hr (World.ownsRow.kept h.tr hg (.inr fun e => ?_)) (Row.nil _ _)
  · have := h.old _ e; omega
  · have := h.old (w0.heap.size + 1) e.symm; omega
theorem SrchW.cut {L g c : Nat} (h : SrchW w0 w B n gl vs R nx (.slice (some ⟨g, 0, none⟩) (L + 1) c) ws) (hl : ws.length = L + 1) : SrchW w0 w B n gl vs R nx (.slice (some ⟨g, 0, none⟩) L c) (ws.take L) :=
  ⟨h.grow, h.room, h.tr, Row.pop h.way hl, h.ty, h.c0, h.c1, h.c2, h.old⟩
theorem SrchW.net {m : Nat} {fr tg : Nat → Nat} {R0 : List Int} (h : SrchW w0 w B n gl vs R nx vw ws) (hf : Fam w0 B (n + 2) vs (netX fr tg n m R0)) (ho : w0.ownsRow B 23 1 (.slice (some ⟨gl, 0, none⟩) n n) n (mapR n vs)) (hR : R.length = 2 * m) : NetR w n m gl fr tg R (vs 0) (vs 1) := by
  have hf' : Fam w B (n + 2) vs (netX fr tg n m R) := (hf.turn (i := 1) (by omega) h.room h.grow).congr fun i _ => netX_upd _ _ _ _ _ _ i
  have h1 : Row w0 B (vs 1) R0 := hf.row 1 (by omega)
  have k2 : (vs 1).ownBlock ≠ some gl := own_off h1 (own_gl ho) (by decide)
  exact netR_of hf' (World.ownsRow.kept ho h.grow (.inr (by simp only [Value.ownBlock]; exact fun e => k2 e.symm))) hR
theorem SrchW.steps {gd cd : Nat} {d : List Int} (h : SrchW w0 w B n gl vs R nx vw ws) (hd : Row w0 B (.slice (some ⟨gd, 0, none⟩) n cd) d) (hne : (vs 1).ownBlock ≠ some gd) : Row w B (.slice (some ⟨gd, 0, none⟩) n cd) d :=
  World.ownsRow.kept hd h.grow (.inr fun e => hne e.symm)
end

def SearchIs (w0 : World) (B n m gl : Nat) (vs : Nat → Value) (fr tg : Nat → Nat) (cp : Nat → Int) (R0 d : List Int) (w : World) (vw : Value) (vz vsm : Value) (g : Int × Nat × Nat × (Nat → Nat) × List Int × List Int) : Prop :=
  vz = .int .i64 g.2.1 ∧ vsm = .int .i64 g.1 ∧ Srch n m fr tg cp R0 d g.1 g.2.1 g.2.2.1 g.2.2.2.1 g.2.2.2.2.1 g.2.2.2.2.2 ∧ SrchW w0 w B n gl vs g.2.2.2.2.1 g.2.2.2.2.2 vw (wayL g.2.2.2.1 g.2.2.1)
def srchG (n m : Nat) (g : Int × Nat × Nat × (Nat → Nat) × List Int × List Int) : Nat := srchM n (n * (2 * m)) g.1 g.2.2.1 g.2.2.2.2.2

/-- The frame at a jump. -/
def FrameIs (n gd cd : Nat) (t0 : Value) (w0 : World) (vw vz vsm : Value) (a : Act) : Prop := ∃ (u3 u10 u11 u12 u13 u14 u15 u16 u17 u18 u19 u20 u21 u22 u23 u24 u25 u26 u27 u28 u29 u30 u31 u32 u33 u34 u35 u36 u37 u38 u39 u40 u41 u42 u43 u44 u45 u46 u47 u48 u49 u50 u51 u52 u53 u54 u55 u56 u57 u58 u59 u60 u61 u62 u63 u64 u65 u66 u67 u68 u69 u70 u71 u72 u73 u74 u75 u76 u77 u78 u79 u80 u81 u82 u83 u84 u85 u86 u87 u88 u89 u90 u91 u92 u93 u94 u95 u96 u97 u98 u99 u100 u101 u102 u103 u104 u105 u106 u107 : Value), a = { tmps := #[t0, .slice (some ⟨gd, 0, none⟩) n cd, .pointer (some ⟨w0.heap.size, 0, none⟩), u3, .int .i64 0, .int .i64 ((n : Int) - 1), .slice (some ⟨w0.heap.size + 1, 0, none⟩) n n, vw, vz, vsm, u10, u11, u12, u13, u14, u15, u16, u17, u18, u19, u20, u21, u22, u23, u24, u25, u26, u27, u28, u29, u30, u31, u32, u33, u34, u35, u36, u37, u38, u39, u40, u41, u42, u43, u44, u45, u46, u47, u48, u49, u50, u51, u52, u53, u54, u55, u56, u57, u58, u59, u60, u61, u62, u63, u64, u65, u66, u67, u68, u69, u70, u71, u72, u73, u74, u75, u76, u77, u78, u79, u80, u81, u82, u83, u84, u85, u86, u87, u88, u89, u90, u91, u92, u93, u94, u95, u96, u97, u98, u99, u100, u101, u102, u103, u104, u105, u106, u107], defers := [] }
theorem FrameIs.mk {n gd cd : Nat} {t0 : Value} {w0 : World} {vw vz vsm : Value} {u3 u10 u11 u12 u13 u14 u15 u16 u17 u18 u19 u20 u21 u22 u23 u24 u25 u26 u27 u28 u29 u30 u31 u32 u33 u34 u35 u36 u37 u38 u39 u40 u41 u42 u43 u44 u45 u46 u47 u48 u49 u50 u51 u52 u53 u54 u55 u56 u57 u58 u59 u60 u61 u62 u63 u64 u65 u66 u67 u68 u69 u70 u71 u72 u73 u74 u75 u76 u77 u78 u79 u80 u81 u82 u83 u84 u85 u86 u87 u88 u89 u90 u91 u92 u93 u94 u95 u96 u97 u98 u99 u100 u101 u102 u103 u104 u105 u106 u107 : Value} : FrameIs n gd cd t0 w0 vw vz vsm { tmps := #[t0, .slice (some ⟨gd, 0, none⟩) n cd, .pointer (some ⟨w0.heap.size, 0, none⟩), u3, .int .i64 0, .int .i64 ((n : Int) - 1), .slice (some ⟨w0.heap.size + 1, 0, none⟩) n n, vw, vz, vsm, u10, u11, u12, u13, u14, u15, u16, u17, u18, u19, u20, u21, u22, u23, u24, u25, u26, u27, u28, u29, u30, u31, u32, u33, u34, u35, u36, u37, u38, u39, u40, u41, u42, u43, u44, u45, u46, u47, u48, u49, u50, u51, u52, u53, u54, u55, u56, u57, u58, u59, u60, u61, u62, u63, u64, u65, u66, u67, u68, u69, u70, u71, u72, u73, u74, u75, u76, u77, u78, u79, u80, u81, u82, u83, u84, u85, u86, u87, u88, u89, u90, u91, u92, u93, u94, u95, u96, u97, u98, u99, u100, u101, u102, u103, u104, u105, u106, u107], defers := [] } := ⟨_, _, _, _, _, _, _, _, _, _, _, _, _, _, _, _, _, _, _, _, _, _, _, _, _, _, _, _, _, _, _, _, _, _, _, _, _, _, _, _, _, _, _, _, _, _, _, _, _, _, _, _, _, _, _, _, _, _, _, _, _, _, _, _, _, _, _, _, _, _, _, _, _, _, _, _, _, _, _, _, _, _, _, _, _, _, _, _, _, _, _, _, _, _, _, _, _, _, _, rfl⟩
theorem FrameIs.elim {n gd cd : Nat} {t0 : Value} {w0 : World} {vw vz vsm : Value} {a : Act} {motive : Act → Prop} (h : FrameIs n gd cd t0 w0 vw vz vsm a) (k : ∀ (u3 u10 u11 u12 u13 u14 u15 u16 u17 u18 u19 u20 u21 u22 u23 u24 u25 u26 u27 u28 u29 u30 u31 u32 u33 u34 u35 u36 u37 u38 u39 u40 u41 u42 u43 u44 u45 u46 u47 u48 u49 u50 u51 u52 u53 u54 u55 u56 u57 u58 u59 u60 u61 u62 u63 u64 u65 u66 u67 u68 u69 u70 u71 u72 u73 u74 u75 u76 u77 u78 u79 u80 u81 u82 u83 u84 u85 u86 u87 u88 u89 u90 u91 u92 u93 u94 u95 u96 u97 u98 u99 u100 u101 u102 u103 u104 u105 u106 u107 : Value), motive { tmps := #[t0, .slice (some ⟨gd, 0, none⟩) n cd, .pointer (some ⟨w0.heap.size, 0, none⟩), u3, .int .i64 0, .int .i64 ((n : Int) - 1), .slice (some ⟨w0.heap.size + 1, 0, none⟩) n n, vw, vz, vsm, u10, u11, u12, u13, u14, u15, u16, u17, u18, u19, u20, u21, u22, u23, u24, u25, u26, u27, u28, u29, u30, u31, u32, u33, u34, u35, u36, u37, u38, u39, u40, u41, u42, u43, u44, u45, u46, u47, u48, u49, u50, u51, u52, u53, u54, u55, u56, u57, u58, u59, u60, u61, u62, u63, u64, u65, u66, u67, u68, u69, u70, u71, u72, u73, u74, u75, u76, u77, u78, u79, u80, u81, u82, u83, u84, u85, u86, u87, u88, u89, u90, u91, u92, u93, u94, u95, u96, u97, u98, u99, u100, u101, u102, u103, u104, u105, u106, u107], defers := [] }) : motive a := by
  unfold FrameIs at h
  obtain ⟨u3, h⟩ := h
  obtain ⟨u10, h⟩ := h
  obtain ⟨u11, h⟩ := h
  obtain ⟨u12, h⟩ := h
  obtain ⟨u13, h⟩ := h
  obtain ⟨u14, h⟩ := h
  obtain ⟨u15, h⟩ := h
  obtain ⟨u16, h⟩ := h
  obtain ⟨u17, h⟩ := h
  obtain ⟨u18, h⟩ := h
  obtain ⟨u19, h⟩ := h
  obtain ⟨u20, h⟩ := h
  obtain ⟨u21, h⟩ := h
  obtain ⟨u22, h⟩ := h
  obtain ⟨u23, h⟩ := h
  obtain ⟨u24, h⟩ := h
  obtain ⟨u25, h⟩ := h
  obtain ⟨u26, h⟩ := h
  obtain ⟨u27, h⟩ := h
  obtain ⟨u28, h⟩ := h
  obtain ⟨u29, h⟩ := h
  obtain ⟨u30, h⟩ := h
  obtain ⟨u31, h⟩ := h
  obtain ⟨u32, h⟩ := h
  obtain ⟨u33, h⟩ := h
  obtain ⟨u34, h⟩ := h
  obtain ⟨u35, h⟩ := h
  obtain ⟨u36, h⟩ := h
  obtain ⟨u37, h⟩ := h
  obtain ⟨u38, h⟩ := h
  obtain ⟨u39, h⟩ := h
  obtain ⟨u40, h⟩ := h
  obtain ⟨u41, h⟩ := h
  obtain ⟨u42, h⟩ := h
  obtain ⟨u43, h⟩ := h
  obtain ⟨u44, h⟩ := h
  obtain ⟨u45, h⟩ := h
  obtain ⟨u46, h⟩ := h
  obtain ⟨u47, h⟩ := h
  obtain ⟨u48, h⟩ := h
  obtain ⟨u49, h⟩ := h
  obtain ⟨u50, h⟩ := h
  obtain ⟨u51, h⟩ := h
  obtain ⟨u52, h⟩ := h
  obtain ⟨u53, h⟩ := h
  obtain ⟨u54, h⟩ := h
  obtain ⟨u55, h⟩ := h
  obtain ⟨u56, h⟩ := h
  obtain ⟨u57, h⟩ := h
  obtain ⟨u58, h⟩ := h
  obtain ⟨u59, h⟩ := h
  obtain ⟨u60, h⟩ := h
  obtain ⟨u61, h⟩ := h
  obtain ⟨u62, h⟩ := h
  obtain ⟨u63, h⟩ := h
  obtain ⟨u64, h⟩ := h
  obtain ⟨u65, h⟩ := h
  obtain ⟨u66, h⟩ := h
  obtain ⟨u67, h⟩ := h
  obtain ⟨u68, h⟩ := h
  obtain ⟨u69, h⟩ := h
  obtain ⟨u70, h⟩ := h
  obtain ⟨u71, h⟩ := h
  obtain ⟨u72, h⟩ := h
  obtain ⟨u73, h⟩ := h
  obtain ⟨u74, h⟩ := h
  obtain ⟨u75, h⟩ := h
  obtain ⟨u76, h⟩ := h
  obtain ⟨u77, h⟩ := h
  obtain ⟨u78, h⟩ := h
  obtain ⟨u79, h⟩ := h
  obtain ⟨u80, h⟩ := h
  obtain ⟨u81, h⟩ := h
  obtain ⟨u82, h⟩ := h
  obtain ⟨u83, h⟩ := h
  obtain ⟨u84, h⟩ := h
  obtain ⟨u85, h⟩ := h
  obtain ⟨u86, h⟩ := h
  obtain ⟨u87, h⟩ := h
  obtain ⟨u88, h⟩ := h
  obtain ⟨u89, h⟩ := h
  obtain ⟨u90, h⟩ := h
  obtain ⟨u91, h⟩ := h
  obtain ⟨u92, h⟩ := h
  obtain ⟨u93, h⟩ := h
  obtain ⟨u94, h⟩ := h
  obtain ⟨u95, h⟩ := h
  obtain ⟨u96, h⟩ := h
  obtain ⟨u97, h⟩ := h
  obtain ⟨u98, h⟩ := h
  obtain ⟨u99, h⟩ := h
  obtain ⟨u100, h⟩ := h
  obtain ⟨u101, h⟩ := h
  obtain ⟨u102, h⟩ := h
  obtain ⟨u103, h⟩ := h
  obtain ⟨u104, h⟩ := h
  obtain ⟨u105, h⟩ := h
  obtain ⟨u106, h⟩ := h
  obtain ⟨u107, h⟩ := h
  subst h
  exact k u3 u10 u11 u12 u13 u14 u15 u16 u17 u18 u19 u20 u21 u22 u23 u24 u25 u26 u27 u28 u29 u30 u31 u32 u33 u34 u35 u36 u37 u38 u39 u40 u41 u42 u43 u44 u45 u46 u47 u48 u49 u50 u51 u52 u53 u54 u55 u56 u57 u58 u59 u60 u61 u62 u63 u64 u65 u66 u67 u68 u69 u70 u71 u72 u73 u74 u75 u76 u77 u78 u79 u80 u81 u82 u83 u84 u85 u86 u87 u88 u89 u90 u91 u92 u93 u94 u95 u96 u97 u98 u99 u100 u101 u102 u103 u104 u105 u106 u107

theorem sumZ_low {f : Nat → Int} {c : Int} : ∀ {n : Nat}, (∀ k, k < n → c ≤ f k) → (n : Int) * c ≤ sumZ f n
  | 0, _ => by simp [sumZ]
  | n + 1, h => by
    have a := sumZ_low (n := n) fun k hk => h k (by omega)
    have b := h n (by omega)
    simp only [sumZ]
    rw [Int.natCast_add, Int.add_mul]
    simp
    omega
theorem flow_ge {fr tg : Nat → Nat} {cp : Nat → Int} {m : Nat} {R : List Int} (hr : Res cp m R) (hcp : ∀ k, k < m → cp k ≤ 1000000000) (p : Nat → Bool) : (m : Int) * -1000000000 ≤ net fr tg m R p := by
  refine sumZ_low fun k hk => ?_
  have h1 := hr.sum k hk
  have h2 := hr.lo (2 * k) (by omega)
  have h3 := hr.lo (2 * k + 1) (by omega)
  have h4 := hcp k hk
  show _ ≤ R.getD (2 * k + 1) 0 * (io (p (fr k)) - io (p (tg k)))
  generalize R.getD (2 * k + 1) 0 = x at *
  cases p (fr k) <;> cases p (tg k) <;> simp [io] <;> omega
/-- The number that lies in a cell. -/
def readI (w : World) (g k : Nat) : Int := match w.cell? ⟨g, k, none⟩ with | some (.int _ x) => x | _ => 0
theorem readI_at {w : World} {g k : Nat} {x : Int} (h : w.cell? ⟨g, k, none⟩ = some (.int .i64 x)) : readI w g k = x := by unfold readI; rw [h]
theorem Srch.small {n m : Nat} {fr tg : Nat → Nat} {cp : Nat → Int} {R0 d : List Int} {s : Int} {z len : Nat} {P : Nat → Nat} {R nx : List Int} (h : Srch n m fr tg cp R0 d s z len P R nx) (hn : 2 ≤ n) (n3 : m ≤ 8000) (h0 : Res cp m R0) (hcp : ∀ k, k < m → cp k ≤ 1000000000) : s ≤ 16000000000000 := by
  have h1 := h.net (fun u => decide (u = 0)) (by simp) (by simp; omega)
  have h2 := flow_le (fr := fr) (tg := tg) h.res hcp (fun u => decide (u = 0))
  have h3 := flow_ge (fr := fr) (tg := tg) h0 hcp (fun u => decide (u = 0))
  omega
theorem Row.capy {w : World} {B g n c : Nat} {xs : List Int} (h : Row w B (.slice (some ⟨g, 0, none⟩) n c) xs) : xs.length ≤ c ∧ c ≤ maxLen := by
  rcases h.2 with ⟨e, _⟩ | ⟨g', cap, cur, e, h1, h2, h3, h4, h5, h6⟩
  · simp at e
  · simp at e
    obtain ⟨_, _, rfl⟩ := e
    exact ⟨h3, h4⟩
end Go.Proofs.Ytdgkgnlilcbggaa

namespace Go.Proofs.Ytdgkgnlilcbggaa
open Go.RowKit
set_option linter.unusedVariables false

set_option maxHeartbeats 16000000 in
set_option maxRecDepth 100000 in
theorem short_holds (n m : Nat) (fr tg : Nat → Nat) (cp : Nat → Int) (hE : EndsIn n fr tg m) (n1 : 2 ≤ n) (n2 : n ≤ 130) (n3 : m ≤ 8000) (hcp : ∀ k, k < m → cp k ≤ 1000000000) : ShortHolds n m fr tg cp := by
  intro B gl gd cd R d vs w hf ho hres hlev hz hd hne
  obtain ⟨i0, hi0, hz0, hz1, hz2⟩ := info_parts int_info
  have HI := Lib.hid hi0
  have HE : Hid (EndsIn n fr tg m) := hE
  have HCP := Lib.hid hcp
  have HF := Lib.hid hf
  have HO := Lib.hid ho
  have HRes := Lib.hid hres
  have HLev : Hid (Lev n fr tg m R d) := hlev
  have HD := Lib.hid hd
  have HNe := Lib.hid hne
  have HZ := Lib.hid hz
  have hm : 0 < m := by
    obtain ⟨a, ha, _⟩ := hlev.pred (n - 1) (by omega) (by
      have := hlev.only (n - 1) (by omega)
      omega)
    omega
  obtain ⟨A0, c0, s0⟩ := (show Row w B (vs 0) (hdL fr tg m) from hf.row 0 (by omega)).shape
  have hrow1 : Row w B (vs 1) R := hf.row 1 (by omega)
  obtain ⟨br, cr, s1, hbr1, hbr2⟩ := hrow1.form (by rw [hres.len]; omega)
  rw [hres.len] at s1
  rw [hdL_len] at s0
  have S0 := Lib.hid s0
  have S1 := Lib.hid s1
  have hmk : ∀ u : World, (Instr.makeSlice 23 (.int .i64 (n : Int)) (.int .i64 (n : Int))).run Try.prog u = .ok (.slice (some ⟨u.heap.size, 0, none⟩) n n) (u.alloc (.cells (madeCells #[.int .i64 0] n) 3)) := fun u => by
    have := run_make (P := Try.prog) u 23 3 i0 (.int .i64 0) Try.underlying23 hi0 hz0 .i64 .i64 (n : Int) (n : Int) (by omega) (by omega) (by rw [hz2]; omega) (by omega)
    simpa [hz1, Value.cells] using this
  have HW0 : Hid (SrchW w ((w.alloc (.cells #[vs 0, vs 1, .slice (some ⟨gl, 0, none⟩) n n] 75)).alloc (.cells (madeCells #[.int .i64 0] n) 3)) B n gl vs R (List.replicate n 0) (.slice none 0 0) []) := by
    have e1 : (w.alloc (.cells #[vs 0, vs 1, .slice (some ⟨gl, 0, none⟩) n n] 75)).heap.size = w.heap.size + 1 := by simp
    have hz := row_zeros (w.alloc (.cells #[vs 0, vs 1, .slice (some ⟨gl, 0, none⟩) n n] 75)) n (by unfold maxLen; omega)
    rw [e1] at hz
    refine ⟨grown_trans (World.grownBy_alloc _ _ _) (World.grownBy_alloc _ _ _), World.ownsRow.alloc (World.ownsRow.alloc hrow1 _) _, hz, Row.nil _ _, ?_, by simp, by simp, by simp, fun k hk => ?_⟩
    · exact (TyAt.new w _ _).below ((Below.refl _ _).alloc (Nat.le_refl _) _) (by simp)
    · rw [s1] at hk
      simp [Value.ownBlock] at hk
      omega
  clear hf ho hres hlev hz hd hne hrow1 hE hcp hi0
  rw [s0, s1] at HW0 ⊢
  clear s0 s1
  have hmk1 := hmk (w.alloc (.cells #[.slice A0 (2 * m) c0, .slice (some ⟨br, 0, none⟩) (2 * m) cr, .slice (some ⟨gl, 0, none⟩) n n] 75))
  have e1 : (w.alloc (.cells #[.slice A0 (2 * m) c0, .slice (some ⟨br, 0, none⟩) (2 * m) cr, .slice (some ⟨gl, 0, none⟩) n n] 75)).heap.size = w.heap.size + 1 := by simp
  rw [e1] at hmk1
  clear hmk
  go_enter Try.func69, Try.ntmps69
  go_wp2_with fail
  refine scope_ghost 0 (fun g a' w' => ∃ vw vz vsm, FrameIs n gd cd (.agg #[.slice A0 (2 * m) c0, .slice (some ⟨br, 0, none⟩) (2 * m) cr, .slice (some ⟨gl, 0, none⟩) n n]) w vw vz vsm a' ∧ SearchIs w B n m gl vs fr tg cp R d w' vw vz vsm g) (srchG n m) rfl ?_ ?_
  · intro HP
    go_wp2
    go_step3
    rename_i hK
    refine hK _ _ ?_
    exact HP ⟨0, 0, 0, fun _ => 0, R, List.replicate n 0⟩ _ _ ⟨_, _, _, FrameIs.mk, rfl, rfl, Srch.start HRes.out, HW0.out⟩
  · rintro ⟨s, z, len, P, R', nx⟩ a' wr ⟨vw, vz, vsm, hfr, hsi⟩
    obtain ⟨e1, e2, hs, hw⟩ := hsi
    simp only at e1 e2 hs hw
    subst e1
    subst e2
    refine FrameIs.elim (motive := fun a => Code.wp _ _ _ a wr) hfr ?_
    intro u3 u10 u11 u12 u13 u14 u15 u16 u17 u18 u19 u20 u21 u22 u23 u24 u25 u26 u27 u28 u29 u30 u31 u32 u33 u34 u35 u36 u37 u38 u39 u40 u41 u42 u43 u44 u45 u46 u47 u48 u49 u50 u51 u52 u53 u54 u55 u56 u57 u58 u59 u60 u61 u62 u63 u64 u65 u66 u67 u68 u69 u70 u71 u72 u73 u74 u75 u76 u77 u78 u79 u80 u81 u82 u83 u84 u85 u86 u87 u88 u89 u90 u91 u92 u93 u94 u95 u96 u97 u98 u99 u100 u101 u102 u103 u104 u105 u106 u107
    clear hfr
    have hE := HE.out
    have zlt := hs.zlt hE n1
    have llt := hs.llt hE n1 HLev.out
    have ssm := hs.small n1 n3 HRes.out HCP.out
    have slo := hs.lo
    have HS := Lib.hid hs
    have HW := Lib.hid hw
    have p0 := hw.c0
    have p1 := hw.c1
    have p2 := hw.c2
    rw [S0.out] at p0
    rw [S1.out] at p1
    simp only [Nat.zero_add] at p1 p2
    clear hE
    by_cases hzn : z = n - 1
    · have hlen0 : 0 < len := by
        have h1 := hs.way.last
        by_cases e : len = 0
        · rw [if_pos e] at h1; omega
        · omega
      obtain ⟨bw, cw, e, hbw1, hbw2⟩ := hw.way.form (by rw [wayL_len]; exact hlen0)
      rw [wayL_len] at e
      subst e
      have hroom := hw.room
      rw [S1.out] at hroom
      subst hzn
      have CF := Lib.hid (c_fillWay m B br cr bw cw len (n - 1) fr tg cp R' d P A0 (some ⟨gl, 0, none⟩) (2 * m) c0 n n wr n3 hs.way hlen0 (by omega) hs.res HCP.out hroom (by omega) hbw2 (fun i hi => by
        have hr := hw.way
        rw [← wayL_at P len i hi]
        have e := wayL_len P len
        exact (row_at e.symm hr i hi).1))
      clear hs hw hroom
      go_wp2_with fail
      refine CF.out.mono ?_
      rintro e w2 ⟨x, rfl, hx0, hxm, hrow, hg⟩
      have e1 : (vs 1).ownBlock = some br := by rw [S1.out]; rfl
      rw [← S1.out] at hrow
      rw [← e1] at hg
      obtain ⟨_, hs2⟩ := HS.out.fill n1 HLev.out hx0 hxm
      have hw2 := HW.out.setR hg hrow
      have hsm2 := hs2.small n1 n3 HRes.out HCP.out
      have hsum := (HS.out.sum_le HE.out).1
      go_wp2
      go_step3
      refine ⟨rfl, ⟨s + x, 0, 0, P, sendTo R' P x len, nx⟩, ⟨_, _, _, FrameIs.mk, rfl, by go_num, hs2, hw2⟩, ?_⟩
      exact srchM_fill hx0 hsm2 hsum
    · have hzne : (((z : Nat) : Int) == (n : Int) - 1) = false := beq_eq_false_iff_ne.2 (by omega)
      clear hs hw p0 p1 p2
      go_wp2_with fail
      go_loopw [7, 8] (fun v7 v8 w' => ∃ nx', vw = v7 ∧ v8 = .int .i64 (z : Int) ∧ Srch n m fr tg cp R d s z len P R' nx' ∧ SrchW w w' B n gl vs R' nx' vw (wayL P len) ∧ sumNx nx n ≤ sumNx nx' n) (fun _ _ w' => ((((arcL fr tg n m).getD z []).length : Int) - readI w' (w.heap.size + 1) z).toNat)
      case atStart => exact ⟨nx, rfl, rfl, HS.out, HW.out, Int.le_refl _⟩
      case round =>
        obtain ⟨nx', rfl, rfl, hs, hw, hsum⟩ := hrel
        clear HS HW
        have hE := HE.out
        have hlo := hs.tried.lo z zlt
        have p0 := hw.c0
        have p1 := hw.c1
        have p2 := hw.c2
        rw [S0.out] at p0
        rw [S1.out] at p1
        simp only [Nat.zero_add] at p1 p2
        have hnet := hw.net HF.out HO.out hs.res.len
        obtain ⟨Au, cu, hgl, pl, pt⟩ := hnet.lv z zlt
        have hst := hw.steps HD.out HNe.out
        have hal := arcL_slen fr tg n z m hE
        obtain ⟨t, ht⟩ := Int.eq_ofNat_of_zero_le hlo
        obtain ⟨pn, fn⟩ := row_at hs.tried.len.symm hw.tr z zlt
        rw [ht] at pn
        have HMs := Lib.hid (readI_at pn)
        have b1 : (0 : Int) ≤ (z : Int) := by omega
        have b2 : (z : Int) < (n : Int) := by omega
        have HW := Lib.hid hw
        have HSum := Lib.hid hsum
        by_cases hlt : t < ((arcL fr tg n m).getD z []).length
        · obtain ⟨a, ha, ea, ez⟩ := arc_at hE hlt
          obtain ⟨ba, rfl, hba, pa⟩ := pt t hlt
          rw [ea] at pa
          obtain ⟨bh, ch, eh, hbh, ph⟩ := hnet.hd a ha
          rw [S0.out] at eh
          simp at eh
          obtain ⟨rfl, rfl⟩ := eh
          obtain ⟨br', cr', er, hbr', pr⟩ := hnet.rm a ha
          rw [S1.out] at er
          simp at er
          obtain ⟨rfl, rfl⟩ := er
          have hxn := hE.hd ha
          obtain ⟨px, _⟩ := row_at HLev.out.len.symm hst (hdA fr tg a) hxn
          obtain ⟨pz, _⟩ := row_at HLev.out.len.symm hst z zlt
          have dz1 := HLev.out.lo z zlt
          have dz2 := HLev.out.hi z zlt
          have dx1 := HLev.out.lo _ hxn
          have dx2 := HLev.out.hi _ hxn
          have hlt' : nx'.getD z 0 < (((arcL fr tg n m).getD z []).length : Int) := by rw [ht]; omega
          have ea' : ((arcL fr tg n m).getD z []).getD (nx'.getD z 0).toNat 0 = (a : Int) := by rw [ht]; exact ea
          have HSkip := Lib.hid (fun hno => hs.skip hE n1 HLev.out hlt' ea' hno)
          have HPush := Lib.hid (fun h1 h2 => hs.push HLev.out ha ez hlt' ea' h1 h2)
          have HSet := Lib.hid (hw.setN hs.tried.len z ((t : Int) + 1))
          have HNxt := Lib.hid (sumNx_next hs.tried.len zlt ((t : Int) + 1))
          rw [ht] at HNxt
          simp only [ht] at HSkip
          clear hs hw hnet hst pt hE hlt' ea' ea ez hsum
          generalize hra : R'.getD a 0 = ra at *
          generalize hdz : d.getD z 0 = dz at *
          generalize hdx : d.getD (hdA fr tg a) 0 = dx at *
          generalize hx : hdA fr tg a = x at *
          generalize ((arcL fr tg n m).getD z []).length = ly at *
          clear hra hdz hdx hx
          have b3 : (0 : Int) ≤ (t : Int) := by omega
          have b4 : (t : Int) < (ly : Int) := by omega
          have b5 : (0 : Int) ≤ (a : Int) := by omega
          have b6 : (a : Int) < ((2 * m : Nat) : Int) := by omega
          have b7 : (a : Int) < 2 * (m : Int) := by omega
          have b8 : (0 : Int) ≤ (x : Int) := by omega
          have b9 : (x : Int) < (n : Int) := by omega
          go_wp2_with fail
          go_region
          go_wp2_with fail
          go_region
          go_wp2_with fail
          by_cases hr0 : 0 < ra
          · by_cases hdd : dx = dz + 1
            · have G := Lib.hid (HPush.out hr0 hdd)
              subst hdd
              have HA := Lib.hid ((HW.out.alloc (.cells #[.int .i64 (a : Int)] 3)).drew.drew.drew)
              have hwl := wayL_len P len
              have hbig := HW.out.big
              go_region
              go_wp2_with (at_builtin; refine wpList_append_own _ rfl _ _ 23 rfl (w.heap.size + 1 + 1) 3 i0 (.int .i64 0) 1 8 Try.underlying23 HI.out hz0 hz1 hz2 rfl (by decide) _ _ _ rfl HA.out.way ⟨wr.heap.size, 0, none⟩ 1 1 [.int .i64 (a : Int)] rfl rfl ?c1 ?c2 ?c3 ?c4 ?c5 ?_)
              case c2 => rfl
              case c3 => unfold maxLen; omega
              case c4 => omega
              case c5 => omega
              intro v' w5 hown' hgrow _
              have HW5 := Lib.hid (HA.out.setW hgrow (row_more (by rw [hwl]; exact hown')))
              rw [← wayL_push] at HW5
              clear hown' hgrow
              go_wp2
              go_step3
              exact ⟨rfl, ⟨s, x, len + 1, upd P len a, R', nx'⟩, ⟨_, _, _, FrameIs.mk, rfl, rfl, G.out, HW5.out⟩, srchM_push llt HSum.out⟩
            · have G := Lib.hid (HSkip.out fun h => hdd h.2)
              have hdd' : (dx == dz + 1) = false := beq_eq_false_iff_ne.2 hdd
              have M := Lib.hid (HSet.out.drew.drew.drew)
              have e := readI_at (row_at G.out.tried.len.symm M.out.tr z zlt).1
              rw [getD_set _ _ _ _ (by have := G.out.tried.len; rw [List.length_set] at this; omega), if_pos rfl] at e
              have he := Lib.hid e
              clear e
              go_region
              go_wp2
              refine ⟨⟨nx'.set z (t + 1), rfl, rfl, G.out, M.out, ?_⟩, ?_⟩
              · have h1 := HNxt.out
                have h2 := HSum.out
                rw [h1]
                omega
              · rw [HMs.out, he.out]
                omega
          · have G := Lib.hid (HSkip.out fun h => hr0 h.1)
            have M := Lib.hid (HSet.out.drew.drew.drew)
            have e := readI_at (row_at G.out.tried.len.symm M.out.tr z zlt).1
            rw [getD_set _ _ _ _ (by have := G.out.tried.len; rw [List.length_set] at this; omega), if_pos rfl] at e
            have he := Lib.hid e
            clear e
            go_region
            go_wp2
            refine ⟨⟨nx'.set z (t + 1), rfl, rfl, G.out, M.out, ?_⟩, ?_⟩
            · have h1 := HNxt.out
              have h2 := HSum.out
              rw [h1]
              omega
            · rw [HMs.out, he.out]
              omega
        · have hth := hs.tried.hi z zlt
          have hdone : (((arcL fr tg n m).getD z []).length : Int) ≤ nx'.getD z 0 := by rw [ht]; omega
          have htl : ¬ (t : Int) < (((arcL fr tg n m).getD z []).length : Int) := by omega
          clear pt hnet
          cases len with
          | zero =>
            obtain ⟨Aw, cw, ew⟩ := hw.way.shape
            have e0 : (wayL P 0).length = 0 := rfl
            rw [e0] at ew
            subst ew
            have z0 : z = 0 := by
              have h1 := hs.way.last
              rw [if_pos rfl] at h1
              exact h1
            subst z0
            have hpos := hs.some n1 hE HLev.out HZ.out hdone
            have HRes2 := Lib.hid hs.res
            have HNet2 := Lib.hid hs.net
            have M := Lib.hid hw.drew
            clear hs hw hst hE hsum
            generalize ((arcL fr tg n m).getD 0 []).length = ly at *
            go_wp2_with fail
            go_region
            go_wp2
            simp only [Exit.jump]
            have hrow := M.out.room
            have hgrow := M.out.grow
            rw [S1.out] at hrow hgrow
            go_ret
            exact ⟨s, R', rfl, hpos, HRes2.out, hrow, HNet2.out, hgrow⟩
          | succ L =>
            obtain ⟨bw, cw, ew, hbw1, hbw2⟩ := hw.way.form (by rw [wayL_len]; omega)
            rw [wayL_len] at ew
            subst ew
            have hcap := hw.way.capy
            rw [wayL_len] at hcap
            have hPL := hs.way.arc L (by omega)
            obtain ⟨pw, _⟩ := row_at (wayL_len P (L + 1)).symm hw.way L (by omega)
            rw [wayL_at P (L + 1) L (by omega)] at pw
            have hxo := i64_xor_one (P L) (by omega)
            obtain ⟨bh, ch, eh, hbh, ph⟩ := (hw.net HF.out HO.out hs.res.len).hd (revA (P L)) (revA_lt hPL)
            rw [S0.out] at eh
            simp at eh
            obtain ⟨rfl, rfl⟩ := eh
            rw [hd_rev] at ph
            have hxl := hE.tl hPL
            obtain ⟨px, fx⟩ := row_at hs.tried.len.symm hw.tr (tlA fr tg (P L)) hxl
            have hp := hs.pop hE n1 HLev.out hzn hdone
            have hc := hw.cut (wayL_len P (L + 1))
            rw [wayL_pop] at hc
            have hset := hc.setN hs.tried.len (tlA fr tg (P L)) (nx'.getD (tlA fr tg (P L)) 0 + 1)
            have M := Lib.hid hset.drew.drew
            have G := Lib.hid hp
            have HNxt := Lib.hid (sumNx_next hs.tried.len hxl (nx'.getD (tlA fr tg (P L)) 0 + 1))
            have HSm := Lib.hid (hp.sum_le hE).2
            have hrv := revA_lt hPL
            have xb1 := hs.tried.lo _ hxl
            have xb2 := hs.tried.hi _ hxl
            have xb3 := arcL_slen fr tg n (tlA fr tg (P L)) m hE
            have hmx : cw ≤ 9223372036854775807 := by simpa [maxLen] using hcap.2
            have hcw := hcap.1
            clear hs hw hst hE hsum hp hc hset hcap
            generalize ((arcL fr tg n m).getD z []).length = ly at *
            generalize revA (P L) = rv at *
            generalize htx : tlA fr tg (P L) = x at *
            generalize P L = a at *
            generalize nx'.getD x 0 = y at *
            have b3 : (0 : Int) ≤ (L : Int) := by omega
            have b4 : (L : Int) < ((L + 1 : Nat) : Int) := by omega
            have b4' : (L : Int) < (L : Int) + 1 := by omega
            have b5 : (0 : Int) ≤ (rv : Int) := by omega
            have b6 : (rv : Int) < ((2 * m : Nat) : Int) := by omega
            have b7 : (rv : Int) < 2 * (m : Int) := by omega
            have b8 : (0 : Int) ≤ (x : Int) := by omega
            have b9 : (x : Int) < (n : Int) := by omega
            have b10 : (L : Int) ≤ (cw : Int) := by omega
            go_wp2_with fail
            go_region
            go_wp2_with fail
            go_region
            go_wp2
            go_step3
            refine ⟨rfl, ⟨s, x, L, P, R', nx'.set x (y + 1)⟩, ⟨_, _, _, FrameIs.mk, rfl, rfl, G.out, M.out⟩, srchM_pop ?_ HSm.out⟩
            have h1 := HNxt.out
            have h2 := HSum.out
            rw [h1]
            show sumNx nx n + 1 ≤ _
            omega
end Go.Proofs.Ytdgkgnlilcbggaa

namespace Go.Proofs.Ytdgkgnlilcbggaa
open Go.RowKit
set_option linter.unusedVariables false

theorem fill_holds : FillHolds := fun n m xs v w hn h => by
  obtain ⟨n1, n2, n3, _⟩ := netW_true hn
  exact c_fillNetwork n m xs v w hn (short_holds n m (eF xs) (eT xs) (eC xs) (ends_in hn) (by omega) (by omega) n3 fun k hk => (eF_at hn hk).2.2.2) h
set_option maxHeartbeats 4000000 in
set_option maxRecDepth 100000 in
theorem c_leastCutOf (n m : Nat) (xs : List Int) (v : Value) (w : World) (hn : netW n m xs = true) (h : SeenP w v m xs) :
    Calls Try.prog 45 #[.int .i64 n, v] w (GivesRow w (sel (lcP n m xs) n)) := by
  have C0 := Lib.hid (fill_holds n m xs v w hn h)
  obtain ⟨n1, n2, n3, _⟩ := netW_true hn
  obtain ⟨A, c, rfl, _, _, _⟩ := h
  clear hn
  go_enter Try.func45, Try.ntmps45
  go_wp2_with fail
  refine C0.out.mono ?_
  rintro e w2 ⟨v2, d, rfl, hr, hd, hlo, hgc, hb, _⟩
  have HB2 := Lib.hid hb
  have HSel := Lib.hid (sel_in hd hlo hgc)
  have CW := Lib.hid (c_whereIn d v2 (fun t => !(decide (t = -1))) w2 (by omega) hr.seen (fun k u hk hu => c_whereIn1 (d.getD k 0) u))
  rw [HSel.out] at CW
  obtain ⟨A2, c2, rfl⟩ := hr.shape
  rw [hd] at CW ⊢
  clear hb hr hlo hgc HSel C0
  go_wp2_with fail
  refine CW.out.mono ?_
  rintro e w3 ⟨v3, rfl, hr3, hb3⟩
  have HB3 : Hid (Below w.heap.size w w3) := HB2.out.trans (hb3.mono HB2.out.size)
  have HR3 := Lib.hid (hr3.mono HB2.out.size)
  clear hb3 hr3
  go_wp2
  go_ret
  exact ⟨_, rfl, HR3.out, HB3.out⟩

set_option maxHeartbeats 4000000 in
set_option maxRecDepth 100000 in
theorem c_greatestCutOf (n m : Nat) (xs : List Int) (v : Value) (w : World) (hn : netW n m xs = true) (h : SeenP w v m xs) :
    Calls Try.prog 42 #[.int .i64 n, v] w (GivesRow w (sel (gtP n m xs) n)) := by
  obtain ⟨n1, n2, n3, _⟩ := netW_true hn
  have C0 := Lib.hid (c_turnEdges n m xs v w (by omega) hn h)
  have HN := Lib.hid (netW_turn hn)
  obtain ⟨A, c, rfl, _, _, _⟩ := h
  clear hn
  go_enter Try.func42, Try.ntmps42
  go_wp2_with fail
  refine C0.out.mono ?_
  rintro e w1 ⟨v1, rfl, hr, hb⟩
  have HB := Lib.hid hb
  have HS1 := Lib.hid hr.seen
  obtain ⟨A1, c1, rfl⟩ := hr.shape
  clear hb hr C0
  go_wp2_with fail
  refine (fill_holds n m (turL n xs m) _ w1 HN.out HS1.out).mono ?_
  rintro e w2 ⟨v2, d, rfl, hr, hd, hlo, hgc, hb, _⟩
  have HB2 : Hid (Below w.heap.size w w2) := HB.out.trans (hb.mono HB.out.size)
  have HSel := Lib.hid (sel_out hd hlo hgc)
  obtain ⟨gd, cd, rfl, hgd, lgd⟩ := hr.form (by omega)
  rw [hd] at hr ⊢
  have CRv := Lib.hid (c_Reverse n gd cd w1.heap.size d w2 (by omega) (by omega) hd.symm hr)
  have hB1 := HB.out.size
  clear hb hr hlo hgc
  go_wp2_with fail
  refine CRv.out.mono ?_
  rintro e w3 ⟨rfl, hr3, hg3⟩
  have HB3 : Hid (Below w.heap.size w w3) := HB2.out.grown hg3 HB2.out.size (fun k hk => by simp at hk; omega)
  have CW := Lib.hid (c_whereOut (revK d n n) _ (fun t => decide (t = -1)) w3 (by rw [revK_len]; omega) hr3.seen (fun k u hk hu => c_whereOut1 ((revK d n n).getD k 0) u))
  rw [HSel.out] at CW
  clear hr3 hg3 HSel CRv
  go_wp2_with fail
  refine CW.out.mono ?_
  rintro e w4 ⟨v4, rfl, hr4, hb4⟩
  have HB4 : Hid (Below w.heap.size w w4) := HB3.out.trans (hb4.mono HB3.out.size)
  have HR4 := Lib.hid (hr4.mono HB3.out.size)
  clear hb4 hr4
  go_wp2
  go_ret
  exact ⟨_, rfl, HR4.out, HB4.out⟩

end Go.Proofs.Ytdgkgnlilcbggaa


namespace Go.Proofs.Ytdgkgnlilcbggaa
open Go.RowKit
set_option linter.unusedVariables false

/-- What comes of a capacity that is greater by x: whether there is a network then, and by how much the greatest flow grows. -/
def gwB (n : Int) (m : Nat) (xs : List Int) (k : Int) (x : Int) : Bool := netB n m xs && (decide (0 ≤ k ∧ k < m) && netB n m (growX xs k.toNat x))
noncomputable def gwV (n : Int) (m : Nat) (xs : List Int) (k : Int) (x : Int) : Int := if gwB n m xs k x then gfA n m (growX xs k.toNat x) - gfA n m xs else 0
theorem gw_no {n : Int} {m : Nat} {xs : List Int} {k x : Int} (h : gwB n m xs k x = false) : gwV n m xs k x = 0 := by unfold gwV; rw [h]; rfl
theorem gw_yes {n : Int} {m : Nat} {xs : List Int} {k x : Int} (h : gwB n m xs k x = true) : gwV n m xs k x = gfA n m (growX xs k.toNat x) - gfA n m xs := by unfold gwV; rw [h]; rfl
theorem cap_ne {n : Int} {m k : Nat} {xs : List Int} {x : Int} (hk : k < m) (hxs : xs.length = m * 3) (h : netB n m (growX xs k x) = true) : 0 ≤ xs.getD (k * 3 + 2) 0 + x ∧ xs.getD (k * 3 + 2) 0 + x ≤ 1000000000 := by
  obtain ⟨_, _, _, a4⟩ := net_true h
  have e := edg_true (edgAll_at a4 hk)
  have g : (growX xs k x).getD (k * 3 + 2) 0 = xs.getD (k * 3 + 2) 0 + x := by
    unfold growX
    simp [List.getD_eq_getElem?_getD, show k * 3 + 2 < xs.length by omega]
  rw [g] at e
  omega
theorem gw_gr {n : Int} {m : Nat} {xs : List Int} {k x z : Int} (hx : (x = 1 ∧ z = 1000000000) ∨ (x = -1 ∧ z = 0)) (hxs : xs.length = m * 3) : gwB n m xs k x = grB n m xs k z := by
  cases hn : netB n m xs
  · rw [grB_no hn]; unfold gwB; rw [hn]; rfl
  · by_cases hr : 0 ≤ k ∧ k < m
    · obtain ⟨K, rfl⟩ := Int.eq_ofNat_of_zero_le hr.1
      have hK : K < m := by omega
      obtain ⟨_, _, _, hE⟩ := net_true hn
      have hc := edg_true (edgAll_at hE hK)
      by_cases hz : xs.getD (K * 3 + 2) 0 = z
      · rw [grB_eq hz]
        unfold gwB
        cases hg : netB n m (growX xs (K : Int).toNat x)
        · simp
        · rw [Int.toNat_natCast] at hg
          have := cap_ne hK hxs hg
          omega
      · rw [grB_yes hn hK hz]
        have hg := net_grow hn hK hxs (x := x) (by omega) (by omega)
        unfold gwB
        rw [hn, Int.toNat_natCast, hg, decide_eq_true hr]
        rfl
    · rw [grB_out hr]; unfold gwB; rw [decide_eq_false hr]; simp

end Go.Proofs.Ytdgkgnlilcbggaa
