/-
  Contracts: words read as numbers, in the program; what the laid variables give.
-/
import Derived.Test.YtgibkjjjnfjbkaaDoorLS2
import Derived.Test.YtgibkjjjnfjbkaaDoorM1
import Derived.Test.YtgibkjjjnfjbkaaDoorTX1
import Derived.Test.YtgibkjjjnfjbkaaDoorShelfN
import Derived.Test.YtgibkjjjnfjbkaaDoorShelfW
import Derived.Test.YtgibkjjjnfjbkaaDoorShelfL
import Derived.Lib.AtoiErrMem
namespace Go.Proofs.YtgibkjjjnfjbkaaDoor
open Go.RowKit
set_option linter.unusedVariables false

/-- What the laid variables give. -/
structure LB (w : World) : Prop where
  tb : TB w
  sp : Lib.TabIs Tryd.prog w "strings.asciiSpace" .u8 Lib.asciiSpaceTab
  wh : Lib.WhiteTab 1 w
  es : ∃ te pe, w.cell? ⟨2, 0, none⟩ = some (.iface te pe)
  er : ∃ te pe, w.cell? ⟨3, 0, none⟩ = some (.iface te pe)
  ml : ∃ m, w.cell? ⟨4, 0, none⟩ = some (.int .i64 m)
theorem cell_lt {w : World} {a : Addr} {v : Value} (h : w.cell? a = some v) : a.block < w.heap.size := Lib.lt_of_cell h
theorem LB.below {w w' : World} (h : LB w) (hb : Below w.heap.size w w') : LB w' := by
  obtain ⟨te, pe, h1⟩ := h.es
  obtain ⟨tr, pr, h2⟩ := h.er
  obtain ⟨m, h3⟩ := h.ml
  exact ⟨tabIs_below h.tb hb, tabIs_below h.sp hb, WhiteTab_below h.wh hb, ⟨te, pe, (hb.cell (cell_lt h1)).trans h1⟩, ⟨tr, pr, (hb.cell (cell_lt h2)).trans h2⟩, ⟨m, (hb.cell (cell_lt h3)).trans h3⟩⟩

/-- The slice v reads as these strings. -/
def SeenW (w : World) (v : Value) (ps : List (List UInt8)) : Prop :=
  ∃ A c, v = .slice A ps.length c ∧ (ps.length = 0 ∨ ∃ b off, A = some ⟨b, off, none⟩ ∧ b < w.heap.size ∧ ∀ k, k < ps.length → w.cell? ⟨b, off + k, none⟩ = some (.string ⟨(ps.getD k []).toArray⟩))
theorem SeenW.below {w w' : World} {v : Value} {ps : List (List UInt8)} (h : SeenW w v ps) (hb : Below w.heap.size w w') : SeenW w' v ps := by
  obtain ⟨A, c, rfl, h⟩ := h
  refine ⟨A, c, rfl, ?_⟩
  rcases h with h | ⟨b, off, e, hl, hc⟩
  · exact .inl h
  · exact .inr ⟨b, off, e, Nat.lt_of_lt_of_le hl hb.size, fun k hk => (hb.cell (p := ⟨b, off + k, none⟩) hl).trans (hc k hk)⟩
theorem SeenW.shape {w : World} {v : Value} {ps : List (List UInt8)} (h : SeenW w v ps) : ∃ A c, v = .slice A ps.length c := by
  obtain ⟨A, c, rfl, _⟩ := h
  exact ⟨A, c, rfl⟩
theorem SeenW.at_ {w : World} {A : Option Addr} {n c : Nat} {ps : List (List UInt8)} (h : SeenW w (.slice A n c) ps) {k : Nat} (hk : k < ps.length) : ∃ b off, A = some ⟨b, off, none⟩ ∧ b < w.heap.size ∧ w.cell? ⟨b, off + k, none⟩ = some (.string ⟨(ps.getD k []).toArray⟩) := by
  obtain ⟨A', c', e, h⟩ := h
  simp at e
  obtain ⟨rfl, _, _⟩ := e
  rcases h with h | ⟨b, off, e, hl, hc⟩
  · omega
  · exact ⟨b, off, e, hl, hc k hk⟩
theorem RowS.below {w w' : World} {B : Nat} {v : Value} {ps : List (List UInt8)} (h : RowS w B v ps) (hb : Below w.heap.size w w') : RowS w' B v ps :=
  World.ownsRow.kept (row := none) h ⟨hb.os, hb.tape, hb.output, hb.size, fun k hk _ => hb.block k hk⟩ (by cases v.ownBlock <;> simp)
theorem RowS.seen {w : World} {B : Nat} {v : Value} {ps : List (List UInt8)} (h : RowS w B v ps) : SeenW w v ps := by
  rcases Nat.eq_zero_or_pos ps.length with h0 | h0
  · rcases h.2 with ⟨rfl, _⟩ | ⟨g, cap, cur, rfl, _⟩
    · exact ⟨none, 0, by rw [h0], .inl h0⟩
    · exact ⟨_, _, rfl, .inl h0⟩
  · obtain ⟨g, c, rfl, _, hl⟩ := World.ownsRow.form h h0
    refine ⟨_, _, rfl, .inr ⟨g, 0, rfl, hl, fun k hk => ?_⟩⟩
    rw [Nat.zero_add, World.ownsRow.cellAt h k (by omega)]
    simp [strs, hk]

def aoB (p : List UInt8) : Bool := match Lib.atoiAll p with | .ok _ => true | _ => false
def aoV (p : List UInt8) : Int := match Lib.atoiAll p with | .ok v => v | _ => 0
/-- All the words read as numbers, if they are. -/
def nuB (ps : List (List UInt8)) : Bool := ps.all aoB
def nuA (ps : List (List UInt8)) : List Int := if nuB ps then ps.map aoV else []

theorem c_AtoiW (p : List UInt8) (w : World) (hp : p.length ≤ 2000000) (hb : LB w) :
    Calls Tryd.prog 37 #[.string ⟨p.toArray⟩] w fun e w' => ((aoB p = true ∧ e = .returned (.tuple #[.int .i64 (aoV p), .nilIface])) ∨ (aoB p = false ∧ ∃ u te pe, e = .returned (.tuple #[.int .i64 u, .iface te pe]))) ∧ Below w.heap.size w w' := by
  have hsz : (⟨p.toArray⟩ : ByteArray).size = p.length := by show p.toArray.size = _; simp
  have hda : (⟨p.toArray⟩ : ByteArray).data.toList = p := by simp
  cases h : Lib.atoiAll p with
  | ok v =>
    refine (Tryd.strconv_Atoi_ok ⟨p.toArray⟩ (by omega) v (by rw [hda]; exact h) w).mono ?_
    rintro e w' ⟨rfl, hw⟩
    refine ⟨.inl ⟨by unfold aoB; rw [h], by unfold aoV; rw [h]⟩, ?_⟩
    rcases hw with rfl | ⟨t, rfl⟩
    · exact Below.refl _ _
    · exact Lib.bytesWorld_below _ _ _
  | «syntax» =>
    obtain ⟨te, pe, hc⟩ := hb.es
    refine (Tryd.strconv_Atoi_syntax ⟨p.toArray⟩ (by omega) (by rw [hda]; exact h) _ w hc (.inr ⟨te, pe, rfl⟩)).mono ?_
    rintro e w' ⟨N, rfl, _, _, hbw⟩
    exact ⟨.inr ⟨by unfold aoB; rw [h], _, _, _, rfl⟩, hbw⟩
  | range =>
    obtain ⟨te, pe, hc⟩ := hb.er
    refine (Tryd.strconv_Atoi_range ⟨p.toArray⟩ (by omega) (by rw [hda]; exact h) _ w hc (.inr ⟨te, pe, rfl⟩)).mono ?_
    rintro e w' ⟨N, rfl, _, _, hbw⟩
    exact ⟨.inr ⟨by unfold aoB; rw [h], _, _, _, rfl⟩, hbw⟩
def GivesN (w : World) (ys : List Int) (b : Bool) (e : Ending) (w' : World) : Prop := ∃ v, e = .returned (.tuple #[v, .bool b]) ∧ Row w' w.heap.size v ys ∧ Below w.heap.size w w'
theorem nu_no {ps : List (List UInt8)} {k : Nat} (hk : k < ps.length) (h : aoB (ps.getD k []) = false) : nuB ps = false := by
  unfold nuB
  rw [List.all_eq_false]
  refine ⟨ps.getD k [], ?_, by rw [h]; simp⟩
  rw [List.getD_eq_getElem?_getD, List.getElem?_eq_getElem hk]
  exact List.getElem_mem hk
theorem nu_take {ps : List (List UInt8)} {k : Nat} (hk : k < ps.length) : (ps.take (k + 1)).map aoV = (ps.take k).map aoV ++ [aoV (ps.getD k [])] := by
  rw [List.take_succ_eq_append_getElem hk, List.map_append, show ps[k] = ps.getD k [] by simp [hk]]
  rfl

set_option maxHeartbeats 4000000 in
set_option maxRecDepth 100000 in
theorem c_readNumbers (ps : List (List UInt8)) (v : Value) (w : World) (hl : ps.length ≤ 2000000) (hp : ∀ p, p ∈ ps → p.length ≤ 2000000) (hs : SeenW w v ps) (hb : LB w) :
    Calls Tryd.prog 26 #[v] w (GivesN w (nuA ps) (nuB ps)) := by
  obtain ⟨i0, hi0, hz0, hz1, hz2⟩ := info_parts int_info
  have HI := Lib.hid hi0
  have HS := Lib.hid hs
  have HLB := Lib.hid hb
  obtain ⟨A, c, rfl⟩ := hs.shape
  have CA : Hid (∀ (k : Nat) w1, k < ps.length → Below w.heap.size w w1 → Calls Tryd.prog 37 #[.string ⟨(ps.getD k []).toArray⟩] w1 fun e w' => ((aoB (ps.getD k []) = true ∧ e = .returned (.tuple #[.int .i64 (aoV (ps.getD k [])), .nilIface])) ∨ (aoB (ps.getD k []) = false ∧ ∃ u te pe, e = .returned (.tuple #[.int .i64 u, .iface te pe]))) ∧ Below w1.heap.size w1 w') := fun k w1 hk hb => c_AtoiW _ w1 (hp _ (by rw [List.getD_eq_getElem?_getD, List.getElem?_eq_getElem hk]; exact List.getElem_mem hk)) (HLB.out.below hb)
  have E0 : Hid ((ps.take 0).map aoV = []) := rfl
  have ES : Hid (∀ k, k < ps.length → (ps.take k).map aoV ++ [aoV (ps.getD k [])] = (ps.take (k + 1)).map aoV) := fun k hk => (nu_take hk).symm
  have EL : Hid (∀ k, k ≤ ps.length → ((ps.take k).map aoV).length = k) := fun k hk => by simp; omega
  have EN : Hid (∀ k, k < ps.length → aoB (ps.getD k []) = false → nuA ps = [] ∧ nuB ps = false) := fun k hk h => by
    have := nu_no hk h
    exact ⟨by unfold nuA; rw [this]; rfl, this⟩
  have EY : Hid ((∀ k, k < ps.length → aoB (ps.getD k []) = true) → (ps.take ps.length).map aoV = nuA ps ∧ nuB ps = true) := fun h => by
    have : nuB ps = true := by
      unfold nuB
      rw [List.all_eq_true]
      intro p hp
      obtain ⟨k, hk, rfl⟩ := List.getElem_of_mem hp
      have := h k hk
      rwa [List.getD_eq_getElem?_getD, List.getElem?_eq_getElem hk] at this
    exact ⟨by unfold nuA; rw [this, if_pos rfl, List.take_length], this⟩
  clear hs hb hp hi0
  obtain ⟨O, hO⟩ : ∃ O : Nat → List Int, (fun k => (ps.take k).map aoV) = O := ⟨_, rfl⟩
  have HO : Hid (∀ k, (ps.take k).map aoV = O k) := fun k => congrFun hO k
  simp only [HO.out] at E0 ES EL EY
  clear hO HO
  go_enter Tryd.func26, Tryd.ntmps26
  go_wp2_with fail
  go_loopw [4, 11] (fun q i wr => ∃ (k : Nat) (Aq : Option Addr) (cq : Nat), k ≤ ps.length ∧ i = .int .i64 k ∧ q = .slice Aq k cq ∧ Row wr w.heap.size q (O k) ∧ Below w.heap.size w wr ∧ (∀ j, j < k → aoB (ps.getD j []) = true)) (fun _ i _ => ps.length - (RowKit.intOf i).toNat)
  case atStart => exact ⟨0, none, 0, Nat.zero_le _, rfl, rfl, by rw [E0.out]; exact Row.nil _ _, Below.refl _ _, fun j hj => by omega⟩
  case round =>
    obtain ⟨k, Aq, cq, hk, rfl, rfl, hr, hb, hj⟩ := hrel
    have HR := Lib.hid hr
    have HB := Lib.hid hb
    have HJ := Lib.hid hj
    clear hr hb hj
    by_cases hlt : k < ps.length
    · obtain ⟨bb, off, rfl, _, q0⟩ := (HS.out.below HB.out).at_ hlt
      have b1 : (0 : Int) ≤ (k : Int) := by omega
      have b2 : (k : Int) < (ps.length : Int) := by omega
      have CAk := Lib.hid (CA.out k wr hlt HB.out)
      have ESk := Lib.hid (ES.out k hlt)
      have ENk := Lib.hid (EN.out k hlt)
      have HJ2 : Hid (aoB (ps.getD k []) = true → ∀ j, j < k + 1 → aoB (ps.getD j []) = true) := fun h j hj => by
        by_cases e : j = k
        · rw [e]; exact h
        · exact HJ.out j (by omega)
      have hlen := EL.out k hk
      generalize ps.getD k [] = p at *
      go_wp2_with fail
      refine CAk.out.mono ?_
      rintro e w2 ⟨⟨ha, rfl⟩ | ⟨ha, u, te, pe, rfl⟩, hb2⟩
      · have HB2 := Lib.hid (HB.out.trans (hb2.mono HB.out.size))
        have HR2 := Lib.hid (HR.out.below hb2)
        have HJ3 := Lib.hid (HJ2.out ha)
        have sz2 := HB2.out.size
        have hown : Hid (w2.ownsRow w.heap.size 3 1 (.slice Aq k cq) k (ints (O k))) := by
          have := HR2.out
          unfold Row at this
          rw [hlen] at this
          exact this
        clear ha hb2 q0
        generalize aoV p = t at *
        go_wp2_with (at_builtin; refine wpList_append_own _ rfl _ _ 24 rfl (w.heap.size) 3 i0 (.int .i64 0) 1 8 Tryd.underlying24 HI.out hz0 hz1 hz2 rfl (by decide) _ _ _ rfl (World.ownsRow.alloc hown.out _) ⟨w2.heap.size, 0, none⟩ 1 1 [.int .i64 t] rfl rfl ?c1 ?c2 ?c3 ?c4 ?c5 ?_)
        case c1 =>
          intro jj u hjj
          match jj, hjj with
          | 0, hjj => simp at hjj; subst hjj; simp [Addr.add]
        case c2 => intro u hu; simp at hu; subst hu; rfl
        case c3 => unfold maxLen; omega
        case c4 => omega
        case c5 => simp; omega
        intro v' w5 hown' hgrow _
        have R1 : Hid (Row w5 w.heap.size v' (O (k + 1))) := by
          rw [← ESk.out]
          unfold Row
          rw [List.length_append, hlen, show ints (O k ++ [t]) = ints (O k) ++ [.int .i64 t] by simp [ints]]
          exact hown'
        have R2 : Hid (Below w.heap.size w w5) := ((HB2.out.alloc (by omega) _).grown hgrow (by simp; omega) (fun g hg => (World.ownsRow.lt hown.out g hg).1))
        obtain ⟨A5, c5, e5⟩ := R1.out.shape
        rw [EL.out (k + 1) (by omega)] at e5
        subst e5
        clear hown' hgrow
        go_wp2
        go_roundw
        case rel => exact ⟨k + 1, A5, c5, by omega, by go_num, rfl, R1.out, R2.out, HJ3.out⟩
        case measure => simp [RowKit.intOf]; omega
      · have HB2 := Lib.hid (HB.out.trans (hb2.mono HB.out.size))
        have G := Lib.hid (ENk.out ha)
        clear hb2 ha q0
        go_wp2
        go_ret2
        exact ⟨_, by rw [G.out.2]; rfl, by rw [G.out.1]; exact Row.nil _ _, HB2.out⟩
    · obtain rfl : k = ps.length := by omega
      have G := Lib.hid (EY.out HJ.out)
      rw [G.out.1] at HR
      have hlen : (nuA ps).length = ps.length := by have := EL.out ps.length (Nat.le_refl _); rw [G.out.1] at this; exact this
      go_wp2
      go_ret2
      exact ⟨_, by rw [G.out.2]; rfl, HR.out, HB.out⟩
end Go.Proofs.YtgibkjjjnfjbkaaDoor
