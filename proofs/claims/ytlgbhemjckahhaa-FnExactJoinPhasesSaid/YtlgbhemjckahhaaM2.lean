/-
  Contracts of the law's own helpers over models: lists and models copied, measured and compared.
-/
import Derived.Test.YtlgbhemjckahhaaM1
namespace Go.Proofs.Ytlgbhemjckahhaa
open Go.RowKit

set_option maxHeartbeats 400000 in
theorem c_szIntS (A : Option Addr) (n c : Nat) (left : Int) (w : World) (h1 : 0 ≤ left) (h2 : left ≤ 1048576) (hn : n ≤ 9223372036854775807) :
    Calls Try.prog 44 #[.slice A n c, .int .i64 left] w fun e w' => e = .returned (.int .i64 (if (n : Int) ≤ left then left - n else -1)) ∧ w = w' := by
  by_cases h : (n : Int) ≤ left
  · rw [if_pos h]
    go_enter Try.func44, Try.ntmps44
    go_wp2
    go_ret
    exact ⟨rfl, rfl⟩
  · rw [if_neg h]
    go_enter Try.func44, Try.ntmps44
    go_wp2
    go_ret
    exact ⟨rfl, rfl⟩

/-- What szModel answers: less than 0 if there are too many. -/
def SzIs (n1 n2 n3 : Nat) (r : Int) : Prop := (1048576 < n1 + n2 + n3 ∧ r = -1) ∨ (n1 + n2 + n3 ≤ 1048576 ∧ r = 1048576 - n1 - n2 - n3)

set_option maxHeartbeats 1000000 in
theorem c_szModel (x y z : Int) (A1 A2 A3 : Option Addr) (n1 n2 n3 c1 c2 c3 : Nat) (w : World) (h1 : n1 ≤ 9223372036854775807) (h2 : n2 ≤ 9223372036854775807) (h3 : n3 ≤ 9223372036854775807) :
    Calls Try.prog 34 #[.agg #[.int .i64 x, .int .i64 y, .int .i64 z, .slice A1 n1 c1, .slice A2 n2 c2, .slice A3 n3 c3], .int .i64 1048576] w fun e w' => (∃ r, e = .returned (.int .i64 r) ∧ SzIs n1 n2 n3 r) ∧ Below w.heap.size w w' := by
  go_enter Try.func34, Try.ntmps34
  go_wp2_with fail
  refine (c_szIntS _ _ _ _ _ (by omega) (by omega) h1).mono ?_
  rintro e w1 ⟨rfl, rfl⟩
  by_cases e1 : (n1 : Int) ≤ 1048576
  · rw [if_pos e1]
    go_wp2_with fail
    refine (c_szIntS _ _ _ _ _ (by omega) (by omega) h2).mono ?_
    rintro e w1 ⟨rfl, rfl⟩
    by_cases e2 : (n2 : Int) ≤ 1048576 - n1
    · rw [if_pos e2]
      go_wp2_with fail
      refine (c_szIntS _ _ _ _ _ (by omega) (by omega) h3).mono ?_
      rintro e w1 ⟨rfl, rfl⟩
      by_cases e3 : (n3 : Int) ≤ 1048576 - n1 - n2
      · rw [if_pos e3]
        go_wp2
        go_ret
        exact ⟨⟨_, rfl, .inr ⟨by omega, rfl⟩⟩, by go_grown⟩
      · rw [if_neg e3]
        go_wp2
        go_ret
        exact ⟨⟨_, rfl, .inl ⟨by omega, rfl⟩⟩, by go_grown⟩
    · rw [if_neg e2]
      go_wp2
      go_ret
      exact ⟨⟨_, rfl, .inl ⟨by omega, rfl⟩⟩, by go_grown⟩
  · rw [if_neg e1]
    go_wp2
    go_ret
    exact ⟨⟨_, rfl, .inl ⟨by omega, rfl⟩⟩, by go_grown⟩

theorem Row.put {w : World} {B : Nat} {v : Value} {xs : List Int} (h : Row w B v xs) {a : Addr} (ha : a.block < B) (u : Value) : Row (w.setCell a u) B v xs := ownsRow_setCell_below h ha u

theorem apart_of {w1 w2 : World} {B1 B2 : Nat} {v1 v2 : Value} {xs ys : List Int} (h1 : Row w1 B1 v1 xs) (h2 : Row w2 B2 v2 ys) (h : w1.heap.size ≤ B2) : Apart v1.ownBlock v2.ownBlock := by
  cases e1 : v1.ownBlock with
  | none => exact .inl rfl
  | some g =>
    refine .inr fun h4 => ?_
    have l2 := (World.ownsRow.lt h1 g e1).2
    have l4 := (World.ownsRow.lt h2 g h4.symm).1
    omega

/-- The three lists of a model that lies in memory from block B on, none sharing with another. -/
structure Mod (w : World) (B : Nat) (v1 v2 v3 : Value) (ts gs rs : List Int) : Prop where
  t : Row w B v1 ts
  g : Row w B v2 gs
  r : Row w B v3 rs
  tg : Apart v1.ownBlock v2.ownBlock
  tr : Apart v1.ownBlock v3.ownBlock
  gr : Apart v2.ownBlock v3.ownBlock
theorem Mod.below {w w' : World} {B : Nat} {v1 v2 v3 : Value} {ts gs rs : List Int} (h : Mod w B v1 v2 v3 ts gs rs) (hb : Below w.heap.size w w') : Mod w' B v1 v2 v3 ts gs rs := ⟨h.t.below hb, h.g.below hb, h.r.below hb, h.tg, h.tr, h.gr⟩
theorem Mod.mono {w : World} {B B' : Nat} {v1 v2 v3 : Value} {ts gs rs : List Int} (h : Mod w B v1 v2 v3 ts gs rs) (hB : B' ≤ B) : Mod w B' v1 v2 v3 ts gs rs := ⟨h.t.mono hB, h.g.mono hB, h.r.mono hB, h.tg, h.tr, h.gr⟩
def GivesMod (w : World) (x y z : Int) (ts gs rs : List Int) (e : Ending) (w' : World) : Prop :=
  ∃ v1 v2 v3, e = .returned (.agg #[.int .i64 x, .int .i64 y, .int .i64 z, v1, v2, v3]) ∧ Mod w' w.heap.size v1 v2 v3 ts gs rs ∧ Below w.heap.size w w'

set_option maxHeartbeats 1000000 in
theorem c_toModel (x y z : Int) (v1 v2 v3 : Value) (ts gs rs : List Int) (w : World) (l1 : ts.length ≤ 4000000) (l2 : gs.length ≤ 4000000) (l3 : rs.length ≤ 4000000) (h1 : Seen w v1 ts) (h2 : Seen w v2 gs) (h3 : Seen w v3 rs) :
    Calls Try.prog 36 #[.agg #[.int .i64 x, .int .i64 y, .int .i64 z, v1, v2, v3]] w (GivesMod w x y z ts gs rs) := by
  have S1 := Lib.hid h1
  have S2 := Lib.hid h2
  have S3 := Lib.hid h3
  obtain ⟨A1, c1, rfl, m1, _⟩ := h1
  obtain ⟨A2, c2, rfl, m2, _⟩ := h2
  obtain ⟨A3, c3, rfl, m3, _⟩ := h3
  clear m1 m2 m3
  go_enter Try.func36, Try.ntmps36
  go_wp2_with fail
  refine (c_toGrid _ _ _ _).mono ?_
  rintro e w1 ⟨rfl, hb1⟩
  obtain ⟨hc1, hf1⟩ := bcell hb1
  have s1 := hb1.size
  simp at s1 hc1 hf1
  have a0 : w.heap.size < w1.heap.size := by omega
  have a1 : w.heap.size + 1 < w1.heap.size := by omega
  have a2 : w.heap.size + 1 + 1 < w1.heap.size := by omega
  have B1 : Below w.heap.size w w1 := ((((Below.refl _ _).alloc (Nat.le_refl _) _).alloc (by simp) _).alloc (by simp; omega) _).trans (hb1.mono (by simp; omega))
  have HB1 := Lib.hid B1
  clear B1 hb1
  go_wp2_with fail
  have B2 : Hid (Below w.heap.size w (((w1.setCell { block := w.heap.size + 1 + 1, off := 0 } (Value.int IntKind.i64 x)).setCell { block := w.heap.size + 1 + 1, off := 1 } (Value.int IntKind.i64 y)).setCell { block := w.heap.size + 1 + 1, off := 2 } (Value.int IntKind.i64 z))) :=
    ((HB1.out.setCell (by show _ ≤ w.heap.size + 1 + 1; omega) _).setCell (by show _ ≤ w.heap.size + 1 + 1; omega) _).setCell (by show _ ≤ w.heap.size + 1 + 1; omega) _
  refine (c_toIntS ts _ _ l1 (S1.out.below B2.out)).mono ?_
  rintro e w2 ⟨u1, rfl, hr1, hb2⟩
  obtain ⟨U1, d1, rfl⟩ := hr1.shape
  obtain ⟨hc2, hf2⟩ := bcell hb2
  have s2 := hb2.size
  simp at s2 hc2 hf2
  have R1 := Lib.hid hr1
  have HB2 : Hid (Below w.heap.size w w2) := B2.out.trans (hb2.mono (by simp; omega))
  have HQ2 := Lib.hid hb2
  clear hr1 hb2 B2
  have p20 : w.heap.size < w2.heap.size := by omega
  have p21 : w.heap.size + 1 < w2.heap.size := by omega
  have p22 : w.heap.size + 1 + 1 < w2.heap.size := by omega
  go_wp2_with fail
  have B3 : Hid (Below w.heap.size w (w2.setCell { block := w.heap.size + 1 + 1, off := 3 } (.slice U1 ts.length d1))) := HB2.out.setCell (by show _ ≤ w.heap.size + 1 + 1; omega) _
  refine (c_toIntS gs _ _ l2 (S2.out.below B3.out)).mono ?_
  rintro e w3 ⟨u2, rfl, hr2, hb3⟩
  obtain ⟨U2, d2, rfl⟩ := hr2.shape
  obtain ⟨hc3, hf3⟩ := bcell hb3
  have s3 := hb3.size
  simp at s3 hc3 hf3
  have R2 := Lib.hid hr2
  have HB3 : Hid (Below w.heap.size w w3) := B3.out.trans (hb3.mono (by simp; omega))
  have HQ3 := Lib.hid hb3
  clear hr2 hb3 B3
  have p30 : w.heap.size < w3.heap.size := by omega
  have p31 : w.heap.size + 1 < w3.heap.size := by omega
  have p32 : w.heap.size + 1 + 1 < w3.heap.size := by omega
  go_wp2_with fail
  have B4 : Hid (Below w.heap.size w (w3.setCell { block := w.heap.size + 1 + 1, off := 4 } (.slice U2 gs.length d2))) := HB3.out.setCell (by show _ ≤ w.heap.size + 1 + 1; omega) _
  refine (c_toIntS rs _ _ l3 (S3.out.below B4.out)).mono ?_
  rintro e w4 ⟨u3, rfl, hr3, hb4⟩
  obtain ⟨U3, d3, rfl⟩ := hr3.shape
  obtain ⟨hc4, hf4⟩ := bcell hb4
  have s4 := hb4.size
  simp at s4 hc4 hf4
  have R3 := Lib.hid hr3
  have HB4 : Hid (Below w.heap.size w w4) := B4.out.trans (hb4.mono (by simp; omega))
  have HQ4 := Lib.hid hb4
  clear hr3 hb4 B4
  have p40 : w.heap.size < w4.heap.size := by omega
  have p41 : w.heap.size + 1 < w4.heap.size := by omega
  have p42 : w.heap.size + 1 + 1 < w4.heap.size := by omega
  go_wp2
  have k1 : Hid (w.heap.size + 3 ≤ (((w1.setCell { block := w.heap.size + 1 + 1, off := 0 } (Value.int IntKind.i64 x)).setCell { block := w.heap.size + 1 + 1, off := 1 } (Value.int IntKind.i64 y)).setCell { block := w.heap.size + 1 + 1, off := 2 } (Value.int IntKind.i64 z)).heap.size) := by simp [Hid]; omega
  have e2 : Hid ((w2.setCell { block := w.heap.size + 1 + 1, off := 3 } (.slice U1 ts.length d1)).heap.size = w2.heap.size) := by simp [Hid]
  have e3 : Hid ((w3.setCell { block := w.heap.size + 1 + 1, off := 4 } (.slice U2 gs.length d2)).heap.size = w3.heap.size) := by simp [Hid]
  have lt : Hid (∀ i j : Nat, i ≤ 2 → (Addr.mk (w.heap.size + i) j none).block < w.heap.size + 3) := fun i j hi => by show w.heap.size + i < _; omega
  have T2 : Hid (Row w2 (w.heap.size + 3) (.slice U1 ts.length d1) ts) := R1.out.mono k1.out
  have T3 : Hid (Row w3 (w.heap.size + 3) (.slice U1 ts.length d1) ts) := (T2.out.put (lt.out 2 3 (by omega)) _).below HQ3.out
  have T4 : Hid (Row w4 (w.heap.size + 3) (.slice U1 ts.length d1) ts) := (T3.out.put (lt.out 2 4 (by omega)) _).below HQ4.out
  have G3 : Hid (Row w3 (w.heap.size + 3) (.slice U2 gs.length d2) gs) := R2.out.mono (by rw [e2.out]; omega)
  have G4 : Hid (Row w4 (w.heap.size + 3) (.slice U2 gs.length d2) gs) := (G3.out.put (lt.out 2 4 (by omega)) _).below HQ4.out
  have H4 : Hid (Row w4 (w.heap.size + 3) (.slice U3 rs.length d3) rs) := R3.out.mono (by rw [e3.out]; omega)
  have P1 : Hid (Apart (Value.slice U1 ts.length d1).ownBlock (Value.slice U2 gs.length d2).ownBlock) := apart_of R1.out R2.out (by rw [e2.out]; exact Nat.le_refl _)
  have P2 : Hid (Apart (Value.slice U1 ts.length d1).ownBlock (Value.slice U3 rs.length d3).ownBlock) := apart_of R1.out R3.out (by rw [e3.out]; omega)
  have P3 : Hid (Apart (Value.slice U2 gs.length d2).ownBlock (Value.slice U3 rs.length d3).ownBlock) := apart_of R2.out R3.out (by rw [e3.out]; exact Nat.le_refl _)
  have fin : ∀ {v : Value} {xs : List Int}, Row w4 (w.heap.size + 3) v xs → Row (((((((w4.setCell { block := w.heap.size + 1 + 1, off := 5 } (Value.slice U3 rs.length d3)).setCell { block := w.heap.size + 1, off := 0 } (Value.int IntKind.i64 x)).setCell { block := w.heap.size + 1, off := 1 } (Value.int IntKind.i64 y)).setCell { block := w.heap.size + 1, off := 2 } (Value.int IntKind.i64 z)).setCell { block := w.heap.size + 1, off := 3 } (Value.slice U1 ts.length d1)).setCell { block := w.heap.size + 1, off := 4 } (Value.slice U2 gs.length d2)).setCell { block := w.heap.size + 1, off := 5 } (Value.slice U3 rs.length d3)) w.heap.size v xs := fun {v xs} h =>
    Row.mono (((((((h.put (lt.out 2 5 (by omega)) _).put (lt.out 1 0 (by omega)) _).put (lt.out 1 1 (by omega)) _).put (lt.out 1 2 (by omega)) _).put (lt.out 1 3 (by omega)) _).put (lt.out 1 4 (by omega)) _).put (lt.out 1 5 (by omega)) _) (by omega)
  have ge : Hid (∀ i j : Nat, w.heap.size ≤ (Addr.mk (w.heap.size + i) j none).block) := fun i j => by show _ ≤ w.heap.size + i; omega
  refine bodyPost_ret (v := .agg #[.int .i64 x, .int .i64 y, .int .i64 z, .slice U1 ts.length d1, .slice U2 gs.length d2, .slice U3 rs.length d3]) (by simp [results, Try.results36, go_sem, hc1, hc2, hc3, hc4, a1, p21, p31]) rfl ⟨_, _, _, rfl, ⟨fin T4.out, fin G4.out, fin H4.out, P1.out, P2.out, P3.out⟩, ?_⟩
  exact ((((((HB4.out.setCell (ge.out 2 5) _).setCell (ge.out 1 0) _).setCell (ge.out 1 1) _).setCell (ge.out 1 2) _).setCell (ge.out 1 3) _).setCell (ge.out 1 4) _).setCell (ge.out 1 5) _

set_option maxHeartbeats 400000 in
theorem c_eqGrid (x y z : Int) (w : World) : Calls Try.prog 70 #[.agg #[.int .i64 x, .int .i64 y, .int .i64 z], .agg #[.int .i64 x, .int .i64 y, .int .i64 z]] w fun e w' => e = .returned (.bool true) ∧ Below w.heap.size w w' := by
  have hx : (x != x) = false := by simp
  have hy : (y != y) = false := by simp
  have hz : (z != z) = false := by simp
  go_enter Try.func70, Try.ntmps70
  go_wp2
  go_ret
  exact ⟨rfl, by go_grown⟩
end Go.Proofs.Ytlgbhemjckahhaa
