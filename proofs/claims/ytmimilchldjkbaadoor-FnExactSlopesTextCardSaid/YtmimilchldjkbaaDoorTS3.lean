/-
  Contracts: SlopesText, in the model and in the program.
-/
import Derived.Test.YtmimilchldjkbaaDoorTS2
import Derived.Test.YtmimilchldjkbaaDoorTX0
import Derived.Test.YtmimilchldjkbaaDoorShelfT
namespace Go.Proofs.YtmimilchldjkbaaDoor
open Go.RowKit
set_option linter.unusedVariables false

def stS (x y z : Int) (ss : List Int) (tss : List (List Int)) : ByteArray := if sloV x y z ss tss then slAll ss tss else ⟨#[]⟩
theorem st_no {x y z : Int} {ss : List Int} {tss : List (List Int)} (h : sloV x y z ss tss = false) : stS x y z ss tss = ⟨#[]⟩ := by unfold stS; rw [h]; rfl
theorem st_yes {x y z : Int} {ss : List Int} {tss : List (List Int)} (h : sloV x y z ss tss = true) : stS x y z ss tss = slAll ss tss := by unfold stS; rw [h]; rfl

set_option maxHeartbeats 1000000 in
theorem c_slBoth (x y z : Int) (v1 v2 : Value) (ss : List Int) (tss : List (List Int)) (w : World) (l1 : ss.length ≤ 4000000) (l2 : ShortT tss) (h : LookS w v1 v2 ss tss) :
    Calls Tryd.prog 55 #[.agg #[.int .i64 x, .int .i64 y, .int .i64 z], .agg #[v1, v2]] w fun e w' => e = .returned (.bool (sloV x y z ss tss)) ∧ Below w.heap.size w w' := by
  have H := Lib.hid h
  have L2 := Lib.hid l2
  obtain ⟨A1, c1, rfl, m1, _⟩ := h.s
  obtain ⟨A2, c2, rfl, m2⟩ := h.t.shape
  clear h m1 m2 l2
  have HX0 : Hid (Box3 ((w.alloc (.cells #[.int .i64 x, .int .i64 y, .int .i64 z] 30)).alloc (.cells #[.slice A1 ss.length c1, .slice A2 tss.length c2] 27)) w.heap.size x y z) := (Box3.new _ _ _ _ _).below ((Below.refl _ _).alloc (Nat.le_refl _) _)
  have HY0 : Hid (Mine2 ((w.alloc (.cells #[.int .i64 x, .int .i64 y, .int .i64 z] 30)).alloc (.cells #[.slice A1 ss.length c1, .slice A2 tss.length c2] 27)) (w.heap.size + 1) (.slice A1 ss.length c1) (.slice A2 tss.length c2)) := by
    have := Mine2.new (w.alloc (.cells #[.int .i64 x, .int .i64 y, .int .i64 z] 30)) (.slice A1 ss.length c1) (.slice A2 tss.length c2) 27
    simp at this
    exact this
  have HB0 : Hid (Below w.heap.size w ((w.alloc (.cells #[.int .i64 x, .int .i64 y, .int .i64 z] 30)).alloc (.cells #[.slice A1 ss.length c1, .slice A2 tss.length c2] 27))) := ((Below.refl _ _).alloc (Nat.le_refl _) _).alloc (by simp) _
  have HV : Hid (sloV x y z ss tss = (goodB x y z && sloB x y ss tss)) := rfl
  generalize sloV x y z ss tss = RV at *
  cases hg : goodB x y z
  · have G : Hid (RV = false) := by have := HV.out; rw [hg] at this; exact this
    have C1 : Hid (∀ u, Calls Tryd.prog 38 #[.agg #[.int .i64 x, .int .i64 y, .int .i64 z]] u fun e w' => e = .returned (.bool false) ∧ Below u.heap.size u w') := fun u => by rw [← hg]; exact c_grGood x y z u
    clear hg HV
    go_enter Tryd.func55, Tryd.ntmps55
    go_wp2_with fail
    refine (C1.out _).mono ?_
    rintro e w1 ⟨rfl, hb1⟩
    have HB1 : Hid (Below w.heap.size w w1) := HB0.out.trans (hb1.mono HB0.out.size)
    clear hb1
    go_wp2
    go_ret
    exact ⟨ret_bool G.out.symm, HB1.out⟩
  · have C1 : Hid (∀ u, Calls Tryd.prog 38 #[.agg #[.int .i64 x, .int .i64 y, .int .i64 z]] u fun e w' => e = .returned (.bool true) ∧ Below u.heap.size u w') := fun u => by rw [← hg]; exact c_grGood x y z u
    have CG : Hid (∀ u, Below w.heap.size w u → Calls Tryd.prog 98 #[.agg #[.int .i64 x, .int .i64 y, .int .i64 z], .agg #[.slice A1 ss.length c1, .slice A2 tss.length c2]] u fun e w' => e = .returned (.bool (sloB x y ss tss)) ∧ Below u.heap.size u w') := fun u hu => c_slGood x y z _ _ ss tss u hg l1 L2.out (H.out.below hu)
    have G : Hid (RV = sloB x y ss tss) := by have := HV.out; rw [hg] at this; exact this
    clear HV hg
    go_enter Tryd.func55, Tryd.ntmps55
    go_wp2_with fail
    generalize ((w.alloc (.cells #[.int .i64 x, .int .i64 y, .int .i64 z] 30)).alloc (.cells #[.slice A1 ss.length c1, .slice A2 tss.length c2] 27)) = W at *
    refine (C1.out _).mono ?_
    rintro e w1 ⟨rfl, hb1⟩
    have HB1 : Hid (Below w.heap.size w w1) := HB0.out.trans (hb1.mono HB0.out.size)
    have HX1 := Lib.hid (HX0.out.below hb1)
    have HY1 := Lib.hid (HY0.out.below hb1)
    clear hb1
    have x0 := HX1.out.c0
    have x1 := HX1.out.c1
    have x2 := HX1.out.c2
    have y0 := HY1.out.c0
    have y1 := HY1.out.c1
    go_wp2_with fail
    refine (CG.out _ HB1.out).mono ?_
    rintro e w2 ⟨rfl, hb2⟩
    have HB2 : Hid (Below w.heap.size w w2) := HB1.out.trans (hb2.mono HB1.out.size)
    clear hb2
    go_wp2
    go_ret
    exact ⟨ret_bool G.out.symm, HB2.out⟩

set_option maxHeartbeats 4000000 in
theorem c_SlopesTextS (x y z : Int) (v1 v2 : Value) (ss : List Int) (tss : List (List Int)) (w : World) (l1 : ss.length ≤ 4000000) (l2 : ShortT tss) (h : LookS w v1 v2 ss tss) :
    Calls Tryd.prog 19 #[.agg #[.int .i64 x, .int .i64 y, .int .i64 z], .agg #[v1, v2]] w fun e w' => e = .returned (.tuple #[.string (stS x y z ss tss), .bool (sloV x y z ss tss)]) ∧ Below w.heap.size w w' := by
  have H := Lib.hid h
  have L2 := Lib.hid l2
  obtain ⟨A1, c1, rfl, m1, _⟩ := h.s
  obtain ⟨A2, c2, rfl, m2⟩ := h.t.shape
  clear h m1 m2 l2
  have HX0 : Hid (Box3 ((w.alloc (.cells #[.int .i64 x, .int .i64 y, .int .i64 z] 30)).alloc (.cells #[.slice A1 ss.length c1, .slice A2 tss.length c2] 27)) w.heap.size x y z) := (Box3.new _ _ _ _ _).below ((Below.refl _ _).alloc (Nat.le_refl _) _)
  have HY0 : Hid (Mine2 ((w.alloc (.cells #[.int .i64 x, .int .i64 y, .int .i64 z] 30)).alloc (.cells #[.slice A1 ss.length c1, .slice A2 tss.length c2] 27)) (w.heap.size + 1) (.slice A1 ss.length c1) (.slice A2 tss.length c2)) := by
    have := Mine2.new (w.alloc (.cells #[.int .i64 x, .int .i64 y, .int .i64 z] 30)) (.slice A1 ss.length c1) (.slice A2 tss.length c2) 27
    simp at this
    exact this
  have HB0 : Hid (Below w.heap.size w ((w.alloc (.cells #[.int .i64 x, .int .i64 y, .int .i64 z] 30)).alloc (.cells #[.slice A1 ss.length c1, .slice A2 tss.length c2] 27))) := ((Below.refl _ _).alloc (Nat.le_refl _) _).alloc (by simp) _
  have CB := Lib.hid (fun u hu => c_slBoth x y z _ _ ss tss u l1 L2.out (H.out.below hu))
  cases hv : sloV x y z ss tss
  · rw [st_no hv]
    rw [hv] at CB
    clear hv
    go_enter Tryd.func19, Tryd.ntmps19
    go_wp2_with fail
    generalize ((w.alloc (.cells #[.int .i64 x, .int .i64 y, .int .i64 z] 30)).alloc (.cells #[.slice A1 ss.length c1, .slice A2 tss.length c2] 27)) = W at *
    have x0 := HX0.out.c0
    have x1 := HX0.out.c1
    have x2 := HX0.out.c2
    have y0 := HY0.out.c0
    have y1 := HY0.out.c1
    go_wp2_with fail
    refine (CB.out _ HB0.out).mono ?_
    rintro e w1 ⟨rfl, hb⟩
    have HB1 : Hid (Below w.heap.size w w1) := HB0.out.trans (hb.mono HB0.out.size)
    clear hb
    go_wp2
    go_ret2
    exact ⟨rfl, HB1.out⟩
  · have CT := Lib.hid (fun u hu => c_slText _ _ ss tss u (slOk hv) (H.out.below hu))
    rw [st_yes hv]
    rw [hv] at CB
    clear hv
    generalize slAll ss tss = R at *
    go_enter Tryd.func19, Tryd.ntmps19
    go_wp2_with fail
    generalize ((w.alloc (.cells #[.int .i64 x, .int .i64 y, .int .i64 z] 30)).alloc (.cells #[.slice A1 ss.length c1, .slice A2 tss.length c2] 27)) = W at *
    have x0 := HX0.out.c0
    have x1 := HX0.out.c1
    have x2 := HX0.out.c2
    have y0 := HY0.out.c0
    have y1 := HY0.out.c1
    go_wp2_with fail
    refine (CB.out _ HB0.out).mono ?_
    rintro e w1 ⟨rfl, hb⟩
    have HB1 : Hid (Below w.heap.size w w1) := HB0.out.trans (hb.mono HB0.out.size)
    have HY1 := Lib.hid (HY0.out.below hb)
    clear hb x0 x1 x2 y0 y1
    have y0 := HY1.out.c0
    have y1 := HY1.out.c1
    go_wp2_with fail
    refine (CT.out _ HB1.out).mono ?_
    rintro e w2 ⟨rfl, hb⟩
    have HB2 : Hid (Below w.heap.size w w2) := HB1.out.trans (hb.mono HB1.out.size)
    clear hb
    go_wp2
    go_ret2
    exact ⟨rfl, HB2.out⟩

theorem Mine2.under2 {w w' : World} {b N : Nat} {u0 u1 : Value} (h : Mine2 w b u0 u1) (hb : Below N w w') (hN : b < N) : Mine2 w' b u0 u1 := h.under hb hN

set_option maxHeartbeats 16000000 in
set_option maxRecDepth 100000 in
theorem c_SlopesText (x y z : Int) (v1 v2 : Value) (ss : List Int) (tss : List (List Int)) (w : World) (l1 : ss.length ≤ 4000000) (l2 : ShortT tss) (h : LookS w v1 v2 ss tss) (htb : TB w) :
    Calls Tryd.prog 21 #[.agg #[.int .i64 x, .int .i64 y, .int .i64 z], .agg #[v1, v2]] w fun e w' => e = .returned (.tuple #[.string (stS x y z ss tss), .bool (sloV x y z ss tss)]) ∧ Below w.heap.size w w' := by
  have H := Lib.hid h
  have L2 := Lib.hid l2
  have HTB := Lib.hid htb
  obtain ⟨A1, c1, rfl, m1, _⟩ := h.s
  obtain ⟨A2, c2, rfl, m2, hA2⟩ := h.t
  have HX0 : Hid (Box3 ((w.alloc (.cells #[.int .i64 x, .int .i64 y, .int .i64 z] 30)).alloc (.cells #[.slice A1 ss.length c1, .slice A2 tss.length c2] 27)) w.heap.size x y z) := (Box3.new _ _ _ _ _).below ((Below.refl _ _).alloc (Nat.le_refl _) _)
  have HY0 : Hid (Mine2 ((w.alloc (.cells #[.int .i64 x, .int .i64 y, .int .i64 z] 30)).alloc (.cells #[.slice A1 ss.length c1, .slice A2 tss.length c2] 27)) (w.heap.size + 1) (.slice A1 ss.length c1) (.slice A2 tss.length c2)) := by
    have := Mine2.new (w.alloc (.cells #[.int .i64 x, .int .i64 y, .int .i64 z] 30)) (.slice A1 ss.length c1) (.slice A2 tss.length c2) 27
    simp at this
    exact this
  have HB0 : Hid (Below w.heap.size w ((w.alloc (.cells #[.int .i64 x, .int .i64 y, .int .i64 z] 30)).alloc (.cells #[.slice A1 ss.length c1, .slice A2 tss.length c2] 27))) := ((Below.refl _ _).alloc (Nat.le_refl _) _).alloc (by simp) _
  have CB := Lib.hid (fun u hu => c_AreSlopes x y z _ _ ss tss u l1 L2.out (H.out.below hu))
  have E2 : Hid (∀ j, j < tss.length → ∃ b off A' c', A2 = some ⟨b, off, none⟩ ∧ b < w.heap.size ∧ w.cell? ⟨b, off + j, none⟩ = some (.slice A' ((tss.getD j []).length / 3) c') ∧ SeenP w (.slice A' ((tss.getD j []).length / 3) c') ((tss.getD j []).length / 3) (tss.getD j [])) := fun j hj => by
    obtain ⟨b, off, rfl, hb, hc⟩ := hA2 (by omega)
    obtain ⟨u, hu, hs⟩ := hc j hj
    obtain ⟨A', c', rfl, _⟩ := hs.shape
    exact ⟨b, off, A', c', rfl, hb, hu, hs⟩
  clear h m1 m2 hA2 l2 htb
  cases hv : sloV x y z ss tss
  · rw [st_no hv]
    rw [hv] at CB
    clear hv
    generalize goodB x y z = gg at *
    go_enter Tryd.func21, Tryd.ntmps21
    go_wp2_with fail
    generalize ((w.alloc (.cells #[.int .i64 x, .int .i64 y, .int .i64 z] 30)).alloc (.cells #[.slice A1 ss.length c1, .slice A2 tss.length c2] 27)) = W at *
    have x0 := HX0.out.c0
    have x1 := HX0.out.c1
    have x2 := HX0.out.c2
    have y0 := HY0.out.c0
    have y1 := HY0.out.c1
    go_wp2_with fail
    refine (CB.out _ HB0.out).mono ?_
    rintro e w1 ⟨rfl, hb⟩
    have HB1 : Hid (Below w.heap.size w w1) := HB0.out.trans (hb.mono HB0.out.size)
    clear hb
    go_wp2
    go_ret2
    exact ⟨rfl, HB1.out⟩
  · have ho := slOk hv
    have h3 : ∀ j, j < tss.length → (tss.getD j []).length / 3 * 3 = (tss.getD j []).length := fun j hj => by
      obtain ⟨_, _, _, _, _, _, _, hs⟩ := E2.out j hj
      obtain ⟨_, _, _, _, hx, _⟩ := hs
      omega
    have CN : Hid (∀ (j : Nat) (A' : Option Addr) (c' : Nat) u, j < tss.length → SeenP u (.slice A' ((tss.getD j []).length / 3) c') ((tss.getD j []).length / 3) (tss.getD j []) → Calls Tryd.prog 62 #[.slice A' ((tss.getD j []).length / 3) c'] u (GivesRow u (tss.getD j []))) := fun j A' c' u hj hs => c_numbersOf _ _ _ u (by have := (ho.row j hj (h3 j hj)).1; omega) hs
    have CL : Hid (∀ (j : Nat) (v : Value) u, j < tss.length → Seen u v (tss.getD j []) → Below w.heap.size w u → Calls Tryd.prog 61 #[.string ⟨#[116, 101, 109, 112, 108, 97, 116, 101]⟩, v] u fun e w' => e = .returned (.string (linW tWd (tss.getD j []) (tss.getD j []).length ++ ⟨#[10]⟩)) ∧ Below u.heap.size u w') := fun j v u hj hs hu => c_lineOf tWd _ v u (by decide) (by have := (ho.row j hj (h3 j hj)).1; omega) (ho.row j hj (h3 j hj)).2 hs (tabIs_below HTB.out hu)
    have CM : Hid (∀ u, Below w.heap.size w u → Calls Tryd.prog 61 #[.string ⟨#[115, 101, 99, 116, 111, 114, 115]⟩, .slice A1 ss.length c1] u fun e w' => e = .returned (.string (linW sWd ss ss.length ++ ⟨#[10]⟩)) ∧ Below u.heap.size u w') := fun u hu => c_lineOf sWd ss _ u (by decide) (by have := ho.s; omega) ho.sm (H.out.s.below hu) (tabIs_below HTB.out hu)
    have CW : Hid (∀ (b : Nat) (l : List UInt8) (s : ByteArray) (u : World), Build b b l u → l.length + s.size ≤ 1000000 → Calls Tryd.prog 60 #[.pointer (some ⟨b, 0, none⟩), .string s] u fun e w' => (∃ q : Int, e = .returned (.tuple #[.int .i64 q, .nilIface])) ∧ Build b b (l ++ s.data.toList) w' ∧ Below b u w') := fun b l s u hu hs => (c_WriteString b b l s u hu hs (Nat.le_of_lt hu.lt)).mono fun e w' hh => ⟨⟨_, hh.1⟩, hh.2.1, hh.2.2.1⟩
    have TS : Hid (∀ j, slTx tss (j + 1) = slTx tss j ++ (linW tWd (tss.getD j []) (tss.getD j []).length ++ ⟨#[10]⟩)) := fun j => rfl
    have HZ : Hid (∀ j, j ≤ tss.length → (slTx tss j).size ≤ 401 * j) := slTx_size ho h3
    have HL : Hid (∀ j, j < tss.length → (linW tWd (tss.getD j []) (tss.getD j []).length ++ ⟨#[10]⟩ : ByteArray).size ≤ 401) := fun j hj => by
      have := tline_size ho hj (h3 j hj) (Nat.le_refl _)
      rw [ByteArray.size_append]
      show _ + 1 ≤ _
      omega
    have HM : Hid ((linW sWd ss ss.length ++ ⟨#[10]⟩ : ByteArray).size ≤ 1000) := by
      have := linW_size (w := sWd) ho.sm ss.length (Nat.le_refl _)
      have := ho.s
      have e : sWd.size = 7 := rfl
      unfold Hid
      rw [ByteArray.size_append]
      show _ + 1 ≤ _
      omega
    have T0 : Hid ((slTx tss 0).data.toList = []) := rfl
    have HAll : Hid (slAll ss tss = slTx tss tss.length ++ (linW sWd ss ss.length ++ ⟨#[10]⟩)) := rfl
    have hn4 := ho.n
    rw [st_yes hv]
    rw [hv] at CB
    clear hv ho h3
    generalize slAll ss tss = R at *
    generalize goodB x y z = gg at *
    generalize slTx tss = X at *
    generalize linW sWd ss ss.length ++ ⟨#[10]⟩ = ZS at *
    generalize hns : ss.length = ns at *
    generalize hnt : tss.length = nt at *
    clear hns hnt
    go_enter Tryd.func21, Tryd.ntmps21
    go_wp2_with fail
    generalize ((w.alloc (.cells #[.int .i64 x, .int .i64 y, .int .i64 z] 30)).alloc (.cells #[.slice A1 ns c1, .slice A2 nt c2] 27)) = W at *
    have x0 := HX0.out.c0
    have x1 := HX0.out.c1
    have x2 := HX0.out.c2
    have y0 := HY0.out.c0
    have y1 := HY0.out.c1
    go_wp2_with fail
    refine (CB.out _ HB0.out).mono ?_
    rintro e w1 ⟨rfl, hb⟩
    have HY1 := Lib.hid (HY0.out.below hb)
    have HB1 : Hid (Below w.heap.size w w1) := HB0.out.trans (hb.mono HB0.out.size)
    clear hb x0 x1 x2 y0 y1
    have HBd2 : Hid (Build w1.heap.size w1.heap.size [] (w1.alloc (.cells #[.pointer none, .slice none 0 0] 93))) := Lib.IsBuilderF.of (Lib.fresh_isBuilder _ _ w1)
    have HB2 : Hid (Below w.heap.size w (w1.alloc (.cells #[.pointer none, .slice none 0 0] 93))) := HB1.out.alloc HB1.out.size _
    have HY2 := Lib.hid (HY1.out.below ((Below.refl _ _).alloc (Nat.le_refl _) (.cells #[.pointer none, .slice none 0 0] 93)))
    have lb : w.heap.size + 1 < w1.heap.size := HY1.out.lt
    have y0 := HY1.out.c0
    have y1 := HY1.out.c1
    go_wp2_with fail
    generalize w1.alloc (.cells #[.pointer none, .slice none 0 0] 93) = w2 at *
    generalize w1.heap.size = b at *
    clear y0 y1
    go_loopw [22] (fun i wr => ∃ j : Nat, j ≤ nt ∧ i = .int .i64 j ∧ Build b b (X j).data.toList wr ∧ Mine2 wr (w.heap.size + 1) (.slice A1 ns c1) (.slice A2 nt c2) ∧ Below w.heap.size w wr) (fun i _ => nt - (intOf i).toNat)
    case atStart => exact ⟨0, Nat.zero_le _, rfl, by rw [T0.out]; exact HBd2.out, HY2.out, HB2.out⟩
    case round =>
      obtain ⟨j, hj, rfl, hbd, hy, hb⟩ := hrel
      have HBd := Lib.hid hbd
      have HY := Lib.hid hy
      have HB := Lib.hid hb
      clear hbd hy hb
      have hz := HZ.out j hj
      have hxl : (X j).data.toList.length = (X j).size := Array.length_toList
      by_cases hlt : j < nt
      · obtain ⟨b1, o1, A', c', rfl, l1', q1, hs⟩ := E2.out j hlt
        rw [← HB.out.cell (p := ⟨b1, o1 + j, none⟩) l1'] at q1
        have CNj := Lib.hid (CN.out j A' c' wr hlt (hs.below HB.out))
        have CLj := Lib.hid (fun v u hs hu => CL.out j v u hlt hs hu)
        have TSj := Lib.hid (TS.out j)
        have hl2 := HL.out j hlt
        have b0 : (0 : Int) ≤ (j : Int) := by omega
        have b9 : (j : Int) < (nt : Int) := by omega
        have LB : Hid (b ≤ wr.heap.size) := Nat.le_of_lt HBd.out.lt
        clear hs
        generalize linW tWd (tss.getD j []) (tss.getD j []).length ++ ⟨#[10]⟩ = LN at *
        generalize (tss.getD j []).length / 3 = mm at *
        generalize tss.getD j [] = ys at *
        go_wp2_with fail
        refine CNj.out.mono ?_
        rintro e w3 ⟨v, rfl, hr, hb⟩
        have HR3 := Lib.hid hr
        have HBd3 := Lib.hid (HBd.out.below hb)
        have HY3 := Lib.hid (HY.out.below hb)
        have HB3 : Hid (Below w.heap.size w w3) := HB.out.trans (hb.mono HB.out.size)
        clear hr hb
        go_wp2_with fail
        refine (CLj.out _ _ HR3.out.seen HB3.out).mono ?_
        rintro e w4 ⟨rfl, hb⟩
        have HBd4 := Lib.hid (HBd3.out.below hb)
        have HY4 := Lib.hid (HY3.out.below hb)
        have HB4 : Hid (Below w.heap.size w w4) := HB3.out.trans (hb.mono HB3.out.size)
        clear hb
        go_wp2_with fail
        refine (CW.out b _ LN _ HBd4.out (by omega)).mono ?_
        rintro e w5 ⟨⟨q, rfl⟩, hB5, hb⟩
        have HBd5 : Hid (Build b b (X (j + 1)).data.toList w5) := by unfold Hid; rw [TSj.out]; simpa using hB5
        have HY5 := Lib.hid (HY4.out.under hb lb)
        have HB5 : Hid (Below w.heap.size w w5) := HB4.out.trans (hb.mono (by omega))
        clear hb hB5
        go_wp2
        go_roundw
        case rel => exact ⟨j + 1, by omega, by go_num, HBd5.out, HY5.out, HB5.out⟩
        case measure => simp [intOf]; omega
      · obtain rfl : j = nt := by omega
        have hzs := HM.out
        have y0 := HY.out.c0
        go_wp2_with fail
        refine (CM.out _ HB.out).mono ?_
        rintro e w4 ⟨rfl, hb⟩
        have HBd4 := Lib.hid (HBd.out.below hb)
        have HB4 : Hid (Below w.heap.size w w4) := HB.out.trans (hb.mono HB.out.size)
        clear hb y0
        go_wp2_with fail
        refine (CW.out b _ ZS _ HBd4.out (by omega)).mono ?_
        rintro e w5 ⟨⟨q, rfl⟩, hB5, hb⟩
        have HBd5 : Hid (Build b b R.data.toList w5) := by unfold Hid; rw [HAll.out]; simpa using hB5
        have HB5 : Hid (Below w.heap.size w w5) := HB4.out.trans (hb.mono (by omega))
        clear hb hB5
        have CS := Lib.hid (Tryd.Builder_String_any_k b b R.data.toList w5 HBd5.out (Nat.le_of_lt HBd5.out.lt))
        have hT : Hid ((⟨R.data.toList.toArray⟩ : ByteArray) = R) := by unfold Hid; simp
        rw [hT.out] at CS
        go_wp2_with fail
        refine CS.out.mono ?_
        rintro e w6 ⟨rfl, _, hb, _⟩
        have HB6 : Hid (Below w.heap.size w w6) := HB5.out.trans (hb.mono (by omega))
        clear hb
        go_wp2
        go_ret2
        exact ⟨rfl, HB6.out⟩
end Go.Proofs.YtmimilchldjkbaaDoor
