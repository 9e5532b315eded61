/-
  Contracts: a line of numbers; an offset list's numbers; numbers with a sign; the text of slopes in the model.
-/
import Derived.Test.YtmimilchldjkbaaDoorTX1
import Derived.Test.YtmimilchldjkbaaDoorK8
import Derived.Test.YtmimilchldjkbaaDoorAP
namespace Go.Proofs.YtmimilchldjkbaaDoor
open Go.RowKit
set_option linter.unusedVariables false

/-- A word and the first k numbers behind it. -/
def linW (w : ByteArray) (xs : List Int) : Nat → ByteArray
  | 0 => w
  | k + 1 => linW w xs k ++ (⟨#[32]⟩ ++ itS (xs.getD k 0))
def AllSm (xs : List Int) : Prop := ∀ k, k < xs.length → -1000 ≤ xs.getD k 0 ∧ xs.getD k 0 ≤ 1000
theorem linW_size {w : ByteArray} {xs : List Int} (h : AllSm xs) : ∀ k, k ≤ xs.length → (linW w xs k).size ≤ w.size + 9 * k
  | 0, _ => by simp [linW]
  | k + 1, hk => by
    have ih := linW_size (w := w) h k (by omega)
    obtain ⟨a, b⟩ := h k (by omega)
    have := itS_size (n := xs.getD k 0) (by omega) (by omega)
    rw [linW, ByteArray.size_append, ByteArray.size_append, show (⟨#[32]⟩ : ByteArray).size = 1 from rfl]
    omega

set_option maxHeartbeats 4000000 in
set_option maxRecDepth 100000 in
theorem c_lineOf (wd : ByteArray) (xs : List Int) (v : Value) (w : World) (hw : wd.size ≤ 100) (hl : xs.length ≤ 1000) (hs : AllSm xs) (h : Seen w v xs) (htb : TB w) :
    Calls Tryd.prog 61 #[.string wd, v] w fun e w' => e = .returned (.string (linW wd xs xs.length ++ ⟨#[10]⟩)) ∧ Below w.heap.size w w' := by
  have HL : Hid (∀ k, k ≤ xs.length → (linW wd xs k).size ≤ wd.size + 9 * k) := linW_size hs
  have HS : Hid (∀ k, linW wd xs (k + 1) = linW wd xs k ++ (⟨#[32]⟩ ++ itS (xs.getD k 0))) := fun k => rfl
  have H0 : Hid (linW wd xs 0 = wd) := rfl
  have CI : Hid (∀ (k : Nat) u, k < xs.length → Below w.heap.size w u → Calls Tryd.prog 105 #[.int .i64 (xs.getD k 0)] u fun e w' => e = .returned (.string (itS (xs.getD k 0))) ∧ Below u.heap.size u w') := fun k u hk hu => by
    obtain ⟨a, b⟩ := hs k hk
    exact c_ItoaT _ u (by omega) (by omega) (tabIs_below htb hu)
  have HZ : Hid (∀ k, k < xs.length → (itS (xs.getD k 0)).size ≤ 8) := fun k hk => by
    obtain ⟨a, b⟩ := hs k hk
    exact itS_size (by omega) (by omega)
  have E1 : Hid (∀ k, k < xs.length → ∃ A c b off, v = .slice A xs.length c ∧ A = some ⟨b, off, none⟩ ∧ b < w.heap.size ∧ w.cell? ⟨b, off + k, none⟩ = some (.int .i64 (xs.getD k 0))) := fun k hk => by
    obtain ⟨A, c, rfl, _, h'⟩ := h
    obtain ⟨b, off, rfl, hb, hc⟩ := h' (by omega)
    exact ⟨_, _, b, off, rfl, rfl, hb, hc k hk⟩
  obtain ⟨A, c, rfl⟩ : ∃ A c, v = .slice A xs.length c := by
    obtain ⟨A, c, rfl, _⟩ := h
    exact ⟨A, c, rfl⟩
  clear hs h htb
  generalize linW wd xs = T at *
  generalize hn : xs.length = n at *
  clear hn
  go_enter Tryd.func61, Tryd.ntmps61
  go_wp2_with fail
  go_loopw [5, 11] (fun s i wr => ∃ k : Nat, k ≤ n ∧ i = .int .i64 k ∧ s = .string (T k) ∧ Below w.heap.size w wr) (fun _ i _ => n - (intOf i).toNat)
  case atStart => exact ⟨0, Nat.zero_le _, rfl, by rw [H0.out], Below.refl _ _⟩
  case round =>
    obtain ⟨k, hk, rfl, rfl, hb⟩ := hrel
    have HB := Lib.hid hb
    clear hb
    have hz := HL.out k hk
    by_cases hlt : k < n
    · obtain ⟨A', c', b, off, e1, rfl, hb, hc⟩ := E1.out k hlt
      obtain ⟨rfl, rfl⟩ : A = some ⟨b, off, none⟩ ∧ c = c' := by injection e1 with e1 _ e2; exact ⟨e1, e2⟩
      have q1 : wr.cell? ⟨b, off + k, none⟩ = some (.int .i64 (xs.getD k 0)) := by rw [HB.out.cell (p := ⟨b, off + k, none⟩) hb]; exact hc
      have hz2 := HZ.out k hlt
      have CIk := Lib.hid (fun u hu => CI.out k u hlt hu)
      have HSk := Lib.hid (HS.out k)
      have a1 := addsT ⟨#[32]⟩ (itS (xs.getD k 0)) (by show 1 + _ ≤ _; omega)
      have a2 := addsT (T k) (⟨#[32]⟩ ++ itS (xs.getD k 0)) (by rw [ByteArray.size_append]; show _ + (1 + _) ≤ _; omega)
      have b0 : (0 : Int) ≤ (k : Int) := by omega
      have b9 : (k : Int) < (n : Int) := by omega
      clear hc e1 hz hz2
      generalize xs.getD k 0 = t at *
      generalize T k = S0 at *
      go_wp2_with fail
      refine (CIk.out _ HB.out).mono ?_
      rintro e w6 ⟨rfl, hb6⟩
      have HB6 : Hid (Below w.heap.size w w6) := HB.out.trans (hb6.mono HB.out.size)
      clear hb6
      go_wp2
      go_roundw
      case rel => exact ⟨k + 1, by omega, by go_num, by rw [HSk.out], HB6.out⟩
      case measure => simp [intOf]; omega
    · obtain rfl : k = n := by omega
      have a3 := addsT (T k) ⟨#[10]⟩ (by show _ + 1 ≤ _; omega)
      clear hz
      go_wp2
      go_ret
      exact ⟨rfl, HB.out⟩

theorem flat3_go {xs : List Int} {k : Nat} (h : k * 3 + 2 < xs.length) : xs.take ((k + 1) * 3) = xs.take (k * 3) ++ [xs.getD (k * 3) 0, xs.getD (k * 3 + 1) 0, xs.getD (k * 3 + 2) 0] := by
  have one : ∀ j, j < xs.length → xs.take (j + 1) = xs.take j ++ [xs.getD j 0] := fun j hj => by
    rw [List.take_add_one]
    simp [List.getD_eq_getElem?_getD, hj]
  rw [show (k + 1) * 3 = k * 3 + 1 + 1 + 1 by omega, one (k * 3 + 1 + 1) (by omega), one (k * 3 + 1) (by omega), one (k * 3) (by omega)]
  simp

set_option maxHeartbeats 4000000 in
set_option maxRecDepth 100000 in
theorem c_numbersOf (n : Nat) (xs : List Int) (v : Value) (w : World) (hl : n ≤ 1000) (h : SeenP w v n xs) :
    Calls Tryd.prog 62 #[v] w (GivesRow w xs) := by
  obtain ⟨i0, hi0, hz0, hz1, hz2⟩ := info_parts int_info
  have HI := Lib.hid hi0
  clear hi0
  obtain ⟨A, c, rfl, hm, hx, hA⟩ := h
  have E1 : Hid (∀ k, k < n → ∃ b off, A = some ⟨b, off, none⟩ ∧ b < w.heap.size ∧ w.cell? ⟨b, off + k * 3, none⟩ = some (.int .i64 (xs.getD (k * 3) 0)) ∧ w.cell? ⟨b, off + k * 3 + 1, none⟩ = some (.int .i64 (xs.getD (k * 3 + 1) 0)) ∧ w.cell? ⟨b, off + k * 3 + 2, none⟩ = some (.int .i64 (xs.getD (k * 3 + 2) 0))) := fun k hk => by
    obtain ⟨b, off, rfl, hb, hc⟩ := hA (by omega)
    exact ⟨b, off, rfl, hb, hc (k * 3) (by omega), by have := hc (k * 3 + 1) (by omega); rwa [← Nat.add_assoc] at this, by have := hc (k * 3 + 2) (by omega); rwa [← Nat.add_assoc] at this⟩
  have HG : Hid (∀ k, k < n → xs.take ((k + 1) * 3) = xs.take (k * 3) ++ [xs.getD (k * 3) 0, xs.getD (k * 3 + 1) 0, xs.getD (k * 3 + 2) 0]) := fun k hk => flat3_go (by omega)
  have HLe : Hid (∀ k, k ≤ n → (xs.take (k * 3)).length = k * 3) := fun k hk => by rw [List.length_take]; omega
  have HT0 : Hid (xs.take (0 * 3) = []) := by unfold Hid; simp
  have HTn : Hid (xs.take (n * 3) = xs) := by unfold Hid; rw [← hx]; simp
  obtain ⟨T, hT⟩ : ∃ T : Nat → List Int, ∀ k, xs.take (k * 3) = T k := ⟨fun k => xs.take (k * 3), fun k => rfl⟩
  have HG' : Hid (∀ k, k < n → T (k + 1) = T k ++ [xs.getD (k * 3) 0, xs.getD (k * 3 + 1) 0, xs.getD (k * 3 + 2) 0]) := fun k hk => by rw [← hT, ← hT]; exact HG.out k hk
  have HLe' : Hid (∀ k, k ≤ n → (T k).length = k * 3) := fun k hk => by rw [← hT]; exact HLe.out k hk
  have HT0' : Hid (T 0 = []) := by unfold Hid; rw [← hT]; exact HT0.out
  have HTn' : Hid (T n = xs) := by unfold Hid; rw [← hT]; exact HTn.out
  clear hA hm hx HG HLe HT0 HTn hT
  go_enter Tryd.func62, Tryd.ntmps62
  go_wp2_with fail
  go_loopw [3, 8] (fun q i wr => ∃ k : Nat, k ≤ n ∧ i = .int .i64 k ∧ Row wr w.heap.size q (T k) ∧ Below w.heap.size w wr) (fun _ i _ => n - (intOf i).toNat)
  case atStart => exact ⟨0, Nat.zero_le _, rfl, by rw [HT0'.out]; exact Row.nil _ _, Below.refl _ _⟩
  case round =>
    obtain ⟨k, hk, rfl, hr, hb⟩ := hrel
    obtain ⟨VA, vc, hv⟩ := hr.shape
    have HLk := Lib.hid (HLe'.out k hk)
    rw [HLk.out] at hv
    subst hv
    have HR := Lib.hid hr
    have HB := Lib.hid hb
    clear hr hb
    by_cases hlt : k < n
    · obtain ⟨b, off, rfl, hb, p0, p1, p2⟩ := E1.out k hlt
      rw [← HB.out.cell (p := ⟨b, off + k * 3, none⟩) hb] at p0
      rw [← HB.out.cell (p := ⟨b, off + k * 3 + 1, none⟩) hb] at p1
      rw [← HB.out.cell (p := ⟨b, off + k * 3 + 2, none⟩) hb] at p2
      have HGk := Lib.hid (HG'.out k hlt)
      have HRr : Hid (wr.ownsRow w.heap.size 3 1 (.slice VA (k * 3) vc) (k * 3) (ints (T k))) := by
        have := HR.out
        unfold Row at this
        rw [HLk.out] at this
        exact this
      have sz := HB.out.size
      have b0 : (0 : Int) ≤ (k : Int) := by omega
      have b9 : (k : Int) < (n : Int) := by omega
      generalize xs.getD (k * 3) 0 = t0 at *
      generalize xs.getD (k * 3 + 1) 0 = t1 at *
      generalize xs.getD (k * 3 + 2) 0 = t2 at *
      go_wp2_with (at_builtin; go_loud (refine wpList_append_src rfl _ _ 24 rfl (base := w.heap.size) Tryd.underlying24 HI.out hz0 hz1 hz2 rfl (by decide) rfl (World.ownsRow.alloc (World.ownsRow.alloc HRr.out _) _) rfl (src_cells 1 (xs := [t0, t1, t2]) rfl (fun e => by cases e) (fun _ => ⟨wr.heap.size + 1, 0, rfl, fun j hj => ?c2⟩)) ints_ones ?c3 ?c4 ?c5 ?_))
      case c2 =>
        match j, hj with
        | 0, _ => simp
        | 1, _ => simp
        | 2, _ => simp
      case c3 => unfold maxLen; omega
      case c4 => omega
      case c5 => first | (simp; omega) | omega
      intro v' w7 hown' hgrow _
      have R1 : Hid (Row w7 w.heap.size v' (T (k + 1))) := by rw [HGk.out]; exact row_app (by rw [HLk.out]; rfl) hown'
      have R2 : Hid (Below w.heap.size w w7) := ((HB.out.alloc sz _).alloc (by simp; omega) _).grown hgrow (by simp; omega) (fun g hg => (World.ownsRow.lt HRr.out g hg).1)
      clear hown' hgrow
      go_wp2
      go_roundw
      case rel => exact ⟨k + 1, by omega, by go_num, R1.out, R2.out⟩
      case measure => simp [intOf]; omega
    · obtain rfl : k = n := by omega
      go_wp2
      go_ret
      exact ⟨_, rfl, by have := HR.out; rw [HTn'.out] at this; exact this, HB.out⟩

set_option maxHeartbeats 1000000 in
set_option maxRecDepth 100000 in
theorem c_l1Int (n : Int) (w : World) (h0 : -1000 ≤ n) (h1 : n ≤ 1000) : Calls Tryd.prog 99 #[.int .i64 n] w fun e w' => e = .returned (.string (itS n)) ∧ Below w.heap.size w w' := by
  by_cases hn : n < 0
  · obtain ⟨m, rfl⟩ : ∃ m : Nat, n = -(m : Int) := ⟨n.natAbs, by omega⟩
    have C := Lib.hid (fun u => c_l1NumT m u (by omega))
    have hz := itS_size (n := (m : Int)) (by omega) (by omega)
    have a1 := addsT ⟨#[45]⟩ (itS (m : Int)) (by show 1 + _ ≤ _; omega)
    have e1 : itS (-(m : Int)) = ⟨#[45]⟩ ++ itS (m : Int) := by
      rw [itS_nat, ByteArray.mk_append_mk]
      unfold itS Lib.itoa
      rw [if_pos hn]
      have : (-(m : Int)).natAbs = m := by omega
      rw [this]
      simp
    rw [e1]
    have iw : IntKind.i64.wrap (-(-(m : Int))) = (m : Int) := by rw [Int.neg_neg]; exact IntWalk.i64_in _ (by omega)
    have iv : IntKind.i64.wrap (m : Int) = (m : Int) := IntWalk.i64_in _ (by omega)
    clear hz e1
    generalize itS (m : Int) = S at *
    go_enter Tryd.func99, Tryd.ntmps99
    go_wp2_with fail
    refine (C.out _).mono ?_
    rintro e w1 ⟨rfl, hb⟩
    have HB := Lib.hid hb
    clear hb
    go_wp2
    go_ret
    exact ⟨rfl, HB.out⟩
  · obtain ⟨m, rfl⟩ := Int.eq_ofNat_of_zero_le (show 0 ≤ n by omega)
    have C := Lib.hid (fun u => c_l1NumT m u (by omega))
    generalize itS (m : Int) = S at *
    go_enter Tryd.func99, Tryd.ntmps99
    go_wp2_with fail
    refine (C.out _).mono ?_
    rintro e w1 ⟨rfl, hb⟩
    have HB := Lib.hid hb
    clear hb
    go_wp2
    go_ret
    exact ⟨rfl, HB.out⟩
end Go.Proofs.YtmimilchldjkbaaDoor
