/-
  Contracts: numbers as texts, by strconv and by the model; three numbers joined.
-/
import Derived.Test.YtgibkjjjnfjbkaaDoorC3
import Derived.Test.YtgibkjjjnfjbkaaDoorGrow
import Derived.Test.YtgibkjjjnfjbkaaDoorShelfI
import Derived.Lib.SlBytesRow
import Derived.Lib.Hide
import Derived.Laws.Concat
import Derived.Deep.RegionHeld3
import Derived.Deep.RegionWith
import Derived.Shelf.SlSorted.Search
namespace Go.Proofs.YtgibkjjjnfjbkaaDoor
open Go.RowKit
set_option linter.unusedVariables false

abbrev TB (w : World) : Prop := Lib.TabIs Tryd.prog w "internal/strconv.uint64pow10" .u64 Lib.pow10Tab
theorem tabIs_below {P : Program} {w w' : World} {name : String} {k : IntKind} {zs : List Int} (h : Lib.TabIs P w name k zs) (hb : Below w.heap.size w w') : Lib.TabIs P w' name k zs := by
  unfold Lib.TabIs World.var? at *
  cases hg : P.globalNamed name with
  | none => simp [hg] at h
  | some g =>
    simp only [hg, Option.bind_some] at h ⊢
    have hlt : g < w.heap.size := by
      rcases Nat.lt_or_ge g w.heap.size with h' | h'
      · exact h'
      · rw [Array.getElem?_eq_none h'] at h; simp at h
    rw [hb.block g hlt]
    exact h

/-- A number as text. -/
def itS (n : Int) : ByteArray := ⟨(Lib.itoa n).toArray⟩
theorem itS_nat (n : Nat) : itS (n : Int) = ⟨(Lib.decDigits n).toArray⟩ := by
  unfold itS Lib.itoa
  rw [if_neg (by omega)]
  simp
theorem nDigits_le : ∀ (k u : Nat), u < 10 ^ (k + 1) → Lib.nDigits u ≤ k + 1
  | 0, u, h => by rw [Lib.nDigits_small (by simpa using h)]; exact Nat.le_refl _
  | k + 1, u, h => by
    by_cases hu : u < 10
    · rw [Lib.nDigits_small hu]; omega
    · rw [Lib.nDigits_big hu]
      rw [Nat.pow_succ] at h
      have := nDigits_le k (u / 10) (by omega)
      omega
theorem itS_size {n : Int} (h1 : -1000000 ≤ n) (h2 : n ≤ 1000000) : (itS n).size ≤ 8 := by
  show (Lib.itoa n).toArray.size ≤ 8
  rw [List.size_toArray]
  unfold Lib.itoa
  split
  · have := nDigits_le 6 n.natAbs (by omega)
    rw [List.length_cons, Lib.decDigits_length]
    omega
  · have := nDigits_le 6 n.toNat (by omega)
    rw [Lib.decDigits_length]
    omega

theorem c_ItoaT (n : Int) (w : World) (h0 : -1000000 ≤ n) (h1 : n ≤ 1000000) (ht : TB w) :
    Calls Tryd.prog 42 #[.int .i64 n] w fun e w' => e = .returned (.string (itS n)) ∧ Below w.heap.size w w' :=
  (Tryd.strconv_Itoa n (by omega) (by omega) w ht).mono fun e w' ⟨he, k, os, hw⟩ => ⟨he, by rw [hw]; exact below_grown_sl _ w k os (Nat.le_refl _)⟩

theorem conv_byte (c : Nat) (hc : c < 256) (W : World) (b : Nat) (h : W.cell? ⟨b, 0, none⟩ = some (.int .u8 (c : Int))) :
    (convert 57 9 (.slice (some ⟨b, 0, none⟩) 1 1)).run Tryd.prog W = .ok (.string ⟨#[UInt8.ofNat c]⟩) W := by
  refine Lib.run_convert_whole (P := Tryd.prog) W 57 5 9 Tryd.underlying57 Tryd.underlying5 Tryd.underlying9 b 0 ⟨#[UInt8.ofNat c]⟩ (fun i hi => ?_) 1
  have hi0 : i = 0 := by have : (⟨#[UInt8.ofNat c]⟩ : ByteArray).size = 1 := rfl; omega
  subst hi0
  rw [Nat.zero_add, h]
  have : (UInt8.ofNat c).toNat = c := by rw [UInt8.toNat_ofNat']; omega
  show _ = some (Value.int .u8 ((UInt8.ofNat c).toNat : Int))
  rw [this]

set_option maxHeartbeats 4000000 in
set_option maxRecDepth 100000 in
theorem c_l1NumT : ∀ (n : Nat) (w : World), n ≤ 1000000 → Calls Tryd.prog 25 #[.int .i64 n] w fun e w' => e = .returned (.string (itS n)) ∧ Below w.heap.size w w' := by
  intro n
  induction n using Nat.strongRecOn with
  | _ n ih =>
    intro w hn
    rw [itS_nat]
    by_cases h : n < 10
    · rw [show Lib.decDigits n = [UInt8.ofNat (48 + n)] from Lib.decDigits_one h]
      have hcv := conv_byte (48 + n) (by omega) (w.alloc (.cells #[.int .u8 ((48 + n : Nat) : Int)] 5)) w.heap.size (by simp)
      have e1 : IntKind.u8.wrap (48 + (n : Int)) = ((48 + n : Nat) : Int) := by rw [IntKind.wrap_u8]; omega
      have e2 : IntKind.i64.wrap (48 + (n : Int)) = 48 + (n : Int) := IntWalk.i64_in _ (by omega)
      have h2 : (n : Int) < 10 := by omega
      clear ih
      generalize ((48 + n : Nat) : Int) = c at *
      generalize UInt8.ofNat (48 + n) = u at *
      go_enter Tryd.func25, Tryd.ntmps25
      go_wp2
      go_ret
      exact ⟨rfl, (Below.refl _ _).alloc (Nat.le_refl _) _⟩
    · have hd : Lib.decDigits n = Lib.decDigits (n / 10) ++ [UInt8.ofNat (48 + n % 10)] := by
        rw [Lib.decDigits, dif_neg h]
      rw [hd]
      have CI : Hid (∀ u, Calls Tryd.prog 25 #[.int .i64 ((n : Int) / 10)] u fun e w' => e = .returned (.string (itS ((n / 10 : Nat) : Int))) ∧ Below u.heap.size u w') := fun u => by
        have := ih (n / 10) (by omega) u (by omega)
        rwa [show ((n : Int) / 10) = ((n / 10 : Nat) : Int) by omega]
      have hsz : (itS ((n / 10 : Nat) : Int)).size ≤ 8 := itS_size (by omega) (by omega)
      have had : ∀ W : World, (Op.stringOp .add (itS ((n / 10 : Nat) : Int)) ⟨#[UInt8.ofNat (48 + n % 10)]⟩).run Tryd.prog W = .ok (.string (itS ((n / 10 : Nat) : Int) ++ ⟨#[UInt8.ofNat (48 + n % 10)]⟩)) W := fun W => run_string_add_sum W _ _ (by show _ + 1 ≤ _; omega)
      have hre : itS ((n / 10 : Nat) : Int) ++ ⟨#[UInt8.ofNat (48 + n % 10)]⟩ = (⟨(Lib.decDigits (n / 10) ++ [UInt8.ofNat (48 + n % 10)]).toArray⟩ : ByteArray) := by
        rw [itS_nat, ByteArray.mk_append_mk]
        try simp
      rw [← hre]
      have hcv : ∀ (W : World) (b : Nat), W.cell? ⟨b, 0, none⟩ = some (.int .u8 ((48 + n % 10 : Nat) : Int)) → (convert 57 9 (.slice (some ⟨b, 0, none⟩) 1 1)).run Tryd.prog W = .ok (.string ⟨#[UInt8.ofNat (48 + n % 10)]⟩) W := fun W b hw => conv_byte (48 + n % 10) (by omega) W b hw
      have e1 : IntKind.u8.wrap (48 + (n : Int) % 10) = ((48 + n % 10 : Nat) : Int) := by rw [IntKind.wrap_u8]; omega
      have e2 : IntKind.i64.wrap (48 + (n : Int) % 10) = 48 + (n : Int) % 10 := IntWalk.i64_in _ (by omega)
      have em : (n : Int).tmod 10 = (n : Int) % 10 := Int.tmod_eq_emod_of_nonneg (by omega)
      have e3 : IntKind.i64.wrap ((n : Int) / 10) = (n : Int) / 10 := IntWalk.i64_in _ (by omega)
      have h2 : ¬ (n : Int) < 10 := by omega
      clear ih hd hre hsz
      generalize ((48 + n % 10 : Nat) : Int) = c at *
      generalize UInt8.ofNat (48 + n % 10) = v at *
      generalize itS ((n / 10 : Nat) : Int) = S at *
      go_enter Tryd.func25, Tryd.ntmps25
      go_wp2_with fail
      go_region_with (first | (go_at_call 25; refine (CI.out _).mono ?_; rintro e w4 ⟨rfl, hb⟩; have HB4 := Lib.hid hb; have q4 := hb.cell (p := ⟨w.heap.size, 0, none⟩); clear hb))
      all_goals
        go_wp2
        go_ret
        refine ⟨rfl, ?_⟩
        first
          | exact (((Below.refl _ _).drew.trans (HB4.out.mono (Nat.le_refl _)))).alloc (by have := HB4.out.size; exact this) _
          | exact (((Below.refl _ _).alloc (Nat.le_refl _) _).drew).trans (HB4.out.mono (by simp))

/-- Three numbers with a word between them. -/
def tri3 (a b c : Int) (sep : ByteArray) : ByteArray := itS a ++ sep ++ itS b ++ sep ++ itS c
theorem addsT (a b : ByteArray) (h : a.size + b.size ≤ 1000000) : ∀ W : World, (Op.stringOp .add a b).run Tryd.prog W = .ok (.string (a ++ b)) W := fun W => run_string_add_sum W a b (by omega)
def Small3 (a b c : Int) : Prop := (-1000000 ≤ a ∧ a ≤ 1000000) ∧ (-1000000 ≤ b ∧ b ≤ 1000000) ∧ (-1000000 ≤ c ∧ c ≤ 1000000)
theorem tri3_size {a b c : Int} {sep : ByteArray} (hs : Small3 a b c) (h : sep.size = 1) : (tri3 a b c sep).size ≤ 26 := by
  have h1 := itS_size hs.1.1 hs.1.2
  have h2 := itS_size hs.2.1.1 hs.2.1.2
  have h3 := itS_size hs.2.2.1 hs.2.2.2
  unfold tri3
  simp only [ByteArray.size_append, h]
  omega
theorem adds4T {a b c : Int} {sep : ByteArray} (hs : Small3 a b c) (h : sep.size = 1) :
    (∀ W : World, (Op.stringOp .add (itS a) sep).run Tryd.prog W = .ok (.string (itS a ++ sep)) W) ∧
    (∀ W : World, (Op.stringOp .add (itS a ++ sep) (itS b)).run Tryd.prog W = .ok (.string (itS a ++ sep ++ itS b)) W) ∧
    (∀ W : World, (Op.stringOp .add (itS a ++ sep ++ itS b) sep).run Tryd.prog W = .ok (.string (itS a ++ sep ++ itS b ++ sep)) W) ∧
    (∀ W : World, (Op.stringOp .add (itS a ++ sep ++ itS b ++ sep) (itS c)).run Tryd.prog W = .ok (.string (tri3 a b c sep)) W) := by
  have h1 := itS_size hs.1.1 hs.1.2
  have h2 := itS_size hs.2.1.1 hs.2.1.2
  have h3 := itS_size hs.2.2.1 hs.2.2.2
  refine ⟨addsT _ _ ?_, addsT _ _ ?_, addsT _ _ ?_, addsT _ _ ?_⟩ <;> simp only [ByteArray.size_append, h] <;> omega

set_option maxHeartbeats 1000000 in
theorem c_joinNumbersT (x y z : Int) (sep : ByteArray) (hs : sep.size = 1) (w : World) (h : Small3 x y z) (ht : TB w) :
    Calls Tryd.prog 34 #[.agg #[.int .i64 x, .int .i64 y, .int .i64 z], .string sep] w fun e w' => e = .returned (.string (tri3 x y z sep)) ∧ Below w.heap.size w w' := by
  obtain ⟨a1, a2, a3, a4⟩ := adds4T h hs
  have HT : Hid (∀ u, TB (wOf (w.alloc (.cells #[.int .i64 x, .int .i64 y, .int .i64 z] 65)) u)) := fun u => tabIs_below (tabIs_below ht ((Below.refl _ _).alloc (Nat.le_refl _) _)) (wOf_below _ u)
  have C1 : Hid (∀ u, TB u → Calls Tryd.prog 42 #[.int .i64 x] u fun e w' => e = .returned (.string (itS x)) ∧ Below u.heap.size u w') := fun u hu => c_ItoaT x u h.1.1 h.1.2 hu
  have C2 : Hid (∀ u, TB u → Calls Tryd.prog 42 #[.int .i64 y] u fun e w' => e = .returned (.string (itS y)) ∧ Below u.heap.size u w') := fun u hu => c_ItoaT y u h.2.1.1 h.2.1.2 hu
  have C3 : Hid (∀ u, TB u → Calls Tryd.prog 42 #[.int .i64 z] u fun e w' => e = .returned (.string (itS z)) ∧ Below u.heap.size u w') := fun u hu => c_ItoaT z u h.2.2.1 h.2.2.2 hu
  clear hs h ht
  generalize tri3 x y z sep = R at *
  go_enter Tryd.func34, Tryd.ntmps34
  go_wp2
  refine wp_region_grow (by kernel_rfl) (by kernel_rfl) ?_
  repeat (go_big_quiet_step (first
    | (go_at_call 42; with_reducible exact grow_of (C1.out _ (HT.out _)))
    | (go_at_call 42; with_reducible exact grow_of (C2.out _ (HT.out _)))
    | (go_at_call 42; with_reducible exact grow_of (C3.out _ (HT.out _)))))
  refine wpQuiet_nil ?_
  intro _ hw'
  obtain ⟨u, hw''⟩ := hw'
  subst hw''
  have hb := wOf_below (w.alloc (.cells #[.int .i64 x, .int .i64 y, .int .i64 z] 65)) u
  generalize wOf (w.alloc (.cells #[.int .i64 x, .int .i64 y, .int .i64 z] 65)) u = w1 at hb ⊢
  go_wp2
  go_ret
  exact ⟨rfl, ((Below.refl _ _).alloc (Nat.le_refl _) _).trans (hb.mono (by simp))⟩

set_option maxHeartbeats 1000000 in
theorem c_grTextT (x y z : Int) (w : World) (x1 : 0 ≤ x) (x2 : x ≤ 9) (y1 : 0 ≤ y) (y2 : y ≤ 9) (z1 : 0 ≤ z) (z2 : z ≤ 9) : Calls Tryd.prog 24 #[.agg #[.int .i64 x, .int .i64 y, .int .i64 z]] w fun e w' => e = .returned (.string (tri3 x y z ⟨#[120]⟩)) ∧ Below w.heap.size w w' := by
  have h : Small3 x y z := ⟨⟨by omega, by omega⟩, ⟨by omega, by omega⟩, by omega, by omega⟩
  obtain ⟨a1, a2, a3, a4⟩ := adds4T (sep := ⟨#[120]⟩) h rfl
  have CN : ∀ (q : Int) (hq : 0 ≤ q ∧ q ≤ 9), Hid (∀ u, Calls Tryd.prog 25 #[.int .i64 q] u fun e w' => e = .returned (.string (itS q)) ∧ Below u.heap.size u w') := fun q hq u => by
    obtain ⟨m, rfl⟩ := Int.eq_ofNat_of_zero_le hq.1
    exact c_l1NumT m u (by omega)
  have C1 := CN x ⟨x1, x2⟩
  have C2 := CN y ⟨y1, y2⟩
  have C3 := CN z ⟨z1, z2⟩
  clear CN h
  generalize tri3 x y z ⟨#[120]⟩ = R at *
  go_enter Tryd.func24, Tryd.ntmps24
  go_wp2
  refine wp_region_grow (by kernel_rfl) (by kernel_rfl) ?_
  repeat (go_big_quiet_step (first
    | (go_at_call 25; with_reducible exact grow_of (C1.out _))
    | (go_at_call 25; with_reducible exact grow_of (C2.out _))
    | (go_at_call 25; with_reducible exact grow_of (C3.out _))))
  refine wpQuiet_nil ?_
  intro _ hw'
  obtain ⟨u, hw''⟩ := hw'
  subst hw''
  have hb := wOf_below (w.alloc (.cells #[.int .i64 x, .int .i64 y, .int .i64 z] 23)) u
  generalize wOf (w.alloc (.cells #[.int .i64 x, .int .i64 y, .int .i64 z] 23)) u = w1 at hb ⊢
  go_wp2
  go_ret
  exact ⟨rfl, ((Below.refl _ _).alloc (Nat.le_refl _) _).trans (hb.mono (by simp))⟩
end Go.Proofs.YtgibkjjjnfjbkaaDoor
