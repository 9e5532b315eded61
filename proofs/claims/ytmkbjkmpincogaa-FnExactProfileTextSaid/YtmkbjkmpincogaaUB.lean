/-
  Contract: ProfileText, in the program.
-/
import Derived.RangeFuncWrites
import Derived.RegionIn
import Derived.Test.YtmkbjkmpincogaaSH
import Derived.Test.YtmkbjkmpincogaaSW
import Derived.Test.YtmkbjkmpincogaaUA
import Derived.Test.YtmkbjkmpincogaaShelfT
namespace Go.Proofs.Ytmkbjkmpincogaa
open Go.RowKit Go.Shelf
set_option linter.unusedVariables false
attribute [local go_sem] Oper.semAt_some

/-! The text -/
def sgnT (b : Bool) : UInt8 := if b then 35 else 46
def rowK (p : List Int) (n z k : Nat) : List UInt8 := (List.range k).map fun c => sgnT (mkF p n (z * n + c))
theorem rowK_succ (p : List Int) (n z k : Nat) : rowK p n z (k + 1) = rowK p n z k ++ [sgnT (mkF p n (z * n + k))] := by simp [rowK, List.range_succ]
theorem rowK_len (p : List Int) (n z k : Nat) : (rowK p n z k).length = k := by simp [rowK]
def addT (p : List Int) (n : Nat) (acc : List UInt8) (z : Nat) : List UInt8 := acc ++ rowK p n z n ++ [10]
theorem addT_len (p : List Int) (n : Nat) (acc : List UInt8) (z : Nat) : (addT p n acc z).length = acc.length + n + 1 := by simp [addT, rowK_len]; omega
def txT (p : List Int) (n : Nat) : Nat → List UInt8
  | 0 => []
  | z + 1 => addT p n (txT p n z) z
def ptT (xss : List (List Int)) (p : List Int) : List UInt8 := if spB xss p then txT p xss.length (depD xss) else []
def runT (p : List Int) (n : Nat) {D : Nat} (pre : List { x : Nat // x < D }) : List UInt8 := pre.foldl (fun acc x => addT p n acc x.1) []
theorem runT_snoc (p : List Int) (n : Nat) {D : Nat} (pre : List { x : Nat // x < D }) (x : { x : Nat // x < D }) : runT p n (pre ++ [x]) = addT p n (runT p n pre) x.1 := by simp [runT]
theorem foldT_len (p : List Int) (n : Nat) {D : Nat} : ∀ (pre : List { x : Nat // x < D }) (acc : List UInt8), (pre.foldl (fun acc x => addT p n acc x.1) acc).length = acc.length + pre.length * (n + 1)
  | [], acc => by simp
  | x :: xs, acc => by
    rw [List.foldl_cons, foldT_len p n xs, addT_len, List.length_cons, Nat.succ_mul]
    omega
theorem runT_len (p : List Int) (n : Nat) {D : Nat} (pre : List { x : Nat // x < D }) : (runT p n pre).length = pre.length * (n + 1) := by unfold runT; rw [foldT_len]; simp
def elT {n : Nat} (h1 : 1 ≤ n) (x : Nat) : { x : Nat // x < n } := if h : x < n then ⟨x, h⟩ else ⟨0, by omega⟩
theorem elT_at {n : Nat} (h1 : 1 ≤ n) {x : Nat} (h : x < n) : (elT h1 x).1 = x := by unfold elT; rw [dif_pos h]
theorem runT_up (p : List Int) (n : Nat) {D : Nat} (h1 : 1 ≤ D) : ∀ k, k ≤ D → runT p n (upE (elT h1) k) = txT p n k
  | 0, _ => rfl
  | k + 1, h => by
    rw [upE_succ, runT_snoc, runT_up p n h1 k (by omega), elT_at h1 (by omega)]
    rfl

theorem drew_grown (w : World) : w.grownBy w.drew none := ⟨(World.grownBy.refl w none).os, (World.grownBy.refl w none).tape, (World.grownBy.refl w none).output, (World.grownBy.refl w none).size, (World.grownBy.refl w none).block⟩
theorem KeepT.trans {A B : Nat} {x y z : World} (h : KeepT A B x y) (k : KeepT A B y z) : KeepT A B x z := ⟨k.1.trans h.1, k.2.trans h.2⟩
theorem KeepT.below {A B : Nat} {W W' : World} (h : Below W.heap.size W W') (hA : A < W.heap.size) (hB : B < W.heap.size) : KeepT A B W W' := ⟨h.block A hA, h.block B hB⟩
/-- The blocks of marks and the boxes lie apart from a builder: they are no rows of bytes. -/
theorem others_boxed {b k : Nat} {t : TypeId} {v : Value} {W W' : World} (h : Lib.OthersKept 5 (some b) W W') (hx : Boxed W k t v) (ht : t ≠ 5) (hb : k ≠ b) : Boxed W' k t v :=
  h k _ hx (fun e => hb (by injection e)) (fun c fz e => ht (by injection e))
theorem others_rowB {b B : Nat} {v : Value} {bs : List Bool} {W W' : World} (h : Lib.OthersKept 5 (some b) W W') (hx : RowB W B v bs) (hb : b < B) : RowB W' B v bs := by
  refine ⟨hx.1, ?_⟩
  rcases hx.2 with hn | ⟨g, cap, cur, rfl, hbg, hgg, rest⟩
  · exact .inl hn
  · exact .inr ⟨g, cap, cur, rfl, hbg, h g _ hgg (fun e => by have : g = b := by injection e
                                                              omega) (fun c fz e => by injection e with _ e2 _; revert e2; decide), rest⟩
theorem others_from {b B : Nat} {W W' : World} (h : Lib.OthersKept 5 (some b) W W') (hs : W.heap.size ≤ W'.heap.size) (hb : b < B) : KeepsFrom B W W' :=
  ⟨hs, fun k o hk ho hc => h k o ho (fun e => by have : k = b := by injection e
                                                 omega) (fun c fz e => by rw [e] at hc; simp [Obj.isCells] at hc)⟩
theorem own_ownT {w w' : World} {B s n : Nat} {e : TypeId} {v : Value} {xs : List Value} {row : Option Nat} (h : w.ownsRow B e s v n xs) (hg : w.grownBy w' row) (hr : ∀ r, row = some r → ∃ o : Obj, w.heap[r]? = some o ∧ o.isCells = false) : w'.ownsRow B e s v n xs := by
  refine ⟨h.1, ?_⟩
  rcases h.2 with hn | ⟨g, cap, cur, rfl, hbg, hgg, rest⟩
  · exact .inl hn
  · refine .inr ⟨g, cap, cur, rfl, hbg, (hg.block _ (Array.getElem?_eq_some_iff.1 hgg).1 (fun e1 => ?_)).trans hgg, rest⟩
    obtain ⟨o, ho, hc⟩ := hr g e1.symm
    rw [hgg] at ho
    obtain rfl := Option.some.inj ho
    simp [Obj.isCells] at hc

theorem rowB_cellT {w : World} {B g c m : Nat} {bs : List Bool} (hn : m = bs.length) (h : RowB w B (.slice (some ⟨g, 0, none⟩) m c) bs) (k : Nat) (hk : k < m) : w.cell? ⟨g, k, none⟩ = some (.bool (bs.getD k false)) := by
  subst hn
  exact h.cell k hk

set_option maxHeartbeats 400000 in
theorem c_signOf (b : Bool) (w : World) : Calls Try.prog 73 #[.bool b] w fun e w' => e = .returned (.int .u8 ((sgnT b).toNat : Int)) ∧ w = w' := by
  cases b
  · go_enter Try.func73, Try.ntmps73
    go_wp2
    go_ret
    exact ⟨rfl, rfl⟩
  · go_enter Try.func73, Try.ntmps73
    go_wp2
    go_ret
    exact ⟨rfl, rfl⟩

set_option maxHeartbeats 16000000 in
set_option maxRecDepth 100000 in
theorem c_ProfileText (xss : List (List Int)) (p : List Int) (v u : Value) (w : World) (hl : ShortL xss) (hl2 : p.length ≤ 4000000) (h : SeenC w v xss) (hp : Seen w u p) :
    Calls Try.prog 43 #[v, u] w fun e w' => e = .returned (.tuple #[.string ⟨(ptT xss p).toArray⟩, .bool (spB xss p)]) ∧ Below w.heap.size w w' := by
  have H1 := Lib.hid (c_IsProfile xss p v u w hl hl2 h.seen hp)
  have H2 : Hid (spB xss p = true → ∀ w', Below w.heap.size w w' → Calls Try.prog 69 #[v, u] w' fun e w'' => ∃ g c, e = .returned (.slice (some ⟨g, 0, none⟩) (depD xss * xss.length) c) ∧ RowB w'' w'.heap.size (.slice (some ⟨g, 0, none⟩) (depD xss * xss.length) c) (upB (mkF p xss.length) (depD xss * xss.length)) ∧ Below w'.heap.size w' w'') := fun hs w' hb => by
    obtain ⟨_, s1, s2, _⟩ := sp_yes hs
    refine (c_minedMarks xss p _ _ v u w' s1 s2 (h.below hb) (hp.below hb)).mono ?_
    rintro e w2 ⟨q, rfl, hr, hb2⟩
    have h0 : 0 < depD xss * xss.length := Nat.mul_pos s1.d1 s1.n1
    obtain ⟨g, c, rfl, _, _⟩ := hr.form (by rw [upB_len]; exact h0)
    rw [upB_len] at hr ⊢
    exact ⟨g, c, rfl, hr, hb2⟩
  obtain ⟨A', c', rfl, _⟩ := h.seen.shape
  obtain ⟨A, c2, rfl⟩ := hp.shape
  unfold ptT
  clear h hp hl hl2
  cases hs : spB xss p
  · rw [hs] at H1
    clear H2
    go_enter Try.func43, Try.ntmps43
    go_wp2_with fail
    refine H1.out.mono ?_
    rintro e w1 ⟨rfl, hb⟩
    have HB := Lib.hid hb
    clear hb
    go_wp2
    go_ret2
    exact ⟨rfl, HB.out⟩
  · rw [hs] at H1
    have H4 := Lib.hid (H2.out hs)
    rw [if_pos rfl]
    obtain ⟨_, S, hq, _⟩ := sp_yes hs
    clear hs H2
    have hpl := hq.len
    clear hq
    generalize secB xss = Z at *
    have n1 := S.n1
    have n2 := S.n2
    have d1 := S.d1
    have d2 := S.d2
    clear S
    rw [hpl] at H1 H4 ⊢
    generalize xss.length = n at *
    generalize depD xss = D at *
    refine (callsIn_wide (n := 10)).1 ?_
    refine callsIn_of_wp_marks Try.func43 rfl trivial ?_ rfl
    simp only [Try.ntmps43, List.size_toArray, List.length_cons, List.length_nil, Nat.reduceAdd, Nat.reduceSub, Array.replicate_succ, Array.replicate_zero, List.push_toArray, List.append_toArray, List.nil_append, List.cons_append]
    gi_wp2_with fail
    refine ⟨trivial, ?_⟩
    refine (callsIn_wide.2 H1.out).mono ?_
    rintro e w1 ⟨rfl, hb⟩
    have HB1 := Lib.hid hb
    clear hb H1
    gi_wp2_with fail
    have HBd2 : Hid (Build w1.heap.size w1.heap.size [] (w1.alloc (.cells #[.pointer none, .slice none 0 0] 67))) := Lib.IsBuilderF.of (Lib.fresh_isBuilder _ _ w1)
    have HB2 : Hid (Below w.heap.size w (w1.alloc (.cells #[.pointer none, .slice none 0 0] 67))) := HB1.out.alloc HB1.out.size _
    have hsz2 : (w1.alloc (.cells #[.pointer none, .slice none 0 0] 67)).heap.size = w1.heap.size + 1 := by simp
    have hwb : w.heap.size ≤ w1.heap.size := HB1.out.size
    generalize w1.alloc (.cells #[.pointer none, .slice none 0 0] 67) = w2 at *
    obtain ⟨b, hb⟩ : ∃ b, w1.heap.size = b := ⟨_, rfl⟩
    rw [hb] at HBd2 hsz2 hwb ⊢
    refine ⟨trivial, ?_⟩
    refine (callsIn_wide.2 (H4.out _ HB2.out)).mono ?_
    rintro e w3 ⟨g, c, rfl, hr, hb3⟩
    have HR3 := Lib.hid hr
    have HB3 : Hid (Below w.heap.size w w3) := HB2.out.trans (hb3.mono HB2.out.size)
    have HBd3 := Lib.hid (HBd2.out.below hb3)
    have hsz3 : w2.heap.size ≤ w3.heap.size := hb3.size
    have hcap : D * n ≤ c := by
      rcases hr.2 with ⟨e, _⟩ | ⟨g', cap, cur, e, _, _, h1, _⟩
      · cases e
      · injection e with _ e1 e2
        rw [upB_len] at h1
        omega
    clear hr hb3 H4 HBd2 HB1 HB2
    gi_wp2_with fail
    refine ⟨trivial, ?_⟩
    refine (callsIn_wide.2 (c_Chunk g (D * n) c n w3 n1)).mono ?_
    rintro e w4 ⟨rfl, rfl⟩
    gi_wp2_with fail
    have HB4 : Hid (Below w.heap.size w ((w3.alloc (.cells #[.slice (some ⟨g, 0, none⟩) (D * n) c] 61)).alloc (.cells #[.int .i64 (n : Int)] 3))) := (HB3.out.alloc HB3.out.size _).alloc (by simp; have := HB3.out.size; omega) _
    have HBw : Below w3.heap.size w3 ((w3.alloc (.cells #[.slice (some ⟨g, 0, none⟩) (D * n) c] 61)).alloc (.cells #[.int .i64 (n : Int)] 3)) := ((Below.refl _ _).alloc (Nat.le_refl _) _).alloc (by simp) _
    have HR4 := Lib.hid (HR3.out.below HBw)
    have HBd4 := Lib.hid (HBd3.out.below HBw)
    have HXs : Hid (Boxed ((w3.alloc (.cells #[.slice (some ⟨g, 0, none⟩) (D * n) c] 61)).alloc (.cells #[.int .i64 (n : Int)] 3)) w3.heap.size 61 (.slice (some ⟨g, 0, none⟩) (D * n) c)) := (Boxed.new _ _ _).alloc _
    have HXn : Hid (Boxed ((w3.alloc (.cells #[.slice (some ⟨g, 0, none⟩) (D * n) c] 61)).alloc (.cells #[.int .i64 (n : Int)] 3)) (w3.heap.size + 1) 3 (.int .i64 (n : Int))) := by
      have := Boxed.new (w3.alloc (.cells #[.slice (some ⟨g, 0, none⟩) (D * n) c] 61)) 3 (.int .i64 (n : Int))
      rwa [World.size_alloc] at this
    have hsz4 : ((w3.alloc (.cells #[.slice (some ⟨g, 0, none⟩) (D * n) c] 61)).alloc (.cells #[.int .i64 (n : Int)] 3)).heap.size = w3.heap.size + 2 := by simp
    generalize (w3.alloc (.cells #[.slice (some ⟨g, 0, none⟩) (D * n) c] 61)).alloc (.cells #[.int .i64 (n : Int)] 3) = w4 at *
    obtain ⟨Bs, hBs⟩ : ∃ Bs, w3.heap.size = Bs := ⟨_, rfl⟩
    rw [hBs] at HXs HXn hsz4 hsz3 ⊢
    have hm : D * n ≤ 100000 := by have := Nat.mul_le_mul d2 n2; omega
    clear HBw HBd3 HR3 HB3
    obtain ⟨B3, hB3⟩ : ∃ B3, w2.heap.size = B3 := ⟨_, rfl⟩
    rw [hB3] at HR4 hsz2 hsz3
    have hbl : (upB (mkF p n) (D * n)).length = D * n := upB_len _ _
    have hat : Hid (∀ X k, X < D → k < n → (upB (mkF p n) (D * n)).getD (X * n + k) false = mkF p n (X * n + k)) := fun X k h1 h2 => by
      refine upB_at _ ?_
      have := Nat.mul_le_mul_right n (show X + 1 ≤ D from h1)
      rw [Nat.succ_mul] at this
      omega
    generalize upB (mkF p n) (D * n) = marks at *
    have hw4 : w.heap.size ≤ w4.heap.size := HB4.out.size
    refine wpIn_rangeFunc_ownG (α := { x : Nat // x < D }) rfl (by omega) (gf := 90) (lb := #[.pointer (some ⟨Bs, 0, none⟩), .pointer (some ⟨Bs + 1, 0, none⟩)]) rfl trivial (enters_of Try.func90 (by kernel_rfl) rfl)
      (encs := fun x => #[.slice (some ⟨g, x.1 * n, none⟩) n n]) (Kp := KeepT Bs (Bs + 1)) (S := fun ys => ys = upE (elT d1) D) (Sp := fun pre => ∃ k, k ≤ D ∧ pre = upE (elT d1) k) (N := D) (w0 := w4)
      (fun l J Jx W hW hJ _ hY h0 => c_Chunk1 (elT d1) (fun x => x.1) 9 l Bs (Bs + 1) g n D c (fun x hx => elT_at d1 hx) (by omega) n1 hm hcap J Jx (fun s W1 h => hJ s W1 W1.drew none h (drew_grown W1) (fun r e => by cases e)) hY W ((hW.cell (p := ⟨Bs, 0, none⟩) (by show Bs < w4.heap.size; omega)).trans HXs.out.cell) ((hW.cell (p := ⟨Bs + 1, 0, none⟩) (by show Bs + 1 < w4.heap.size; omega)).trans HXn.out.cell) h0)
      (fun a b => ⟨b.1.trans a.1, b.2.trans a.2⟩)
      (fun W l o o' hl ho _ _ => ⟨World.putObj_heap_other (by omega), World.putObj_heap_other (by omega)⟩)
      (Below.refl _ _) (fun _ => rfl)
      (fun pre W => (Build b b (runT p n pre) W ∧ RowB W B3 (.slice (some ⟨g, 0, none⟩) (D * n) c) marks ∧ (Boxed W Bs 61 (.slice (some ⟨g, 0, none⟩) (D * n) c) ∧ Boxed W (Bs + 1) 3 (.int .i64 (n : Int)))) ∧ Below w.heap.size w W)
      (fun _ _ _ => False)
      (fun s W W' row hs hg hr => ⟨⟨hs.1.1.own hg (fun r e => (hr r e).2), own_ownT hs.1.2.1 hg (fun r e => (hr r e).2), hs.1.2.2.1.kept hg (fun e => by have := (hr Bs e.symm).1; omega), hs.1.2.2.2.kept hg (fun e => by have := (hr (Bs + 1) e.symm).1; omega)⟩, hs.2.grown hg hs.2.size (fun k e => by have := (hr k e).1; omega)⟩)
      (fun _ _ _ _ _ hs _ _ => hs)
      ⟨⟨HBd4.out, HR4.out, HXs.out, HXn.out⟩, HB4.out⟩
      (fun x => { tmps := #[.slice A' n c', .slice A n c2, undef, undef, .string ⟨#[]⟩, .bool false, .bool true, .bool true, .pointer (some ⟨b, 0, none⟩), .slice (some ⟨g, x.1 * n, none⟩) n n, undef, undef, .tuple #[.bool true, .bool true], .slice A' n c', .slice A n c2, .tuple #[.bool true, .bool true], .bool true, .bool true, .bool true, .bool false, .slice A' n c', .slice A n c2, .slice (some ⟨g, 0, none⟩) (D * n) c, .slice A n c2, .int .i64 (n : Int), .func (.func 90) #[] #[.pointer (some ⟨Bs, 0, none⟩), .pointer (some ⟨Bs + 1, 0, none⟩)], .slice (some ⟨g, x.1 * n, none⟩) n n, undef, undef, undef, undef, undef, undef, undef, undef, undef, undef, undef, undef], defers := [] }) ?assign ?body ?done ?stop
    case assign =>
      intro l x W K hK
      gi_wp2
      exact hK
    case body =>
      rintro l pre ⟨X, hXn⟩ W ⟨⟨hB, hR, hS, hN⟩, hb⟩ hlen
      have hrt := runT_snoc p n pre ⟨X, hXn⟩
      have hal := runT_len p n pre
      have hal2 := Nat.mul_le_mul (show pre.length ≤ 6 by omega) (show n + 1 ≤ 9 by omega)
      obtain ⟨acc, hacc⟩ : ∃ acc, runT p n pre = acc := ⟨_, rfl⟩
      rw [hacc] at hrt hal hB
      have HRT := Lib.hid hrt
      clear hrt hacc
      have HAT : Hid (∀ k, k < n → marks.getD (X * n + k) false = mkF p n (X * n + k)) := fun k hk => hat.out X k hXn hk
      have HLE : X * n + n ≤ D * n := by have := Nat.mul_le_mul_right n (show X + 1 ≤ D from hXn); rwa [Nat.succ_mul] at this
      have HRK : Hid (∀ k, rowK p n X (k + 1) = rowK p n X k ++ [sgnT (mkF p n (X * n + k))]) := fun k => rowK_succ p n X k
      have B0 := Lib.hid hB
      have R0 := Lib.hid hR
      have S0 := Lib.hid hS
      have N0 := Lib.hid hN
      have W0 := Lib.hid hb
      clear hB hR hS hN hb
      gi_wp2
      have zb : b < Bs ∧ b < B3 := by omega
      gi_loopw [29] (fun i wr => ∃ k : Nat, k ≤ n ∧ i = .int .i64 (k : Int) ∧ Build b b (acc ++ rowK p n X k) wr ∧ RowB wr B3 (.slice (some ⟨g, 0, none⟩) (D * n) c) marks ∧ (Boxed wr Bs 61 (.slice (some ⟨g, 0, none⟩) (D * n) c) ∧ Boxed wr (Bs + 1) 3 (.int .i64 (n : Int))) ∧ (KeepsFrom w4.heap.size W wr ∧ KeepT Bs (Bs + 1) W wr ∧ Below w.heap.size w wr)) (fun i _ => n - (intOf i).toNat)
      case atStart => exact ⟨0, Nat.zero_le _, rfl, by simpa [rowK] using B0.out, R0.out, ⟨S0.out, N0.out⟩, KeepsFrom.refl _ _, ⟨rfl, rfl⟩, W0.out⟩
      case round =>
        obtain ⟨k, hk, rfl, hB, hR, ⟨hS, hN⟩, hKp⟩ := hrel
        have BB := Lib.hid hB
        have RR := Lib.hid hR
        have SS := Lib.hid hS
        have NN := Lib.hid hN
        have KK := Lib.hid hKp
        clear hB hR hS hN hKp
        have hbs : b ≤ wr.heap.size := Nat.le_of_lt BB.out.lt
        by_cases hlk : k < n
        · have x1 : (0 : Int) ≤ (k : Int) := by omega
          have x2 : (k : Int) < (n : Int) := by omega
          have x6 : wr.cell? ⟨g, X * n + k, none⟩ = some (.bool (mkF p n (X * n + k))) := by rw [← HAT.out k hlk]; exact rowB_cellT hbl.symm RR.out _ (by omega)
          have HRL := Lib.hid (rowK_len p n X k)
          have HRKk := Lib.hid (HRK.out k)
          have HWB : Hid (∀ wz, Build b b (acc ++ rowK p n X k) wz → Calls Try.prog 72 #[.pointer (some ⟨b, 0, none⟩), .int .u8 ((sgnT (mkF p n (X * n + k))).toNat : Int)] wz fun e w' => e = .returned .nilIface ∧ (Build b b (acc ++ rowK p n X (k + 1)) w' ∧ Below b wz w' ∧ Lib.OthersKept 5 (some b) wz w')) := fun wz hz => by
            rw [HRKk.out, ← List.append_assoc]
            exact c_WriteByte b b _ _ wz hz (by rw [List.length_append, HRL.out]; omega) (Nat.le_of_lt hz.lt)
          generalize mkF p n (X * n + k) = mk at *
          gi_wp2_with fail
          refine ⟨trivial, ?_⟩
          refine (CallsIn.inRound l (callsIn_wide.2 (c_signOf mk wr))).mono ?_
          rintro e wd ⟨rfl, rfl⟩
          gi_wp2_with fail
          refine ⟨trivial, ?_⟩
          refine (CallsIn.inRound l (callsIn_wide.2 (HWB.out _ BB.out))).mono ?_
          rintro e we ⟨rfl, hb1, hb2, hb3⟩
          have B5 := Lib.hid hb1
          have R5 := Lib.hid (others_rowB hb3 RR.out zb.2)
          have S5 := Lib.hid (others_boxed hb3 SS.out (by decide) (by omega))
          have N5 := Lib.hid (others_boxed hb3 NN.out (by decide) (by omega))
          have K5 : Hid (KeepsFrom w4.heap.size W we ∧ KeepT Bs (Bs + 1) W we ∧ Below w.heap.size w we) := ⟨KK.out.1.trans (others_from hb3 hb2.size (by omega)), KK.out.2.1.trans ⟨S5.out.trans SS.out.symm, N5.out.trans NN.out.symm⟩, KK.out.2.2.trans (hb2.mono hwb)⟩
          clear hb1 hb2 hb3
          gi_wp2
          exact ⟨⟨k + 1, by omega, by go_num, B5.out, R5.out, ⟨S5.out, N5.out⟩, K5.out⟩, by simp [intOf]; omega⟩
        · obtain rfl : k = n := by omega
          have HRL := Lib.hid (rowK_len p k X k)
          have HNL : Hid (∀ wz, Build b b (acc ++ rowK p k X k) wz → Calls Try.prog 72 #[.pointer (some ⟨b, 0, none⟩), .int .u8 10] wz fun e w' => e = .returned .nilIface ∧ (Build b b (addT p k acc X) w' ∧ Below b wz w' ∧ Lib.OthersKept 5 (some b) wz w')) := fun wz hz =>
            c_WriteByte b b _ 10 wz hz (by rw [List.length_append, HRL.out]; omega) (Nat.le_of_lt hz.lt)
          gi_wp2_with fail
          refine ⟨trivial, ?_⟩
          refine (CallsIn.inRound l (callsIn_wide.2 (HNL.out _ BB.out))).mono ?_
          rintro e we ⟨rfl, hb1, hb2, hb3⟩
          have B5 := Lib.hid hb1
          have R5 := Lib.hid (others_rowB hb3 RR.out zb.2)
          have S5 := Lib.hid (others_boxed hb3 SS.out (by decide) (by omega))
          have N5 := Lib.hid (others_boxed hb3 NN.out (by decide) (by omega))
          have K5 : Hid (KeepsFrom w4.heap.size W we ∧ KeepT Bs (Bs + 1) W we ∧ Below w.heap.size w we) := ⟨KK.out.1.trans (others_from hb3 hb2.size (by omega)), KK.out.2.1.trans ⟨S5.out.trans SS.out.symm, N5.out.trans NN.out.symm⟩, KK.out.2.2.trans (hb2.mono hwb)⟩
          clear hb1 hb2 hb3
          gi_wp2
          exact ⟨K5.out.1, K5.out.2.1, ⟨⟨by rw [HRT.out]; exact B5.out, R5.out, S5.out, N5.out⟩, K5.out.2.2⟩⟩
    case done =>
      rintro D1 ys W hD rfl ⟨⟨hB, _, _, _⟩, hb⟩ hK
      rw [runT_up p n d1 D (Nat.le_refl _)] at hB
      have HST := Lib.hid (Try.Builder_String_any_k b b (txT p n D) W hB (Nat.le_of_lt hB.lt))
      gi_wp2_with fail
      refine ⟨trivial, ?_⟩
      refine (callsIn_wide.2 HST.out).mono ?_
      rintro e W2 ⟨rfl, _, hb2, hb3⟩
      have hK2 : W2.heap[D1]? = some (.deferred (some [])) := hb3 D1 _ hK (by intro e1; injection e1; omega) (by intro c fz e1; cases e1)
      gi_wp2
      refine ⟨by simp, .inl ⟨_, _, rfl, run_takeDeferred hK2, ?_⟩⟩
      exact ⟨_, results_tmp2 rfl _ _ _, rfl, hb.trans ((hb2.mono hwb).trans ((belowK_b (w := w) (Nat.le_refl _) W2 D1 _ _ (by omega) hK2 rfl rfl)))⟩
    case stop =>
      rintro D1 c1 pre W _ _ h _
      exact h.elim
end Go.Proofs.Ytmkbjkmpincogaa
