/-
  Contract: the table of the best rests, in the program.
-/
import Derived.RangeFuncWrites
import Derived.Laws.CopyRow
import Derived.RegionIn
import Derived.Test.YtmkbjkmpincogaaSX
namespace Go.Proofs.Ytmkbjkmpincogaa
open Go.RowKit Go.Shelf
set_option linter.unusedVariables false
attribute [local go_sem] Oper.semAt_some

/-- copy inside a fence. -/
theorem wpListIn_copy_row {F : Fence} {m : Nat} {P : Program} {w : World} {ops : Array Oper} {rest : List Oper} {o : Oper} {a : Act} {Q : Exit → Act → World → Prop} (hgd : o.guard = none) (d s : Operand) (dT sT : TypeId)
    (ho : o.op = .call { callee := .builtin .copy, args := #[d, s], argTypes := #[dT, sT] }) (elem : TypeId) (hu : P.underlying dT = some (.slice elem)) (hsz : (P.info? elem).map (·.size) = some 1)
    (g off dLen dCap : Nat) (ad : Addr) (sLen sCap : Nat) (hd : a.eval d = .slice (some ⟨g, off, none⟩) dLen dCap) (hs : a.eval s = .slice (some ad) sLen sCap)
    (cur : Array Value) (t : TypeId) (hg : w.heap[g]? = some (.cells cur t (0, 0))) (cs : List Value) (hn : cs.length = Nat.min sLen dLen)
    (hsrc : ∀ j v, cs[j]? = some v → w.cell? (ad.add j) = some v) (hfit : off + cs.length ≤ cur.size) (h1 : ∀ v ∈ cs, v.oneCell' = true)
    (h : ∀ w', Hid (w' = w.setRow g (cur.toList.take off ++ (cs ++ cur.toList.drop (off + cs.length))).toArray) → wpListIn F m P ops Q rest (a.put o.dst (goInt cs.length)) w') : wpListIn F m P ops Q (o :: rest) a w := by
  refine wpListIn_plain hgd fun K hK' => ?_
  have hrun := run_copy_row (P := P) w dT sT o.type elem g off dLen dCap ad sLen sCap cur t cs hu hsz hg hn hsrc hfit h1
  unfold Oper.wpIn
  refine ⟨?_, ?_⟩
  · simp [Oper.about, ho, resolve, Target.leads, Sem.run_pure]
  · rw [Oper.semAt_plain F _ _ (by rw [ho]; intro c hc'; cases hc')]
    rw [List.append_assoc] at hrun
    simp [execOp, ho, resolve, invoke, builtin, hd, hs, hrun, Result.andThen]
    exact hK' _ _ (by simpa using h _ rfl)

theorem KeepsFrom.below {B : Nat} {W W' : World} (h : Below W.heap.size W W') : KeepsFrom B W W' := ⟨h.size, fun k o _ hk _ => (h.block k (Array.getElem?_eq_some_iff.1 hk).1).trans hk⟩
theorem KeepsFrom.grown1 {B g : Nat} {W W' : World} (h : W.grownBy W' (some g)) (hB : g < B) : KeepsFrom B W W' := KeepsFrom.of_grownBy h (fun j e => by cases e; exact hB)
theorem Keep2.trans {A B : Nat} {x y z : World} (h : Keep2 A B x y) (k : Keep2 A B y z) : Keep2 A B x z := ⟨k.1.trans h.1, k.2.trans h.2⟩
theorem Keep2.below {A B : Nat} {W W' : World} (h : Below W.heap.size W W') (hA : A < W.heap.size) (hB : B < W.heap.size) : Keep2 A B W W' := ⟨h.block A hA, h.block B hB⟩
theorem Keep2.grown {A B g : Nat} {W W' : World} (h : W.grownBy W' (some g)) (hA : A < W.heap.size) (hB : B < W.heap.size) (h1 : A ≠ g) (h2 : B ≠ g) : Keep2 A B W W' := ⟨h.block A hA (fun e => h1 (by injection e)), h.block B hB (fun e => h2 (by injection e))⟩
theorem set_grownS (w : World) (a : Addr) (u : Value) : w.grownBy (w.setCell a u) (some a.block) := ⟨rfl, rfl, rfl, by simp [World.setCell], fun k hk hne => Below.heap_setCell _ _ _ _ (fun e => hne (by rw [e]))⟩
theorem setRow_grown (w : World) (g : Nat) (cs : Array Value) : w.grownBy (w.setRow g cs) (some g) := ⟨rfl, rfl, rfl, by simp [World.setRow], fun k hk hne => setRow_other w g k _ (fun e => hne (by rw [e]))⟩

set_option maxHeartbeats 16000000 in
set_option maxRecDepth 100000 in
theorem c_restTable (xss : List (List Int)) (p : List Int) (n D : Nat) (v u : Value) (w : World) (S : Sec xss n D) (hq : Lim p n D) (h : SeenC w v xss) (hp : Seen w u p) :
    Calls Try.prog 58 #[v, u] w fun e w' => ∃ b g ys, e = .returned (.slice (some ⟨b, 0, none⟩) n n) ∧ Tab w' w.heap.size b g p n n ys ∧ ResTo xss p n n ys ∧ Below w.heap.size w w' := by
  have H1 := Lib.hid (c_depthTable p n D u w hq.pro S.n1 S.n2 S.d2 hp)
  have H2 : Hid (∀ w', Below w.heap.size w w' → Calls Try.prog 86 #[v, u] w' fun e w'' => ∃ b g ys, e = .returned (.slice (some ⟨b, 0, none⟩) n n) ∧ Tab w'' w'.heap.size b g p n n ys ∧ WorTo xss p n n 0 ys ∧ Below w'.heap.size w' w'') := fun w' hb => c_worthTable xss p n D v u w' S hq.pro (h.below hb) (hp.below hb)
  obtain ⟨A, c, rfl, hm⟩ := h.seen.shape
  obtain ⟨A2, c2, rfl⟩ := hp.shape
  rw [S.len] at H2 ⊢
  rw [hq.pro.len] at H1 H2 ⊢
  have n1 := S.n1
  have n2 := S.n2
  have m2 := S.d2
  refine (callsIn_wide (n := 10)).1 ?_
  refine callsIn_of_wp_marks Try.func58 rfl trivial ?_ rfl
  simp only [Try.ntmps58, List.size_toArray, List.length_cons, List.length_nil, Nat.reduceAdd, Nat.reduceSub, Array.replicate_succ, Array.replicate_zero, List.push_toArray, List.append_toArray, List.nil_append, List.cons_append]
  gi_wp2_with fail
  refine ⟨trivial, ?_⟩
  refine (callsIn_wide.2 H1.out).mono ?_
  rintro e w1 ⟨b, g, rfl, ht, hb⟩
  have HT1 := Lib.hid ht
  have HB1 := Lib.hid hb
  clear ht hb H1
  gi_wp2_with fail
  have HB2 : Hid (Below w.heap.size w (w1.alloc (.cells #[.slice (some ⟨b, 0, none⟩) n n] 22))) := HB1.out.alloc HB1.out.size _
  have HT2 : Hid (Tab (w1.alloc (.cells #[.slice (some ⟨b, 0, none⟩) n n] 22)) w.heap.size b g p n n (List.replicate (offT p n) 0)) := HT1.out.below ((Below.refl _ _).alloc (Nat.le_refl _) _)
  have HX2 : Hid (Boxed (w1.alloc (.cells #[.slice (some ⟨b, 0, none⟩) n n] 22)) w1.heap.size 22 (.slice (some ⟨b, 0, none⟩) n n)) := Boxed.new _ _ _
  have hz5 : w.heap.size ≤ w1.heap.size := HB1.out.size
  have hsz2 : (w1.alloc (.cells #[.slice (some ⟨b, 0, none⟩) n n] 22)).heap.size = w1.heap.size + 1 := by simp
  generalize w1.alloc (.cells #[.slice (some ⟨b, 0, none⟩) n n] 22) = w2 at *
  refine ⟨trivial, ?_⟩
  refine (callsIn_wide.2 (H2.out _ HB2.out)).mono ?_
  rintro e w3 ⟨b2, g2, ws, rfl, ht, hw, hb⟩
  have HT3 := Lib.hid (HT2.out.below hb)
  have HW3 := Lib.hid ht
  have HWS := Lib.hid hw
  have HB3 : Hid (Below w.heap.size w w3) := HB2.out.trans (hb.mono HB2.out.size)
  have HX3 : Hid (Boxed w3 w1.heap.size 22 (.slice (some ⟨b, 0, none⟩) n n)) := by
    have : w1.heap.size < w2.heap.size := by omega
    exact (hb.block _ this).trans HX2.out
  have hlt2 : w2.heap.size ≤ b2 := HW3.out.lt.1
  have hlg2 : w2.heap.size ≤ g2 := HW3.out.lt.2.2.1
  have hz3 : b2 < w3.heap.size ∧ g2 < w3.heap.size := ⟨HW3.out.lt.2.1, HW3.out.lt.2.2.2⟩
  have hb1 : b < w1.heap.size ∧ g < w1.heap.size := ⟨HT1.out.lt.2.1, HT1.out.lt.2.2.2⟩
  have hgw : w.heap.size ≤ g := HT1.out.lt.2.2.1
  clear ht hw hb H2 HT1 HT2 HX2
  gi_wp2_with fail
  refine ⟨trivial, ?_⟩
  refine (callsIn_wide.2 (c_Backward (some ⟨b2, 0, none⟩) n n w3)).mono ?_
  rintro e w4 ⟨rfl, rfl⟩
  gi_wp2_with fail
  have HB4 : Hid (Below w.heap.size w (w3.alloc (.cells #[.slice (some ⟨b2, 0, none⟩) n n] 22))) := HB3.out.alloc HB3.out.size _
  have HT4 : Hid (Tab (w3.alloc (.cells #[.slice (some ⟨b2, 0, none⟩) n n] 22)) w.heap.size b g p n n (List.replicate (offT p n) 0)) := HT3.out.below ((Below.refl _ _).alloc (Nat.le_refl _) _)
  have HW4 : Hid (Tab (w3.alloc (.cells #[.slice (some ⟨b2, 0, none⟩) n n] 22)) w2.heap.size b2 g2 p n n ws) := HW3.out.below ((Below.refl _ _).alloc (Nat.le_refl _) _)
  have HX4 : Hid (Boxed (w3.alloc (.cells #[.slice (some ⟨b2, 0, none⟩) n n] 22)) w1.heap.size 22 (.slice (some ⟨b, 0, none⟩) n n)) := HX3.out.alloc _
  have HBs : Hid (Boxed (w3.alloc (.cells #[.slice (some ⟨b2, 0, none⟩) n n] 22)) w3.heap.size 22 (.slice (some ⟨b2, 0, none⟩) n n)) := Boxed.new _ _ _
  have hsz4 : (w3.alloc (.cells #[.slice (some ⟨b2, 0, none⟩) n n] 22)).heap.size = w3.heap.size + 1 := by simp
  generalize w3.alloc (.cells #[.slice (some ⟨b2, 0, none⟩) n n] 22) = w4 at *
  obtain ⟨Bs, hBs⟩ : ∃ Bs, w3.heap.size = Bs := ⟨_, rfl⟩
  obtain ⟨Bt, hBt⟩ : ∃ Bt, w1.heap.size = Bt := ⟨_, rfl⟩
  rw [hBs] at HBs hsz4 hz3 ⊢
  rw [hBt] at HX4 hb1 hsz2 hz5 ⊢
  have hlen0 : (List.replicate (offT p n) (0 : Int)).length = offT p n := by simp
  refine wpIn_rangeFunc_ownG (α := { x : Nat // x < n }) rfl (by omega) (gf := 94) (lb := #[.pointer (some ⟨Bs, 0, none⟩)]) rfl trivial (enters_of Try.func94 (by kernel_rfl) rfl)
    (encs := fun x => #[.int .i64 ((x.1 : Nat) : Int), rowV p g2 x.1]) (Kp := Keep2 Bs b2) (S := fun ys => ys = dnL (elF n1) n n) (Sp := fun pre => ∃ k, k ≤ n ∧ pre = dnL (elF n1) n k) (N := n) (w0 := w4)
    (fun l J Jx W hW _ _ hY h0 => c_Backward1 (elF n1) (fun x => x.1) 9 l Bs b2 n n (fun x => rowV p g2 x) (fun x hx => elF_at n1 hx) (by omega) (by omega) J Jx hY W ((hW.cell (p := ⟨Bs, 0, none⟩) (by show Bs < w4.heap.size; omega)).trans HBs.out.cell) (fun j hj => (hW.cell (p := ⟨b2, j, none⟩) (by show b2 < w4.heap.size; omega)).trans (HW4.out.cell hj hj)) h0)
    (fun a b => ⟨b.1.trans a.1, b.2.trans a.2⟩)
    (fun W l o o' hl ho _ _ => ⟨World.putObj_heap_other (by omega), World.putObj_heap_other (by omega)⟩)
    (Below.refl _ _) (fun _ => rfl)
    (fun pre W => (Tab W w.heap.size b g p n n (runB p ws (List.replicate (offT p n) 0) pre) ∧ Tab W w2.heap.size b2 g2 p n n ws ∧ (Boxed W Bt 22 (.slice (some ⟨b, 0, none⟩) n n) ∧ Boxed W Bs 22 (.slice (some ⟨b2, 0, none⟩) n n))) ∧ Below w.heap.size w W)
    (fun _ _ _ => False)
    (fun s W W' row hs hg hr => ⟨⟨hs.1.1.own hg (fun r e => (hr r e).2), hs.1.2.1.own hg (fun r e => (hr r e).2), hs.1.2.2.1.kept hg (fun e => by have := (hr Bt e.symm).1; omega), hs.1.2.2.2.kept hg (fun e => by have := (hr Bs e.symm).1; omega)⟩, hs.2.grown hg hs.2.size (fun k e => by have := (hr k e).1; have := HB4.out.size; omega)⟩)
    (fun _ _ _ _ _ hs _ _ => hs)
    ⟨⟨HT4.out, HW4.out, HX4.out, HBs.out⟩, HB4.out⟩
    (fun x => { tmps := #[.slice A n c, .slice A2 n c2, undef, undef, .slice none 0 0, .pointer (some ⟨Bt, 0, none⟩), .int .i64 ((x.1 : Nat) : Int), .slice (some ⟨g2, offT p x.1, none⟩) (Lp p x.1) (Lp p x.1), undef, undef, undef, undef, .slice A2 n c2, .slice (some ⟨b, 0, none⟩) n n, .slice A n c, .slice A2 n c2, .slice (some ⟨b2, 0, none⟩) n n, .func (.func 94) #[] #[.pointer (some ⟨Bs, 0, none⟩)], .int .i64 ((x.1 : Nat) : Int), .slice (some ⟨g2, offT p x.1, none⟩) (Lp p x.1) (Lp p x.1), undef, undef, undef, undef, undef, undef, undef, undef, undef, undef, undef, undef, undef, undef, undef, undef, undef, undef, undef, undef, undef, undef, undef, undef, undef, undef, undef, undef, undef, undef, undef, undef, undef, undef, undef, undef, undef], defers := [] }) ?assign ?body ?done ?stop
  case assign =>
    intro l x W K hK
    unfold rowV
    gi_wp2
    exact hK
  case body =>
    rintro l pre ⟨X, hXn⟩ W ⟨⟨hT, hW, hX, hX'⟩, hB⟩ hlen
    have hrb := runB_snoc p ws (List.replicate (offT p n) 0) pre ⟨X, hXn⟩
    obtain ⟨ys, hys⟩ : ∃ ys, runB p ws (List.replicate (offT p n) 0) pre = ys := ⟨_, rfl⟩
    rw [hys] at hrb hT
    have HRB := Lib.hid hrb
    clear hrb hys
    have T0 := Lib.hid hT
    have W0 := Lib.hid hW
    have X0 := Lib.hid hX
    have V0 := Lib.hid hX'
    have B0 := Lib.hid hB
    clear hT hW hX hX' hB
    have x5 := X0.out.cell
    have x6 := T0.out.cell hXn hXn
    unfold rowV at x6
    have pb : 0 < offT p n := by have := offT_far p hXn; have := (Lp_box hq.pro m2 hXn).1; omega
    have pm : offT p n ≤ 1000000 := by have := offT_box hq.pro m2 n (Nat.le_refl _); omega
    have hx1 : (0 : Int) ≤ (X : Int) := by omega
    have hx2 : (X : Int) < (n : Int) := by omega
    have hwh := T0.out.whole pb
    have hsl := segR_len p ws X
    have hz : offT p X + (segR p ws X).length ≤ offT p n := by rw [hsl]; exact offT_far p hXn
    have F1 : Hid (∀ W1, W1 = W.setRow g ((ints ys).toArray.toList.take (offT p X) ++ (ints (segR p ws X) ++ (ints ys).toArray.toList.drop (offT p X + (ints (segR p ws X)).length))).toArray → Tab W1 w.heap.size b g p n n (overL ys (offT p X) (segR p ws X)) ∧ W.grownBy W1 (some g)) := fun W1 e => by
      rw [List.toList_toArray] at e
      rw [e]
      exact ⟨T0.out.over pb pm hz, setRow_grown W g _⟩
    have zB : Bt < w4.heap.size ∧ Bs < w4.heap.size ∧ b2 < w4.heap.size ∧ g < w4.heap.size ∧ g ≠ Bt ∧ g ≠ Bs ∧ g ≠ b2 ∧ g ≠ g2 ∧ b ≠ g := by
      have := T0.out.ne
      omega
    have HZB := Lib.hid zB
    clear zB
    have SRC : Hid (∀ (j : Nat) (v : Value), (ints (segR p ws X))[j]? = some v → W.cell? ((⟨g2, offT p X, none⟩ : Addr).add j) = some v) := fun j v hj => by
      obtain ⟨hj1, rfl⟩ := ints_getE hj
      rw [hsl] at hj1
      have e : (⟨g2, offT p X, none⟩ : Addr).add j = ⟨g2, offT p X + j, none⟩ := by
        unfold Addr.add
        split
        · rename_i h; subst h; rfl
        · simp
      rw [e, (W0.out.at_ (place_lt hXn hj1)).1]
      simp [segR, upT, hj1]
    have L1 : Hid ((ints (segR p ws X)).length = Nat.min (Lp p X) (Lp p X)) := by show _ = _; rw [ints_len, hsl]; simp
    have L2 : Hid (offT p X + (ints (segR p ws X)).length ≤ (ints ys).toArray.size) := by show _ ≤ _; rw [ints_len]; simp [ints]; have := T0.out.len; omega
    have L3 : Hid (∀ v ∈ ints (segR p ws X), v.oneCell' = true) := fun v hv => by
      obtain ⟨_, _, rfl⟩ := List.mem_map.1 hv
      rfl
    have HSz : Hid ((Try.prog.info? 3).map (·.size) = some 1) := by show _ = _; kernel_rfl
    by_cases hxe : (n : Int) - 1 = (X : Int)
    · have HXN : Hid (X = n - 1) := by show _ = _; omega
      gi_wp2_with (with_reducible refine wpListIn_copy_row rfl (.tmp 24) (.tmp 25) 27 27 rfl 3 Try.underlying27 HSz.out g (offT p X) (Lp p X) (Lp p X) ⟨g2, offT p X, none⟩ (Lp p X) (Lp p X) rfl rfl (ints ys).toArray 3 hwh (ints (segR p ws X)) L1.out SRC.out L2.out L3.out ?_
                   intro W1 hW1
                   obtain ⟨t1, g1⟩ := F1.out W1 hW1.out
                   have zz := HZB.out
                   have T1 := Lib.hid t1
                   have U1 := Lib.hid (W0.out.far g1 zz.2.2.2.2.2.2.1 zz.2.2.2.2.2.2.2.1)
                   have X1 := Lib.hid (X0.out.kept g1 (fun e => zz.2.2.2.2.1 (by injection e with e; exact e.symm)))
                   have V1 := Lib.hid (V0.out.kept g1 (fun e => zz.2.2.2.2.2.1 (by injection e with e; exact e.symm)))
                   have K1 : Hid (KeepsFrom w4.heap.size W W1 ∧ Keep2 Bs b2 W W1 ∧ Below w.heap.size w W1) := ⟨KeepsFrom.grown1 g1 zz.2.2.2.1, Keep2.grown g1 V0.out.lt W0.out.lt.2.1 (fun e => zz.2.2.2.2.2.1 e.symm) (fun e => zz.2.2.2.2.2.2.1 e.symm), B0.out.grown g1 B0.out.size (fun k e => by cases e; exact hgw)⟩
                   have y5 := X1.out.cell
                   clear t1 g1 hW1 zz)
      refine ⟨by rw [← hsz4]; exact K1.out.1, K1.out.2.1, ⟨⟨?_, by rw [← hsz2]; exact U1.out, X1.out, V1.out⟩, K1.out.2.2⟩⟩
      rw [HRB.out]
      unfold bodyL
      rw [if_pos HXN.out]
      exact T1.out
    have hxe2 : ¬ (X : Int) = (n : Int) - 1 := fun e => hxe e.symm
    gi_wp2_with (with_reducible refine wpListIn_copy_row rfl (.tmp 24) (.tmp 25) 27 27 rfl 3 Try.underlying27 HSz.out g (offT p X) (Lp p X) (Lp p X) ⟨g2, offT p X, none⟩ (Lp p X) (Lp p X) rfl rfl (ints ys).toArray 3 hwh (ints (segR p ws X)) L1.out SRC.out L2.out L3.out ?_
                 intro W1 hW1
                 obtain ⟨t1, g1⟩ := F1.out W1 hW1.out
                 have zz := HZB.out
                 have T1 := Lib.hid t1
                 have U1 := Lib.hid (W0.out.far g1 zz.2.2.2.2.2.2.1 zz.2.2.2.2.2.2.2.1)
                 have X1 := Lib.hid (X0.out.kept g1 (fun e => zz.2.2.2.2.1 (by injection e with e; exact e.symm)))
                 have V1 := Lib.hid (V0.out.kept g1 (fun e => zz.2.2.2.2.2.1 (by injection e with e; exact e.symm)))
                 have K1 : Hid (KeepsFrom w4.heap.size W W1 ∧ Keep2 Bs b2 W W1 ∧ Below w.heap.size w W1) := ⟨KeepsFrom.grown1 g1 zz.2.2.2.1, Keep2.grown g1 V0.out.lt W0.out.lt.2.1 (fun e => zz.2.2.2.2.2.1 e.symm) (fun e => zz.2.2.2.2.2.2.1 e.symm), B0.out.grown g1 B0.out.size (fun k e => by cases e; exact hgw)⟩
                 have y5 := X1.out.cell
                 clear t1 g1 hW1 zz)
    have hxn : X + 1 < n := by omega
    have RB2 : Hid (runB p ws (List.replicate (offT p n) 0) (pre ++ [⟨X, hXn⟩]) = putR p (overL ys (offT p X) (segR p ws X)) X (Lp p X)) := by
      rw [HRB.out]
      unfold bodyL
      exact if_neg (by omega)
    have HP0 : Hid (putR p (overL ys (offT p X) (segR p ws X)) X 0 = overL ys (offT p X) (segR p ws X)) := rfl
    have HPs : Hid (∀ j, putR p (overL ys (offT p X) (segR p ws X)) X (j + 1) = (putR p (overL ys (offT p X) (segR p ws X)) X j).set (offT p X + j) (wrap64 ((putR p (overL ys (offT p X) (segR p ws X)) X j).getD (offT p X + j) 0 + mxN p (putR p (overL ys (offT p X) (segR p ws X)) X j) X j))) := fun j => rfl
    rw [← HP0.out] at T1
    have hmx : Try.prog.follows .mixedOrders = true := by kernel_rfl
    generalize putR p (overL ys (offT p X) (segR p ws X)) X = PR at *
    have l1 : 1 ≤ Lp p X ∧ Lp p X ≤ 7 := ⟨(Lp_box hq.pro m2 hXn).1, (Lp_box hq.pro m2 hXn).2.1⟩
    have l2 : 1 ≤ Lp p (X + 1) ∧ Lp p (X + 1) ≤ 7 := ⟨(Lp_box hq.pro m2 hxn).1, (Lp_box hq.pro m2 hxn).2.1⟩
    have nr := hq.near X hxn
    gi_loopw [34] (fun i wr => ∃ j : Nat, j ≤ Lp p X ∧ i = .int .i64 j ∧ Tab wr w.heap.size b g p n n (PR j) ∧ Tab wr w2.heap.size b2 g2 p n n ws ∧ (Boxed wr Bt 22 (.slice (some ⟨b, 0, none⟩) n n) ∧ Boxed wr Bs 22 (.slice (some ⟨b2, 0, none⟩) n n)) ∧ (KeepsFrom w4.heap.size W wr ∧ Keep2 Bs b2 W wr ∧ Below w.heap.size w wr)) (fun i _ => Lp p X - (intOf i).toNat)
    case atStart => exact ⟨0, Nat.zero_le _, rfl, T1.out, U1.out, ⟨X1.out, V1.out⟩, K1.out⟩
    case round =>
      obtain ⟨j, hj, rfl, ht, hw, ⟨hx, hv⟩, hk⟩ := hrel
      have TT := Lib.hid ht
      have WW := Lib.hid hw
      have XX := Lib.hid hx
      have VV := Lib.hid hv
      have KK := Lib.hid hk
      clear ht hw hx hv hk
      by_cases hlj : j < Lp p X
      · have j1 : (0 : Int) ≤ (j : Int) := by omega
        have j2 : (j : Int) < ((Lp p X : Nat) : Int) := by omega
        have j3 : (0 : Int) ≤ (X : Int) + 1 := by omega
        have j4 : (X : Int) + 1 < (n : Int) := by omega
        have j5 : ((X : Int) + 1).toNat = X + 1 := by omega
        have z5 := XX.out.cell
        have z6 := TT.out.cell hxn hxn
        unfold rowV at z6
        have nf := near_box (d := j) (len := Lp p (X + 1)) (by omega) (by omega)
        have CN := Lib.hid (fun (wz : World) => c_nearDepths g (offT p (X + 1)) (Lp p (X + 1)) (Lp p (X + 1)) j wz (by omega) (by omega) (Nat.le_refl _) (by omega) (by omega))
        gi_wp2_with fail
        refine ⟨trivial, ?_⟩
        refine (CallsIn.inRound l (callsIn_wide.2 (CN.out _))).mono ?_
        rintro e wc ⟨rfl, hb⟩
        have T2 := Lib.hid (TT.out.below hb)
        have W2 := Lib.hid (WW.out.below hb)
        have X2 : Hid (Boxed wc Bt 22 (.slice (some ⟨b, 0, none⟩) n n)) := (hb.block _ XX.out.lt).trans XX.out
        have V2 : Hid (Boxed wc Bs 22 (.slice (some ⟨b2, 0, none⟩) n n)) := (hb.block _ VV.out.lt).trans VV.out
        have K2 : Hid (KeepsFrom w4.heap.size W wc ∧ Keep2 Bs b2 W wc ∧ Below w.heap.size w wc) := ⟨KK.out.1.trans (KeepsFrom.below hb), KK.out.2.1.trans (Keep2.below hb VV.out.lt WW.out.lt.2.1), KK.out.2.2.trans (hb.mono KK.out.2.2.size)⟩
        clear hb z5 z6 CN
        have HCC : Hid (∀ i, i < cnN j (Lp p (X + 1)) → wc.cell? ⟨g, offT p (X + 1) + loN j + i, none⟩ = some (.int .i64 ((PR j).getD (offT p (X + 1) + (loN j + i)) 0))) := fun i hi => by
          have := (T2.out.at_ (place_lt (d := loN j + i) hxn (by omega))).1
          rwa [← Nat.add_assoc] at this ⊢
        have CM : Hid (∀ wz : World, (∀ i, i < cnN j (Lp p (X + 1)) → wz.cell? ⟨g, offT p (X + 1) + loN j + i, none⟩ = some (.int .i64 ((PR j).getD (offT p (X + 1) + (loN j + i)) 0))) → Calls Try.prog 83 #[.slice (some ⟨g, offT p (X + 1) + loN j, none⟩) (cnN j (Lp p (X + 1))) (cnN j (Lp p (X + 1)))] wz fun e w' => e = .returned (.int .i64 (mxN p (PR j) X j)) ∧ wz = w') := fun wz hc => by
          have := c_MaxF g (offT p (X + 1) + loN j) (cnN j (Lp p (X + 1))) (cnN j (Lp p (X + 1))) (fun i => (PR j).getD (offT p (X + 1) + (loN j + i)) 0) wz nf.1 (by omega) hc
          rw [maxF_shift (fun i => (PR j).getD (offT p (X + 1) + i) 0) (loN j)] at this
          exact this
        have pl := place_lt (p := p) hXn hlj
        obtain ⟨r1, r2, r3⟩ := T2.out.at_ pl
        have hst := T2.out.set_ (offT p X + j) (wrap64 ((PR j).getD (offT p X + j) 0 + mxN p (PR j) X j))
        rw [← HPs.out] at hst
        have T3 := Lib.hid hst
        have g3 := set_grownS wc ⟨g, offT p X + j, none⟩ (.int .i64 (wrap64 ((PR j).getD (offT p X + j) 0 + mxN p (PR j) X j)))
        have zz := HZB.out
        have W3 := Lib.hid (W2.out.far g3 zz.2.2.2.2.2.2.1 zz.2.2.2.2.2.2.2.1)
        have X3 := Lib.hid (X2.out.kept g3 (fun e => zz.2.2.2.2.1 (by injection e with e; exact e.symm)))
        have V3 := Lib.hid (V2.out.kept g3 (fun e => zz.2.2.2.2.2.1 (by injection e with e; exact e.symm)))
        have K3 : Hid (KeepsFrom w4.heap.size W (wc.setCell ⟨g, offT p X + j, none⟩ (.int .i64 (wrap64 ((PR j).getD (offT p X + j) 0 + mxN p (PR j) X j)))) ∧ Keep2 Bs b2 W (wc.setCell ⟨g, offT p X + j, none⟩ (.int .i64 (wrap64 ((PR j).getD (offT p X + j) 0 + mxN p (PR j) X j)))) ∧ Below w.heap.size w (wc.setCell ⟨g, offT p X + j, none⟩ (.int .i64 (wrap64 ((PR j).getD (offT p X + j) 0 + mxN p (PR j) X j))))) := ⟨K2.out.1.trans (KeepsFrom.grown1 g3 zz.2.2.2.1), K2.out.2.1.trans (Keep2.grown g3 V2.out.lt W2.out.lt.2.1 (fun e => zz.2.2.2.2.2.1 e.symm) (fun e => zz.2.2.2.2.2.2.1 e.symm)), K2.out.2.2.setCell hgw _⟩
        clear hst g3 zz
        generalize mxN p (PR j) X j = mm at *
        generalize (PR j).getD (offT p X + j) 0 = tt at *
        gi_wp2_with fail
        gi_region_with_o (refine ⟨trivial, ?_⟩; gi_at_call 83; refine (CallsIn.inRound l (callsIn_wide.2 (CM.out _ (fun i hi => by first | exact HCC.out i hi | simpa using HCC.out i hi)))).mono ?_; rintro e wd ⟨rfl, rfl⟩)
        all_goals gi_wp2
        all_goals (try go_bits)
        all_goals exact ⟨⟨j + 1, by omega, by go_num, T3.out.draws, W3.out.draws, ⟨X3.out, V3.out⟩, K3.out.1.trans ((KeepsOthers.drew _).from _), K3.out.2.1, K3.out.2.2.drew⟩, by simp [intOf]; omega⟩
      · obtain rfl : j = Lp p X := by omega
        gi_wp2
        exact ⟨KK.out.1, KK.out.2.1, ⟨⟨by rw [RB2.out]; exact TT.out, WW.out, XX.out, VV.out⟩, KK.out.2.2⟩⟩
  case done =>
    rintro D1 ys W hD rfl ⟨⟨hT, _, hX, _⟩, hB⟩ hK
    have hX5 := hX.cell
    gi_wp2
    refine ⟨by simp, .inl ⟨_, _, rfl, run_takeDeferred hK, ?_⟩⟩
    refine ⟨_, results_tmp rfl _ _ _, b, g, _, rfl, hT.own (grownBy_putObj' W D1 (.deferred none)) (fun r e => by cases e; exact ⟨_, hK, rfl⟩), runB_res S hq HWS.out hlen0 n (Nat.le_refl _), hB.trans (belowK_b (w := w) (Nat.le_refl _) W D1 _ _ (by have := HB4.out.size; omega) hK rfl rfl)⟩
  case stop =>
    rintro D1 c1 pre W _ _ h _
    exact h.elim
end Go.Proofs.Ytmkbjkmpincogaa
