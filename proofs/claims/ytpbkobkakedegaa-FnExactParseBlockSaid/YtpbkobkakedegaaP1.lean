/-
  Contract of scanName: three digits with commas between them, and nothing else.
-/
import Derived.Test.YtpbkobkakedegaaC5
import Derived.Lib.OthersKept
import Derived.Laws.RangeAny
import Derived.Laws.Rows
import Derived.Lib.Hide
namespace Go.Proofs.Ytpbkobkakedegaa
open Go.RowKit

/-- Byte k of a string, as a number. -/
def byteAt (s : ByteArray) (k : Nat) : Int := ((s.data.toList.getD k 0).toNat : Int)
theorem byteAt_eq (s : ByteArray) (k : Nat) (h : k < s.size) : byteAt s k = ((s[k]'h).toNat : Int) := by
  unfold byteAt
  have h' : k < s.data.toList.length := by simpa using h
  rw [List.getD_eq_getElem?_getD, List.getElem?_eq_getElem h']
  rfl
def digitB (c : Int) : Bool := decide (48 ≤ c ∧ c ≤ 57)
def okAt (s : ByteArray) (k : Nat) : Bool := if k % 2 = 1 then decide (byteAt s k = 44) else digitB (byteAt s k)
def nameB (s : ByteArray) : Bool := decide (s.size = 5) && okAt s 0 && okAt s 1 && okAt s 2 && okAt s 3 && okAt s 4
def val (s : ByteArray) (j k : Nat) : Int := if 2 * j < k then byteAt s (2 * j) - 48 else 0
/-- What the scan hands back for number j. -/
def nmV (s : ByteArray) (j : Nat) : Int := if nameB s then byteAt s (2 * j) - 48 else 0

structure St (B : Nat) (w wr : World) (s : ByteArray) (k : Nat) (a b c : Int) : Prop where
  it : wr.heap[B + 1 + 1]? = some (.stringIter s k)
  p : wr.heap[B + 1]? = some (.cells #[.int .i64 a, .int .i64 b, .int .i64 c] 46 (0, 0))
  r : wr.heap[B]? = some (.cells #[.int .i64 0, .int .i64 0, .int .i64 0] 46 (0, 0))
  bel : Below B w wr

section
variable {B : Nat} {w wr : World} {s : ByteArray} {k : Nat} {a b c : Int}
theorem St.next (h : St B w wr s k a b c) (k' : Nat) : St B w (wr.iterAt (B + 1 + 1) s k') s k' a b c :=
  ⟨Lib.iterAt_heap _ _ _ _ _ h.it, (Lib.iterAt_other _ _ _ _ _ (by omega)).trans h.p, (Lib.iterAt_other _ _ _ _ _ (by omega)).trans h.r, Lib.below_iterAt h.bel (by omega) _ _⟩
theorem St.cellP (h : St B w wr s k a b c) (j : Nat) : wr.cell? ⟨B + 1, j, none⟩ = #[Value.int .i64 a, .int .i64 b, .int .i64 c][j]? := cell_of_row wr _ j _ _ _ h.p
theorem St.frozenP (h : St B w wr s k a b c) (j : Nat) : wr.frozen? ⟨B + 1, j, none⟩ = false := frozen_of_row wr _ j _ _ h.p
theorem St.cellR (h : St B w wr s k a b c) (j : Nat) : wr.cell? ⟨B, j, none⟩ = #[Value.int .i64 0, .int .i64 0, .int .i64 0][j]? := cell_of_row wr _ j _ _ _ h.r
theorem St.frozenR (h : St B w wr s k a b c) (j : Nat) : wr.frozen? ⟨B, j, none⟩ = false := frozen_of_row wr _ j _ _ h.r
theorem St.put0 (h : St B w wr s k a b c) (d : Int) : St B w (wr.setCell ⟨B + 1, 0, none⟩ (.int .i64 d)) s k d b c :=
  ⟨(heap_setCell_other wr ⟨B + 1, 0, none⟩ _ _ (by simp)).trans h.it, heap_setCell_same wr (B + 1) 0 _ _ _ h.p, (heap_setCell_other wr ⟨B + 1, 0, none⟩ _ _ (by simp)).trans h.r, h.bel.setCell (by simp) _⟩
theorem St.put1 (h : St B w wr s k a b c) (d : Int) : St B w (wr.setCell ⟨B + 1, 1, none⟩ (.int .i64 d)) s k a d c :=
  ⟨(heap_setCell_other wr ⟨B + 1, 1, none⟩ _ _ (by simp)).trans h.it, heap_setCell_same wr (B + 1) 1 _ _ _ h.p, (heap_setCell_other wr ⟨B + 1, 1, none⟩ _ _ (by simp)).trans h.r, h.bel.setCell (by simp) _⟩
theorem St.put2 (h : St B w wr s k a b c) (d : Int) : St B w (wr.setCell ⟨B + 1, 2, none⟩ (.int .i64 d)) s k a b d :=
  ⟨(heap_setCell_other wr ⟨B + 1, 2, none⟩ _ _ (by simp)).trans h.it, heap_setCell_same wr (B + 1) 2 _ _ _ h.p, (heap_setCell_other wr ⟨B + 1, 2, none⟩ _ _ (by simp)).trans h.r, h.bel.setCell (by simp) _⟩

theorem St.pos (h : St B w wr s k a b c) : wr.iterPos (B + 1 + 1) = k := by simp [World.iterPos, h.it]
theorem next_ok (P : Program) (h : St B w wr s k a b c) (i : Int) (hi : i = k) (hk : k < s.size) (h128 : byteAt s k < 128) :
    ∀ ty, (Instr.next (.pointer (some ⟨B + 1 + 1, 0, none⟩)) true ty).run P wr = .ok (.tuple #[.bool true, .int .i64 i, .int .i32 (byteAt s k)]) (wr.iterAt (B + 1 + 1) s (k + 1)) := by
  intro ty
  rw [byteAt_eq s k hk] at h128 ⊢
  rw [Lib.run_next_ascii_at wr _ s k ty h.it hk (by omega), hi]
/-- A rune that is no good at an even place, or at an odd one. -/
theorem next_bad (P : Program) (h : St B w wr s k a b c) (i : Int) (hi : i = k) (hk : k < s.size) (hb : okAt s k = false) :
    ∃ (r : Int) (q : Nat), (if k % 2 = 1 then r ≠ 44 else r < 48 ∨ 57 < r) ∧ 0 ≤ r ∧ r ≤ 2147483647 ∧
      ∀ ty, (Instr.next (.pointer (some ⟨B + 1 + 1, 0, none⟩)) true ty).run P wr = .ok (.tuple #[.bool true, .int .i64 i, .int .i32 r]) (wr.iterAt (B + 1 + 1) s q) := by
  refine ⟨((Utf8.decode s k).1 : Int), k + (Utf8.decode s k).2, ?_, by omega, by have := decode_le s k; omega, fun ty => by rw [Lib.run_next_any_at wr _ s k ty h.it hk, hi]⟩
  unfold okAt digitB at hb
  rw [byteAt_eq s k hk] at hb
  by_cases h128 : (s[k]'hk).toNat < 128
  · rw [decode_ascii s k hk h128]
    split
    · rename_i ho; rw [if_pos ho] at hb; simpa using hb
    · rename_i ho; rw [if_neg ho] at hb; have := of_decide_eq_false hb; omega
  · have := (decode_high s k hk (by omega)).1
    split <;> omega
end

theorem val_step (s : ByteArray) (j k : Nat) (h : k ≠ 2 * j) : val s j (k + 1) = val s j k := by
  unfold val
  by_cases h1 : 2 * j < k
  · rw [if_pos (by omega), if_pos h1]
  · rw [if_neg (by omega), if_neg h1]
theorem val_put (s : ByteArray) (j : Nat) : val s j (2 * j + 1) = byteAt s (2 * j) - 48 := by unfold val; rw [if_pos (by omega)]

theorem name_no {s : ByteArray} (k : Nat) (hk : k < 5) (h : okAt s k = false) : nameB s = false := by
  unfold nameB
  have : k = 0 ∨ k = 1 ∨ k = 2 ∨ k = 3 ∨ k = 4 := by omega
  rcases this with rfl | rfl | rfl | rfl | rfl <;> simp [h]

def Scanned (s : ByteArray) (w : World) (e : Ending) (w' : World) : Prop :=
  e = .returned (.tuple #[.agg #[.int .i64 (nmV s 0), .int .i64 (nmV s 1), .int .i64 (nmV s 2)], .bool (nameB s)]) ∧ Below w.heap.size w w'
theorem Scanned.no {s : ByteArray} {w w' : World} {e : Ending} (h : nameB s = false) (he : e = .returned (.tuple #[.agg #[.int .i64 0, .int .i64 0, .int .i64 0], .bool false])) (hb : Below w.heap.size w w') : Scanned s w e w' := by
  unfold Scanned nmV
  rw [h]
  exact ⟨he, hb⟩

theorem ok_more {s : ByteArray} {k : Nat} (h : ∀ j, j < k → okAt s j = true) (hk : okAt s k = true) : ∀ j, j < k + 1 → okAt s j = true := fun j hj => by
  by_cases e : j = k
  · rw [e]; exact hk
  · exact h j (by omega)
theorem digit_of {s : ByteArray} {k : Nat} (h : okAt s k = true) (hk : k % 2 = 0) : 48 ≤ byteAt s k ∧ byteAt s k ≤ 57 := by
  unfold okAt at h; rw [if_neg (by omega)] at h; exact of_decide_eq_true h
theorem comma_of {s : ByteArray} {k : Nat} (h : okAt s k = true) (hk : k % 2 = 1) : byteAt s k = 44 := by
  unfold okAt at h; rw [if_pos hk] at h; exact of_decide_eq_true h
theorem name_yes {s : ByteArray} (hs : s.size = 5) (h : ∀ j, j < 5 → okAt s j = true) : nameB s = true := by
  unfold nameB
  rw [h 0 (by omega), h 1 (by omega), h 2 (by omega), h 3 (by omega), h 4 (by omega)]
  simp [hs]
theorem St.start (w : World) (s : ByteArray) : St w.heap.size w (((w.alloc (.cells #[.int .i64 0, .int .i64 0, .int .i64 0] 46)).alloc (.cells #[.int .i64 0, .int .i64 0, .int .i64 0] 46)).iter s 0) s 0 (val s 0 0) (val s 1 0) (val s 2 0) := by
  have e : ∀ j, val s j 0 = 0 := fun j => if_neg (by omega)
  rw [e 0, e 1, e 2]
  refine ⟨?_, ?_, ?_, ?_⟩
  · have := World.iter_heap ((w.alloc (.cells #[.int .i64 0, .int .i64 0, .int .i64 0] 46)).alloc (.cells #[.int .i64 0, .int .i64 0, .int .i64 0] 46)) s 0
    simpa only [World.size_alloc] using this
  · refine (Below.heap_alloc _ _ _ (by simp only [World.size_alloc]; omega)).trans ?_
    have := heap_alloc_new (w.alloc (.cells #[.int .i64 0, .int .i64 0, .int .i64 0] 46)) (.cells #[.int .i64 0, .int .i64 0, .int .i64 0] 46)
    simpa only [World.size_alloc] using this
  · refine (Below.heap_alloc _ _ _ (by simp only [World.size_alloc]; omega)).trans ((Below.heap_alloc _ _ _ (by simp only [World.size_alloc]; omega)).trans ?_)
    exact heap_alloc_new _ _
  · exact (((Below.refl _ _).alloc (Nat.le_refl _) _).alloc (by simp) _).alloc (by simp only [World.size_alloc]; omega) _

set_option maxHeartbeats 2000000 in
theorem c_scanName (s : ByteArray) (w : World) : Calls Try.prog 61 #[.string s] w (Scanned s w) := by
  by_cases hs : s.size = 5
  · have h5 : (s.size : Int) = 5 := by omega
    have Hs := Lib.hid hs
    go_enter Try.func61, Try.ntmps61
    go_wp2
    clear hs h5
    go_loopw [5] (fun _ wr => ∃ k, k ≤ 5 ∧ (∀ j, j < k → okAt s j = true) ∧ St w.heap.size w wr s k (val s 0 k) (val s 1 k) (val s 2 k)) (fun _ wr => 5 - wr.iterPos (w.heap.size + 1 + 1))
    case atStart => exact ⟨0, by omega, fun j hj => absurd hj (by omega), St.start w s⟩
    case round =>
      obtain ⟨k, hk, hok, st⟩ := hrel
      have HOK := Lib.hid hok
      clear hok
      have ST := Lib.hid st
      clear st
      have hk6 : k = 0 ∨ k = 1 ∨ k = 2 ∨ k = 3 ∨ k = 4 ∨ k = 5 := by omega
      clear hk
      rcases hk6 with rfl | rfl | rfl | rfl | rfl | rfl
      · cases h : okAt s 0
        · obtain ⟨r, q, hr, hr1, hr2, hnx⟩ := next_bad Try.prog ST.out 0 rfl (by rw [Hs.out]; omega) h
          have HN := Lib.hid (name_no 0 (by omega) h)
          have ST2 := Lib.hid (ST.out.next q)
          have hr' : r < 48 ∨ 57 < r := hr
          clear hr h
          have f0 := ST2.out.frozenR 0
          have f1 := ST2.out.frozenR 1
          have f2 := ST2.out.frozenR 2
          have g0 := ST2.out.cellR 0
          have g1 := ST2.out.cellR 1
          have g2 := ST2.out.cellR 2
          simp at g0 g1 g2
          rcases hr' with hr' | hr'
          all_goals
            go_wp2
            refine bodyPost_ret (v := .tuple #[.agg #[.int .i64 0, .int .i64 0, .int .i64 0], .bool false]) (by simp [results, Try.results61, go_sem, g0, g1, g2]) rfl (Scanned.no HN.out rfl ?_)
            exact ((ST2.out.bel.setCell (Nat.le_refl _) _).setCell (Nat.le_refl _) _).setCell (Nat.le_refl _) _
        · obtain ⟨d1, d2⟩ := digit_of h (by omega)
          have hnx := next_ok Try.prog ST.out 0 rfl (by rw [Hs.out]; omega) (by omega)
          have ST2 := Lib.hid (ST.out.next 1)
          have HO := Lib.hid (ok_more HOK.out h)
          have HP := Lib.hid ST.out.pos
          clear h
          have f0 := ST2.out.frozenP 0
          have g0 := ST2.out.cellP 0
          simp at g0
          have ST3 := Lib.hid (ST2.out.put0 (byteAt s 0 - 48))
          go_wp2
          go_roundw
          case rel => exact ⟨1, by omega, HO.out, by rw [show val s 0 1 = byteAt s 0 - 48 from val_put s 0, val_step s 1 0 (by omega), val_step s 2 0 (by omega)]; exact ST3.out⟩
          case measure => rw [HP.out, ST3.out.pos]; omega
      · cases h : okAt s 1
        · obtain ⟨r, q, hr, hr1, hr2, hnx⟩ := next_bad Try.prog ST.out 1 rfl (by rw [Hs.out]; omega) h
          have HN := Lib.hid (name_no 1 (by omega) h)
          have ST2 := Lib.hid (ST.out.next q)
          have hr' : r ≠ 44 := hr
          have hr3 : (r != 44) = true := by simpa using hr'
          clear hr h
          have f0 := ST2.out.frozenR 0
          have f1 := ST2.out.frozenR 1
          have f2 := ST2.out.frozenR 2
          have g0 := ST2.out.cellR 0
          have g1 := ST2.out.cellR 1
          have g2 := ST2.out.cellR 2
          simp at g0 g1 g2
          go_wp2
          refine bodyPost_ret (v := .tuple #[.agg #[.int .i64 0, .int .i64 0, .int .i64 0], .bool false]) (by simp [results, Try.results61, go_sem, g0, g1, g2]) rfl (Scanned.no HN.out rfl ?_)
          exact ((ST2.out.bel.setCell (Nat.le_refl _) _).setCell (Nat.le_refl _) _).setCell (Nat.le_refl _) _
        · have hc := comma_of h (by omega)
          have hnx := next_ok Try.prog ST.out 1 rfl (by rw [Hs.out]; omega) (by omega)
          rw [hc] at hnx
          have ST2 := Lib.hid (ST.out.next 2)
          have HO := Lib.hid (ok_more HOK.out h)
          have HP := Lib.hid ST.out.pos
          clear hc h
          go_wp2
          go_roundw
          case rel => exact ⟨2, by omega, HO.out, by rw [val_step s 0 1 (by omega), val_step s 1 1 (by omega), val_step s 2 1 (by omega)]; exact ST2.out⟩
          case measure => rw [HP.out, ST2.out.pos]; omega
      · cases h : okAt s 2
        · obtain ⟨r, q, hr, hr1, hr2, hnx⟩ := next_bad Try.prog ST.out 2 rfl (by rw [Hs.out]; omega) h
          have HN := Lib.hid (name_no 2 (by omega) h)
          have ST2 := Lib.hid (ST.out.next q)
          have hr' : r < 48 ∨ 57 < r := hr
          clear hr h
          have f0 := ST2.out.frozenR 0
          have f1 := ST2.out.frozenR 1
          have f2 := ST2.out.frozenR 2
          have g0 := ST2.out.cellR 0
          have g1 := ST2.out.cellR 1
          have g2 := ST2.out.cellR 2
          simp at g0 g1 g2
          rcases hr' with hr' | hr'
          all_goals
            go_wp2
            refine bodyPost_ret (v := .tuple #[.agg #[.int .i64 0, .int .i64 0, .int .i64 0], .bool false]) (by simp [results, Try.results61, go_sem, g0, g1, g2]) rfl (Scanned.no HN.out rfl ?_)
            exact ((ST2.out.bel.setCell (Nat.le_refl _) _).setCell (Nat.le_refl _) _).setCell (Nat.le_refl _) _
        · obtain ⟨d1, d2⟩ := digit_of h (by omega)
          have hnx := next_ok Try.prog ST.out 2 rfl (by rw [Hs.out]; omega) (by omega)
          have ST2 := Lib.hid (ST.out.next 3)
          have HO := Lib.hid (ok_more HOK.out h)
          have HP := Lib.hid ST.out.pos
          clear h
          have f0 := ST2.out.frozenP 1
          have g0 := ST2.out.cellP 1
          simp at g0
          have ST3 := Lib.hid (ST2.out.put1 (byteAt s 2 - 48))
          go_wp2
          go_roundw
          case rel => exact ⟨3, by omega, HO.out, by rw [val_step s 0 2 (by omega), show val s 1 3 = byteAt s 2 - 48 from val_put s 1, val_step s 2 2 (by omega)]; exact ST3.out⟩
          case measure => rw [HP.out, ST3.out.pos]; omega
      · cases h : okAt s 3
        · obtain ⟨r, q, hr, hr1, hr2, hnx⟩ := next_bad Try.prog ST.out 3 rfl (by rw [Hs.out]; omega) h
          have HN := Lib.hid (name_no 3 (by omega) h)
          have ST2 := Lib.hid (ST.out.next q)
          have hr' : r ≠ 44 := hr
          have hr3 : (r != 44) = true := by simpa using hr'
          clear hr h
          have f0 := ST2.out.frozenR 0
          have f1 := ST2.out.frozenR 1
          have f2 := ST2.out.frozenR 2
          have g0 := ST2.out.cellR 0
          have g1 := ST2.out.cellR 1
          have g2 := ST2.out.cellR 2
          simp at g0 g1 g2
          go_wp2
          refine bodyPost_ret (v := .tuple #[.agg #[.int .i64 0, .int .i64 0, .int .i64 0], .bool false]) (by simp [results, Try.results61, go_sem, g0, g1, g2]) rfl (Scanned.no HN.out rfl ?_)
          exact ((ST2.out.bel.setCell (Nat.le_refl _) _).setCell (Nat.le_refl _) _).setCell (Nat.le_refl _) _
        · have hc := comma_of h (by omega)
          have hnx := next_ok Try.prog ST.out 3 rfl (by rw [Hs.out]; omega) (by omega)
          rw [hc] at hnx
          have ST2 := Lib.hid (ST.out.next 4)
          have HO := Lib.hid (ok_more HOK.out h)
          have HP := Lib.hid ST.out.pos
          clear hc h
          go_wp2
          go_roundw
          case rel => exact ⟨4, by omega, HO.out, by rw [val_step s 0 3 (by omega), val_step s 1 3 (by omega), val_step s 2 3 (by omega)]; exact ST2.out⟩
          case measure => rw [HP.out, ST2.out.pos]; omega
      · cases h : okAt s 4
        · obtain ⟨r, q, hr, hr1, hr2, hnx⟩ := next_bad Try.prog ST.out 4 rfl (by rw [Hs.out]; omega) h
          have HN := Lib.hid (name_no 4 (by omega) h)
          have ST2 := Lib.hid (ST.out.next q)
          have hr' : r < 48 ∨ 57 < r := hr
          clear hr h
          have f0 := ST2.out.frozenR 0
          have f1 := ST2.out.frozenR 1
          have f2 := ST2.out.frozenR 2
          have g0 := ST2.out.cellR 0
          have g1 := ST2.out.cellR 1
          have g2 := ST2.out.cellR 2
          simp at g0 g1 g2
          rcases hr' with hr' | hr'
          all_goals
            go_wp2
            refine bodyPost_ret (v := .tuple #[.agg #[.int .i64 0, .int .i64 0, .int .i64 0], .bool false]) (by simp [results, Try.results61, go_sem, g0, g1, g2]) rfl (Scanned.no HN.out rfl ?_)
            exact ((ST2.out.bel.setCell (Nat.le_refl _) _).setCell (Nat.le_refl _) _).setCell (Nat.le_refl _) _
        · obtain ⟨d1, d2⟩ := digit_of h (by omega)
          have hnx := next_ok Try.prog ST.out 4 rfl (by rw [Hs.out]; omega) (by omega)
          have ST2 := Lib.hid (ST.out.next 5)
          have HO := Lib.hid (ok_more HOK.out h)
          have HP := Lib.hid ST.out.pos
          clear h
          have f0 := ST2.out.frozenP 2
          have g0 := ST2.out.cellP 2
          simp at g0
          have ST3 := Lib.hid (ST2.out.put2 (byteAt s 4 - 48))
          go_wp2
          go_roundw
          case rel => exact ⟨5, by omega, HO.out, by rw [val_step s 0 4 (by omega), val_step s 1 4 (by omega), show val s 2 5 = byteAt s 4 - 48 from val_put s 2]; exact ST3.out⟩
          case measure => rw [HP.out, ST3.out.pos]; omega
      · have hnx := fun ty => Lib.run_next_end_at (P := Try.prog) wr (w.heap.size + 1 + 1) s 5 ty ST.out.it (by rw [Hs.out]; omega)
        have HN := Lib.hid (name_yes Hs.out HOK.out)
        have f0 := ST.out.frozenR 0
        have f1 := ST.out.frozenR 1
        have f2 := ST.out.frozenR 2
        have g0 := ST.out.cellR 0
        have g1 := ST.out.cellR 1
        have g2 := ST.out.cellR 2
        have q0 := ST.out.cellP 0
        have q1 := ST.out.cellP 1
        have q2 := ST.out.cellP 2
        simp at g0 g1 g2 q0 q1 q2
        have e0 : Hid (nmV s 0 = val s 0 5 ∧ nmV s 1 = val s 1 5 ∧ nmV s 2 = val s 2 5) := by unfold Hid nmV val; rw [HN.out]; simp
        have e1 := e0.out.1
        have e2 := e0.out.2.1
        have e3 := e0.out.2.2
        have E : Hid (Ending.returned (.tuple #[.agg #[.int .i64 (val s 0 5), .int .i64 (val s 1 5), .int .i64 (val s 2 5)], .bool true]) = .returned (.tuple #[.agg #[.int .i64 (nmV s 0), .int .i64 (nmV s 1), .int .i64 (nmV s 2)], .bool (nameB s)])) := by
          unfold Hid; rw [e1, e2, e3, HN.out]
        clear e1 e2 e3 e0
        generalize val s 0 5 = a at *
        generalize val s 1 5 = b at *
        generalize val s 2 5 = c at *
        go_wp2
        refine bodyPost_ret (v := .tuple #[.agg #[.int .i64 a, .int .i64 b, .int .i64 c], .bool true]) (by simp [results, Try.results61, go_sem, g0, g1, g2]) rfl ⟨E.out, ?_⟩
        exact ((ST.out.bel.setCell (Nat.le_refl _) _).setCell (Nat.le_refl _) _).setCell (Nat.le_refl _) _
  · have h5 : ((s.size : Int) != 5) = true := by simp; omega
    have HN : Hid (nameB s = false) := by unfold Hid nameB; simp [hs]
    clear hs
    go_enter Try.func61, Try.ntmps61
    go_wp2
    refine bodyPost_ret (v := .tuple #[.agg #[.int .i64 0, .int .i64 0, .int .i64 0], .bool false]) (by simp [results, Try.results61, go_sem]) rfl (Scanned.no HN.out rfl ?_)
    go_grown
end Go.Proofs.Ytpbkobkakedegaa
