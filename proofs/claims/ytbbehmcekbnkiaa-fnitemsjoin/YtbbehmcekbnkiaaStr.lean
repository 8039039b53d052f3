/-
  The walk of impl.stretch.
-/
import Derived.Test.YtbbehmcekbnkiaaDivN
import Derived.Test.YtbbehmcekbnkiaaBigB
import Derived.Deep.QuietTactic
import Derived.BigQuiet
import Derived.WalkSmall
import Derived.Laws.BitsLemmas
import Derived.Deep.DeepCutAuto
import Derived.Deep.CutBlock
namespace Go.Proofs.Ytbbehmcekbnkiaa.Shr
open Go.RowKit
set_option linter.unusedVariables false
set_option linter.unusedSimpArgs false



/-- The highest order whose sum is not 0. -/
def top (xs : List Int) : Nat := if xs.getD 3 0 ≠ 0 then 3 else if xs.getD 2 0 ≠ 0 then 2 else if xs.getD 1 0 ≠ 0 then 1 else 0
theorem top_le (xs : List Int) : top xs ≤ 3 := by unfold top; split <;> (try split) <;> (try split) <;> omega

/-- want times a over have, to the nearest, of at most 2^60. -/
def cutN (want a have_ : Int) : Nat := BigN.near want.natAbs a.natAbs have_.natAbs 1152921504606846976
def cut (want a have_ : Int) : Int := if a < 0 then -(cutN want a have_ : Int) else (cutN want a have_ : Int)
theorem cutN_le (want a have_ : Int) : cutN want a have_ ≤ 1152921504606846976 := BigN.part_le _ _ _
theorem cut_le (want a have_ : Int) : -1152921504606846976 ≤ cut want a have_ ∧ cut want a have_ ≤ 1152921504606846976 := by
  have := cutN_le want a have_
  unfold cut
  split <;> omega
theorem retI {a b : Int} (h : a = b) : Ending.returned (Value.int .i64 a) = Ending.returned (Value.int .i64 b) := by rw [h]

theorem specAbs_any (x : Int) (w : World) (h1 : -9223372036854775808 ≤ x) (h2 : x ≤ 9223372036854775807) :
    Calls Try.prog 57 #[.int .i64 x] w fun e w' => e = .returned (.int .u64 ((x.natAbs : Nat) : Int)) ∧ w' = w := by
  by_cases h : x < 0
  · have e : ((x.natAbs : Nat) : Int) = -(x + 1) + 1 := by omega
    rw [e]
    clear e
    go_enter Try.func57, Try.ntmps57
    go_wp2
    go_ret
    exact ⟨rfl, rfl⟩
  · have e : ((x.natAbs : Nat) : Int) = x := by omega
    rw [e]
    clear e
    go_enter Try.func57, Try.ntmps57
    go_wp2
    go_ret
    exact ⟨rfl, rfl⟩

set_option maxHeartbeats 1000000 in
/-- The specification's cut. -/
theorem specCut_any (x num den : Int) (w : World) (hx1 : 0 < x) (hx2 : x ≤ 9223372036854775807) (hn1 : -9223372036854775807 ≤ num) (hn2 : num ≤ 9223372036854775807) (hd1 : 0 < den) (hd2 : den ≤ 9223372036854775807) :
    Calls Try.prog 45 #[.int .i64 x, .int .i64 num, .int .i64 den] w fun e w' => e = .returned (.int .i64 (cut x num den)) ∧ Below w.heap.size w w' := by
  have hwx : IntKind.u64.wrap x = x := by rw [IntKind.wrap_u64]; omega
  have hwd : IntKind.u64.wrap den = den := by rw [IntKind.wrap_u64]; omega
  have hnear := fun W => near_any x.natAbs num.natAbs den.natAbs 1152921504606846976 W (by omega) (by omega) (by omega) (by omega)
  rw [show ((x.natAbs : Nat) : Int) = x by omega, show ((den.natAbs : Nat) : Int) = den by omega] at hnear
  have HN : Hid (∀ W, Calls Try.prog 56 #[.int .u64 x, .int .u64 ((num.natAbs : Nat) : Int), .int .u64 den, .int .u64 ((1152921504606846976 : Nat) : Int)] W fun e w' => e = .returned (.int .u64 ((BigN.near x.natAbs num.natAbs den.natAbs 1152921504606846976 : Nat) : Int)) ∧ Below W.heap.size W w') := hnear
  clear hnear
  obtain ⟨c, hc⟩ : ∃ c, c = cutN x num den := ⟨_, rfl⟩
  have hcl : c ≤ 1152921504606846976 := by rw [hc]; exact cutN_le _ _ _
  obtain ⟨ci, hci⟩ : ∃ ci : Int, ci = (c : Int) := ⟨_, rfl⟩
  have hci0 : 0 ≤ ci := by omega
  have hci1 : ci ≤ 1152921504606846976 := by omega
  have hwc : IntKind.i64.wrap ci = ci := by rw [IntKind.wrap_i64]; omega
  have HC : Hid (ci = ((cutN x num den : Nat) : Int)) := hci.trans (by rw [hc])
  clear hc hci hcl
  have hneg2 : -ci ≤ 0 := by omega
  go_enter Try.func45, Try.ntmps45
  go_wp2_with fail
  refine (specAbs_any num _ (by omega) hn2).mono ?_
  rintro e w1 ⟨rfl, hw1⟩
  have hw1' := hw1.symm
  clear hw1
  subst hw1'
  go_wp2_with fail
  refine (HN _).mono ?_
  rintro e w2 ⟨rfl, hb2⟩
  rw [show ((BigN.near x.natAbs num.natAbs den.natAbs 1152921504606846976 : Nat) : Int) = ci from (show ci = ((cutN x num den : Nat) : Int) from HC).symm]
  have HB : Hid (Below w.heap.size w w2) := hb2
  clear hb2
  by_cases h : num < 0
  · go_wp2
    go_ret
    refine ⟨?_, HB⟩
    unfold cut
    rw [if_pos h, ← show ci = ((cutN x num den : Nat) : Int) from HC]
    rfl
  · go_wp2
    go_ret
    refine ⟨?_, HB⟩
    unfold cut
    rw [if_neg (by omega), ← show ci = ((cutN x num den : Nat) : Int) from HC]
    rfl

set_option maxHeartbeats 1000000 in
theorem specTop_any {v : Value} {xs : List Int} {w : World} (h : Row w v xs) (hl : xs.length = 4) : Calls Try.prog 43 #[v] w fun e w' => e = .returned (.int .i64 (top xs : Int)) ∧ w' = w := by
  obtain ⟨ao, n, cap, rfl, hn, hr⟩ := h
  obtain rfl : n = 4 := by omega
  obtain ⟨b, off, rfl, hb, hc⟩ := hr (by omega)
  have HC : Hid (∀ i, i < 4 → w.cell? ⟨b, off + i, none⟩ = some (.int .i64 (xs.getD i 0))) := hc
  clear hc hr hn hl
  go_enter Try.func43, Try.ntmps43
  go_wp2
  go_loop [3] (fun i => ∃ k : Nat, k ≤ 3 ∧ i = .int .i64 k ∧ ∀ j, k < j → j ≤ 3 → xs.getD j 0 = 0) (fun i => (intOf i).toNat)
  case atStart => exact ⟨3, by omega, rfl, fun j h1 h2 => by omega⟩
  case round =>
    obtain ⟨k, hk, rfl, hz⟩ := hrel
    have HZ : Hid (∀ j, k < j → j ≤ 3 → xs.getD j 0 = 0) := hz
    clear hz
    by_cases hk0 : 0 < k
    · have hki : (0 : Int) < (k : Int) := by omega
      have hk4 : (k : Int) < 4 := by omega
      obtain ⟨z, hz⟩ : ∃ z, z = xs.getD k 0 := ⟨_, rfl⟩
      have hcell : w.cell? ⟨b, off + k, none⟩ = some (.int .i64 z) := by rw [hz]; exact HC k (by omega)
      have HZZ : Hid (z = xs.getD k 0) := hz
      clear hz
      by_cases hz0 : z = 0
      · go_wp2
        go_round
        case rel =>
          refine ⟨k - 1, by omega, ?_, fun j h1 h2 => ?_⟩
          · rw [show (((k - 1 : Nat)) : Int) = (k : Int) - 1 by omega]
          · by_cases hjk : j = k
            · subst hjk; rw [← show z = xs.getD j 0 from HZZ]; exact hz0
            · exact HZ j (by omega) h2
        case measure => simp [intOf]; omega
      · go_wp2
        go_ret
        refine ⟨retI ?_, rfl⟩
        have hne : xs.getD k 0 ≠ 0 := by rw [← show z = xs.getD k 0 from HZZ]; exact hz0
        have : top xs = k := by
          unfold top
          rcases (show k = 1 ∨ k = 2 ∨ k = 3 by omega) with rfl | rfl | rfl
          · rw [if_neg (by rw [HZ 3 (by omega) (by omega)]; simp), if_neg (by rw [HZ 2 (by omega) (by omega)]; simp), if_pos hne]
          · rw [if_neg (by rw [HZ 3 (by omega) (by omega)]; simp), if_pos hne]
          · rw [if_pos hne]
        rw [this]
    · obtain rfl : k = 0 := by omega
      go_wp2
      go_ret
      refine ⟨retI ?_, rfl⟩
      have : top xs = 0 := by
        unfold top
        rw [if_neg (by rw [HZ 3 (by omega) (by omega)]; simp), if_neg (by rw [HZ 2 (by omega) (by omega)]; simp), if_neg (by rw [HZ 1 (by omega) (by omega)]; simp)]
      rw [this]
      rfl

/-- How a row was set. -/
structure Sett where
  sign : Int
  order : Int
  want : Int
  have_ : Int
  bad : Int
  over : Int
abbrev setV (a b c d e f : Int) : Value := .agg #[.int .i64 a, .int .i64 b, .int .i64 c, .int .i64 d, .int .i64 e, .int .i64 f]


/-- What is shared: the sum so far, what was given so far, and the portions. -/
def stp (f o : Gl → Int) (ord want have_ : Int) (gs : List Gl) : Int × Int × List Int :=
  gs.foldl (fun st g => if o g = ord then (st.1 + f g, cut want (st.1 + f g) have_, st.2.2 ++ [cut want (st.1 + f g) have_ - st.2.1]) else (st.1, st.2.1, st.2.2 ++ [0])) (0, 0, [])
theorem stp_yes {f o : Gl → Int} {ord want have_ : Int} {gs : List Gl} {g : Gl} (h : o g = ord) : stp f o ord want have_ (gs ++ [g]) = ((stp f o ord want have_ gs).1 + f g, cut want ((stp f o ord want have_ gs).1 + f g) have_, (stp f o ord want have_ gs).2.2 ++ [cut want ((stp f o ord want have_ gs).1 + f g) have_ - (stp f o ord want have_ gs).2.1]) := by
  simp [stp, List.foldl_append, h]
theorem stp_no {f o : Gl → Int} {ord want have_ : Int} {gs : List Gl} {g : Gl} (h : o g ≠ ord) : stp f o ord want have_ (gs ++ [g]) = ((stp f o ord want have_ gs).1, (stp f o ord want have_ gs).2.1, (stp f o ord want have_ gs).2.2 ++ [0]) := by
  simp [stp, List.foldl_append, h]
theorem stp_bound (f o : Gl → Int) (ord want have_ : Int) (gs : List Gl) (h : ∀ k, k < gs.length → -1073741823 ≤ f (gs.getD k Gl.none) ∧ f (gs.getD k Gl.none) ≤ 1073741823) :
    ∀ k, k ≤ gs.length → (-(1073741823 * (k : Int)) ≤ (stp f o ord want have_ (gs.take k)).1 ∧ (stp f o ord want have_ (gs.take k)).1 ≤ 1073741823 * (k : Int)) ∧ (-1152921504606846976 ≤ (stp f o ord want have_ (gs.take k)).2.1 ∧ (stp f o ord want have_ (gs.take k)).2.1 ≤ 1152921504606846976) ∧ (stp f o ord want have_ (gs.take k)).2.2.length = k ∧
      ∀ j, -2305843009213693952 ≤ (stp f o ord want have_ (gs.take k)).2.2.getD j 0 ∧ (stp f o ord want have_ (gs.take k)).2.2.getD j 0 ≤ 2305843009213693952
  | 0, _ => by simp [stp]
  | k + 1, hk => by
    obtain ⟨ih1, ih2, ih3, ih4⟩ := stp_bound f o ord want have_ gs h k (by omega)
    have hb := h k (by omega)
    rw [take_snoc (by omega)]
    generalize gs.getD k Gl.none = g at hb
    by_cases hg : o g = ord
    · rw [stp_yes hg]
      have hc := cut_le want ((stp f o ord want have_ (gs.take k)).1 + f g) have_
      refine ⟨by push_cast; omega, hc, by simp [ih3], fun j => ?_⟩
      by_cases hj : j < k
      · have := ih4 j
        simpa [List.getD, List.getElem?_append_left (show j < (stp f o ord want have_ (gs.take k)).2.2.length by omega)] using this
      · by_cases hjk : j = k
        · subst hjk
          have e : ((stp f o ord want have_ (gs.take j)).2.2 ++ [cut want ((stp f o ord want have_ (gs.take j)).1 + f g) have_ - (stp f o ord want have_ (gs.take j)).2.1]).getD j 0 = cut want ((stp f o ord want have_ (gs.take j)).1 + f g) have_ - (stp f o ord want have_ (gs.take j)).2.1 := by
            simp [List.getD, List.getElem?_append_right (show (stp f o ord want have_ (gs.take j)).2.2.length ≤ j by omega), ih3]
          rw [e]
          omega
        · have e : ((stp f o ord want have_ (gs.take k)).2.2 ++ [cut want ((stp f o ord want have_ (gs.take k)).1 + f g) have_ - (stp f o ord want have_ (gs.take k)).2.1]).getD j 0 = 0 := by
            rw [List.getD, List.getElem?_eq_none (by simp [ih3]; omega)]
            rfl
          rw [e]
          omega
    · rw [stp_no hg]
      refine ⟨by push_cast; omega, ih2, by simp [ih3], fun j => ?_⟩
      by_cases hj : j < k
      · have := ih4 j
        simpa [List.getD, List.getElem?_append_left (show j < (stp f o ord want have_ (gs.take k)).2.2.length by omega)] using this
      · have e : ((stp f o ord want have_ (gs.take k)).2.2 ++ [0]).getD j 0 = 0 := by
          by_cases hjk : j = k
          · subst hjk
            simp [List.getD, List.getElem?_append_right (show (stp f o ord want have_ (gs.take j)).2.2.length ≤ j by omega), ih3]
          · rw [List.getD, List.getElem?_eq_none (by simp [ih3]; omega)]
            rfl
        rw [e]
        omega

theorem owns_keep {w w' : World} {base e size n : Nat} {v : Value} {xs : List Value} (h : w.ownsRow base e size v n xs) (hb : Below w.heap.size w w') : w'.ownsRow base e size v n xs := by
  refine ⟨h.1, ?_⟩
  rcases h.2 with h' | ⟨g, cap, cur, hv, hg0, hg, hr⟩
  · exact .inl h'
  · exact .inr ⟨g, cap, cur, hv, hg0, (hb.block g (Array.getElem?_eq_some_iff.1 hg).1).trans hg, hr⟩
theorem block_keep {w w' : World} {g : Nat} {o : Obj} (h : w.heap[g]? = some o) (hb : Below w.heap.size w w') : w'.heap[g]? = some o := (hb.block g (Array.getElem?_eq_some_iff.1 h).1).trans h
theorem set_cells {w : World} {g : Nat} {a b c d e f : Int} (h : w.heap[g]? = some (.cells #[.int .i64 a, .int .i64 b, .int .i64 c, .int .i64 d, .int .i64 e, .int .i64 f] 82 (0, 0))) :
    w.cell? ⟨g, 0, none⟩ = some (.int .i64 a) ∧ w.cell? ⟨g, 1, none⟩ = some (.int .i64 b) ∧ w.cell? ⟨g, 2, none⟩ = some (.int .i64 c) ∧ w.cell? ⟨g, 3, none⟩ = some (.int .i64 d) ∧ w.cell? ⟨g, 4, none⟩ = some (.int .i64 e) ∧ w.cell? ⟨g, 5, none⟩ = some (.int .i64 f) :=
  ⟨by rw [cell_of_row w g 0 _ _ _ h]; rfl, by rw [cell_of_row w g 1 _ _ _ h]; rfl, by rw [cell_of_row w g 2 _ _ _ h]; rfl, by rw [cell_of_row w g 3 _ _ _ h]; rfl, by rw [cell_of_row w g 4 _ _ _ h]; rfl, by rw [cell_of_row w g 5 _ _ _ h]; rfl⟩


/-- Of what was there only block L may have turned. -/
def Fr (L : Nat) (w w' : World) : Prop := w'.os = w.os ∧ w'.tape = w.tape ∧ w'.output = w.output ∧ w.heap.size ≤ w'.heap.size ∧ ∀ b, b < w.heap.size → b ≠ L → w'.heap[b]? = w.heap[b]?
theorem Fr.refl (L : Nat) (w : World) : Fr L w w := ⟨rfl, rfl, rfl, Nat.le_refl _, fun _ _ _ => rfl⟩
theorem Fr.below {L : Nat} {w a b : World} (h : Fr L w a) (hb : Below a.heap.size a b) : Fr L w b :=
  ⟨hb.os.trans h.1, hb.tape.trans h.2.1, hb.output.trans h.2.2.1, Nat.le_trans h.2.2.2.1 hb.size, fun k hk hne => (hb.block k (Nat.lt_of_lt_of_le hk h.2.2.2.1)).trans (h.2.2.2.2 k hk hne)⟩
theorem Fr.alloc {L : Nat} {w a : World} (h : Fr L w a) (o : Obj) : Fr L w (a.alloc o) := h.below ((Below.refl _ _).alloc (Nat.le_refl _) _)
theorem Fr.set {L : Nat} {w a : World} (h : Fr L w a) {p : Addr} (hp : p.block = L ∨ w.heap.size ≤ p.block) (v : Value) : Fr L w (a.setCell p v) :=
  ⟨h.1, h.2.1, h.2.2.1, by simpa [World.setCell] using h.2.2.2.1, fun k hk hne => (Below.heap_setCell _ _ _ _ (by rcases hp with hp | hp <;> omega)).trans (h.2.2.2.2 k hk hne)⟩
theorem Fr.drew {L : Nat} {w a : World} (h : Fr L w a) : Fr L w a.drew := h
theorem Fr.toBelow {L B : Nat} {w a : World} (h : Fr L w a) (hL : B ≤ L) (hB : B ≤ w.heap.size) : Below B w a := ⟨h.1, h.2.1, h.2.2.1, h.2.2.2.1, fun k hk => h.2.2.2.2 k (by omega) (by omega)⟩

abbrev setO (a b c d e f : Int) : Obj := .cells #[.int .i64 a, .int .i64 b, .int .i64 c, .int .i64 d, .int .i64 e, .int .i64 f] 82 (0, 0)
abbrev six (w : World) (R : Nat) (a b c d e f : Int) : World := (((((w.setCell ⟨R, 0, none⟩ (.int .i64 a)).setCell ⟨R, 1, none⟩ (.int .i64 b)).setCell ⟨R, 2, none⟩ (.int .i64 c)).setCell ⟨R, 3, none⟩ (.int .i64 d)).setCell ⟨R, 4, none⟩ (.int .i64 e)).setCell ⟨R, 5, none⟩ (.int .i64 f)
theorem six_heap {w : World} {R : Nat} {a0 b0 c0 d0 e0 f0 : Int} (h : w.heap[R]? = some (setO a0 b0 c0 d0 e0 f0)) (a b c d e f : Int) : (six w R a b c d e f).heap[R]? = some (setO a b c d e f) :=
  heap_setCell_same _ R 5 _ 82 _ (heap_setCell_same _ R 4 _ 82 _ (heap_setCell_same _ R 3 _ 82 _ (heap_setCell_same _ R 2 _ 82 _ (heap_setCell_same _ R 1 _ 82 _ (heap_setCell_same _ R 0 _ 82 _ h)))))
theorem six_fr {L : Nat} {w a : World} (h : Fr L w a) {R : Nat} (hR : w.heap.size ≤ R) (x0 x1 x2 x3 x4 x5 : Int) : Fr L w (six a R x0 x1 x2 x3 x4 x5) :=
  (((((h.set (p := ⟨R, 0, none⟩) (.inr hR) _).set (p := ⟨R, 1, none⟩) (.inr hR) _).set (p := ⟨R, 2, none⟩) (.inr hR) _).set (p := ⟨R, 3, none⟩) (.inr hR) _).set (p := ⟨R, 4, none⟩) (.inr hR) _).set (p := ⟨R, 5, none⟩) (.inr hR) _
theorem owns_heap {w w' : World} {base e size n g cap : Nat} {xs : List Value} (h : w.ownsRow base e size (.slice (some ⟨g, 0, none⟩) n cap) n xs) (hb : w'.heap[g]? = w.heap[g]?) : w'.ownsRow base e size (.slice (some ⟨g, 0, none⟩) n cap) n xs := by
  refine ⟨h.1, ?_⟩
  rcases h.2 with ⟨h', _⟩ | ⟨g', cap', cur, hv, hg0, hg, hr⟩
  · simp at h'
  · simp only [Value.slice.injEq, Option.some.injEq, Addr.mk.injEq, and_true, true_and] at hv
    obtain ⟨rfl, rfl⟩ := hv
    exact .inr ⟨g, cap, cur, rfl, hg0, hb.trans hg, hr⟩
theorem six_same {w : World} {R g : Nat} (hne : g ≠ R) (a b c d e f : Int) : (six w R a b c d e f).heap[g]? = w.heap[g]? :=
  (Below.heap_setCell _ _ _ _ hne).trans ((Below.heap_setCell _ _ _ _ hne).trans ((Below.heap_setCell _ _ _ _ hne).trans ((Below.heap_setCell _ _ _ _ hne).trans ((Below.heap_setCell _ _ _ _ hne).trans (Below.heap_setCell _ _ _ _ hne)))))
theorem loadSet {w : World} {R : Nat} {a b c d e f : Int} (h : w.heap[R]? = some (setO a b c d e f)) : (loadVar 82 ⟨R, 0, none⟩).run Try.prog w = .ok (setV a b c d e f) w :=
  run_loadVar_row _ _ 82 82 _ (0, 0) _ h Try.underlying82 rfl (by kernel_rfl)

/-- The lengths behind the portions. -/
def plusL (zs ps : List Int) : List Int := (List.range zs.length).map (fun j => zs.getD j 0 + ps.getD j 0)
def minusL (zs ps : List Int) : List Int := (List.range zs.length).map (fun j => zs.getD j 0 - ps.getD j 0)
theorem plusL_length (zs ps : List Int) : (plusL zs ps).length = zs.length := by simp [plusL]
theorem minusL_length (zs ps : List Int) : (minusL zs ps).length = zs.length := by simp [minusL]
theorem plusL_at {zs ps : List Int} {j : Nat} (h : j < zs.length) : (plusL zs ps).getD j 0 = zs.getD j 0 + ps.getD j 0 := by simp [plusL, List.getD, List.getElem?_map, List.getElem?_range h]
theorem minusL_at {zs ps : List Int} {j : Nat} (h : j < zs.length) : (minusL zs ps).getD j 0 = zs.getD j 0 - ps.getD j 0 := by simp [minusL, List.getD, List.getElem?_map, List.getElem?_range h]
def sizes (gs : List Gl) : List Int := gs.map (fun g => g.s)
theorem sizes_at {gs : List Gl} {j : Nat} (h : j < gs.length) : (sizes gs).getD j 0 = (gs.getD j Gl.none).s := by simp [sizes, List.getD, List.getElem?_map, List.getElem?_eq_getElem h]
theorem owns_cell {w : World} {base e g n cap : Nat} {zs : List Int} (h : w.ownsRow base e 1 (.slice (some ⟨g, 0, none⟩) n cap) n (zs.map (Value.int .i64))) (i : Nat) (hi : i < n) : w.cell? ⟨g, i, none⟩ = some (.int .i64 (zs.getD i 0)) := by
  have hl : zs.length = n := by simpa using h.1
  rw [World.ownsRow.cellAt h i (by omega)]
  simp [List.getElem?_map, List.getD, List.getElem?_eq_getElem (show i < zs.length by omega)]

/-- Where the sums of a row's stretch or shrink lie. -/
theorem tot_have (f o : Gl → Int) (gs : List Gl) (hl : gs.length ≤ 10000) (h : ∀ k, k < gs.length → -1073741823 ≤ f (gs.getD k Gl.none) ∧ f (gs.getD k Gl.none) ≤ 1073741823) (j : Nat) :
    -10737418230000 ≤ (tot f o gs).getD j 0 ∧ (tot f o gs).getD j 0 ≤ 10737418230000 := by
  have := tot_bound f o gs h gs.length (Nat.le_refl _) j
  rw [List.take_length] at this
  omega

end Go.Proofs.Ytbbehmcekbnkiaa.Shr
