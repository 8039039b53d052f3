/-
  Patterns marked and looked at.
-/
import Derived.Test.YtejigikcpmhhoaaOwn
namespace Go.Proofs.Ytejigikcpmhhoaa
open Go.RowKit
set_option linter.unusedVariables false
set_option linter.unusedSimpArgs false

/-- The numbers from k on, n of them. -/
def ups (k : Int) (n : Nat) : List Int := (List.range n).map (fun j : Nat => k + (j : Int))
theorem ups_length (k : Int) (n : Nat) : (ups k n).length = n := by simp [ups]
theorem ups_at {k : Int} {n j : Nat} (h : j < n) : (ups k n).getD j 0 = k + j := by
  simp [ups, List.getD, List.getElem?_map, List.getElem?_range h]

set_option maxHeartbeats 1000000 in
theorem markInts_any {base e g n cap : Nat} {zs : List Int} {w : World} {k : Int} (h : w.ownsRow base e 1 (.slice (some ⟨g, 0, none⟩) n cap) n (zs.map (Value.int .i64))) (hn : n ≤ 1048576) (hk0 : 0 ≤ k) (hk1 : k ≤ 4611686018427387904) :
    Calls Try.prog 40 #[.slice (some ⟨g, 0, none⟩) n cap, .int .i64 k] w fun e' w' => e' = .returned (.int .i64 (k + n)) ∧ w'.ownsRow base e 1 (.slice (some ⟨g, 0, none⟩) n cap) n ((ups k n).map (Value.int .i64)) ∧ Below g w w' ∧ w'.heap.size = w.heap.size ∧ (∀ b, b ≠ g → w'.heap[b]? = w.heap[b]?) := by
  have HO : Hid (w.ownsRow base e 1 (.slice (some ⟨g, 0, none⟩) n cap) n (zs.map (Value.int .i64))) := h
  have hzl : zs.length = n := by simpa using h.1
  have HZ : Hid (zs.length = n) := hzl
  clear h hzl
  go_enter Try.func40, Try.ntmps40
  go_wp2
  go_loopw [1, 5] (fun s i wr => ∃ (j : Nat) (ys : List Int), j ≤ n ∧ i = .int .i64 j ∧ s = .int .i64 (k + j) ∧ ys.length = n ∧ (∀ t, t < j → ys.getD t 0 = k + t) ∧
      wr.ownsRow base e 1 (.slice (some ⟨g, 0, none⟩) n cap) n (ys.map (Value.int .i64)) ∧ Below g w wr ∧ wr.heap.size = w.heap.size ∧ (∀ b, b ≠ g → wr.heap[b]? = w.heap[b]?))
    (fun _ i _ => n - (intOf i).toNat)
  case atStart => exact ⟨0, zs, by omega, rfl, by simp, HZ, fun t ht => by omega, HO, Below.refl _ _, rfl, fun b _ => rfl⟩
  case round =>
    obtain ⟨j, ys, hj, rfl, rfl, hyl, hyv, hown, hbel, hsz, hoth⟩ := hrel
    by_cases hjn : j < n
    · have hji : (j : Int) < (n : Int) := by omega
      have hfz : wr.frozen? ⟨g, j, none⟩ = false := World.ownsRow.frozenAt hown j
      have hco : wr.cell? ⟨g, j, none⟩ = some (.int .i64 (ys.getD j 0)) := by
        rw [World.ownsRow.cellAt hown j (by omega)]
        simp [List.getElem?_map, List.getD, List.getElem?_eq_getElem (show j < ys.length by omega)]
      have hown2 := (World.ownsRow.stored hown j (.int .i64 (k + j))).1
      have hbel2 := hbel.setCell (Nat.le_refl _) (p := ⟨g, j, none⟩) (.int .i64 (k + j))
      have HR2 : Hid ((wr.setCell ⟨g, j, none⟩ (.int .i64 (k + j))).ownsRow base e 1 (.slice (some ⟨g, 0, none⟩) n cap) n ((ys.set j (k + j)).map (Value.int .i64)) ∧ Below g w (wr.setCell ⟨g, j, none⟩ (.int .i64 (k + j))) ∧ (wr.setCell ⟨g, j, none⟩ (.int .i64 (k + j))).heap.size = w.heap.size ∧ (∀ b, b ≠ g → (wr.setCell ⟨g, j, none⟩ (.int .i64 (k + j))).heap[b]? = w.heap[b]?)) :=
        ⟨by simpa using hown2, hbel2, by simpa using hsz, fun b hb => (Below.heap_setCell _ _ _ _ hb).trans (hoth b hb)⟩
      have HV : Hid (∀ t, t < j → ys.getD t 0 = k + t) := hyv
      clear hown hbel hown2 hbel2 hyv hoth hsz
      go_wp2
      go_roundw
      case rel =>
        refine ⟨j + 1, ys.set j (k + j), by omega, by go_num, ?_, by simp [hyl], fun t ht => ?_, HR2.1, HR2.2.1, HR2.2.2.1, HR2.2.2.2⟩
        · first | go_num | (simp; omega)
        · by_cases htj : t = j
          · subst htj; simp [List.getD, hyl, hjn]
          · rw [← HV t (by omega)]; simp [List.getD, List.getElem?_set, Ne.symm htj]
      case measure => simp [intOf]; omega
    · obtain rfl : j = n := by omega
      have hys : ys = ups k j := getD_ext (by rw [hyl, ups_length]) fun t ht => by rw [hyv t (by omega), ups_at (by omega)]
      subst hys
      have HR2 : Hid (wr.ownsRow base e 1 (.slice (some ⟨g, 0, none⟩) j cap) j ((ups k j).map (Value.int .i64)) ∧ Below g w wr ∧ wr.heap.size = w.heap.size ∧ (∀ b, b ≠ g → wr.heap[b]? = w.heap[b]?)) := ⟨hown, hbel, hsz, hoth⟩
      clear hown hbel hsz hoth hyv
      go_wp2
      go_ret
      exact ⟨rfl, HR2⟩

set_option maxHeartbeats 1000000 in
theorem heldInts_any {v : Value} {n : Nat} {w : World} {k : Int} (h : Row w v (ups k n)) (hn : n ≤ 1048576) (hk0 : 0 ≤ k) (hk1 : k ≤ 4611686018427387904) :
    Calls Try.prog 41 #[v, .int .i64 k] w fun e' w' => e' = .returned (.int .i64 (k + n)) ∧ w' = w := by
  obtain ⟨ao, m, cap, rfl, hm, hr⟩ := h
  rw [ups_length] at hm
  subst hm
  have HR : Hid (0 < n → ∃ b off, ao = some ⟨b, off, none⟩ ∧ b < w.heap.size ∧ ∀ i, i < n → w.cell? ⟨b, off + i, none⟩ = some (.int .i64 ((ups k n).getD i 0))) := hr
  clear hr
  go_enter Try.func41, Try.ntmps41
  go_wp2
  go_loop [1, 5] (fun s i => ∃ j : Nat, j ≤ n ∧ i = .int .i64 j ∧ s = .int .i64 (k + j)) (fun _ i => n - (intOf i).toNat)
  case atStart => exact ⟨0, by omega, rfl, by simp⟩
  case round =>
    obtain ⟨j, hj, rfl, rfl⟩ := hrel
    by_cases hjn : j < n
    · have hji : (j : Int) < (n : Int) := by omega
      obtain ⟨b, off, rfl, hb, hc⟩ := HR (by omega)
      have hcell : w.cell? ⟨b, off + j, none⟩ = some (.int .i64 (k + j)) := by rw [hc j hjn, ups_at hjn]
      clear hc
      go_wp2
      go_round
      case rel =>
        refine ⟨j + 1, by omega, by go_num, ?_⟩
        first | go_num | (simp; omega)
      case measure => simp [intOf]; omega
    · obtain rfl : j = n := by omega
      go_wp2
      go_ret
      exact ⟨rfl, rfl⟩

theorem markNil_any (w : World) (k : Int) : Calls Try.prog 40 #[.slice none 0 0, .int .i64 k] w fun e' w' => e' = .returned (.int .i64 k) ∧ w' = w := by
  go_enter Try.func40, Try.ntmps40
  go_wp2
  go_loop [1, 5] (fun s i => s = .int .i64 k ∧ i = .int .i64 0) (fun _ _ => 0)
  case atStart => exact ⟨rfl, rfl⟩
  case round =>
    obtain ⟨rfl, rfl⟩ := hrel
    go_wp2
    go_ret
    exact ⟨rfl, rfl⟩

/-- Blocks that hold patterns stand. -/
def Keep26 (w w' : World) : Prop := ∀ (b : Nat) (c : Array Value), w.heap[b]? = some (Obj.cells c 26 (0, 0)) → w'.heap[b]? = some (Obj.cells c 26 (0, 0))

theorem markRow_any {base n : Nat} {v : Value} {zs : List Int} {w : World} {k : Int} (h : w.ownsRow base 2 1 v n (zs.map (Value.int .i64))) (hn : n ≤ 1048576) (hk0 : 0 ≤ k) (hk1 : k ≤ 4611686018427387904) :
    Calls Try.prog 40 #[v, .int .i64 k] w fun e' w' => e' = .returned (.int .i64 (k + n)) ∧ w'.ownsRow base 2 1 v n ((ups k n).map (Value.int .i64)) ∧ Below base w w' ∧ Keep26 w w' := by
  rcases id h.2 with ⟨rfl, rfl⟩ | ⟨g, cap, cur, rfl, hb, hg, _⟩
  · refine (markNil_any w k).mono ?_
    rintro e w' ⟨rfl, rfl⟩
    exact ⟨by simp, World.ownsRow_nil _ _ _ _, Below.refl _ _, fun _ _ h => h⟩
  · refine (markInts_any h hn hk0 hk1).mono ?_
    rintro e w' ⟨rfl, h1, h2, _, h4⟩
    refine ⟨rfl, h1, h2.mono hb, fun b c hc => (h4 b fun he => ?_).trans hc⟩
    subst he
    rw [hg] at hc
    injection hc with hc
    injection hc with _ h5
    exact absurd h5 (by decide)

theorem own_below {w w' : World} {base e n : Nat} {v : Value} {xs : List Value} (h : w.ownsRow base e 1 v n xs) (hb : Below w.heap.size w w') : w'.ownsRow base e 1 v n xs :=
  own_at h (fun g cur hg => (hb.block g (Array.getElem?_eq_some_iff.1 hg).1).trans hg)

set_option maxHeartbeats 1000000 in
theorem markPattern_any {base n : Nat} {L : ByteArray} {v : Value} {zs : List Int} {w : World} {k : Int} (h : w.ownsRow base 2 1 v n (zs.map (Value.int .i64))) (hbw : base ≤ w.heap.size) (hn : n ≤ 1048576) (hk0 : 0 ≤ k) (hk1 : k ≤ 4611686018427387904) :
    Calls Try.prog 20 #[patV L v, .int .i64 k] w fun e' w' => e' = .returned (.int .i64 (k + n)) ∧ w'.ownsRow base 2 1 v n ((ups k n).map (Value.int .i64)) ∧ Below base w w' ∧ Keep26 w w' := by
  have HX := hideP h
  obtain ⟨ao, m, cap, rfl⟩ : ∃ ao m cap, v = .slice ao m cap := by
    rcases h.2 with ⟨rfl, _⟩ | ⟨g, cap, cur, rfl, _⟩
    · exact ⟨_, _, _, rfl⟩
    · exact ⟨_, _, _, rfl⟩
  clear h
  go_enter Try.func20, Try.ntmps20
  go_wp2_with fail
  refine (markRow_any (own_below HX.out (below1 _ _)) hn hk0 hk1).mono ?_
  rintro e w1 ⟨rfl, h1, hb1, hk1⟩
  have H1 := hideP (And.intro h1 (And.intro (((below1 w (.cells #[.string L, .slice ao m cap] 26)).mono hbw).trans hb1) (show Keep26 w w1 from fun b c hc => hk1 b c (blockA hc _))))
  clear h1 hb1 hk1
  go_wp2
  go_ret
  exact ⟨rfl, H1.out.1, H1.out.2.1, H1.out.2.2⟩

set_option maxHeartbeats 1000000 in
theorem heldPattern_any {n : Nat} {L : ByteArray} {v : Value} {w : World} {k : Int} (h : Row w v (ups k n)) (hn : n ≤ 1048576) (hk0 : 0 ≤ k) (hk1 : k ≤ 4611686018427387904) :
    Calls Try.prog 21 #[patV L v, .int .i64 k] w fun e' w' => e' = .returned (.int .i64 (k + n)) ∧ Below w.heap.size w w' := by
  have HX := hideP h
  obtain ⟨ao, cap, rfl⟩ := h.shape
  rw [ups_length] at HX
  rw [ups_length]
  obtain ⟨r, hr⟩ : ∃ r, r = k + (n : Int) := ⟨_, rfl⟩
  have hr0 : ¬ r < 0 := by omega
  have c1 : Hid (∀ W, Below w.heap.size w W → Calls Try.prog 41 #[.slice ao n cap, .int .i64 k] W fun e w' => e = .returned (.int .i64 r) ∧ w' = W) := hideP (fun W hW => by rw [hr]; exact heldInts_any (Row.below HX.out hW) hn hk0 hk1)
  rw [← hr]
  clear h hr
  go_enter Try.func21, Try.ntmps21
  go_wp2_with fail
  refine (c1.out _ (below1 _ _)).mono ?_
  rintro e w1 ⟨rfl, hw⟩
  have hw2 := hw.symm
  subst hw2
  go_wp2
  go_ret
  exact ⟨rfl, below1 _ _⟩
end Go.Proofs.Ytejigikcpmhhoaa
