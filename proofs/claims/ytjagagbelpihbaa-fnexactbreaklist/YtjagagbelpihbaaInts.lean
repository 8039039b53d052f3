/-
  Slices of whole numbers: how one reads in a world, and the walks of the small functions that compare, mark and look at them.
-/
import Derived.Test.YtjagagbelpihbaaSps
import Derived.OwnWalk
import Derived.Deep.QuietTactic
import Derived.BigQuiet
import Derived.WalkSmall
import Derived.LoopTactic
import Derived.Deep.Light
namespace Go.Proofs.Ytjagagbelpihbaa
open Go.RowKit
set_option linter.unusedVariables false
set_option linter.unusedSimpArgs false

/-- In world w the slice v reads as the numbers zs. -/
def Row (w : World) (v : Value) (zs : List Int) : Prop :=
  ∃ ao n cap, v = .slice ao n cap ∧ zs.length = n ∧ (0 < n → ∃ b off, ao = some ⟨b, off, none⟩ ∧ b < w.heap.size ∧ ∀ i, i < n → w.cell? ⟨b, off + i, none⟩ = some (.int .i64 (zs.getD i 0)))

theorem Row.below {w w' : World} {v : Value} {zs : List Int} (h : Row w v zs) (hb : Below w.heap.size w w') : Row w' v zs := by
  obtain ⟨ao, n, cap, rfl, hn, hc⟩ := h
  refine ⟨ao, n, cap, rfl, hn, fun hp => ?_⟩
  obtain ⟨b, off, rfl, hlt, hcell⟩ := hc hp
  exact ⟨b, off, rfl, Nat.lt_of_lt_of_le hlt hb.size, fun i hi => (hb.cell (p := ⟨b, off + i, none⟩) hlt).trans (hcell i hi)⟩

theorem Row.own {w : World} {base g n cap : Nat} {zs : List Int} (h : w.ownsRow base 2 1 (.slice (some ⟨g, 0, none⟩) n cap) n (zs.map (Value.int .i64))) (hn : zs.length = n) (hg : g < w.heap.size) :
    Row w (.slice (some ⟨g, 0, none⟩) n cap) zs := by
  refine ⟨_, n, cap, rfl, hn, fun hp => ⟨g, 0, rfl, hg, fun i hi => ?_⟩⟩
  have := World.ownsRow.cellAt h i (by omega)
  simp only [Nat.zero_add]
  rw [this]
  simp [List.getElem?_map, List.getD, List.getElem?_eq_getElem (show i < zs.length by omega)]


theorem getD_ext {xs ys : List Int} (hl : xs.length = ys.length) (h : ∀ j, j < xs.length → xs.getD j 0 = ys.getD j 0) : xs = ys := by
  refine List.ext_getElem hl fun i h1 h2 => ?_
  have := h i h1
  simpa [List.getD, List.getElem?_eq_getElem h1, List.getElem?_eq_getElem h2] using this

set_option maxHeartbeats 1000000 in
theorem eqInts_any {v1 v2 : Value} {xs ys : List Int} {w : World} (h1 : Row w v1 xs) (h2 : Row w v2 ys) (hx : xs.length ≤ 1048576) :
    Calls Try.prog 22 #[v1, v2] w fun e w' => e = .returned (.bool (decide (xs = ys))) ∧ Below w.heap.size w w' := by
  obtain ⟨ao1, n1, cap1, rfl, hn1, hr1⟩ := h1
  obtain ⟨ao2, n2, cap2, rfl, hn2, hr2⟩ := h2
  rw [hn1] at hx
  have HN1 : Hid (xs.length = n1) := hn1
  have HN2 : Hid (ys.length = n2) := hn2
  have HR1 : Hid (0 < n1 → ∃ b off, ao1 = some ⟨b, off, none⟩ ∧ b < w.heap.size ∧ ∀ i, i < n1 → w.cell? ⟨b, off + i, none⟩ = some (.int .i64 (xs.getD i 0))) := hr1
  have HR2 : Hid (0 < n2 → ∃ b off, ao2 = some ⟨b, off, none⟩ ∧ b < w.heap.size ∧ ∀ i, i < n2 → w.cell? ⟨b, off + i, none⟩ = some (.int .i64 (ys.getD i 0))) := hr2
  clear hn1 hn2 hr1 hr2
  by_cases hne : n1 = n2
  · subst hne
    go_enter Try.func22, Try.ntmps22
    go_wp2
    go_loopw [5] (fun i wr => ∃ k : Nat, k ≤ n1 ∧ i = .int .i64 k ∧ (∀ j, j < k → xs.getD j 0 = ys.getD j 0) ∧ Below w.heap.size w wr) (fun i _ => n1 - (intOf i).toNat)
    case atStart => exact ⟨0, by omega, rfl, fun j hj => by omega, Below.refl _ _⟩
    case round =>
      obtain ⟨k, hk, rfl, hj, hbel⟩ := hrel
      have HJ : Hid (∀ j, j < k → xs.getD j 0 = ys.getD j 0) := hj
      clear hj
      by_cases hkn : k < n1
      · have hki : (k : Int) < (n1 : Int) := by omega
        obtain ⟨b, off, rfl, hb, hc⟩ := HR1 (by omega)
        obtain ⟨b', off', rfl, hb', hc'⟩ := HR2 (by omega)
        obtain ⟨x, hxk⟩ : ∃ x, x = xs.getD k 0 := ⟨_, rfl⟩
        obtain ⟨y, hyk⟩ : ∃ y, y = ys.getD k 0 := ⟨_, rfl⟩
        have hc1 : wr.cell? ⟨b, off + k, none⟩ = some (.int .i64 x) := by rw [hxk]; exact (hbel.cell (p := ⟨b, off + k, none⟩) hb).trans (hc k hkn)
        have hc2 : wr.cell? ⟨b', off' + k, none⟩ = some (.int .i64 y) := by rw [hyk]; exact (hbel.cell (p := ⟨b', off' + k, none⟩) hb').trans (hc' k hkn)
        have HX : Hid (x = xs.getD k 0 ∧ y = ys.getD k 0) := ⟨hxk, hyk⟩
        have HB : Hid (Below w.heap.size w wr) := hbel
        clear hxk hyk hbel hc hc'
        by_cases hxy : x = y
        · go_wp2
          go_quiet (fail)
          go_wp2
          go_roundw
          case rel =>
            refine ⟨k + 1, by omega, by go_num, fun j hj => ?_, below_drewN HB _⟩
            by_cases hjk : j = k
            · subst hjk; rw [← HX.1, ← HX.2]; exact hxy
            · exact HJ j (by omega)
          case measure => simp [intOf]; omega
        · go_wp2
          go_quiet (fail)
          go_wp2
          go_ret
          refine ⟨retB (decide_eq_false fun he => hxy ?_).symm, below_drewN HB _⟩
          rw [HX.1, HX.2, he]
      · have hki : ¬ (k : Int) < (n1 : Int) := by omega
        have HB : Hid (Below w.heap.size w wr) := hbel
        clear hbel
        go_wp2
        go_ret
        exact ⟨retB (decide_eq_true (getD_ext ((show xs.length = n1 from HN1).trans (show ys.length = n1 from HN2).symm) fun j hj => HJ j (by have := (show xs.length = n1 from HN1); omega))).symm, HB⟩
  · have hni : ((n1 : Int) == (n2 : Int)) = false := by simp; omega
    go_enter Try.func22, Try.ntmps22
    go_wp2
    go_ret
    refine ⟨retB (decide_eq_false fun he => hne ?_).symm, Below.refl _ _⟩
    rw [← (show xs.length = n1 from HN1), ← (show ys.length = n2 from HN2), he]

/-- The numbers from k on, n of them. -/
def ups (k : Int) (n : Nat) : List Int := (List.range n).map (fun j : Nat => k + (j : Int))
theorem ups_length (k : Int) (n : Nat) : (ups k n).length = n := by simp [ups]
theorem ups_at {k : Int} {n j : Nat} (h : j < n) : (ups k n).getD j 0 = k + j := by
  simp [ups, List.getD, List.getElem?_map, List.getElem?_range h]

set_option maxHeartbeats 1000000 in
theorem markInts_any {base e g n cap : Nat} {zs : List Int} {w : World} {k : Int} (h : w.ownsRow base e 1 (.slice (some ⟨g, 0, none⟩) n cap) n (zs.map (Value.int .i64))) (hn : n ≤ 1048576) (hk0 : 0 ≤ k) (hk1 : k ≤ 4611686018427387904) :
    Calls Try.prog 23 #[.slice (some ⟨g, 0, none⟩) n cap, .int .i64 k] w fun e' w' => e' = .returned (.int .i64 (k + n)) ∧ w'.ownsRow base e 1 (.slice (some ⟨g, 0, none⟩) n cap) n ((ups k n).map (Value.int .i64)) ∧ Below g w w' ∧ w'.heap.size = w.heap.size ∧ (∀ b, b ≠ g → w'.heap[b]? = w.heap[b]?) := by
  have HO : Hid (w.ownsRow base e 1 (.slice (some ⟨g, 0, none⟩) n cap) n (zs.map (Value.int .i64))) := h
  have hzl : zs.length = n := by simpa using h.1
  have HZ : Hid (zs.length = n) := hzl
  clear h hzl
  go_enter Try.func23, Try.ntmps23
  go_wp2
  go_loopw [1, 5] (fun s i wr => ∃ (j : Nat) (ys : List Int), j ≤ n ∧ i = .int .i64 j ∧ s = .int .i64 (k + j) ∧ ys.length = n ∧ (∀ t, t < j → ys.getD t 0 = k + t) ∧
      wr.ownsRow base e 1 (.slice (some ⟨g, 0, none⟩) n cap) n (ys.map (Value.int .i64)) ∧ Below g w wr ∧ wr.heap.size = w.heap.size ∧ (∀ b, b ≠ g → wr.heap[b]? = w.heap[b]?))
    (fun _ i _ => n - (intOf i).toNat)
  case atStart => exact ⟨0, zs, by omega, rfl, by simp, HZ, fun t ht => by omega, HO, Below.refl _ _, rfl, fun b _ => rfl⟩
  case round =>
    obtain ⟨j, ys, hj, rfl, rfl, hyl, hyv, hown, hbel, hsz, hoth⟩ := hrel
    by_cases hjn : j < n
    · have hji : (j : Int) < (n : Int) := by omega
      have hfz : wr.frozen? ⟨g, j, none⟩ = false := World.ownsRow.frozenAt hown j
      have hco : wr.cell? ⟨g, j, none⟩ = some (.int .i64 (ys.getD j 0)) := by
        rw [World.ownsRow.cellAt hown j (by omega)]
        simp [List.getElem?_map, List.getD, List.getElem?_eq_getElem (show j < ys.length by omega)]
      have hown2 := (World.ownsRow.stored hown j (.int .i64 (k + j))).1
      have hbel2 := hbel.setCell (Nat.le_refl _) (p := ⟨g, j, none⟩) (.int .i64 (k + j))
      have HR2 : Hid ((wr.setCell ⟨g, j, none⟩ (.int .i64 (k + j))).ownsRow base e 1 (.slice (some ⟨g, 0, none⟩) n cap) n ((ys.set j (k + j)).map (Value.int .i64)) ∧ Below g w (wr.setCell ⟨g, j, none⟩ (.int .i64 (k + j))) ∧ (wr.setCell ⟨g, j, none⟩ (.int .i64 (k + j))).heap.size = w.heap.size ∧ (∀ b, b ≠ g → (wr.setCell ⟨g, j, none⟩ (.int .i64 (k + j))).heap[b]? = w.heap[b]?)) :=
        ⟨by simpa using hown2, hbel2, by simpa using hsz, fun b hb => (Below.heap_setCell _ _ _ _ hb).trans (hoth b hb)⟩
      have HV : Hid (∀ t, t < j → ys.getD t 0 = k + t) := hyv
      clear hown hbel hown2 hbel2 hyv hoth hsz
      go_wp2
      go_roundw
      case rel =>
        refine ⟨j + 1, ys.set j (k + j), by omega, by go_num, ?_, by simp [hyl], fun t ht => ?_, HR2.1, HR2.2.1, HR2.2.2.1, HR2.2.2.2⟩
        · first | go_num | (simp; omega)
        · by_cases htj : t = j
          · subst htj; simp [List.getD, hyl, hjn]
          · rw [← HV t (by omega)]; simp [List.getD, List.getElem?_set, Ne.symm htj]
      case measure => simp [intOf]; omega
    · obtain rfl : j = n := by omega
      have hys : ys = ups k j := getD_ext (by rw [hyl, ups_length]) fun t ht => by rw [hyv t (by omega), ups_at (by omega)]
      subst hys
      have HR2 : Hid (wr.ownsRow base e 1 (.slice (some ⟨g, 0, none⟩) j cap) j ((ups k j).map (Value.int .i64)) ∧ Below g w wr ∧ wr.heap.size = w.heap.size ∧ (∀ b, b ≠ g → wr.heap[b]? = w.heap[b]?)) := ⟨hown, hbel, hsz, hoth⟩
      clear hown hbel hsz hoth hyv
      go_wp2
      go_ret
      exact ⟨rfl, HR2⟩

set_option maxHeartbeats 1000000 in
theorem heldInts_any {v : Value} {n : Nat} {w : World} {k : Int} (h : Row w v (ups k n)) (hn : n ≤ 1048576) (hk0 : 0 ≤ k) (hk1 : k ≤ 4611686018427387904) :
    Calls Try.prog 24 #[v, .int .i64 k] w fun e' w' => e' = .returned (.int .i64 (k + n)) ∧ w' = w := by
  obtain ⟨ao, m, cap, rfl, hm, hr⟩ := h
  rw [ups_length] at hm
  subst hm
  have HR : Hid (0 < n → ∃ b off, ao = some ⟨b, off, none⟩ ∧ b < w.heap.size ∧ ∀ i, i < n → w.cell? ⟨b, off + i, none⟩ = some (.int .i64 ((ups k n).getD i 0))) := hr
  clear hr
  go_enter Try.func24, Try.ntmps24
  go_wp2
  go_loop [1, 5] (fun s i => ∃ j : Nat, j ≤ n ∧ i = .int .i64 j ∧ s = .int .i64 (k + j)) (fun _ i => n - (intOf i).toNat)
  case atStart => exact ⟨0, by omega, rfl, by simp⟩
  case round =>
    obtain ⟨j, hj, rfl, rfl⟩ := hrel
    by_cases hjn : j < n
    · have hji : (j : Int) < (n : Int) := by omega
      obtain ⟨b, off, rfl, hb, hc⟩ := HR (by omega)
      have hcell : w.cell? ⟨b, off + j, none⟩ = some (.int .i64 (k + j)) := by rw [hc j hjn, ups_at hjn]
      clear hc
      go_wp2
      go_round
      case rel =>
        refine ⟨j + 1, by omega, by go_num, ?_⟩
        first | go_num | (simp; omega)
      case measure => simp [intOf]; omega
    · obtain rfl : j = n := by omega
      go_wp2
      go_ret
      exact ⟨rfl, rfl⟩
end Go.Proofs.Ytjagagbelpihbaa
