/-
  Atoms copied, with their block; and atoms marked.
-/
import Derived.Test.YtfcfihlkckdmbaaAtm
namespace Go.Proofs.Ytfcfihlkckdmbaa
open Go.RowKit
set_option linter.unusedVariables false
set_option linter.unusedSimpArgs false

set_option maxHeartbeats 4000000 in
theorem toAtoms_part {v : Value} {xs : List At} {w : World} (h : ARow 0 w v xs) (hs : xs.length ≤ 1048576) :
    Calls Try.prog 8 #[v] w fun e w' => e = .returned (.slice (some ⟨w.heap.size, 0, none⟩) xs.length xs.length) ∧ SPart 6 AtR At.none 38 w' w.heap.size xs.length xs.length xs ∧ Below w.heap.size w w' := by
  obtain ⟨ao, n, cap, rfl, hn, hr⟩ := h
  have hsz : n ≤ 1048576 := by rw [← hn]; exact hs
  have HL : Hid (xs.length = n) := hn
  obtain ⟨i0, hi, hz0, hz1, hz2⟩ := info_parts Try.info38
  have HI : Hid (i0.bytes = 48) := hz2
  have HR : Hid (0 < n → ∃ b off, ao = some ⟨b, off, none⟩ ∧ 0 ≤ b ∧ b < w.heap.size ∧ ∀ i, i < n → ∃ cs : List Value, cs.length = 6 ∧ AtR 0 w cs (xs.getD i At.none) ∧ ∀ j, j < 6 → w.cell? ⟨b, off + i * 6 + j, none⟩ = cs[j]?) := hr
  clear hr hs hn
  go_enter Try.func8, Try.ntmps8
  go_wp2_with (first
    | (refine wpList_make_full _ rfl _ _ 25 rfl w.heap.size 38 i0 (atV At.none) 6 Try.underlying25 hi hz0 hz1 _ _ _ _ n rfl rfl rfl rfl (by rw [show i0.bytes = 48 from HI]; omega) (by unfold maxLen; omega) (Nat.le_refl _) ?_; intro w1 hown hgrow))
  have hbel : Below w.heap.size w w1 := Below.grown (Below.refl _ _) hgrow (Nat.le_refl _) (by simp)
  have HO : Hid (SPart 6 AtR At.none 38 w1 w.heap.size n 0 xs ∧ Below w.heap.size w w1) := by
    refine ⟨?_, hbel⟩
    rcases hown.2 with ⟨h', _⟩ | ⟨g', cap', cur, h', _, hg, _, _, hcs, _⟩
    · simp at h'
    · simp only [Value.slice.injEq, Option.some.injEq, Addr.mk.injEq, and_true, true_and] at h'
      obtain ⟨rfl, rfl⟩ := h'
      exact SPart.new hg hcs
  clear hown hgrow hbel
  go_wp2
  go_loopw [4] (fun i wr => ∃ k : Nat, k ≤ n ∧ i = .int .i64 k ∧ SPart 6 AtR At.none 38 wr w.heap.size n k xs ∧ Below w.heap.size w wr) (fun i _ => n - (intOf i).toNat)
  case atStart => exact ⟨0, by omega, rfl, HO.1, HO.2⟩
  case round =>
    obtain ⟨k, hk, rfl, hp, hbel⟩ := hrel
    by_cases hkn : k < n
    · have hki : (k : Int) < (n : Int) := by omega
      obtain ⟨b, off, rfl, hlo, hb, hc⟩ := HR (by omega)
      obtain ⟨cs, hcl, hRel, hcj⟩ := hc k hkn
      obtain ⟨t, ht⟩ : ∃ t, t = xs.getD k At.none := ⟨_, rfl⟩
      rw [← ht] at hRel
      have HT : Hid (AtR (w.heap.size + 1) w t.cells (xs.getD k At.none)) := hideP (by rw [← ht]; rfl)
      have HC : Hid (∀ W : World, Calls Try.prog 20 #[atV t] W fun r w' => r = .returned (atV t) ∧ Below W.heap.size W w') := hideP (fun W => toAtom_any t W)
      obtain ⟨zk, zc, zh, zb, zu, zd⟩ := t
      rw [show cs = _ from hRel] at hcj
      simp only [At.cells] at hcj HT
      have g0 : wr.cell? ⟨b, off + k * 6, none⟩ = some (.int .i64 zk) := (hbel.cell (p := ⟨b, off + k * 6, none⟩) hb).trans (hcj 0 (by omega))
      have g1 : wr.cell? ⟨b, off + k * 6 + 1, none⟩ = some (.int .i64 zc) := (hbel.cell (p := ⟨b, off + k * 6 + 1, none⟩) hb).trans (hcj 1 (by omega))
      have g2 : wr.cell? ⟨b, off + k * 6 + 2, none⟩ = some (.int .i64 zh) := (hbel.cell (p := ⟨b, off + k * 6 + 2, none⟩) hb).trans (hcj 2 (by omega))
      have g3 : wr.cell? ⟨b, off + k * 6 + 3, none⟩ = some (.int .i64 zb) := (hbel.cell (p := ⟨b, off + k * 6 + 3, none⟩) hb).trans (hcj 3 (by omega))
      have g4 : wr.cell? ⟨b, off + k * 6 + 4, none⟩ = some (.int .i64 zu) := (hbel.cell (p := ⟨b, off + k * 6 + 4, none⟩) hb).trans (hcj 4 (by omega))
      have g5 : wr.cell? ⟨b, off + k * 6 + 5, none⟩ = some (.int .i64 zd) := (hbel.cell (p := ⟨b, off + k * 6 + 5, none⟩) hb).trans (hcj 5 (by omega))
      have HB : Hid (Below w.heap.size w wr) := hbel
      have HP : Hid (SPart 6 AtR At.none 38 wr w.heap.size n k xs) := hp
      clear hc hcj hcl hbel ht hp hRel
      go_wp2_with (go_at_call 20; refine (HC.out _).mono ?_; rintro e w2 ⟨rfl, hb1⟩; simp only [atV]; have hp2 := SPart.below atStable HP hb1; have hfz := hp2.free; obtain ⟨x0, hx0⟩ := hp2.cells (k * 6) (by omega); obtain ⟨x1, hx1⟩ := hp2.cells (k * 6 + 1) (by omega); obtain ⟨x2, hx2⟩ := hp2.cells (k * 6 + 2) (by omega); obtain ⟨x3, hx3⟩ := hp2.cells (k * 6 + 3) (by omega); obtain ⟨x4, hx4⟩ := hp2.cells (k * 6 + 4) (by omega); obtain ⟨x5, hx5⟩ := hp2.cells (k * 6 + 5) (by omega); have HP2 : Hid (SPart 6 AtR At.none 38 w2 w.heap.size n k xs ∧ Below w.heap.size w w2) := ⟨hp2, Below.trans HB (hb1.mono (Below.size HB))⟩; clear hp2 hb1)
      go_roundw
      case rel => exact ⟨k + 1, by omega, by go_num, SPart.put atStable HP2.1 hkn (cs := [.int .i64 zk, .int .i64 zc, .int .i64 zh, .int .i64 zb, .int .i64 zu, .int .i64 zd]) rfl HT.out, putC_below (Nat.le_refl _) [.int .i64 zk, .int .i64 zc, .int .i64 zh, .int .i64 zb, .int .i64 zu, .int .i64 zd] (k * 6) _ HP2.2⟩
      case measure => simp [intOf]; omega
    · have hki : ¬ (k : Int) < (n : Int) := by omega
      obtain rfl : k = n := by omega
      have HP : Hid (SPart 6 AtR At.none 38 wr w.heap.size k k xs ∧ Below w.heap.size w wr) := ⟨hp, hbel⟩
      clear hp hbel
      go_wp2
      go_ret
      rw [show xs.length = k from HL]
      exact ⟨rfl, HP.1, HP.2⟩

/-- What may differ is one block, and what is new. -/
structure Sole (g : Nat) (w w' : World) : Prop where
  below : Below g w w'
  other : ∀ b, b < w.heap.size → b ≠ g → w'.heap[b]? = w.heap[b]?
theorem Sole.refl (g : Nat) (w : World) : Sole g w w := ⟨Below.refl _ _, fun _ _ _ => rfl⟩
theorem Sole.set {g o : Nat} {w w' : World} (h : Sole g w w') (x : Value) : Sole g w (w'.setCell ⟨g, o, none⟩ x) :=
  ⟨h.below.setCell (Nat.le_refl _) _, fun b hb hn => (Below.heap_setCell _ _ _ _ (by simpa using hn)).trans (h.other b hb hn)⟩

abbrev AP0 (w : World) (g n : Nat) : Prop := ∃ cur : Array Value, w.heap[g]? = some (.cells cur 38 (0, 0)) ∧ cur.size = n * 6
theorem AP0.set {w : World} {g n o : Nat} (h : AP0 w g n) (ho : o < n * 6) (x : Value) : AP0 (w.setCell ⟨g, o, none⟩ x) g n := by
  obtain ⟨cur, hg, hs⟩ := h
  obtain ⟨cur', h1, h2, _⟩ := putC_block [x] o w cur hg (by simp; omega)
  exact ⟨cur', h1, h2.trans hs⟩
theorem AP0.cells {w : World} {g n : Nat} (h : AP0 w g n) (t : Nat) (ht : t < n * 6) : ∃ x, w.cell? ⟨g, t, none⟩ = some x := by
  obtain ⟨cur, hg, hs⟩ := h
  exact SPart.cells (SPart.new (R := AtR) (d := At.none) (xs := []) hg hs) t ht
theorem AP0.free {w : World} {g n : Nat} (h : AP0 w g n) (t : Nat) : w.frozen? ⟨g, t, none⟩ = false := by
  obtain ⟨cur, hg, hs⟩ := h
  exact SPart.free (SPart.new (R := AtR) (d := At.none) (xs := []) hg hs) t
theorem AP0.lt {w : World} {g n : Nat} (h : AP0 w g n) : g < w.heap.size := by
  obtain ⟨cur, hg, hs⟩ := h
  exact (Array.getElem?_eq_some_iff.1 hg).1

set_option maxRecDepth 20000 in
set_option maxHeartbeats 4000000 in
theorem markAtoms_any {g n cap : Nat} {w : World} (h : AP0 w g n) (hn : n ≤ 1048576) :
    Calls Try.prog 16 #[.slice (some ⟨g, 0, none⟩) n cap, .int .i64 1] w fun e w' => e = .returned (.int .i64 (1 + 6 * (n : Int))) ∧ Sole g w w' := by
  have HO := hideP h
  clear h
  go_enter Try.func16, Try.ntmps16
  go_wp2
  go_loopw [1, 5] (fun s i wr => ∃ (j : Nat) (q : Int), j ≤ n ∧ i = .int .i64 (j : Int) ∧ s = .int .i64 q ∧ q = 1 + 6 * (j : Int) ∧ AP0 wr g n ∧ Sole g w wr) (fun _ i _ => n - (intOf i).toNat)
  case atStart => exact ⟨0, 1, by omega, rfl, rfl, by omega, HO.out, Sole.refl _ _⟩
  case round =>
    obtain ⟨j, q, hj, rfl, rfl, hq, hap, hso⟩ := hrel
    by_cases hjn : j < n
    · have hji : (j : Int) < (n : Int) := by omega
      obtain ⟨x0, hx0⟩ := hap.cells (j * 6) (by omega)
      obtain ⟨x1, hx1⟩ := hap.cells (j * 6 + 1) (by omega)
      obtain ⟨x2, hx2⟩ := hap.cells (j * 6 + 2) (by omega)
      obtain ⟨x3, hx3⟩ := hap.cells (j * 6 + 3) (by omega)
      obtain ⟨x4, hx4⟩ := hap.cells (j * 6 + 4) (by omega)
      obtain ⟨x5, hx5⟩ := hap.cells (j * 6 + 5) (by omega)
      have hfz : ∀ t, wr.frozen? ⟨g, t, none⟩ = false := hap.free
      have hgw : g < wr.heap.size := hap.lt
      have HAP := hideP hap
      have HSO := hideP hso
      have hqs : 0 ≤ q ∧ q ≤ 16777216 := by omega
      have HQ := hideP hq
      clear hap hso hq
      go_wp2
      go_roundw
      case rel =>
        refine ⟨j + 1, _, by omega, by go_num, rfl, by have := HQ.out; omega, ?_, ?_⟩
        · exact (((((HAP.out.set (by omega) _).set (by omega) _).set (by omega) _).set (by omega) _).set (by omega) _).set (by omega) _
        · exact (((((HSO.out.set _).set _).set _).set _).set _).set _
      case measure => simp [intOf]; omega
    · have hji : ¬ (j : Int) < (n : Int) := by omega
      obtain rfl : j = n := by omega
      subst hq
      have HSO := hideP hso
      clear hap hso
      go_wp2
      go_ret
      exact ⟨rfl, HSO.out⟩
end Go.Proofs.Ytfcfihlkckdmbaa
