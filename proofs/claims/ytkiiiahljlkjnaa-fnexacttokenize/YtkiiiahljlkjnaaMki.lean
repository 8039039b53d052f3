/-
  Numbers marked.
-/
import Derived.Test.YtkiiiahljlkjnaaIntsB
namespace Go.Proofs.Ytkiiiahljlkjnaa
open Go.RowKit
set_option linter.unusedVariables false
set_option linter.unusedSimpArgs false

/-- The numbers from k on, n of them. -/
def ups (k : Int) (n : Nat) : List Int := (List.range n).map (fun j : Nat => k + (j : Int))
theorem ups_length (k : Int) (n : Nat) : (ups k n).length = n := by simp [ups]
theorem ups_at {k : Int} {n j : Nat} (h : j < n) : (ups k n).getD j 0 = k + j := by
  simp [ups, List.getD, List.getElem?_map, List.getElem?_range h]

set_option maxHeartbeats 1000000 in
theorem markInts_any {base e g n cap : Nat} {zs : List Int} {w : World} {k : Int} (h : w.ownsRow base e 1 (.slice (some ⟨g, 0, none⟩) n cap) n (zs.map (Value.int .i64))) (hn : n ≤ 1048576) (hk0 : 0 ≤ k) (hk1 : k ≤ 4611686018427387904) :
    Calls Try.prog 20 #[.slice (some ⟨g, 0, none⟩) n cap, .int .i64 k] w fun e' w' => e' = .returned (.int .i64 (k + n)) ∧ w'.ownsRow base e 1 (.slice (some ⟨g, 0, none⟩) n cap) n ((ups k n).map (Value.int .i64)) ∧ Below g w w' ∧ w'.heap.size = w.heap.size ∧ (∀ b, b ≠ g → w'.heap[b]? = w.heap[b]?) := by
  have HO : Hid (w.ownsRow base e 1 (.slice (some ⟨g, 0, none⟩) n cap) n (zs.map (Value.int .i64))) := h
  have hzl : zs.length = n := by simpa using h.1
  have HZ : Hid (zs.length = n) := hzl
  clear h hzl
  go_enter Try.func20, Try.ntmps20
  go_wp2
  go_loopw [1, 5] (fun s i wr => ∃ (j : Nat) (ys : List Int), j ≤ n ∧ i = .int .i64 j ∧ s = .int .i64 (k + j) ∧ ys.length = n ∧ (∀ t, t < j → ys.getD t 0 = k + t) ∧
      wr.ownsRow base e 1 (.slice (some ⟨g, 0, none⟩) n cap) n (ys.map (Value.int .i64)) ∧ Below g w wr ∧ wr.heap.size = w.heap.size ∧ (∀ b, b ≠ g → wr.heap[b]? = w.heap[b]?))
    (fun _ i _ => n - (intOf i).toNat)
  case atStart => exact ⟨0, zs, by omega, rfl, by simp, HZ, fun t ht => by omega, HO, Below.refl _ _, rfl, fun b _ => rfl⟩
  case round =>
    obtain ⟨j, ys, hj, rfl, rfl, hyl, hyv, hown, hbel, hsz, hoth⟩ := hrel
    by_cases hjn : j < n
    · have hji : (j : Int) < (n : Int) := by omega
      have hfz : wr.frozen? ⟨g, j, none⟩ = false := World.ownsRow.frozenAt hown j
      have hco : wr.cell? ⟨g, j, none⟩ = some (.int .i64 (ys.getD j 0)) := by
        rw [World.ownsRow.cellAt hown j (by omega)]
        simp [List.getElem?_map, List.getD, List.getElem?_eq_getElem (show j < ys.length by omega)]
      have hown2 := (World.ownsRow.stored hown j (.int .i64 (k + j))).1
      have hbel2 := hbel.setCell (Nat.le_refl _) (p := ⟨g, j, none⟩) (.int .i64 (k + j))
      have HR2 : Hid ((wr.setCell ⟨g, j, none⟩ (.int .i64 (k + j))).ownsRow base e 1 (.slice (some ⟨g, 0, none⟩) n cap) n ((ys.set j (k + j)).map (Value.int .i64)) ∧ Below g w (wr.setCell ⟨g, j, none⟩ (.int .i64 (k + j))) ∧ (wr.setCell ⟨g, j, none⟩ (.int .i64 (k + j))).heap.size = w.heap.size ∧ (∀ b, b ≠ g → (wr.setCell ⟨g, j, none⟩ (.int .i64 (k + j))).heap[b]? = w.heap[b]?)) :=
        ⟨by simpa using hown2, hbel2, by simpa using hsz, fun b hb => (Below.heap_setCell _ _ _ _ hb).trans (hoth b hb)⟩
      have HV : Hid (∀ t, t < j → ys.getD t 0 = k + t) := hyv
      clear hown hbel hown2 hbel2 hyv hoth hsz
      go_wp2
      go_roundw
      case rel =>
        refine ⟨j + 1, ys.set j (k + j), by omega, by go_num, ?_, by simp [hyl], fun t ht => ?_, HR2.1, HR2.2.1, HR2.2.2.1, HR2.2.2.2⟩
        · first | go_num | (simp; omega)
        · by_cases htj : t = j
          · subst htj; simp [List.getD, hyl, hjn]
          · rw [← HV t (by omega)]; simp [List.getD, List.getElem?_set, Ne.symm htj]
      case measure => simp [intOf]; omega
    · obtain rfl : j = n := by omega
      have hys : ys = ups k j := getD_ext (by rw [hyl, ups_length]) fun t ht => by rw [hyv t (by omega), ups_at (by omega)]
      subst hys
      have HR2 : Hid (wr.ownsRow base e 1 (.slice (some ⟨g, 0, none⟩) j cap) j ((ups k j).map (Value.int .i64)) ∧ Below g w wr ∧ wr.heap.size = w.heap.size ∧ (∀ b, b ≠ g → wr.heap[b]? = w.heap[b]?)) := ⟨hown, hbel, hsz, hoth⟩
      clear hown hbel hsz hoth hyv
      go_wp2
      go_ret
      exact ⟨rfl, HR2⟩
end Go.Proofs.Ytkiiiahljlkjnaa
