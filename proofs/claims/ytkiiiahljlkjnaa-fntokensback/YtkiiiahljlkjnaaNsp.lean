/-
  The specification's Next: the whole.
-/
import Derived.Test.YtkiiiahljlkjnaaNxs
namespace Go.Proofs.Ytkiiiahljlkjnaa
open Go.RowKit
set_option linter.unusedVariables false
set_option linter.unusedSimpArgs false

/-- What Next answers. -/
def nextS (zs : List Int) (s : ByteArray) (a st : Int) : Sc :=
  if catsB zs = true ∧ s.size ≤ 65536 ∧ 0 ≤ a ∧ a ≤ s.size ∧ 0 ≤ st ∧ st ≤ 2 then nxt zs s a.toNat st else ⟨3, 0, 0, ByteArray.empty, 0, 0⟩
theorem catsB_256 {zs : List Int} (h : catsB zs = true) : zs.length = 256 := by
  unfold catsB at h
  simp only [Bool.and_eq_true, decide_eq_true_eq] at h
  exact h.1

set_option maxRecDepth 20000 in
set_option maxHeartbeats 4000000 in
theorem specNext_any {v : Value} {zs : List Int} {s : ByteArray} {a st : Int} {w : World} (h : Row w v zs) (hs : s.size ≤ 9223372036854775807) :
    Calls Try.prog 14 #[v, .string s, .int .i64 a, .int .i64 st] w fun e w' => e = .returned (scV (nextS zs s a st)) ∧ Below w.heap.size w w' := by
  have CC : Hid (∀ W, Below w.heap.size w W → Calls Try.prog 34 #[v] W fun e w' => e = .returned (.bool (catsB zs)) ∧ w' = W) := hideP (fun W hW => specCatsOk_any (h.below hW))
  have HR := hideP h
  obtain ⟨ao, n, cap, rfl, hn, _⟩ := h
  clear hn
  obtain ⟨x, hx⟩ : ∃ x, x = nextS zs s a st := ⟨_, rfl⟩
  rw [← hx]
  have HX := hideP hx
  clear hx
  by_cases hok : catsB zs = true ∧ s.size ≤ 65536 ∧ 0 ≤ a ∧ a ≤ s.size ∧ 0 ≤ st ∧ st ≤ 2
  · have HXX : Hid (x = nxt zs s a.toNat st) := hideP (by rw [HX.out, nextS, if_pos hok])
    obtain ⟨h1, h2, h3, h4, h5, h6⟩ := hok
    rw [h1] at CC
    obtain ⟨k, rfl⟩ : ∃ k : Nat, a = (k : Int) := ⟨a.toNat, by omega⟩
    have hk : k ≤ s.size := by omega
    rw [Int.toNat_natCast] at HXX
    have CX : Hid (∀ W, Below w.heap.size w W → Calls Try.prog 35 #[.slice ao n cap, .string s, .int .i64 (k : Int), .int .i64 st] W fun e w' => e = .returned (scV x) ∧ Below W.heap.size W w') := hideP (fun W hW => by rw [HXX.out]; exact l2Next_any (HR.out.below hW) (catsB_256 h1) h2 hk)
    clear HXX HX HR h1 h3
    obtain ⟨xk, xc, xh, xn, xa, xs⟩ := x
    simp only [scV] at CX ⊢
    have b1 : decide (65536 < (s.size : Int)) = false := by simp; omega
    have b3 : decide ((s.size : Int) < (k : Int)) = false := by simp; omega
    have b4 : decide (st < 0) = false := by simp; omega
    have b5 : decide (2 < st) = false := by simp; omega
    have b2 : decide ((k : Int) < 0) = false := by first | (simp; done) | (simp; omega)
    have b6 : decide (s.size < k) = false := by simp; omega
    have b7 : ¬ s.size < k := by omega
    clear h2 h4 h5 h6
    go_enter Try.func14, Try.ntmps14
    go_wp2_with fail
    refine (CC.out _ (below1 _ _)).mono ?_
    rintro e w1 ⟨rfl, rfl⟩
    go_wp2_with fail
    refine (CX.out _ (below1 _ _)).mono ?_
    rintro e w2 ⟨rfl, hb2⟩
    have B2 := hideP (below_more (below1 _ _) hb2 (by simp))
    obtain ⟨hc2, hf2⟩ := bcell hb2
    simp only [World.size_setCell, World.size_alloc] at hc2 hf2
    have hz2 : w.heap.size < w2.heap.size := by have := hb2.size; simp at this; omega
    clear hb2
    go_wp2
    refine bodyPost_ret (v := .agg #[.int .i64 xk, .int .i64 xc, .int .i64 xh, .string xn, .int .i64 xa, .int .i64 xs]) (by simp [results, Try.results14, go_sem, hc2, hz2]; try rfl) rfl ⟨rfl, ?_⟩
    have B9 := B2.out
    clear hc2 hf2
    repeat (first | with_reducible exact B9 | (with_reducible refine Below.setCell ?_ ?_ _; rotate_left; focus (first | (simp; done) | (simp; omega))))
  · have HXX : Hid (x = ⟨3, 0, 0, ByteArray.empty, 0, 0⟩) := hideP (by rw [HX.out, nextS, if_neg hok])
    clear HX HR
    obtain ⟨R, hR⟩ : ∃ R, R = catsB zs := ⟨_, rfl⟩
    rw [← hR] at CC hok
    clear hR
    have HOK := hideP hok
    clear hok
    go_enter Try.func14, Try.ntmps14
    go_wp2_with fail
    refine (CC.out _ (below1 _ _)).mono ?_
    rintro e w1 ⟨rfl, rfl⟩
    cases R with
    | false =>
      go_wp2
      refine bodyPost_ret (v := scV x) (by rw [HXX.out]; simp [results, Try.results14, go_sem, scV]; try rfl) rfl ⟨rfl, ?_⟩
      repeat (first | with_reducible exact below1 _ _ | (with_reducible refine Below.setCell ?_ ?_ _; rotate_left; focus (first | (simp; done) | (simp; omega))))
    | true =>
      by_cases c1 : 65536 < (s.size : Int)
      · have b1 : decide (65536 < (s.size : Int)) = true := by simp; omega
        go_wp2
        refine bodyPost_ret (v := scV x) (by rw [HXX.out]; simp [results, Try.results14, go_sem, scV]; try rfl) rfl ⟨rfl, ?_⟩
        repeat (first | with_reducible exact below1 _ _ | (with_reducible refine Below.setCell ?_ ?_ _; rotate_left; focus (first | (simp; done) | (simp; omega))))
      have b1 : decide (65536 < (s.size : Int)) = false := by simp; omega
      by_cases c2 : a < 0
      · have b2 : decide (a < 0) = true := by simp; omega
        go_wp2
        refine bodyPost_ret (v := scV x) (by rw [HXX.out]; simp [results, Try.results14, go_sem, scV]; try rfl) rfl ⟨rfl, ?_⟩
        repeat (first | with_reducible exact below1 _ _ | (with_reducible refine Below.setCell ?_ ?_ _; rotate_left; focus (first | (simp; done) | (simp; omega))))
      have b2 : decide (a < 0) = false := by simp; omega
      by_cases c3 : (s.size : Int) < a
      · have b3 : decide ((s.size : Int) < a) = true := by simp; omega
        go_wp2
        refine bodyPost_ret (v := scV x) (by rw [HXX.out]; simp [results, Try.results14, go_sem, scV]; try rfl) rfl ⟨rfl, ?_⟩
        repeat (first | with_reducible exact below1 _ _ | (with_reducible refine Below.setCell ?_ ?_ _; rotate_left; focus (first | (simp; done) | (simp; omega))))
      have b3 : decide ((s.size : Int) < a) = false := by simp; omega
      by_cases c4 : st < 0
      · have b4 : decide (st < 0) = true := by simp; omega
        go_wp2
        refine bodyPost_ret (v := scV x) (by rw [HXX.out]; simp [results, Try.results14, go_sem, scV]; try rfl) rfl ⟨rfl, ?_⟩
        repeat (first | with_reducible exact below1 _ _ | (with_reducible refine Below.setCell ?_ ?_ _; rotate_left; focus (first | (simp; done) | (simp; omega))))
      have b4 : decide (st < 0) = false := by simp; omega
      have c5 : 2 < st := Int.lt_of_not_ge (fun h => HOK.out ⟨rfl, by omega, by omega, by omega, by omega, h⟩)
      have b5 : decide (2 < st) = true := by simp; omega
      go_wp2
      refine bodyPost_ret (v := scV x) (by rw [HXX.out]; simp [results, Try.results14, go_sem, scV]; try rfl) rfl ⟨rfl, ?_⟩
      repeat (first | with_reducible exact below1 _ _ | (with_reducible refine Below.setCell ?_ ?_ _; rotate_left; focus (first | (simp; done) | (simp; omega))))
end Go.Proofs.Ytkiiiahljlkjnaa
