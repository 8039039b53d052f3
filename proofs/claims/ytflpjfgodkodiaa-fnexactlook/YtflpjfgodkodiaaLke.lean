/-
  Look, both ways.
-/
import Derived.Test.YtflpjfgodkodiaaLkd
import Derived.Test.YtflpjfgodkodiaaEok
import Derived.Test.YtflpjfgodkodiaaEsp
namespace Go.Proofs.Ytflpjfgodkodiaa
open Go.RowKit
set_option linter.unusedVariables false
set_option linter.unusedSimpArgs false

theorem empty_size {s : ByteArray} (h : s.toList = []) : s.size = 0 := by
  rw [ByteArray.toList_eq] at h
  have : s.data.size = 0 := by rw [← Array.length_toList, h]; rfl
  exact this
theorem tok_str {c h : Int} {s : ByteArray} (hk : tokB c h s = true) : s.size ≤ 40 := by
  unfold tokB at hk
  split at hk
  · simp at hk; exact hk.2
  · split at hk
    · simp at hk
    · next hs => rw [empty_size (Classical.not_not.1 hs)]; decide
theorem okT_str {most : Int} {ts : List Tk} (h : ts.all (okT most) = true) : ∀ i, i < ts.length → (ts.getD i Tk.none).s.size ≤ 281474976710656 := by
  intro i hi
  have hm : ts.getD i Tk.none ∈ ts := by simp [List.getD, List.getElem?_eq_getElem hi]
  have h1 := List.all_eq_true.1 h _ hm
  unfold okT at h1
  simp only [Bool.and_eq_true] at h1
  exact Nat.le_trans (tok_str h1.1) (by decide)
theorem noTok_str {t : Tk} (h : noTok t = true) : t.s.size ≤ 281474976710656 := by
  unfold noTok at h
  simp only [Bool.and_eq_true, decide_eq_true_eq, List.isEmpty_iff] at h
  rw [empty_size h.2.2]; decide
theorem noMac_str {p b : List Tk} {sl : Int} (h : noMac p sl b = true) : SmStr p ∧ SmStr b := by
  unfold noMac at h
  simp only [Bool.and_eq_true, decide_eq_true_eq] at h
  have hp : p = [] := List.eq_nil_of_length_eq_zero (by omega)
  have hb : b = [] := List.eq_nil_of_length_eq_zero (by omega)
  subst hp hb
  exact ⟨⟨by simp, fun i hi => by simp at hi⟩, ⟨by simp, fun i hi => by simp at hi⟩⟩
theorem mac_str {p b : List Tk} {sl : Int} (h : macB p sl b = true) : SmStr p ∧ SmStr b := by
  unfold macB at h
  simp only [Bool.and_eq_true] at h
  obtain ⟨_, h1, h2⟩ := h
  rw [patB_two] at h1
  rw [toksB_two] at h2
  simp only [Bool.and_eq_true, decide_eq_true_eq] at h1 h2
  exact ⟨⟨by omega, okT_str h1.1.2⟩, ⟨by omega, okT_str h2.1.2⟩⟩
theorem mean_str {k n : Int} {t : Tk} {p b : List Tk} {sl : Int} (h : meanB k n t p sl b = true) : SmStr p ∧ SmStr b ∧ t.s.size ≤ 281474976710656 := by
  unfold meanB at h
  split at h
  · simp only [Bool.and_eq_true] at h
    obtain ⟨h1, h2⟩ := noMac_str h.2.2
    exact ⟨h1, h2, noTok_str h.2.1⟩
  · split at h
    · simp only [Bool.and_eq_true] at h
      obtain ⟨h1, h2⟩ := noMac_str h.2.2
      exact ⟨h1, h2, noTok_str h.2.1⟩
    · split at h
      · simp only [Bool.and_eq_true] at h
        obtain ⟨h1, h2⟩ := noMac_str h.2.2
        refine ⟨h1, h2, ?_⟩
        have h3 := h.2.1
        unfold isCh at h3
        simp only [Bool.and_eq_true] at h3
        exact Nat.le_trans (tok_str h3.1) (by decide)
      · split at h
        · simp only [Bool.and_eq_true] at h
          obtain ⟨h1, h2⟩ := mac_str h.2.2
          exact ⟨h1, h2, noTok_str h.2.1⟩
        · simp at h

/-- What Look answers. -/
def lookR (xs : List Lv) (nm : ByteArray) : Mn := if envB xs = true then lookM (xs.getD (xs.length - 1) Lv.none).binds nm else Mn.none
theorem env_some {xs : List Lv} (h : envB xs = true) : 0 < xs.length := by
  unfold envB at h
  simp only [Bool.and_eq_true, decide_eq_true_eq] at h
  omega
theorem env_binds {xs : List Lv} (h : envB xs = true) : bindsB (xs.getD (xs.length - 1) Lv.none).binds = true := by
  have h0 := env_some h
  unfold envB at h
  simp only [Bool.and_eq_true] at h
  have hm : xs.getD (xs.length - 1) Lv.none ∈ xs := by simp [List.getD, List.getElem?_eq_getElem (show xs.length - 1 < xs.length by omega)]
  have h1 := List.all_eq_true.1 h.2 _ hm
  unfold levB at h1
  simp only [Bool.and_eq_true] at h1
  exact h1.2.1
theorem none_str : SmStr Mn.none.p ∧ SmStr Mn.none.b ∧ Mn.none.t.s.size ≤ 281474976710656 := ⟨⟨by simp [Mn.none], fun i hi => by simp [Mn.none] at hi⟩, ⟨by simp [Mn.none], fun i hi => by simp [Mn.none] at hi⟩, by decide⟩
theorem found_lt {bs : List Bd} {nm : ByteArray} (h : foundB bs nm = true) : placeOf bs nm < bs.length := by
  unfold foundB at h
  simp only [Bool.and_eq_true, decide_eq_true_eq] at h
  exact h.1
theorem look_str {bs : List Bd} {nm : ByteArray} (h : bindsB bs = true) : SmStr (lookM bs nm).p ∧ SmStr (lookM bs nm).b ∧ (lookM bs nm).t.s.size ≤ 281474976710656 := by
  unfold lookM
  split
  · next hf =>
    have hl := found_lt hf
    unfold bindsB at h
    simp only [Bool.and_eq_true] at h
    have h1 := List.all_eq_true.1 h.2 (placeOf bs nm) (by simpa using hl)
    unfold bdAt bdB at h1
    simp only [Bool.and_eq_true] at h1
    exact mean_str h1.2.2.2
  · exact none_str

set_option maxRecDepth 100000 in
set_option maxHeartbeats 4000000 in
theorem specLookAll_any {v : Value} {xs : List Lv} {w : World} {nm : ByteArray} (h : LRow 0 w v xs) (h2 : SRow 6 LvS Lv.none 0 w v xs) (hs : SmE xs) :
    Calls Try.prog 18 #[.agg #[v], .string nm] w fun e w' => ∃ vp vb, e = .returned (mnV (lookR xs nm) vp vb) ∧ (∃ n, w'.ownsRow w.heap.size 31 3 vp n (flat (lookR xs nm).p)) ∧ (∃ n, w'.ownsRow w.heap.size 31 3 vb n (flat (lookR xs nm).b)) ∧ Below w.heap.size w w' := by
  have HX : Hid (LRow 0 w v xs) := h
  have HY : Hid (SRow 6 LvS Lv.none 0 w v xs) := h2
  have HS : Hid (SmE xs) := hs
  obtain ⟨ao, cap, rfl⟩ := h.shape
  obtain ⟨nx, hnx⟩ : ∃ n, n = xs.length := ⟨_, rfl⟩
  rw [← hnx] at HX HY
  rw [← hnx]
  clear h h2 hs hnx
  obtain ⟨M, hM⟩ : ∃ M, M = lookR xs nm := ⟨_, rfl⟩
  rw [← hM]
  cases hok : envB xs with
  | false =>
    obtain rfl : M = Mn.none := by rw [hM]; unfold lookR; rw [hok]; rfl
    clear hM
    have CE : Hid (∀ W, Below w.heap.size w W → Calls Try.prog 14 #[.agg #[.slice ao nx cap]] W fun e w' => e = .returned (.bool false) ∧ Below W.heap.size W w') := fun W hW => by rw [← hok]; exact specEnvOk_any (SRow.below lvStable HX hW) HS
    go_enter Try.func18, Try.ntmps18
    go_wp2_with fail
    refine (CE _ (below2 _ _ _)).mono ?_
    rintro e w1 ⟨rfl, hb1⟩
    have K1 : Hid (w1.heap[w.heap.size + 1]? = some (.cells #[.int .i64 0, .int .i64 0, .int .i64 0, .int .i64 0, .string ⟨#[]⟩, .slice none 0 0, .int .i64 0, .slice none 0 0] 36 (0, 0)) ∧ w.heap.size + 1 + 1 ≤ w1.heap.size ∧ Below w.heap.size w w1) := by
      refine ⟨(hb1.block _ (by simp)).trans ?_, by have := hb1.size; simpa using this, below_more (below2 _ _ _) hb1 (by simp; omega)⟩
      have h := heap_alloc_new (w.alloc (.cells #[.slice ao nx cap] 47)) (.cells #[.int .i64 0, .int .i64 0, .int .i64 0, .int .i64 0, .string ⟨#[]⟩, .slice none 0 0, .int .i64 0, .slice none 0 0] 36)
      simpa using h
    clear hb1
    have zz : ∀ j, w1.cell? ⟨w.heap.size + 1, j, none⟩ = (#[.int .i64 0, .int .i64 0, .int .i64 0, .int .i64 0, .string ⟨#[]⟩, .slice none 0 0, .int .i64 0, .slice none 0 0] : Array Value)[j]? := fun j => cell_of_row w1 _ j _ 36 _ K1.1
    have z0 := zz 0
    have z1 := zz 1
    have z2 := zz 2
    have z3 := zz 3
    have z4 := zz 4
    have z5 := zz 5
    have z6 := zz 6
    have z7 := zz 7
    have f1 : ∀ j, w1.frozen? ⟨w.heap.size + 1, j, none⟩ = false := fun j => frozen_of_row w1 _ j _ 36 K1.1
    have hy1 : w.heap.size + 1 < w1.heap.size := by have := K1.2.1; omega
    simp at z0 z1 z2 z3 z4 z5 z6 z7
    clear zz
    go_wp2
    refine bodyPost_ret (v := mnV Mn.none (.slice none 0 0) (.slice none 0 0)) (by simp [results, Try.results18, go_sem, z0, z1, z2, z3, z4, z5, z6, z7, hy1, Mn.none, Tk.none]; rfl) rfl ⟨.slice none 0 0, .slice none 0 0, rfl, ⟨0, World.ownsRow_nil _ _ _ _⟩, ⟨0, World.ownsRow_nil _ _ _ _⟩, ?_⟩
    exact (Below.setCell (Below.setCell (Below.setCell (Below.setCell (Below.setCell (Below.setCell (Below.setCell (Below.setCell K1.2.2 (by first | (simp; done) | (simp; omega)) _) (by first | (simp; done) | (simp; omega)) _) (by first | (simp; done) | (simp; omega)) _) (by first | (simp; done) | (simp; omega)) _) (by first | (simp; done) | (simp; omega)) _) (by first | (simp; done) | (simp; omega)) _) (by first | (simp; done) | (simp; omega)) _) (by first | (simp; done) | (simp; omega)) _)
  | true =>
    have hMe : M = lookM (xs.getD (xs.length - 1) Lv.none).binds nm := by rw [hM]; unfold lookR; rw [hok]; rfl
    have HST : Hid (M.p.length ≤ 1048576 ∧ M.b.length ≤ 1048576) := by rw [hMe]; exact ⟨(look_str (env_binds hok)).1.1, (look_str (env_binds hok)).2.1.1⟩
    have CE : Hid (∀ W, Below w.heap.size w W → Calls Try.prog 14 #[.agg #[.slice ao nx cap]] W fun e w' => e = .returned (.bool true) ∧ Below W.heap.size W w') := fun W hW => by rw [← hok]; exact specEnvOk_any (SRow.below lvStable HX hW) HS
    have CL : Hid (∀ W, Below w.heap.size w W → Calls Try.prog 57 #[.agg #[.slice ao nx cap], .string nm] W fun e w' => ∃ vp vb, e = .returned (mnV M vp vb) ∧ MeanN w' vp vb M ∧ Below W.heap.size W w') := fun W hW => by rw [hMe]; exact specLook_n (SRow.below lsStable HY hW) HS (env_some hok)
    clear hMe hM
    obtain ⟨k, n, t, p, sl, b⟩ := M
    go_enter Try.func18, Try.ntmps18
    go_wp2_with fail
    refine (CE _ (below2 _ _ _)).mono ?_
    rintro e w1 ⟨rfl, hb1⟩
    have K1 : Hid (w1.heap[w.heap.size + 1]? = some (.cells #[.int .i64 0, .int .i64 0, .int .i64 0, .int .i64 0, .string ⟨#[]⟩, .slice none 0 0, .int .i64 0, .slice none 0 0] 36 (0, 0)) ∧ w1.heap[w.heap.size]? = some (.cells #[.slice ao nx cap] 47 (0, 0)) ∧ w.heap.size + 1 + 1 ≤ w1.heap.size ∧ Below w.heap.size w w1) := by
      refine ⟨(hb1.block _ (by simp)).trans ?_, (hb1.block _ (by simp; omega)).trans ?_, by have := hb1.size; simpa using this, below_more (below2 _ _ _) hb1 (by simp; omega)⟩
      · have h := heap_alloc_new (w.alloc (.cells #[.slice ao nx cap] 47)) (.cells #[.int .i64 0, .int .i64 0, .int .i64 0, .int .i64 0, .string ⟨#[]⟩, .slice none 0 0, .int .i64 0, .slice none 0 0] 36)
        simpa using h
      · rw [(below1 _ _).block _ (by simp)]
        exact heap_alloc_new w _
    clear hb1
    have e0 : w1.cell? ⟨w.heap.size, 0, none⟩ = some (.slice ao nx cap) := by rw [cell_of_row w1 _ 0 _ 47 _ K1.2.1]; rfl
    go_wp2_with fail
    refine (CL _ K1.2.2.2).mono ?_
    rintro e w2 ⟨vp, vb, rfl, hmn, hb2⟩
    have HMN : Hid (MeanN w2 vp vb ⟨k, n, t, p, sl, b⟩) := hmn
    have B2 : Hid (Below w.heap.size w w2) := below_more K1.2.2.2 hb2 (Below.size K1.2.2.2)
    have K2 : Hid (w2.heap[w.heap.size + 1]? = some (.cells #[.int .i64 0, .int .i64 0, .int .i64 0, .int .i64 0, .string ⟨#[]⟩, .slice none 0 0, .int .i64 0, .slice none 0 0] 36 (0, 0)) ∧ w.heap.size + 1 + 1 ≤ w2.heap.size) := ⟨(hb2.block _ (by have := K1.2.2.1; omega)).trans K1.1, Nat.le_trans K1.2.2.1 hb2.size⟩
    clear hb2 hmn e0
    go_wp2_with fail
    refine (l3Copy_any HMN HST.1 HST.2).mono ?_
    rintro e w3 ⟨vp3, vb3, rfl, ⟨n3, ho3⟩, ⟨m3, hq3⟩, hb3⟩
    dsimp only at ho3 hq3
    obtain ⟨a3, c3, rfl, _⟩ := own_shape ho3
    obtain ⟨a4, c4, rfl, _⟩ := own_shape hq3
    have K3 : Hid (w3.heap[w.heap.size + 1]? = some (.cells #[.int .i64 0, .int .i64 0, .int .i64 0, .int .i64 0, .string ⟨#[]⟩, .slice none 0 0, .int .i64 0, .slice none 0 0] 36 (0, 0)) ∧ w.heap.size + 1 + 1 ≤ w3.heap.size ∧ w3.ownsRow (w.heap.size + 1 + 1) 31 3 (.slice a3 n3 c3) n3 (flat p) ∧ w3.ownsRow (w.heap.size + 1 + 1) 31 3 (.slice a4 m3 c4) m3 (flat b) ∧ Below w.heap.size w w3) :=
      ⟨(hb3.block _ (by have := K2.2; omega)).trans K2.1, Nat.le_trans K2.2 hb3.size, own_mono ho3 K2.2, own_mono hq3 K2.2, below_more B2 hb3 (Below.size B2)⟩
    clear ho3 hq3 hb3
    have zz : ∀ j, w3.cell? ⟨w.heap.size + 1, j, none⟩ = (#[.int .i64 0, .int .i64 0, .int .i64 0, .int .i64 0, .string ⟨#[]⟩, .slice none 0 0, .int .i64 0, .slice none 0 0] : Array Value)[j]? := fun j => cell_of_row w3 _ j _ 36 _ K3.1
    have z0 := zz 0
    have z1 := zz 1
    have z2 := zz 2
    have z3 := zz 3
    have z4 := zz 4
    have z5 := zz 5
    have z6 := zz 6
    have z7 := zz 7
    have f1 : ∀ j, w3.frozen? ⟨w.heap.size + 1, j, none⟩ = false := fun j => frozen_of_row w3 _ j _ 36 K3.1
    have hy3 : w.heap.size + 1 < w3.heap.size := by have := K3.2.1; omega
    simp at z0 z1 z2 z3 z4 z5 z6 z7
    clear zz
    go_wp2
    refine bodyPost_ret (v := meanV k n t (.slice a3 n3 c3) sl (.slice a4 m3 c4)) (by simp [results, Try.results18, go_sem, z0, z1, z2, z3, z4, z5, z6, z7, hy3]) rfl ⟨.slice a3 n3 c3, .slice a4 m3 c4, rfl, ⟨n3, ?_⟩, ⟨m3, ?_⟩, ?_⟩
    · exact own_mono (own_set (own_set (own_set (own_set (own_set (own_set (own_set (own_set K3.2.2.1 (by omega)) (by omega)) (by omega)) (by omega)) (by omega)) (by omega)) (by omega)) (by omega)) (by omega)
    · exact own_mono (own_set (own_set (own_set (own_set (own_set (own_set (own_set (own_set K3.2.2.2.1 (by omega)) (by omega)) (by omega)) (by omega)) (by omega)) (by omega)) (by omega)) (by omega)) (by omega)
    · exact (Below.setCell (Below.setCell (Below.setCell (Below.setCell (Below.setCell (Below.setCell (Below.setCell (Below.setCell K3.2.2.2.2 (by first | (simp; done) | (simp; omega)) _) (by first | (simp; done) | (simp; omega)) _) (by first | (simp; done) | (simp; omega)) _) (by first | (simp; done) | (simp; omega)) _) (by first | (simp; done) | (simp; omega)) _) (by first | (simp; done) | (simp; omega)) _) (by first | (simp; done) | (simp; omega)) _) (by first | (simp; done) | (simp; omega)) _)
end Go.Proofs.Ytflpjfgodkodiaa
