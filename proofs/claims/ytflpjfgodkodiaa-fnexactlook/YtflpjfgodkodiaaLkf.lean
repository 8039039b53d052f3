/-
  Look, the program's way.
-/
import Derived.Test.YtflpjfgodkodiaaLke
namespace Go.Proofs.Ytflpjfgodkodiaa
open Go.RowKit
set_option linter.unusedVariables false
set_option linter.unusedSimpArgs false

theorem look_found {bs : List Bd} {nm : ByteArray} (h : foundB bs nm = true) : lookM bs nm = (bs.getD (placeOf bs nm) Bd.none).m := by unfold lookM; rw [h]; rfl
theorem look_lost {bs : List Bd} {nm : ByteArray} (h : foundB bs nm = false) : lookM bs nm = Mn.none := by unfold lookM; rw [h]; rfl

set_option maxRecDepth 100000 in
set_option maxHeartbeats 4000000 in
theorem implLookAll_any {v : Value} {xs : List Lv} {w : World} {nm : ByteArray} (h : LRow 0 w v xs) (h2 : SRow 6 LvS Lv.none 0 w v xs) (hs : SmE xs) :
    Calls Try.prog 19 #[.agg #[v], .string nm] w fun e w' => ∃ vp vb, e = .returned (mnV (lookR xs nm) vp vb) ∧ (∃ n, w'.ownsRow w.heap.size 31 3 vp n (flat (lookR xs nm).p)) ∧ (∃ n mid, w'.ownsRow mid 31 3 vb n (flat (lookR xs nm).b) ∧ w.heap.size ≤ mid ∧ ∀ g, vp.ownBlock = some g → g < mid) ∧ Below w.heap.size w w' := by
  have HX : Hid (LRow 0 w v xs) := h
  have HY : Hid (SRow 6 LvS Lv.none 0 w v xs) := h2
  have HS : Hid (SmE xs) := hs
  obtain ⟨ao, cap, rfl⟩ := h.shape
  obtain ⟨nx, hnx⟩ : ∃ n, n = xs.length := ⟨_, rfl⟩
  rw [← hnx] at HX HY
  rw [← hnx]
  obtain ⟨M, hM⟩ : ∃ M, M = lookR xs nm := ⟨_, rfl⟩
  rw [← hM]
  have HNX : Hid (nx = xs.length) := hnx
  clear h h2 hs hnx
  cases hok : envB xs with
  | false =>
    obtain rfl : M = Mn.none := by rw [hM]; unfold lookR; rw [hok]; rfl
    clear hM
    have CE : Hid (∀ W, Below w.heap.size w W → Calls Try.prog 16 #[.agg #[.slice ao nx cap]] W fun e w' => e = .returned (.bool false) ∧ Below W.heap.size W w') := fun W hW => by rw [← hok]; exact implEnvOk_any (SRow.below lvStable HX hW) HS
    go_enter Try.func19, Try.ntmps19
    go_wp2_with fail
    refine (CE _ (below2 _ _ _)).mono ?_
    rintro e w1 ⟨rfl, hb1⟩
    have K1 : Hid (w1.heap[w.heap.size + 1]? = some (.cells #[.int .i64 0, .int .i64 0, .int .i64 0, .int .i64 0, .string ⟨#[]⟩, .slice none 0 0, .int .i64 0, .slice none 0 0] 36 (0, 0)) ∧ w.heap.size + 1 + 1 ≤ w1.heap.size ∧ Below w.heap.size w w1) := by
      refine ⟨(hb1.block _ (by simp)).trans ?_, by have := hb1.size; simpa using this, below_more (below2 _ _ _) hb1 (by simp; omega)⟩
      have h := heap_alloc_new (w.alloc (.cells #[.slice ao nx cap] 47)) (.cells #[.int .i64 0, .int .i64 0, .int .i64 0, .int .i64 0, .string ⟨#[]⟩, .slice none 0 0, .int .i64 0, .slice none 0 0] 36)
      simpa using h
    clear hb1
    have zz : ∀ j, w1.cell? ⟨w.heap.size + 1, j, none⟩ = (#[.int .i64 0, .int .i64 0, .int .i64 0, .int .i64 0, .string ⟨#[]⟩, .slice none 0 0, .int .i64 0, .slice none 0 0] : Array Value)[j]? := fun j => cell_of_row w1 _ j _ 36 _ K1.1
    have z0 := zz 0
    have z1 := zz 1
    have z2 := zz 2
    have z3 := zz 3
    have z4 := zz 4
    have z5 := zz 5
    have z6 := zz 6
    have z7 := zz 7
    have f1 : ∀ j, w1.frozen? ⟨w.heap.size + 1, j, none⟩ = false := fun j => frozen_of_row w1 _ j _ 36 K1.1
    have hy1 : w.heap.size + 1 < w1.heap.size := by have := K1.2.1; omega
    simp at z0 z1 z2 z3 z4 z5 z6 z7
    clear zz
    go_wp2
    refine bodyPost_ret (v := mnV Mn.none (.slice none 0 0) (.slice none 0 0)) (by simp [results, Try.results19, go_sem, z0, z1, z2, z3, z4, z5, z6, z7, hy1, Mn.none, Tk.none]; rfl) rfl ⟨.slice none 0 0, .slice none 0 0, rfl, ⟨0, World.ownsRow_nil _ _ _ _⟩, ⟨0, w.heap.size, World.ownsRow_nil _ _ _ _, Nat.le_refl _, fun g hg => by simp [Value.ownBlock] at hg⟩, ?_⟩
    exact (Below.setCell (Below.setCell (Below.setCell (Below.setCell (Below.setCell (Below.setCell (Below.setCell (Below.setCell K1.2.2 (by first | (simp; done) | (simp; omega)) _) (by first | (simp; done) | (simp; omega)) _) (by first | (simp; done) | (simp; omega)) _) (by first | (simp; done) | (simp; omega)) _) (by first | (simp; done) | (simp; omega)) _) (by first | (simp; done) | (simp; omega)) _) (by first | (simp; done) | (simp; omega)) _) (by first | (simp; done) | (simp; omega)) _)
  | true =>
    obtain ⟨bs, hbs⟩ : ∃ bs, bs = (xs.getD (xs.length - 1) Lv.none).binds := ⟨_, rfl⟩
    have hMe : M = lookM bs nm := by rw [hM, hbs]; unfold lookR; rw [hok]; rfl
    have HST : Hid (SmStr M.p ∧ SmStr M.b ∧ M.t.s.size ≤ 281474976710656) := by rw [hMe, hbs]; exact look_str (env_binds hok)
    have CE : Hid (∀ W, Below w.heap.size w W → Calls Try.prog 16 #[.agg #[.slice ao nx cap]] W fun e w' => e = .returned (.bool true) ∧ Below W.heap.size W w') := fun W hW => by rw [← hok]; exact implEnvOk_any (SRow.below lvStable HX hW) HS
    have hpos : 0 < nx := by rw [show nx = _ from HNX]; exact env_some hok
    have hbl : bs.length ≤ 1048576 := by rw [hbs]; exact (HS.2 _ (by rw [← show nx = _ from HNX]; omega)).2.1.1
    have hnb : nx ≤ 1048576 := by rw [show nx = _ from HNX]; exact HS.1
    obtain ⟨j, hj⟩ : ∃ j, j = nx - 1 := ⟨_, rfl⟩
    have hk9 : (nx : Int) - 1 = (j : Int) := by omega
    have hj0 : (j : Int) < (nx : Int) := by omega
    have hy := HY
    obtain ⟨ao', n', cap', e, hn', hr⟩ := hy
    simp at e
    obtain ⟨rfl, rfl, rfl⟩ := e
    obtain ⟨lb, lo, rfl, _, hlb, hc⟩ := hr hpos
    obtain ⟨cs, hcl, hRel, hcj⟩ := hc j (by omega)
    rw [hj, show nx = _ from HNX, ← show nx = _ from HNX] at hRel
    obtain ⟨e0, e1, e2, e3, e4, e5, rfl, i1⟩ := hRel
    have hib : SRow 9 BdS Bd.none 0 w e1 bs := by rw [hbs, ← show nx = _ from HNX]; exact i1
    obtain ⟨ba, bc, rfl⟩ := hib.shape
    obtain ⟨nb, hnbs⟩ : ∃ x, x = bs.length := ⟨_, rfl⟩
    rw [← hnbs] at hib hbl
    have g1 : w.cell? ⟨lb, lo + j * 6 + 1, none⟩ = some (.slice ba nb bc) := by rw [hnbs]; exact hcj 1 (by omega)
    have HIB : Hid (SRow 9 BdS Bd.none 0 w (.slice ba nb bc) bs) := hib
    have HNB : Hid (nb = bs.length) := hnbs
    have CS : Hid (∀ W, Below w.heap.size w W → Calls Try.prog 58 #[.slice ba nb bc, .string nm, .func (.func 59) #[] #[]] W fun e w' => e = .returned (.tuple #[.int .i64 (placeOf bs nm : Int), .bool (foundB bs nm)]) ∧ Below W.heap.size W w') := fun W hW => search_any (SRow.below bdStable (SRow.imp bdS_R hib) hW) (by rw [← hnbs]; exact hbl)
    have HM : Hid (M = lookM bs nm) := hMe
    clear hMe hM hbs hc hr hcj hcl i1 hib hnbs hj hn'
    obtain ⟨pl, hpl⟩ : ∃ x, x = placeOf bs nm := ⟨_, rfl⟩
    rw [← hpl] at CS
    have HPL : Hid (pl = placeOf bs nm) := hpl
    clear hpl
    go_enter Try.func19, Try.ntmps19
    go_wp2_with fail
    refine (CE _ (below2 _ _ _)).mono ?_
    rintro e w1 ⟨rfl, hb1⟩
    have K1 : Hid (w1.heap[w.heap.size + 1]? = some (.cells #[.int .i64 0, .int .i64 0, .int .i64 0, .int .i64 0, .string ⟨#[]⟩, .slice none 0 0, .int .i64 0, .slice none 0 0] 36 (0, 0)) ∧ w1.heap[w.heap.size]? = some (.cells #[.slice (some ⟨lb, lo, none⟩) nx cap] 47 (0, 0)) ∧ w.heap.size + 1 + 1 ≤ w1.heap.size ∧ Below w.heap.size w w1) := by
      refine ⟨(hb1.block _ (by simp)).trans ?_, (hb1.block _ (by simp; omega)).trans ?_, by have := hb1.size; simpa using this, below_more (below2 _ _ _) hb1 (by simp; omega)⟩
      · have h := heap_alloc_new (w.alloc (.cells #[.slice (some ⟨lb, lo, none⟩) nx cap] 47)) (.cells #[.int .i64 0, .int .i64 0, .int .i64 0, .int .i64 0, .string ⟨#[]⟩, .slice none 0 0, .int .i64 0, .slice none 0 0] 36)
        simpa using h
      · rw [(below1 _ _).block _ (by simp)]
        exact heap_alloc_new w _
    clear hb1
    have e0 : w1.cell? ⟨w.heap.size, 0, none⟩ = some (.slice (some ⟨lb, lo, none⟩) nx cap) := by rw [cell_of_row w1 _ 0 _ 47 _ K1.2.1]; rfl
    have g1' := (Below.cell K1.2.2.2 (p := ⟨lb, lo + j * 6 + 1, none⟩) hlb).trans g1
    have hlbw : lb < w1.heap.size := Nat.lt_of_lt_of_le hlb (Below.size K1.2.2.2)
    go_wp2_with fail
    refine (CS _ K1.2.2.2).mono ?_
    rintro e w2 ⟨rfl, hb2⟩
    have K2 : Hid (w2.heap[w.heap.size + 1]? = some (.cells #[.int .i64 0, .int .i64 0, .int .i64 0, .int .i64 0, .string ⟨#[]⟩, .slice none 0 0, .int .i64 0, .slice none 0 0] 36 (0, 0)) ∧ w.heap.size + 1 + 1 ≤ w2.heap.size ∧ Below w.heap.size w w2) := ⟨(hb2.block _ (by have := K1.2.2.1; omega)).trans K1.1, Nat.le_trans K1.2.2.1 hb2.size, below_more K1.2.2.2 hb2 (Below.size K1.2.2.2)⟩
    clear hb2 e0 g1' g1
    cases hfo : foundB bs nm with
    | false =>
      obtain rfl : M = Mn.none := by rw [show M = _ from HM]; exact look_lost hfo
      have zz : ∀ j, w2.cell? ⟨w.heap.size + 1, j, none⟩ = (#[.int .i64 0, .int .i64 0, .int .i64 0, .int .i64 0, .string ⟨#[]⟩, .slice none 0 0, .int .i64 0, .slice none 0 0] : Array Value)[j]? := fun j => cell_of_row w2 _ j _ 36 _ K2.1
      have z0 := zz 0
      have z1 := zz 1
      have z2 := zz 2
      have z3 := zz 3
      have z4 := zz 4
      have z5 := zz 5
      have z6 := zz 6
      have z7 := zz 7
      have f1 : ∀ j, w2.frozen? ⟨w.heap.size + 1, j, none⟩ = false := fun j => frozen_of_row w2 _ j _ 36 K2.1
      have hy1 : w.heap.size + 1 < w2.heap.size := by have := K2.2.1; omega
      simp at z0 z1 z2 z3 z4 z5 z6 z7
      clear zz
      go_wp2
      refine bodyPost_ret (v := mnV Mn.none (.slice none 0 0) (.slice none 0 0)) (by simp [results, Try.results19, go_sem, z0, z1, z2, z3, z4, z5, z6, z7, hy1, Mn.none, Tk.none]; rfl) rfl ⟨.slice none 0 0, .slice none 0 0, rfl, ⟨0, World.ownsRow_nil _ _ _ _⟩, ⟨0, w.heap.size, World.ownsRow_nil _ _ _ _, Nat.le_refl _, fun g hg => by simp [Value.ownBlock] at hg⟩, ?_⟩
      exact (Below.setCell (Below.setCell (Below.setCell (Below.setCell (Below.setCell (Below.setCell (Below.setCell (Below.setCell K2.2.2 (by first | (simp; done) | (simp; omega)) _) (by first | (simp; done) | (simp; omega)) _) (by first | (simp; done) | (simp; omega)) _) (by first | (simp; done) | (simp; omega)) _) (by first | (simp; done) | (simp; omega)) _) (by first | (simp; done) | (simp; omega)) _) (by first | (simp; done) | (simp; omega)) _) (by first | (simp; done) | (simp; omega)) _)
    | true =>
      have hpl : pl < nb := by rw [show pl = _ from HPL, show nb = _ from HNB]; exact found_lt hfo
      have hpli : (pl : Int) < (nb : Int) := by omega
      have hrow := HIB
      obtain ⟨ao2, n2, cap2, e, hn2, hr2⟩ := hrow
      simp at e
      obtain ⟨rfl, rfl, rfl⟩ := e
      obtain ⟨qb, qo, rfl, _, hqb, hc⟩ := hr2 (by omega)
      obtain ⟨cs, hcl, hRel, hcj⟩ := hc pl hpl
      obtain ⟨y, hy⟩ : ∃ y, y = bs.getD pl Bd.none := ⟨_, rfl⟩
      rw [← hy] at hRel
      have hMy : M = y.m := by rw [show M = _ from HM, look_found hfo, ← show pl = _ from HPL, ← hy]
      obtain ⟨vp, vb, rfl, hp1, hp2⟩ := hRel
      rw [← hMy] at hp1 hp2 hcj
      obtain ⟨k, n, t, p, sl, b⟩ := M
      dsimp only at hp1 hp2 hcj
      have HTN : Hid (TN 0 w2 vp p ∧ TN 0 w2 vb b) := ⟨.inr (hp1.below K2.2.2), .inr (hp2.below K2.2.2)⟩
      obtain ⟨a5, l5, c5, rfl⟩ := hp1.shape3
      obtain ⟨a6, l6, c6, rfl⟩ := hp2.shape3
      have q1 : w2.cell? ⟨qb, qo + pl * 9 + 1, none⟩ = some (.int .i64 k) := (Below.cell K2.2.2 (p := ⟨qb, qo + pl * 9 + 1, none⟩) hqb).trans (hcj 1 (by omega))
      have q2 : w2.cell? ⟨qb, qo + pl * 9 + 2, none⟩ = some (.int .i64 n) := (Below.cell K2.2.2 (p := ⟨qb, qo + pl * 9 + 2, none⟩) hqb).trans (hcj 2 (by omega))
      have q3 : w2.cell? ⟨qb, qo + pl * 9 + 3, none⟩ = some (.int .i64 t.c) := (Below.cell K2.2.2 (p := ⟨qb, qo + pl * 9 + 3, none⟩) hqb).trans (hcj 3 (by omega))
      have q4 : w2.cell? ⟨qb, qo + pl * 9 + 4, none⟩ = some (.int .i64 t.h) := (Below.cell K2.2.2 (p := ⟨qb, qo + pl * 9 + 4, none⟩) hqb).trans (hcj 4 (by omega))
      have q5 : w2.cell? ⟨qb, qo + pl * 9 + 5, none⟩ = some (.string t.s) := (Below.cell K2.2.2 (p := ⟨qb, qo + pl * 9 + 5, none⟩) hqb).trans (hcj 5 (by omega))
      have q6 : w2.cell? ⟨qb, qo + pl * 9 + 6, none⟩ = some (.slice a5 l5 c5) := (Below.cell K2.2.2 (p := ⟨qb, qo + pl * 9 + 6, none⟩) hqb).trans (hcj 6 (by omega))
      have q7 : w2.cell? ⟨qb, qo + pl * 9 + 7, none⟩ = some (.int .i64 sl) := (Below.cell K2.2.2 (p := ⟨qb, qo + pl * 9 + 7, none⟩) hqb).trans (hcj 7 (by omega))
      have q8 : w2.cell? ⟨qb, qo + pl * 9 + 8, none⟩ = some (.slice a6 l6 c6) := (Below.cell K2.2.2 (p := ⟨qb, qo + pl * 9 + 8, none⟩) hqb).trans (hcj 8 (by omega))
      clear hc hr2 hcj hcl hy hMy hp1 hp2 hn2
      go_wp2_with fail
      refine (copyMean_any (m := ⟨k, n, t, p, sl, b⟩) HTN.1 HTN.2 HST.1 HST.2.1 HST.2.2).mono ?_
      rintro e w3 ⟨vp3, vb3, rfl, ⟨n3, ho3⟩, ⟨m3, mid, hq3, hmid, hsep⟩, hb3⟩
      dsimp only at ho3 hq3
      obtain ⟨a3, c3, rfl, _⟩ := own_shape ho3
      obtain ⟨a4, c4, rfl, _⟩ := own_shape hq3
      have K3 : Hid (w3.heap[w.heap.size + 1]? = some (.cells #[.int .i64 0, .int .i64 0, .int .i64 0, .int .i64 0, .string ⟨#[]⟩, .slice none 0 0, .int .i64 0, .slice none 0 0] 36 (0, 0)) ∧ w.heap.size + 1 + 1 ≤ w3.heap.size ∧ w3.ownsRow (w.heap.size + 1 + 1) 31 3 (.slice a3 n3 c3) n3 (flat p) ∧ w3.ownsRow mid 31 3 (.slice a4 m3 c4) m3 (flat b) ∧ Below w.heap.size w w3) :=
        ⟨(hb3.block _ (by have := K2.2.1; omega)).trans K2.1, Nat.le_trans K2.2.1 hb3.size, own_mono ho3 K2.2.1, hq3, below_more K2.2.2 hb3 (Below.size K2.2.2)⟩
      have hmid2 : w.heap.size + 1 + 1 ≤ mid := Nat.le_trans K2.2.1 hmid
      have HSEP : Hid (∀ g, (Value.slice a3 n3 c3).ownBlock = some g → g < mid) := hsep
      clear ho3 hq3 hb3 hsep hmid q1 q2 q3 q4 q5 q6 q7 q8
      have zz : ∀ j, w3.cell? ⟨w.heap.size + 1, j, none⟩ = (#[.int .i64 0, .int .i64 0, .int .i64 0, .int .i64 0, .string ⟨#[]⟩, .slice none 0 0, .int .i64 0, .slice none 0 0] : Array Value)[j]? := fun j => cell_of_row w3 _ j _ 36 _ K3.1
      have z0 := zz 0
      have z1 := zz 1
      have z2 := zz 2
      have z3 := zz 3
      have z4 := zz 4
      have z5 := zz 5
      have z6 := zz 6
      have z7 := zz 7
      have f1 : ∀ j, w3.frozen? ⟨w.heap.size + 1, j, none⟩ = false := fun j => frozen_of_row w3 _ j _ 36 K3.1
      have hy3 : w.heap.size + 1 < w3.heap.size := by have := K3.2.1; omega
      simp at z0 z1 z2 z3 z4 z5 z6 z7
      clear zz
      go_wp2
      refine bodyPost_ret (v := meanV k n t (.slice a3 n3 c3) sl (.slice a4 m3 c4)) (by simp [results, Try.results19, go_sem, z0, z1, z2, z3, z4, z5, z6, z7, hy3]) rfl ⟨.slice a3 n3 c3, .slice a4 m3 c4, rfl, ⟨n3, ?_⟩, ⟨m3, mid, ?_, by omega, HSEP⟩, ?_⟩
      · exact own_mono (own_set (own_set (own_set (own_set (own_set (own_set (own_set (own_set K3.2.2.1 (by omega)) (by omega)) (by omega)) (by omega)) (by omega)) (by omega)) (by omega)) (by omega)) (by omega)
      · exact (own_set (own_set (own_set (own_set (own_set (own_set (own_set (own_set K3.2.2.2.1 (by omega)) (by omega)) (by omega)) (by omega)) (by omega)) (by omega)) (by omega)) (by omega))
      · exact (Below.setCell (Below.setCell (Below.setCell (Below.setCell (Below.setCell (Below.setCell (Below.setCell (Below.setCell K3.2.2.2.2 (by first | (simp; done) | (simp; omega)) _) (by first | (simp; done) | (simp; omega)) _) (by first | (simp; done) | (simp; omega)) _) (by first | (simp; done) | (simp; omega)) _) (by first | (simp; done) | (simp; omega)) _) (by first | (simp; done) | (simp; omega)) _) (by first | (simp; done) | (simp; omega)) _) (by first | (simp; done) | (simp; omega)) _)
end Go.Proofs.Ytflpjfgodkodiaa
