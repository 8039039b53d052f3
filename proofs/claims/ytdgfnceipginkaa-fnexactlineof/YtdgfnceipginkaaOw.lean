/-
  Rows of nodes that are owned: small facts.
-/
import Derived.Test.YtdgfnceipginkaaMkb
import Derived.Deep.RegionWith
import Derived.Deep.RegionHeld3
import Derived.RangeFuncNested
import Derived.RangeFuncBound
import Derived.RangeFuncCalls
import Derived.RangeFuncLeaves
import Derived.Shelf.Abstract
import Derived.Shelf.RegionOpen
import Derived.WalkKit
import Derived.OwnWalkIn
import Derived.TacticsInMore
import Derived.LoopNIn
import Derived.LoopIn
import Derived.Test.YtdgfnceipginkaaShf
import Derived.Test.YtdgfnceipginkaaSst
import Derived.Test.YtdgfnceipginkaaMkt
namespace Go.Proofs.Ytdgfnceipginkaa
open Go.RowKit
set_option linter.unusedVariables false
set_option linter.unusedSimpArgs false

set_option maxRecDepth 20000 in
set_option maxHeartbeats 8000000 in
theorem heldNodeS_any {v : Value} {n k : Nat} {w : World} (h : NRow 0 w v (marksN k n)) (hn : n ≤ 1048576) (hk0 : 0 < k) (hk1 : k ≤ 1048576) :
    Calls Try.prog 11 #[v, .int .i64 (k : Int)] w fun e w' => e = .returned (.int .i64 ((k + 15 * n : Nat) : Int)) ∧ Below w.heap.size w w' := by
  obtain ⟨ao, n', cap, rfl, hl, hr⟩ := h
  obtain rfl : n = n' := by rw [← hl, marksN_len]
  have HR : Hid (0 < n → ∃ b off, ao = some ⟨b, off, none⟩ ∧ 0 ≤ b ∧ b < w.heap.size ∧ ∀ i, i < n → ∃ cs : List Value, cs.length = 15 ∧ NdR 0 w cs ((marksN k n).getD i Nd.none) ∧ ∀ j, j < 15 → w.cell? ⟨b, off + i * 15 + j, none⟩ = cs[j]?) := hideP hr
  clear hr hl
  go_enter Try.func11, Try.ntmps11
  go_wp2
  go_loopw [1, 5] (fun s i wr => ∃ (j q : Nat), j ≤ n ∧ i = .int .i64 (j : Int) ∧ s = .int .i64 (q : Int) ∧ q = k + 15 * j ∧ Below w.heap.size w wr) (fun _ i _ => n - (intOf i).toNat)
  case atStart => exact ⟨0, k, by omega, rfl, rfl, by omega, Below.refl _ _⟩
  case round =>
    obtain ⟨j, q, hj, rfl, rfl, hq, hbel⟩ := hrel
    by_cases hjn : j < n
    · have hji : (j : Int) < (n : Int) := by omega
      obtain ⟨T, hT⟩ : ∃ T, T = mtext (q + 13) := ⟨_, rfl⟩
      have HMT : Hid (∀ W : World, Calls Try.prog 22 #[.int .i64 ((q : Int) + 1 + 1 + 1 + 1 + 1 + 1 + 1 + 1 + 1 + 1 + 1 + 1 + 1)] W fun e w' => e = .returned (.string T) ∧ Below W.heap.size W w') := hideP (fun W => by
        have hh : (q : Int) + 1 + 1 + 1 + 1 + 1 + 1 + 1 + 1 + 1 + 1 + 1 + 1 + 1 = ((q + 13 : Nat) : Int) := by push_cast; omega
        rw [hh, hT]
        exact markText_any (q + 13) (by omega) (by omega) W)
      obtain ⟨b, off, rfl, _, hb, hc⟩ := HR.out (by omega)
      obtain ⟨cs, hcl, hRel, hcj⟩ := hc j hjn
      rw [marksN_get hjn, ← hq] at hRel
      have QC : Hid (∀ W, Below w.heap.size w W → ∀ s, s < 15 → ∀ {u : Value}, (mkN q).cells[s]? = some u → W.cell? ⟨b, off + j * 15 + s, none⟩ = some u) := hideP (fun W hW s hs u hu => by
        rw [Below.cell hW (p := ⟨b, off + j * 15 + s, none⟩) hb, hcj s hs, show cs = _ from hRel]
        exact hu)
      have c0 : wr.cell? ⟨b, off + j * 15, none⟩ = some (.int .i64 ((q : Int))) := QC.out wr hbel 0 (by omega) (by show some (Value.int .i64 _) = some (Value.int .i64 _); congr 2; try omega)
      have c1 : wr.cell? ⟨b, off + j * 15 + 1, none⟩ = some (.int .i64 ((q : Int) + 1)) := QC.out wr hbel 1 (by omega) (by show some (Value.int .i64 _) = some (Value.int .i64 _); congr 2; try omega)
      have c2 : wr.cell? ⟨b, off + j * 15 + 2, none⟩ = some (.int .i64 ((q : Int) + 1 + 1)) := QC.out wr hbel 2 (by omega) (by show some (Value.int .i64 _) = some (Value.int .i64 _); congr 2; try omega)
      have c3 : wr.cell? ⟨b, off + j * 15 + 3, none⟩ = some (.int .i64 ((q : Int) + 1 + 1 + 1)) := QC.out wr hbel 3 (by omega) (by show some (Value.int .i64 _) = some (Value.int .i64 _); congr 2; try omega)
      have c4 : wr.cell? ⟨b, off + j * 15 + 4, none⟩ = some (.int .i64 ((q : Int) + 1 + 1 + 1 + 1)) := QC.out wr hbel 4 (by omega) (by show some (Value.int .i64 _) = some (Value.int .i64 _); congr 2; try omega)
      have c5 : wr.cell? ⟨b, off + j * 15 + 5, none⟩ = some (.int .i64 ((q : Int) + 1 + 1 + 1 + 1 + 1)) := QC.out wr hbel 5 (by omega) (by show some (Value.int .i64 _) = some (Value.int .i64 _); congr 2; try omega)
      have c6 : wr.cell? ⟨b, off + j * 15 + 6, none⟩ = some (.int .i64 ((q : Int) + 1 + 1 + 1 + 1 + 1 + 1)) := QC.out wr hbel 6 (by omega) (by show some (Value.int .i64 _) = some (Value.int .i64 _); congr 2; try omega)
      have c7 : wr.cell? ⟨b, off + j * 15 + 7, none⟩ = some (.int .i64 ((q : Int) + 1 + 1 + 1 + 1 + 1 + 1 + 1)) := QC.out wr hbel 7 (by omega) (by show some (Value.int .i64 _) = some (Value.int .i64 _); congr 2; try omega)
      have c8 : wr.cell? ⟨b, off + j * 15 + 8, none⟩ = some (.int .i64 ((q : Int) + 1 + 1 + 1 + 1 + 1 + 1 + 1 + 1)) := QC.out wr hbel 8 (by omega) (by show some (Value.int .i64 _) = some (Value.int .i64 _); congr 2; try omega)
      have c9 : wr.cell? ⟨b, off + j * 15 + 9, none⟩ = some (.int .i64 ((q : Int) + 1 + 1 + 1 + 1 + 1 + 1 + 1 + 1 + 1)) := QC.out wr hbel 9 (by omega) (by show some (Value.int .i64 _) = some (Value.int .i64 _); congr 2; try omega)
      have c10 : wr.cell? ⟨b, off + j * 15 + 10, none⟩ = some (.int .i64 ((q : Int) + 1 + 1 + 1 + 1 + 1 + 1 + 1 + 1 + 1 + 1)) := QC.out wr hbel 10 (by omega) (by show some (Value.int .i64 _) = some (Value.int .i64 _); congr 2; try omega)
      have c11 : wr.cell? ⟨b, off + j * 15 + 11, none⟩ = some (.int .i64 ((q : Int) + 1 + 1 + 1 + 1 + 1 + 1 + 1 + 1 + 1 + 1 + 1)) := QC.out wr hbel 11 (by omega) (by show some (Value.int .i64 _) = some (Value.int .i64 _); congr 2; try omega)
      have c12 : wr.cell? ⟨b, off + j * 15 + 12, none⟩ = some (.int .i64 ((q : Int) + 1 + 1 + 1 + 1 + 1 + 1 + 1 + 1 + 1 + 1 + 1 + 1)) := QC.out wr hbel 12 (by omega) (by show some (Value.int .i64 _) = some (Value.int .i64 _); congr 2; try omega)
      have c13 : wr.cell? ⟨b, off + j * 15 + 13, none⟩ = some (.string T) := QC.out wr hbel 13 (by omega) (by rw [hT]; rfl)
      have c14 : wr.cell? ⟨b, off + j * 15 + 14, none⟩ = some (.int .i64 ((q : Int) + 1 + 1 + 1 + 1 + 1 + 1 + 1 + 1 + 1 + 1 + 1 + 1 + 1 + 1)) := QC.out wr hbel 14 (by omega) (by show some (Value.int .i64 _) = some (Value.int .i64 _); congr 2; try omega)
      have QT : Hid (∀ W, Below w.heap.size w W → W.cell? ⟨b, off + j * 15 + 13, none⟩ = some (.string T)) := hideP (fun W hW => QC.out W hW 13 (by omega) (by rw [hT]; rfl))
      have QK : Hid (∀ W, Below w.heap.size w W → W.cell? ⟨b, off + j * 15 + 14, none⟩ = some (.int .i64 ((q : Int) + 1 + 1 + 1 + 1 + 1 + 1 + 1 + 1 + 1 + 1 + 1 + 1 + 1 + 1))) := hideP (fun W hW => QC.out W hW 14 (by omega) (by show some (Value.int .i64 _) = some (Value.int .i64 _); congr 2; try omega))
      have hne : (T.toList != T.toList) = false := by simp
      have HB := hideP hbel
      have HBD : Hid (Below w.heap.size w wr.drew) := hideP hbel.drew
      have hqs : q ≤ 16777216 := by omega
      have HQ := hideP hq
      clear hc hcj hcl hRel hbel hT hq
      go_wp2_with fail
      go_region_held3 (fun x => x.cell? ⟨b, off + j * 15 + 13, none⟩ = some (.string T)) (first | exact QT.out _ HBD.out | exact QT.out _ ‹Hid (Below w.heap.size w _)›) ((go_at_call 22; refine (HMT.out _).mono ?_; rintro e w2 ⟨rfl, hb2⟩; have B2 : Hid (Below w.heap.size w w2) := hideP (below_more HBD.out hb2 HBD.out.size); have k14 := QK.out w2 B2.out; clear hb2))
      all_goals
        clear c0 c1 c2 c3 c4 c5 c6 c7 c8 c9 c10 c11 c12 c13 c14
        have B2' := ‹Hid (Below w.heap.size w w2)›
        go_wp2
        go_roundw
        case rel => exact ⟨j + 1, q + 15, by omega, by go_num, congrArg _ (by push_cast; omega), by have := HQ.out; omega, B2'.out⟩
        case measure => simp [intOf]; omega
    · have hji : ¬ (j : Int) < (n : Int) := by omega
      obtain rfl : j = n := by omega
      subst hq
      have HB := hideP hbel
      clear hbel
      go_wp2
      go_ret
      exact ⟨rfl, HB.out⟩
end Go.Proofs.Ytdgfnceipginkaa
namespace Go.Proofs.Ytdgfnceipginkaa
open Go.RowKit Go.Shelf
set_option linter.unusedVariables false
set_option linter.unusedSimpArgs false
attribute [local go_sem] Oper.semAt_some

theorem ok_all {len : Int} : ∀ (xs : List Nd) (i : Int) (T : List Int), 0 ≤ i → (∀ y ∈ T, y ≤ len) → okFrom len i T xs = true → ∀ x ∈ xs, goodB x = true ∧ x.kids ≤ len
  | [], _, _, _, _, _ => by simp
  | x :: xs, i, T, hi, hT, h => by
    simp only [okFrom, Bool.and_eq_true] at h
    obtain ⟨⟨⟨hg, hk⟩, _⟩, hr⟩ := h
    have hk := of_decide_eq_true hk
    have hh : (T.dropWhile (· == i)).headD len ≤ len := by
      cases he : T.dropWhile (· == i) with
      | nil => simp
      | cons a U => simpa using hT a (drop_mem (by rw [he]; exact List.mem_cons_self ..))
    have hU : ∀ y ∈ T.dropWhile (· == i), y ≤ len := fun y hy => hT y (drop_mem hy)
    intro y hy
    rcases List.mem_cons.1 hy with rfl | hy
    · exact ⟨hg, by omega⟩
    · refine ok_all xs (i + 1) _ (by omega) ?_ hr y hy
      intro z hz
      split at hz
      · rcases List.mem_cons.1 hz with rfl | hz
        · omega
        · exact hU z hz
      · exact hU z hz
theorem good_kids {x : Nd} (h : goodB x = true) : 0 ≤ x.kids := by
  unfold goodB at h
  simp at h
  exact h.2
theorem good_text {x : Nd} (h : goodB x = true) : x.tx.size ≤ 1000 := by
  unfold goodB specB at h
  simp only [Bool.and_eq_true, decide_eq_true_eq] at h
  have := h.1.2
  omega
theorem own_row_kept {v : Value} {base n : Nat} {xs : List Value} {A B : World} {row : Option Nat} (h : A.ownsRow base 48 15 v n xs) (hg : A.grownBy B row) (hr : ∀ r, row = some r → ∃ o : Obj, A.heap[r]? = some o ∧ o.isCells = false) : B.ownsRow base 48 15 v n xs := by
  refine World.ownsRow.kept h hg ?_
  obtain ⟨hl, ⟨rfl, _⟩ | ⟨g, cap, cur, rfl, _, hb, _⟩⟩ := h
  · exact .inl rfl
  · refine .inr fun e => ?_
    obtain ⟨o, ho, hc⟩ := hr g e.symm
    rw [hb] at ho
    cases ho
    cases hc
theorem Src.kept {xs : List Nd} {ao : Option Addr} {Bs b off cap : Nat} {A B : World} {row : Option Nat} (h : Src xs ao Bs b off cap A) (hg : A.grownBy B row) (hr : ∀ r, row = some r → ∃ o : Obj, A.heap[r]? = some o ∧ o.isCells = false) : Src xs ao Bs b off cap B := by
  refine ⟨cell_kept h.box hg hr, h.some_, fun i hi => ?_⟩
  obtain ⟨y, hk, hc⟩ := h.at_ i hi
  refine ⟨y, hk, fun j hj => ?_⟩
  have h1 := hc j hj
  rw [List.getElem?_eq_getElem (show j < y.cells.length from hj)] at h1 ⊢
  exact cell_kept h1 hg hr
theorem own_mono {w : World} {base base' n : Nat} {v : Value} {xs : List Value} (h : w.ownsRow base 48 15 v n xs) (hb : base' ≤ base) : w.ownsRow base' 48 15 v n xs := by
  obtain ⟨hl, h | ⟨g, cap, cur, e, hg, hr⟩⟩ := h
  · exact ⟨hl, .inl h⟩
  · exact ⟨hl, .inr ⟨g, cap, cur, e, Nat.le_trans hb hg, hr⟩⟩
theorem row_cells {w : World} {b off : Nat} {xs : List Nd} (hc : ∀ i, i < xs.length → ∃ cs : List Value, cs.length = 15 ∧ NdR 0 w cs (xs.getD i Nd.none) ∧ ∀ j, j < 15 → w.cell? ⟨b, off + i * 15 + j, none⟩ = cs[j]?) :
    ∀ j u, (flatN xs)[j]? = some u → w.cell? ⟨b, off + j, none⟩ = some u := by
  intro j u hj
  have hlt : j < (flatN xs).length := (List.getElem?_eq_some_iff.1 hj).1
  rw [flatN_len] at hlt
  have hi : j / 15 < xs.length := by omega
  obtain ⟨cs, hcl, hR, hcc⟩ := hc (j / 15) hi
  have h1 := flatN_get xs (j / 15) hi (j % 15) (by omega)
  rw [show j / 15 * 15 + j % 15 = j by omega, hj] at h1
  have h2 := hcc (j % 15) (by omega)
  rw [show off + j / 15 * 15 + j % 15 = off + j by omega, show cs = _ from hR, ← h1] at h2
  exact h2
theorem starts_lt (xs : List Nd) : ∀ (f i p : Nat), p ∈ starts xs f i → p < xs.length
  | 0, _, _, h => by simp [starts] at h
  | f + 1, i, p, h => by
    simp only [starts] at h
    split at h
    · rcases List.mem_cons.1 h with rfl | h
      · assumption
      · exact starts_lt xs f _ p h
    · simp at h
theorem own_NRow {w : World} {base n : Nat} {v : Value} {xs : List Nd} (h : w.ownsRow base 48 15 v n (flatN xs)) (hn : xs.length = n) : NRow base w v xs := by
  obtain ⟨ao, cap, rfl, hg⟩ := own_shape h
  refine ⟨ao, n, cap, rfl, hn, fun hp => ?_⟩
  obtain ⟨g, rfl, hb, hlt⟩ := hg hp
  refine ⟨g, 0, rfl, hb, hlt, fun i hi => ⟨(xs.getD i Nd.none).cells, rfl, rfl, fun j hj => ?_⟩⟩
  have h1 := flatN_get xs i (by omega) j hj
  rw [List.getElem?_eq_getElem (show j < (xs.getD i Nd.none).cells.length from hj)] at h1 ⊢
  rw [show 0 + i * 15 + j = i * 15 + j by omega]
  exact (own_cell h h1).1
theorem own_cap {w : World} {base n : Nat} {v : Value} {xs : List Value} (h : w.ownsRow base 48 15 v n xs) : ∀ a n c, v = .slice a n c → n ≤ c ∧ c ≤ 9223372036854775807 := by
  intro a n' c e
  obtain ⟨hl, ⟨rfl, rfl⟩ | ⟨g, cap, cur, rfl, _, _, hn, hm, _⟩⟩ := h
  · simp at e
    omega
  · simp at e
    unfold maxLen at hm
    omega
theorem natI_at {w : World} {base g r c : Nat} {Z : List Nat} (h : IR w base (.slice (some ⟨g, 0, none⟩) r c) r (natI Z)) (hr : Z.length = r) {j : Nat} (hj : j < r) : w.cell? ⟨g, j, none⟩ = some (.int .i64 ((Z.getD j 0 : Nat) : Int)) := by
  rw [World.ownsRow.cellAt h j (by omega)]
  unfold natI
  simp [List.getElem?_map, List.getD, List.getElem?_eq_getElem (show j < Z.length by omega)]
theorem mark_nil (k : Nat) (w : World) : Calls Try.prog 10 #[.slice none 0 0, .int .i64 (k : Int)] w fun e w' => e = .returned (.int .i64 (k : Int)) ∧ w' = w := by
  go_enter Try.func10, Try.ntmps10
  go_wp2
  go_loopw [1, 5] (fun s i wr => s = .int .i64 (k : Int) ∧ i = .int .i64 0 ∧ wr = w) (fun _ _ _ => 0)
  case atStart => exact ⟨rfl, rfl, rfl⟩
  case round =>
    obtain ⟨rfl, rfl, rfl⟩ := hrel
    go_wp2
    go_ret
    exact ⟨rfl, rfl⟩
theorem mark_own {base n k : Nat} {v : Value} {L : List Value} {w : World} (h : w.ownsRow base 48 15 v n L) (hn : n ≤ 1048576) (hk0 : 0 < k) (hk1 : k ≤ 1048576) :
    Calls Try.prog 10 #[v, .int .i64 (k : Int)] w fun e w' => e = .returned (.int .i64 ((k + 15 * n : Nat) : Int)) ∧ w'.ownsRow base 48 15 v n (flatN (marksN k n)) ∧ Below (min base w.heap.size) w w' ∧ ∀ b, b < w.heap.size → v.ownBlock ≠ some b → w'.heap[b]? = w.heap[b]? := by
  rcases h.2 with ⟨rfl, rfl⟩ | ⟨g, cap, cur, rfl, hb, hg, _⟩
  · refine (mark_nil k w).mono ?_
    rintro e w' ⟨rfl, rfl⟩
    exact ⟨rfl, World.ownsRow_nil _ _ _ _, Below.refl _ _, fun _ _ _ => rfl⟩
  · refine (markNodeS_any h hn hk0 hk1).mono ?_
    rintro e w' ⟨rfl, ho, hs⟩
    exact ⟨rfl, ho, hs.below.mono (by omega), fun b hb2 hne => hs.other b hb2 (fun e => hne (by rw [e]; rfl))⟩
theorem own_others {w w' : World} {base n : Nat} {v u : Value} {xs : List Value} (h : w.ownsRow base 48 15 v n xs) (ho : ∀ b, b < w.heap.size → u.ownBlock ≠ some b → w'.heap[b]? = w.heap[b]?) (hne : ∀ b, v.ownBlock = some b → u.ownBlock ≠ some b) : w'.ownsRow base 48 15 v n xs := by
  obtain ⟨hl, h | ⟨b, cap, cur, rfl, hb, hbk, hr⟩⟩ := h
  · exact ⟨hl, .inl h⟩
  · exact ⟨hl, .inr ⟨b, cap, cur, rfl, hb, (ho b (Array.getElem?_eq_some_iff.1 hbk).1 (hne b rfl)).trans hbk, hr⟩⟩
end Go.Proofs.Ytdgfnceipginkaa
