/-
  Rows of rows of nodes: marked, and looked at again.
-/
import Derived.Test.YtjagagbelpihbaaItd
import Derived.Deep.RegionHeld3
namespace Go.Proofs.Ytjagagbelpihbaa
open Go.RowKit
set_option linter.unusedVariables false
set_option linter.unusedSimpArgs false

/-- How many nodes stand ahead of row j. -/
def offs (f : Nat → List Nd) : Nat → Nat
  | 0 => 0
  | j + 1 => offs f j + (f j).length
theorem offs_mono (f : Nat → List Nd) : ∀ (n j : Nat), j ≤ n → offs f j ≤ offs f n
  | 0, j, h => by obtain rfl : j = 0 := by omega
                  exact Nat.le_refl _
  | n + 1, j, h => by
    by_cases hj : j = n + 1
    · subst hj; exact Nat.le_refl _
    · have := offs_mono f n j (by omega)
      simp only [offs]
      omega
def marked (k : Nat) (f : Nat → List Nd) (j : Nat) : List Nd := marksN (k + 15 * offs f j) (f j).length
def markF (k : Nat) (f : Nat → List Nd) (i j : Nat) : List Nd := if j < i then marked k f j else f j
theorem marked_len (k : Nat) (f : Nat → List Nd) (j : Nat) : (marked k f j).length = (f j).length := marksN_len _ _
theorem markF_len (k : Nat) (f : Nat → List Nd) (i j : Nat) : (markF k f i j).length = (f j).length := by
  unfold markF
  split
  · exact marked_len k f j
  · rfl

theorem own25_others {w w' : World} {base n : Nat} {v u : Value} {xs : List Value} (h : w.ownsRow base 25 1 v n xs) (ho : ∀ b, b < w.heap.size → u.ownBlock ≠ some b → w'.heap[b]? = w.heap[b]?) (hne : ∀ b, v.ownBlock = some b → u.ownBlock ≠ some b) : w'.ownsRow base 25 1 v n xs := by
  obtain ⟨hl, h | ⟨b, cap, cur, rfl, hb, hbk, hr⟩⟩ := h
  · exact ⟨hl, .inl h⟩
  · exact ⟨hl, .inr ⟨b, cap, cur, rfl, hb, (ho b (Array.getElem?_eq_some_iff.1 hbk).1 (hne b rfl)).trans hbk, hr⟩⟩
theorem own25_below {base n : Nat} {w w' : World} {v : Value} {xs : List Value} (h : w.ownsRow base 25 1 v n xs) (hb : Below w.heap.size w w') : w'.ownsRow base 25 1 v n xs := by
  obtain ⟨hl, h | ⟨g, cap, cur, rfl, hg, hbk, hr⟩⟩ := h
  · exact ⟨hl, .inl h⟩
  · exact ⟨hl, .inr ⟨g, cap, cur, rfl, hg, (hb.block g (Array.getElem?_eq_some_iff.1 hbk).1).trans hbk, hr⟩⟩
theorem Lsts.below {base : Nat} {w w' : World} {vs : List Value} {f : Nat → List Nd} (h : Lsts base w vs f) (hb : Below w.heap.size w w') : Lsts base w' vs f :=
  ⟨fun i u hu => own_below (h.own i u hu) hb, h.apart⟩

set_option maxRecDepth 20000 in
set_option maxHeartbeats 4000000 in
theorem markNodeSS_any {base n k : Nat} {v : Value} {vs : List Value} {f : Nat → List Nd} {w : World} (h : w.ownsRow base 25 1 v n vs) (hl : Lsts base w vs f) (hbase : base ≤ w.heap.size) (hk0 : 0 < k) (hk1 : k + 15 * offs f n ≤ 1048576) (hn : n ≤ 1048576) :
    Calls Try.prog 17 #[v, .int .i64 (k : Int)] w fun e w' => e = .returned (.int .i64 ((k + 15 * offs f n : Nat) : Int)) ∧ w'.ownsRow base 25 1 v n vs ∧ Lsts base w' vs (marked k f) ∧ Below base w w' := by
  have hlen := own25_len h
  obtain ⟨ao, cap, rfl, hg⟩ := own25_shape h
  have HO := hideP h
  have HLL := hideP hl
  have HG := hideP hg
  clear h hl hg
  go_enter Try.func17, Try.ntmps17
  go_wp2
  go_loopw [1, 5] (fun s i wr => ∃ j : Nat, j ≤ n ∧ i = .int .i64 (j : Int) ∧ s = .int .i64 ((k + 15 * offs f j : Nat) : Int) ∧ Hid (wr.ownsRow base 25 1 (.slice ao n cap) n vs ∧ Lsts base wr vs (markF k f j) ∧ Below base w wr)) (fun _ i _ => n - (intOf i).toNat)
  case atStart => exact ⟨0, by omega, rfl, by simp [offs], hideP ⟨HO.out, ⟨fun i u hu => by rw [show markF k f 0 i = f i by simp [markF]]; exact HLL.out.own i u hu, HLL.out.apart⟩, Below.refl _ _⟩⟩
  case round =>
    obtain ⟨j, hj, rfl, rfl, HI⟩ := hrel
    by_cases hjn : j < n
    · have hji : (j : Int) < (n : Int) := by omega
      obtain ⟨g, rfl, hg0, hg1⟩ := HG.out (by omega)
      obtain ⟨u, hu⟩ : ∃ u, vs[j]? = some u := ⟨_, List.getElem?_eq_getElem (by omega)⟩
      have hc0 := (own25_cell HI.out.1 hu).1
      have hown := HI.out.2.1.own j u hu
      have hml : (f j).length ≤ 1048576 ∧ k + 15 * offs f j ≤ 1048576 := by
        have := offs_mono f n (j + 1) (by omega)
        simp only [offs] at this
        omega
      obtain ⟨m, hm⟩ : ∃ m, m = (f j).length := ⟨_, rfl⟩
      obtain ⟨q, hq⟩ : ∃ q, q = k + 15 * offs f j := ⟨_, rfl⟩
      have hq2 : 0 < q ∧ q ≤ 1048576 := by omega
      rw [markF_len, ← hm] at hown
      rw [← hm] at hml
      have HQ := hideP hq
      have HM := hideP hm
      have HML := hideP hml.1
      have HU := hideP hu
      rw [← hq]
      obtain ⟨au, cu, rfl, _⟩ := own_shape hown
      have MK : Hid (Calls Try.prog 16 #[.slice au m cu, .int .i64 (q : Int)] wr fun e w' => e = .returned (.int .i64 ((q + 15 * m : Nat) : Int)) ∧ w'.ownsRow base 60 15 (.slice au m cu) m (flatN (marksN q m)) ∧ Below (min base wr.heap.size) wr w' ∧ ∀ b, b < wr.heap.size → (Value.slice au m cu).ownBlock ≠ some b → w'.heap[b]? = wr.heap[b]?) := hideP (mark_own hown hml.1 hq2.1 hq2.2)
      have HOB := hideP (other_block HI.out.1 hown)
      clear hown hu hq hm hml hq2 hg0
      go_wp2_with (go_at_call 16; refine MK.out.mono ?_; rintro e w2 ⟨rfl, ho2, hb2, hot⟩; have H2 : Hid (w2.ownsRow base 25 1 (.slice (some ⟨g, 0, none⟩) n cap) n vs ∧ Lsts base w2 vs (markF k f (j + 1)) ∧ Below base w w2) := hideP (by
        refine ⟨own25_others HI.out.1 hot HOB.out, ⟨fun i u hu => ?_, HLL.out.apart⟩, HI.out.2.2.trans (hb2.mono (by have := HI.out.2.2.size; omega))⟩
        by_cases hij : i = j
        · subst hij
          obtain rfl : u = .slice au m cu := by have h1 := HU.out; rw [hu] at h1; exact Option.some.inj h1
          rw [show markF k f (i + 1) i = marksN q m by unfold markF; rw [if_pos (by omega)]; unfold marked; rw [← HQ.out, ← HM.out], marksN_len]
          exact ho2
        · rw [show markF k f (j + 1) i = markF k f j i by unfold markF; by_cases h1 : i < j; · rw [if_pos h1, if_pos (by omega)]
                                                          · rw [if_neg h1, if_neg (by omega)]]
          exact own_others (HI.out.2.1.own i u hu) hot (fun b hb => HLL.out.apart i j u _ hij hu HU.out b hb)); clear ho2 hb2 hot)
      go_roundw
      case rel =>
        refine ⟨j + 1, by omega, by go_num, ?_, H2⟩
        rw [show k + 15 * offs f (j + 1) = q + 15 * m by rw [HQ.out, HM.out]; simp only [offs]; omega]
        simp
      case measure => simp [intOf]; omega
    · have hji : ¬ (j : Int) < (n : Int) := by omega
      obtain rfl : j = n := by omega
      go_wp2
      go_ret
      refine ⟨rfl, HI.out.1, ⟨fun i u hu => ?_, HLL.out.apart⟩, HI.out.2.2⟩
      have h1 := HI.out.2.1.own i u hu
      have h2 : i < j := by rw [← hlen]; exact (List.getElem?_eq_some_iff.1 hu).1
      rw [show markF k f j i = marked k f i by unfold markF; rw [if_pos h2]] at h1
      exact h1

set_option maxRecDepth 20000 in
set_option maxHeartbeats 4000000 in
theorem heldNodeSS_any {n k : Nat} {v : Value} {f : Nat → List Nd} {w : World} (h : RR w v n (marked k f)) (hk0 : 0 < k) (hk1 : k + 15 * offs f n ≤ 1048576) (hn : n ≤ 1048576) :
    Calls Try.prog 18 #[v, .int .i64 (k : Int)] w fun e w' => e = .returned (.int .i64 ((k + 15 * offs f n : Nat) : Int)) ∧ Below w.heap.size w w' := by
  obtain ⟨ao, cap, rfl, hr⟩ := h
  have HR := hideP hr
  clear hr
  go_enter Try.func18, Try.ntmps18
  go_wp2
  go_loopw [1, 5] (fun s i wr => ∃ j : Nat, j ≤ n ∧ i = .int .i64 (j : Int) ∧ s = .int .i64 ((k + 15 * offs f j : Nat) : Int) ∧ Hid (Below w.heap.size w wr)) (fun _ i _ => n - (intOf i).toNat)
  case atStart => exact ⟨0, by omega, rfl, by simp [offs], hideP (Below.refl _ _)⟩
  case round =>
    obtain ⟨j, hj, rfl, rfl, HI⟩ := hrel
    by_cases hjn : j < n
    · have hji : (j : Int) < (n : Int) := by omega
      obtain ⟨b, off, rfl, hb, hc⟩ := HR.out (by omega)
      obtain ⟨u, hu, hrow⟩ := hc j hjn
      have hml : (f j).length ≤ 1048576 ∧ k + 15 * offs f j ≤ 1048576 := by
        have := offs_mono f n (j + 1) (by omega)
        simp only [offs] at this
        omega
      unfold marked at hrow
      obtain ⟨m, hm⟩ : ∃ m, m = (f j).length := ⟨_, rfl⟩
      obtain ⟨q, hq⟩ : ∃ q, q = k + 15 * offs f j := ⟨_, rfl⟩
      have hq2 : 0 < q ∧ q ≤ 1048576 := by omega
      rw [← hm, ← hq] at hrow
      rw [← hm] at hml
      have HQ := hideP hq
      have HM := hideP hm
      rw [← hq]
      have hrow2 : NRow 0 wr u (marksN q m) := SRow.below ndStable hrow HI.out
      obtain ⟨au, cu, rfl⟩ := hrow2.shape
      rw [marksN_len] at hrow2 hu
      have hc0 : wr.cell? ⟨b, off + j, none⟩ = some (.slice au m cu) := (HI.out.cell (p := ⟨b, off + j, none⟩) hb).trans hu
      have MK : Hid (Calls Try.prog 30 #[.slice au m cu, .int .i64 (q : Int)] wr fun e w' => e = .returned (.int .i64 ((q + 15 * m : Nat) : Int)) ∧ Below wr.heap.size wr w') := hideP (heldNodeS_any hrow2 hml.1 hq2.1 hq2.2)
      have hqm : 0 ≤ ((q + 15 * m : Nat) : Int) := by omega
      obtain ⟨z, hz⟩ : ∃ z, z = q + 15 * m := ⟨_, rfl⟩
      rw [← hz] at MK
      have HZ := hideP hz
      have hz0 : ¬ (z : Int) < 0 := by omega
      clear hrow hrow2 hu hq hm hml hq2 hc hqm hz
      go_wp2_with (go_at_call 30; refine MK.out.mono ?_; rintro e w2 ⟨rfl, hb2⟩; have H2 : Hid (Below w.heap.size w w2) := hideP (below_more HI.out hb2 HI.out.size); clear hb2)
      go_roundw
      case rel =>
        refine ⟨j + 1, by omega, by go_num, ?_, H2⟩
        rw [show k + 15 * offs f (j + 1) = z by rw [HZ.out, HQ.out, HM.out]; simp only [offs]; omega]
      case measure => simp [intOf]; omega
    · have hji : ¬ (j : Int) < (n : Int) := by omega
      obtain rfl : j = n := by omega
      go_wp2
      go_ret
      exact ⟨rfl, HI.out⟩
end Go.Proofs.Ytjagagbelpihbaa
