/-
  The program's question whether an exception can be.
-/
import Derived.Test.YtejigikcpmhhoaaExc
import Derived.Test.YtejigikcpmhhoaaAsc
namespace Go.Proofs.Ytejigikcpmhhoaa
open Go.RowKit
set_option linter.unusedVariables false
set_option linter.unusedSimpArgs false

def plcB (m : Nat) (zs : List Int) : Bool := decide (PlcP m zs ∧ AscI zs)
theorem plc_no {m : Nat} {zs : List Int} {j : Nat} (hj : j < zs.length) (h : ¬ (1 ≤ zs.getD j 0 ∧ zs.getD j 0 < m)) : plcB m zs = false := decide_eq_false fun ha => h (ha.1 j hj)

set_option maxHeartbeats 1000000 in
theorem places_any {v : Value} {zs : List Int} {m : Nat} {w : World} (h : Row w v zs) (hl : zs.length ≤ 1048576) (hm : m ≤ 60) : Calls Try.prog 63 #[v, .int .i64 (m : Int)] w fun e w' => e = .returned (.bool (plcB m zs)) ∧ Below w.heap.size w w' := by
  have HX := hideP h
  obtain ⟨ao, n, cap, rfl, hn, hr⟩ := h
  have HR : Hid (0 < n → ∃ b off, ao = some ⟨b, off, none⟩ ∧ b < w.heap.size ∧ ∀ i, i < n → w.cell? ⟨b, off + i, none⟩ = some (.int .i64 (zs.getD i 0))) := hr
  have HN := hideP hn
  have hnl : n ≤ 1048576 := by omega
  obtain ⟨ab, hab⟩ : ∃ b, b = decide (AscI zs) := ⟨_, rfl⟩
  have c1 : Hid (∀ W, Below w.heap.size w W → Calls Try.prog 71 #[.slice ao n cap, .func (.func 72) #[] #[]] W fun e w' => e = .returned (.bool ab) ∧ Below W.heap.size W w') := hideP (fun W hW => by rw [hab]; exact ascI_any (HX.out.below hW) hl)
  have HAB := hideP hab
  clear hr hn hl hab HX
  go_enter Try.func63, Try.ntmps63
  go_wp2
  go_loop [9] (fun i => ∃ k : Nat, k ≤ n ∧ i = .int .i64 k ∧ Hid (∀ j, j < k → 1 ≤ zs.getD j 0 ∧ zs.getD j 0 < m)) (fun i => n - (intOf i).toNat)
  case atStart => exact ⟨0, by omega, rfl, hideP (fun j hj => by omega)⟩
  case round =>
    obtain ⟨k, hk, rfl, HJ⟩ := hrel
    by_cases hlt : k < n
    · have hki : (k : Int) < (n : Int) := by omega
      obtain ⟨b, off, rfl, hb, hc⟩ := HR (by omega)
      obtain ⟨z, hz⟩ : ∃ z, z = zs.getD k 0 := ⟨_, rfl⟩
      have hcell : w.cell? ⟨b, off + k, none⟩ = some (.int .i64 z) := by rw [hz]; exact hc k hlt
      have HZ := hideP hz
      have HKL : Hid (k < zs.length) := hideP (by have := HN.out; omega)
      clear hz hc
      by_cases h0 : z < 1
      · have e1 : decide (z < 1) = true := by simp; omega
        have HE : Hid (plcB m zs = false) := hideP (plc_no HKL.out (by rw [← HZ.out]; omega))
        clear h0
        go_wp2
        go_ret
        exact ⟨retB HE.out.symm, Below.refl _ _⟩
      · have e1 : decide (z < 1) = false := by simp; omega
        by_cases h1 : (m : Int) ≤ z
        · have e2 : decide ((m : Int) ≤ z) = true := by simp; omega
          have HE : Hid (plcB m zs = false) := hideP (plc_no HKL.out (by rw [← HZ.out]; omega))
          clear h0 h1
          go_wp2
          go_ret
          exact ⟨retB HE.out.symm, Below.refl _ _⟩
        · have e2 : decide ((m : Int) ≤ z) = false := by simp; omega
          have HB : Hid (1 ≤ z ∧ z < (m : Int)) := hideP (by omega)
          clear h0 h1
          go_wp2
          go_round
          case rel =>
            refine ⟨k + 1, by omega, by go_num, hideP (fun j hj => ?_)⟩
            by_cases hjk : j = k
            · subst hjk; rw [← HZ.out]; exact HB.out
            · exact HJ.out j (by omega)
          case measure => simp [intOf]; omega
    · have hge : ¬ ((k : Int) < (n : Int)) := by omega
      go_wp2_with fail
      refine (c1.out _ (Below.refl _ _)).mono ?_
      rintro e w1 ⟨rfl, hb1⟩
      have HE : Hid (ab = plcB m zs) := hideP (by
        rw [HAB.out]
        exact decide_eq_decide.2 ⟨fun h => ⟨fun j hj => HJ.out j (by have := HN.out; omega), h⟩, fun h => h.2⟩)
      go_wp2
      go_ret
      exact ⟨retB HE.out, hb1⟩

theorem ex_len {x : Pt} (h : ¬ (1 ≤ x.s.size ∧ x.s.size ≤ 60)) : exB x = false := decide_eq_false fun hp => h hp.1.2
theorem ex_low {x : Pt} (h : decide (AllLow x.s) = false) : exB x = false := decide_eq_false fun hp => of_decide_eq_false h hp.1.1
theorem ex_plc {x : Pt} (h1 : 1 ≤ x.s.size) (h2 : x.s.size ≤ 60) (h : decide (AllLow x.s) = true) : exB x = plcB x.s.size x.z :=
  decide_eq_decide.2 ⟨fun hp => hp.2, fun hp => ⟨⟨of_decide_eq_true h, h1, h2⟩, hp⟩⟩

set_option maxHeartbeats 2000000 in
theorem implEx_any {v : Value} {s : ByteArray} {zs : List Int} {w : World} (h : Row w v zs) (hl : zs.length ≤ 1048576) (hs : s.size ≤ 9223372036854775807) :
    Calls Try.prog 48 #[patV s v] w fun e w' => e = .returned (.bool (exB ⟨s, zs⟩)) ∧ Below w.heap.size w w' := by
  have HX := hideP h
  obtain ⟨ao, n, cap, rfl, hn, -⟩ := h
  clear hn
  by_cases h1 : 1 ≤ s.size
  rotate_left
  · have e1 : decide (1 ≤ (s.size : Int)) = false := by simp; omega
    have HE : Hid (exB ⟨s, zs⟩ = false) := hideP (ex_len (x := ⟨s, zs⟩) (fun h => h1 h.1))
    clear h1
    go_enter Try.func48, Try.ntmps48
    go_wp2
    go_ret
    exact ⟨retB HE.out.symm, below1 _ _⟩
  by_cases h60 : s.size ≤ 60
  rotate_left
  · have e1 : decide (1 ≤ (s.size : Int)) = true := by simp; omega
    have e2 : decide ((s.size : Int) ≤ 60) = false := by simp; omega
    have HE : Hid (exB ⟨s, zs⟩ = false) := hideP (ex_len (x := ⟨s, zs⟩) (fun h => h60 h.2))
    clear h1 h60
    go_enter Try.func48, Try.ntmps48
    go_wp2
    go_ret
    exact ⟨retB HE.out.symm, below1 _ _⟩
  have e1 : decide (1 ≤ (s.size : Int)) = true := by simp; omega
  have e2 : decide ((s.size : Int) ≤ 60) = true := by simp; omega
  obtain ⟨al, hal⟩ : ∃ b, b = decide (AllLow s) := ⟨_, rfl⟩
  have c1 : Hid (∀ W, Calls Try.prog 57 #[.string s] W fun e w' => e = .returned (.bool al) ∧ Below W.heap.size W w') := hideP (fun W => by rw [hal]; exact allSmall_any s W hs)
  have HAL := hideP hal
  clear hal
  cases al
  · have HE : Hid (exB ⟨s, zs⟩ = false) := hideP (ex_low (x := ⟨s, zs⟩) HAL.out.symm)
    go_enter Try.func48, Try.ntmps48
    go_wp2_with fail
    refine (c1.out _).mono ?_
    rintro e w1 ⟨rfl, hb1⟩
    have B1 : Hid (Below w.heap.size w w1) := hideP (below_more (below1 _ _) hb1 (by simp))
    clear hb1
    go_wp2
    go_ret
    exact ⟨retB HE.out.symm, B1.out⟩
  · have HE : Hid (exB ⟨s, zs⟩ = plcB s.size zs) := hideP (ex_plc (x := ⟨s, zs⟩) h1 h60 HAL.out.symm)
    obtain ⟨pb, hpb⟩ : ∃ b, b = plcB s.size zs := ⟨_, rfl⟩
    have c2 : Hid (∀ W, Below w.heap.size w W → Calls Try.prog 63 #[.slice ao n cap, .int .i64 (s.size : Int)] W fun e w' => e = .returned (.bool pb) ∧ Below W.heap.size W w') := hideP (fun W hW => by rw [hpb]; exact places_any (HX.out.below hW) hl h60)
    have HPB := hideP hpb
    clear hpb
    go_enter Try.func48, Try.ntmps48
    go_wp2_with fail
    refine (c1.out _).mono ?_
    rintro e w1 ⟨rfl, hb1⟩
    have q1 : w1.cell? ⟨w.heap.size, 1, none⟩ = some (.slice ao n cap) := by rw [(bcell hb1).1 _ _ (by simp)]; simp [go_sem]
    have hz1 : w.heap.size < w1.heap.size := by have := hb1.size; simp at this; omega
    have B1 : Hid (Below w.heap.size w w1) := hideP (below_more (below1 _ _) hb1 (by simp))
    clear hb1
    go_wp2_with fail
    refine (c2.out _ B1.out).mono ?_
    rintro e w2 ⟨rfl, hb2⟩
    have B2 : Hid (Below w.heap.size w w2) := hideP (below_more B1.out hb2 B1.out.size)
    clear hb2
    go_wp2
    go_ret
    exact ⟨retB (HPB.out.trans HE.out.symm), B2.out⟩
end Go.Proofs.Ytejigikcpmhhoaa
