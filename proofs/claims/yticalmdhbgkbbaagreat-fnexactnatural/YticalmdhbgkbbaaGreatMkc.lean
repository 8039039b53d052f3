/-
  Marked nodes looked at.
-/
import Derived.Test.YticalmdhbgkbbaaGreatMkb
import Derived.Deep.RegionWith
import Derived.Deep.RegionHeld3
namespace Go.Proofs.YticalmdhbgkbbaaGreat
open Go.RowKit
set_option linter.unusedVariables false
set_option linter.unusedSimpArgs false

set_option maxRecDepth 20000 in
set_option maxHeartbeats 8000000 in
theorem heldNodeS_any {v : Value} {n k : Nat} {w : World} (h : NRow 0 w v (marksN k n)) (hn : n ≤ 1048576) (hk0 : 0 < k) (hk1 : k ≤ 1048576) :
    Calls Tryz.prog 51 #[v, .int .i64 (k : Int)] w fun e w' => e = .returned (.int .i64 ((k + 15 * n : Nat) : Int)) ∧ Below w.heap.size w w' := by
  obtain ⟨ao, n', cap, rfl, hl, hr⟩ := h
  obtain rfl : n = n' := by rw [← hl, marksN_len]
  have HR : Hid (0 < n → ∃ b off, ao = some ⟨b, off, none⟩ ∧ 0 ≤ b ∧ b < w.heap.size ∧ ∀ i, i < n → ∃ cs : List Value, cs.length = 15 ∧ NdR 0 w cs ((marksN k n).getD i Nd.none) ∧ ∀ j, j < 15 → w.cell? ⟨b, off + i * 15 + j, none⟩ = cs[j]?) := hideP hr
  clear hr hl
  go_enter Tryz.func51, Tryz.ntmps51
  go_wp2
  go_loopw [1, 5] (fun s i wr => ∃ (j q : Nat), j ≤ n ∧ i = .int .i64 (j : Int) ∧ s = .int .i64 (q : Int) ∧ q = k + 15 * j ∧ Below w.heap.size w wr) (fun _ i _ => n - (intOf i).toNat)
  case atStart => exact ⟨0, k, by omega, rfl, rfl, by omega, Below.refl _ _⟩
  case round =>
    obtain ⟨j, q, hj, rfl, rfl, hq, hbel⟩ := hrel
    by_cases hjn : j < n
    · have hji : (j : Int) < (n : Int) := by omega
      obtain ⟨T, hT⟩ : ∃ T, T = mtext (q + 13) := ⟨_, rfl⟩
      have HMT : Hid (∀ W : World, Calls Tryz.prog 50 #[.int .i64 ((q : Int) + 1 + 1 + 1 + 1 + 1 + 1 + 1 + 1 + 1 + 1 + 1 + 1 + 1)] W fun e w' => e = .returned (.string T) ∧ Below W.heap.size W w') := hideP (fun W => by
        have hh : (q : Int) + 1 + 1 + 1 + 1 + 1 + 1 + 1 + 1 + 1 + 1 + 1 + 1 + 1 = ((q + 13 : Nat) : Int) := by push_cast; omega
        rw [hh, hT]
        exact markText_any (q + 13) (by omega) (by omega) W)
      obtain ⟨b, off, rfl, _, hb, hc⟩ := HR.out (by omega)
      obtain ⟨cs, hcl, hRel, hcj⟩ := hc j hjn
      rw [marksN_get hjn, ← hq] at hRel
      have QC : Hid (∀ W, Below w.heap.size w W → ∀ s, s < 15 → ∀ {u : Value}, (mkN q).cells[s]? = some u → W.cell? ⟨b, off + j * 15 + s, none⟩ = some u) := hideP (fun W hW s hs u hu => by
        rw [Below.cell hW (p := ⟨b, off + j * 15 + s, none⟩) hb, hcj s hs, show cs = _ from hRel]
        exact hu)
      have c0 : wr.cell? ⟨b, off + j * 15, none⟩ = some (.int .i64 ((q : Int))) := QC.out wr hbel 0 (by omega) (by show some (Value.int .i64 _) = some (Value.int .i64 _); congr 2; try omega)
      have c1 : wr.cell? ⟨b, off + j * 15 + 1, none⟩ = some (.int .i64 ((q : Int) + 1)) := QC.out wr hbel 1 (by omega) (by show some (Value.int .i64 _) = some (Value.int .i64 _); congr 2; try omega)
      have c2 : wr.cell? ⟨b, off + j * 15 + 2, none⟩ = some (.int .i64 ((q : Int) + 1 + 1)) := QC.out wr hbel 2 (by omega) (by show some (Value.int .i64 _) = some (Value.int .i64 _); congr 2; try omega)
      have c3 : wr.cell? ⟨b, off + j * 15 + 3, none⟩ = some (.int .i64 ((q : Int) + 1 + 1 + 1)) := QC.out wr hbel 3 (by omega) (by show some (Value.int .i64 _) = some (Value.int .i64 _); congr 2; try omega)
      have c4 : wr.cell? ⟨b, off + j * 15 + 4, none⟩ = some (.int .i64 ((q : Int) + 1 + 1 + 1 + 1)) := QC.out wr hbel 4 (by omega) (by show some (Value.int .i64 _) = some (Value.int .i64 _); congr 2; try omega)
      have c5 : wr.cell? ⟨b, off + j * 15 + 5, none⟩ = some (.int .i64 ((q : Int) + 1 + 1 + 1 + 1 + 1)) := QC.out wr hbel 5 (by omega) (by show some (Value.int .i64 _) = some (Value.int .i64 _); congr 2; try omega)
      have c6 : wr.cell? ⟨b, off + j * 15 + 6, none⟩ = some (.int .i64 ((q : Int) + 1 + 1 + 1 + 1 + 1 + 1)) := QC.out wr hbel 6 (by omega) (by show some (Value.int .i64 _) = some (Value.int .i64 _); congr 2; try omega)
      have c7 : wr.cell? ⟨b, off + j * 15 + 7, none⟩ = some (.int .i64 ((q : Int) + 1 + 1 + 1 + 1 + 1 + 1 + 1)) := QC.out wr hbel 7 (by omega) (by show some (Value.int .i64 _) = some (Value.int .i64 _); congr 2; try omega)
      have c8 : wr.cell? ⟨b, off + j * 15 + 8, none⟩ = some (.int .i64 ((q : Int) + 1 + 1 + 1 + 1 + 1 + 1 + 1 + 1)) := QC.out wr hbel 8 (by omega) (by show some (Value.int .i64 _) = some (Value.int .i64 _); congr 2; try omega)
      have c9 : wr.cell? ⟨b, off + j * 15 + 9, none⟩ = some (.int .i64 ((q : Int) + 1 + 1 + 1 + 1 + 1 + 1 + 1 + 1 + 1)) := QC.out wr hbel 9 (by omega) (by show some (Value.int .i64 _) = some (Value.int .i64 _); congr 2; try omega)
      have c10 : wr.cell? ⟨b, off + j * 15 + 10, none⟩ = some (.int .i64 ((q : Int) + 1 + 1 + 1 + 1 + 1 + 1 + 1 + 1 + 1 + 1)) := QC.out wr hbel 10 (by omega) (by show some (Value.int .i64 _) = some (Value.int .i64 _); congr 2; try omega)
      have c11 : wr.cell? ⟨b, off + j * 15 + 11, none⟩ = some (.int .i64 ((q : Int) + 1 + 1 + 1 + 1 + 1 + 1 + 1 + 1 + 1 + 1 + 1)) := QC.out wr hbel 11 (by omega) (by show some (Value.int .i64 _) = some (Value.int .i64 _); congr 2; try omega)
      have c12 : wr.cell? ⟨b, off + j * 15 + 12, none⟩ = some (.int .i64 ((q : Int) + 1 + 1 + 1 + 1 + 1 + 1 + 1 + 1 + 1 + 1 + 1 + 1)) := QC.out wr hbel 12 (by omega) (by show some (Value.int .i64 _) = some (Value.int .i64 _); congr 2; try omega)
      have c13 : wr.cell? ⟨b, off + j * 15 + 13, none⟩ = some (.string T) := QC.out wr hbel 13 (by omega) (by rw [hT]; rfl)
      have c14 : wr.cell? ⟨b, off + j * 15 + 14, none⟩ = some (.int .i64 ((q : Int) + 1 + 1 + 1 + 1 + 1 + 1 + 1 + 1 + 1 + 1 + 1 + 1 + 1 + 1)) := QC.out wr hbel 14 (by omega) (by show some (Value.int .i64 _) = some (Value.int .i64 _); congr 2; try omega)
      have QT : Hid (∀ W, Below w.heap.size w W → W.cell? ⟨b, off + j * 15 + 13, none⟩ = some (.string T)) := hideP (fun W hW => QC.out W hW 13 (by omega) (by rw [hT]; rfl))
      have QK : Hid (∀ W, Below w.heap.size w W → W.cell? ⟨b, off + j * 15 + 14, none⟩ = some (.int .i64 ((q : Int) + 1 + 1 + 1 + 1 + 1 + 1 + 1 + 1 + 1 + 1 + 1 + 1 + 1 + 1))) := hideP (fun W hW => QC.out W hW 14 (by omega) (by show some (Value.int .i64 _) = some (Value.int .i64 _); congr 2; try omega))
      have hne : (T.toList != T.toList) = false := by simp
      have HB := hideP hbel
      have HBD : Hid (Below w.heap.size w wr.drew) := hideP hbel.drew
      have hqs : q ≤ 16777216 := by omega
      have HQ := hideP hq
      clear hc hcj hcl hRel hbel hT hq
      go_wp2_with fail
      go_region_held3 (fun x => x.cell? ⟨b, off + j * 15 + 13, none⟩ = some (.string T)) (first | exact QT.out _ HBD.out | exact QT.out _ ‹Hid (Below w.heap.size w _)›) ((go_at_call 50; refine (HMT.out _).mono ?_; rintro e w2 ⟨rfl, hb2⟩; have B2 : Hid (Below w.heap.size w w2) := hideP (below_more HBD.out hb2 HBD.out.size); have k14 := QK.out w2 B2.out; clear hb2))
      all_goals
        clear c0 c1 c2 c3 c4 c5 c6 c7 c8 c9 c10 c11 c12 c13 c14
        have B2' := ‹Hid (Below w.heap.size w w2)›
        go_wp2
        go_roundw
        case rel => exact ⟨j + 1, q + 15, by omega, by go_num, congrArg _ (by push_cast; omega), by have := HQ.out; omega, B2'.out⟩
        case measure => simp [intOf]; omega
    · have hji : ¬ (j : Int) < (n : Int) := by omega
      obtain rfl : j = n := by omega
      subst hq
      have HB := hideP hbel
      clear hbel
      go_wp2
      go_ret
      exact ⟨rfl, HB.out⟩
end Go.Proofs.YticalmdhbgkbbaaGreat

