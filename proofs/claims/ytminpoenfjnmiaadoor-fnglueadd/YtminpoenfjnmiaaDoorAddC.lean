/-
  The walk of the program's AddGlue.
-/
import Derived.Test.YtminpoenfjnmiaaDoorAddB
namespace Go.Proofs.YtminpoenfjnmiaaDoor
open Go.RowKit
set_option linter.unusedVariables false
set_option linter.unusedSimpArgs false

/-- The three blocks that the call lays first: its two arguments and its result. -/
def three (w : World) (s p po m mo s' p' po' m' mo' : Int) : World :=
  ((w.alloc (.cells #[.int .i64 s, .int .i64 p, .int .i64 po, .int .i64 m, .int .i64 mo] 25)).alloc (.cells #[.int .i64 s', .int .i64 p', .int .i64 po', .int .i64 m', .int .i64 mo'] 25)).alloc (.cells #[.int .i64 0, .int .i64 0, .int .i64 0, .int .i64 0, .int .i64 0] 25)

theorem tail_below {w wc : World} (h : Below w.heap.size w wc) (v0 v1 v2 v3 v4 : Value) (x y : Obj) :
    Below w.heap.size w (((((((wc.setCell ⟨w.heap.size + 1 + 1, 0, none⟩ v0).setCell ⟨w.heap.size + 1 + 1, 1, none⟩ v1).setCell ⟨w.heap.size + 1 + 1, 2, none⟩ v2).setCell ⟨w.heap.size + 1 + 1, 3, none⟩ v3).setCell ⟨w.heap.size + 1 + 1, 4, none⟩ v4).alloc x).alloc y) :=
  bal (bal (((((h.setCell (by simp; omega) v0).setCell (by simp; omega) v1).setCell (by simp; omega) v2).setCell (by simp; omega) v3).setCell (by simp; omega) v4) x) y

theorem lt_of_cell {w : World} {b o : Nat} {v : Value} (h : w.cell? ⟨b, o, none⟩ = some v) : b < w.heap.size := by
  by_cases hb : b < w.heap.size
  · exact hb
  · exfalso
    rw [World.cell?] at h
    simp [Array.getElem?_eq_none (show w.heap.size ≤ b by omega)] at h

/-- What the three blocks hold, in every world that only made memory since; the third may be written. -/
theorem three_cells {w wc : World} {s p po m mo s' p' po' m' mo' : Int} (hb : Below (three w s p po m mo s' p' po' m' mo').heap.size (three w s p po m mo s' p' po' m' mo') wc) :
    (wc.cell? ⟨w.heap.size, 0, none⟩ = some (.int .i64 s) ∧ wc.cell? ⟨w.heap.size, 1, none⟩ = some (.int .i64 p) ∧ wc.cell? ⟨w.heap.size, 2, none⟩ = some (.int .i64 po) ∧ wc.cell? ⟨w.heap.size, 3, none⟩ = some (.int .i64 m) ∧ wc.cell? ⟨w.heap.size, 4, none⟩ = some (.int .i64 mo) ∧
      wc.cell? ⟨w.heap.size + 1, 0, none⟩ = some (.int .i64 s') ∧ wc.cell? ⟨w.heap.size + 1, 1, none⟩ = some (.int .i64 p') ∧ wc.cell? ⟨w.heap.size + 1, 2, none⟩ = some (.int .i64 po') ∧ wc.cell? ⟨w.heap.size + 1, 3, none⟩ = some (.int .i64 m') ∧ wc.cell? ⟨w.heap.size + 1, 4, none⟩ = some (.int .i64 mo')) ∧
    (∀ o, o < 5 → wc.cell? ⟨w.heap.size + 1 + 1, o, none⟩ = some (.int .i64 0)) ∧ (∀ o, wc.frozen? ⟨w.heap.size + 1 + 1, o, none⟩ = false) ∧ Below w.heap.size w wc ∧
    w.heap.size < wc.heap.size ∧ w.heap.size + 1 < wc.heap.size ∧ w.heap.size + 1 + 1 < wc.heap.size := by
  have hs : (three w s p po m mo s' p' po' m' mo').heap.size = w.heap.size + 3 := by simp [three]
  rw [hs] at hb
  have hsz := hb.size
  rw [hs] at hsz
  refine ⟨?_, ?_, ?_, ?_, by omega, by omega, by omega⟩
  · refine ⟨?_, ?_, ?_, ?_, ?_, ?_, ?_, ?_, ?_, ?_⟩
    all_goals
      rw [hb.cell (by simp)]
      unfold three
      simp [go_sem, World.cell?_alloc_past]
  · intro o ho
    rw [hb.cell (by simp)]
    unfold three
    have : o = 0 ∨ o = 1 ∨ o = 2 ∨ o = 3 ∨ o = 4 := by omega
    rcases this with rfl | rfl | rfl | rfl | rfl <;> simp [go_sem]
  · intro o
    rw [hb.frozen (by simp)]
    unfold three
    simp [go_sem]
  · refine Below.trans ?_ (hb.mono (by omega))
    unfold three
    repeat (first | exact Below.refl _ _ | apply bal)

set_option maxHeartbeats 4000000 in
theorem implAdd_any (s p po m mo s' p' po' m' mo' : Int) (w : World) :
    Calls Tryd.prog 6 #[glueV s p po m mo, glueV s' p' po' m' mo'] w fun e w' => e = .returned (addV s p po m mo s' p' po' m' mo') ∧ Below w.heap.size w w' := by
  cases h1 : okB s p po m mo
  · rw [addV_1 h1]
    go_enter Tryd.func6, Tryd.ntmps6
    go_wp2_with (go_at_call 7; refine (implGlueOk_ex _ _ _ _ _ _).mono ?_; rintro e w' ⟨rfl, c, rfl⟩)
    exact bodyPost_ret (v := .tuple #[glueV 0 0 0 0 0, .bool false]) (by simp [results, Tryd.results6, go_sem]) rfl ⟨rfl, by repeat (first | exact Below.refl _ _ | apply bal)⟩
  cases h2 : okB s' p' po' m' mo'
  · rw [addV_2 h2]
    go_enter Tryd.func6, Tryd.ntmps6
    go_wp2_with (go_at_call 7; refine (implGlueOk_ex _ _ _ _ _ _).mono ?_; rintro e w' ⟨rfl, c, rfl⟩)
    exact bodyPost_ret (v := .tuple #[glueV 0 0 0 0 0, .bool false]) (by simp [results, Tryd.results6, go_sem]) rfl ⟨rfl, by repeat (first | exact Below.refl _ _ | apply bal)⟩
  obtain ⟨⟨s1, s2⟩, k2, k3, k4, k5⟩ := okB_parts h1
  obtain ⟨⟨s3, s4⟩, j2, j3, j4, j5⟩ := okB_parts h2
  have c1 : ∀ w, _ := fun w => addGive_any p po p' po' w k2 k3 j2 j3
  have c2 : ∀ w, _ := fun w => addGive_any m mo m' mo' w k4 k5 j4 j5
  generalize e1 : gSum p po p' po' = g1 at c1
  generalize e2 : gSum m mo m' mo' = g2 at c2
  obtain ⟨P, PO⟩ := g1
  obtain ⟨M, MO⟩ := g2
  simp only at c1 c2
  have C1 := hide c1
  have C2 := hide c2
  clear c1 c2
  cases h3 : okB (s + s') P PO M MO
  · rw [addV_3 h1 h2 e1 e2 h3]
    clear e1 e2 k2 k3 k4 k5 j2 j3 j4 j5
    go_enter Tryd.func6, Tryd.ntmps6
    go_upto_region 3 with (go_at_call 7; refine (implGlueOk_ex _ _ _ _ _ _).mono ?_; rintro e w' ⟨rfl, c, rfl⟩)
    go_cut [6] (fun s6 wc => ∃ b : Nat, s6 = .pointer (some ⟨b, 0, none⟩) ∧ wc.cell? ⟨b, 0, none⟩ = some (.int .i64 P) ∧ wc.cell? ⟨b, 1, none⟩ = some (.int .i64 PO) ∧ Below (three w s p po m mo s' p' po' m' mo').heap.size (three w s p po m mo s' p' po' m' mo') wc)
    case first =>
      go_region_held3 (fun w' => w'.cell? ⟨w.heap.size, 0, none⟩ = some (.int .i64 s) ∧ w'.cell? ⟨w.heap.size, 1, none⟩ = some (.int .i64 p) ∧ w'.cell? ⟨w.heap.size, 2, none⟩ = some (.int .i64 po) ∧ w'.cell? ⟨w.heap.size, 3, none⟩ = some (.int .i64 m) ∧ w'.cell? ⟨w.heap.size, 4, none⟩ = some (.int .i64 mo) ∧ w'.cell? ⟨w.heap.size + 1, 0, none⟩ = some (.int .i64 s') ∧ w'.cell? ⟨w.heap.size + 1, 1, none⟩ = some (.int .i64 p') ∧ w'.cell? ⟨w.heap.size + 1, 2, none⟩ = some (.int .i64 po') ∧ w'.cell? ⟨w.heap.size + 1, 3, none⟩ = some (.int .i64 m') ∧ w'.cell? ⟨w.heap.size + 1, 4, none⟩ = some (.int .i64 mo')) (simp [go_sem, World.cell?_alloc_past])
        (first
          | (go_at_call 13; refine (plusOf_any _ _ _ _ _ _).mono ?_; rintro e w' ⟨rfl, o1, o2, rfl⟩)
          | (go_at_call 12; refine (C1.out _).mono ?_; rintro e w' ⟨rfl, o1, o2, o3, rfl⟩))
      all_goals
        go_wp2_with fail
        go_meet
        case rel =>
          refine ⟨_, rfl, ?_, ?_, ?_⟩
          · simp [go_sem, World.cell?_alloc_past]
          · simp [go_sem, World.cell?_alloc_past]
          · refine Below.drew ?_
            unfold three
            repeat (first | exact Below.refl _ _ | apply bal)
    case rest =>
      obtain ⟨b, rfl, q1, q2, hb⟩ := hcut
      have hbz : b < wc.heap.size := lt_of_cell q1
      have H := three_cells hb
      clear hb
      obtain ⟨⟨t0, t1, t2, t3, t4, t5, t6, t7, t8, t9⟩, hz, hzf, hB, z0, z1, z2⟩ := H
      obtain ⟨wo, rfl⟩ : ∃ wo : World, wo = wc := ⟨_, rfl⟩
      go_upto_region 4 with fail
      go_cut [7] (fun s7 wd => ∃ b' : Nat, s7 = .pointer (some ⟨b', 0, none⟩) ∧ wd.cell? ⟨b', 0, none⟩ = some (.int .i64 M) ∧ wd.cell? ⟨b', 1, none⟩ = some (.int .i64 MO) ∧ Below wo.heap.size wo wd)
      case first =>
        go_region_held3 (fun w' => w'.cell? ⟨w.heap.size, 0, none⟩ = some (.int .i64 s) ∧ w'.cell? ⟨w.heap.size, 1, none⟩ = some (.int .i64 p) ∧ w'.cell? ⟨w.heap.size, 2, none⟩ = some (.int .i64 po) ∧ w'.cell? ⟨w.heap.size, 3, none⟩ = some (.int .i64 m) ∧ w'.cell? ⟨w.heap.size, 4, none⟩ = some (.int .i64 mo) ∧ w'.cell? ⟨w.heap.size + 1, 0, none⟩ = some (.int .i64 s') ∧ w'.cell? ⟨w.heap.size + 1, 1, none⟩ = some (.int .i64 p') ∧ w'.cell? ⟨w.heap.size + 1, 2, none⟩ = some (.int .i64 po') ∧ w'.cell? ⟨w.heap.size + 1, 3, none⟩ = some (.int .i64 m') ∧ w'.cell? ⟨w.heap.size + 1, 4, none⟩ = some (.int .i64 mo')) (simp (disch := first | omega | (simp; done) | (simp; omega)) [go_sem, World.cell?_alloc_past, t0, t1, t2, t3, t4, t5, t6, t7, t8, t9])
          (first
            | (go_at_call 14; refine (minusOf_any _ _ _ _ _ _).mono ?_; rintro e w' ⟨rfl, o1, o2, rfl⟩)
            | (go_at_call 12; refine (C2.out _).mono ?_; rintro e w' ⟨rfl, o1, o2, o3, rfl⟩))
        all_goals
          go_wp2_with fail
          go_meet
          case rel =>
            refine ⟨_, rfl, ?_, ?_, ?_⟩
            · simp [go_sem, World.cell?_alloc_past]
            · simp [go_sem, World.cell?_alloc_past]
            · refine Below.drew ?_
              repeat (first | exact Below.refl _ _ | apply bal)
      case rest =>
        obtain ⟨b', rfl, q3, q4, hb⟩ := hcut
        obtain ⟨hc, hf⟩ := bcell hb
        have hsz := hb.size
        have r0 := (hc _ 0 z2).trans (hz 0 (by omega))
        have r1 := (hc _ 1 z2).trans (hz 1 (by omega))
        have r2 := (hc _ 2 z2).trans (hz 2 (by omega))
        have r3 := (hc _ 3 z2).trans (hz 3 (by omega))
        have r4 := (hc _ 4 z2).trans (hz 4 (by omega))
        have rf : ∀ o, wc.frozen? ⟨w.heap.size + 1 + 1, o, none⟩ = false := fun o => (hf _ o z2).trans (hzf o)
        have p0 := (hc _ 0 z0).trans t0
        have p5 := (hc _ 0 z1).trans t5
        have b0 := (hc _ 0 hbz).trans q1
        have b1 := (hc _ 1 hbz).trans q2
        have y2 : w.heap.size + 1 + 1 < wc.heap.size := by omega
        have y1 : w.heap.size + 1 < wc.heap.size := by omega
        have y0 : w.heap.size < wc.heap.size := by omega
        have x2 : w.heap.size + 1 + 1 ≤ wc.heap.size := by omega
        have x1 : w.heap.size + 1 ≤ wc.heap.size := by omega
        have BB : Hid (Below w.heap.size w wc) := hB.trans (hb.mono (by omega))
        clear hc hf hz hzf t0 t1 t2 t3 t4 t5 t6 t7 t8 t9 q1 q2 hB hb C1 C2
        go_wp2_with (go_at_call 7; refine (implGlueOk_ex _ _ _ _ _ _).mono ?_; rintro e w' ⟨rfl, c, rfl⟩)
        exact bodyPost_ret (v := .tuple #[glueV 0 0 0 0 0, .bool false]) (by simp [results, Tryd.results6, go_sem, r0, r1, r2, r3, r4, y2, y1, x2]) rfl ⟨rfl, tail_below BB.out _ _ _ _ _ _ _⟩
  · rw [addV_4 h1 h2 e1 e2 h3]
    clear e1 e2 k2 k3 k4 k5 j2 j3 j4 j5
    go_enter Tryd.func6, Tryd.ntmps6
    go_upto_region 3 with (go_at_call 7; refine (implGlueOk_ex _ _ _ _ _ _).mono ?_; rintro e w' ⟨rfl, c, rfl⟩)
    go_cut [6] (fun s6 wc => ∃ b : Nat, s6 = .pointer (some ⟨b, 0, none⟩) ∧ wc.cell? ⟨b, 0, none⟩ = some (.int .i64 P) ∧ wc.cell? ⟨b, 1, none⟩ = some (.int .i64 PO) ∧ Below (three w s p po m mo s' p' po' m' mo').heap.size (three w s p po m mo s' p' po' m' mo') wc)
    case first =>
      go_region_held3 (fun w' => w'.cell? ⟨w.heap.size, 0, none⟩ = some (.int .i64 s) ∧ w'.cell? ⟨w.heap.size, 1, none⟩ = some (.int .i64 p) ∧ w'.cell? ⟨w.heap.size, 2, none⟩ = some (.int .i64 po) ∧ w'.cell? ⟨w.heap.size, 3, none⟩ = some (.int .i64 m) ∧ w'.cell? ⟨w.heap.size, 4, none⟩ = some (.int .i64 mo) ∧ w'.cell? ⟨w.heap.size + 1, 0, none⟩ = some (.int .i64 s') ∧ w'.cell? ⟨w.heap.size + 1, 1, none⟩ = some (.int .i64 p') ∧ w'.cell? ⟨w.heap.size + 1, 2, none⟩ = some (.int .i64 po') ∧ w'.cell? ⟨w.heap.size + 1, 3, none⟩ = some (.int .i64 m') ∧ w'.cell? ⟨w.heap.size + 1, 4, none⟩ = some (.int .i64 mo')) (simp [go_sem, World.cell?_alloc_past])
        (first
          | (go_at_call 13; refine (plusOf_any _ _ _ _ _ _).mono ?_; rintro e w' ⟨rfl, o1, o2, rfl⟩)
          | (go_at_call 12; refine (C1.out _).mono ?_; rintro e w' ⟨rfl, o1, o2, o3, rfl⟩))
      all_goals
        go_wp2_with fail
        go_meet
        case rel =>
          refine ⟨_, rfl, ?_, ?_, ?_⟩
          · simp [go_sem, World.cell?_alloc_past]
          · simp [go_sem, World.cell?_alloc_past]
          · refine Below.drew ?_
            unfold three
            repeat (first | exact Below.refl _ _ | apply bal)
    case rest =>
      obtain ⟨b, rfl, q1, q2, hb⟩ := hcut
      have hbz : b < wc.heap.size := lt_of_cell q1
      have H := three_cells hb
      clear hb
      obtain ⟨⟨t0, t1, t2, t3, t4, t5, t6, t7, t8, t9⟩, hz, hzf, hB, z0, z1, z2⟩ := H
      obtain ⟨wo, rfl⟩ : ∃ wo : World, wo = wc := ⟨_, rfl⟩
      go_upto_region 4 with fail
      go_cut [7] (fun s7 wd => ∃ b' : Nat, s7 = .pointer (some ⟨b', 0, none⟩) ∧ wd.cell? ⟨b', 0, none⟩ = some (.int .i64 M) ∧ wd.cell? ⟨b', 1, none⟩ = some (.int .i64 MO) ∧ Below wo.heap.size wo wd)
      case first =>
        go_region_held3 (fun w' => w'.cell? ⟨w.heap.size, 0, none⟩ = some (.int .i64 s) ∧ w'.cell? ⟨w.heap.size, 1, none⟩ = some (.int .i64 p) ∧ w'.cell? ⟨w.heap.size, 2, none⟩ = some (.int .i64 po) ∧ w'.cell? ⟨w.heap.size, 3, none⟩ = some (.int .i64 m) ∧ w'.cell? ⟨w.heap.size, 4, none⟩ = some (.int .i64 mo) ∧ w'.cell? ⟨w.heap.size + 1, 0, none⟩ = some (.int .i64 s') ∧ w'.cell? ⟨w.heap.size + 1, 1, none⟩ = some (.int .i64 p') ∧ w'.cell? ⟨w.heap.size + 1, 2, none⟩ = some (.int .i64 po') ∧ w'.cell? ⟨w.heap.size + 1, 3, none⟩ = some (.int .i64 m') ∧ w'.cell? ⟨w.heap.size + 1, 4, none⟩ = some (.int .i64 mo')) (simp (disch := first | omega | (simp; done) | (simp; omega)) [go_sem, World.cell?_alloc_past, t0, t1, t2, t3, t4, t5, t6, t7, t8, t9])
          (first
            | (go_at_call 14; refine (minusOf_any _ _ _ _ _ _).mono ?_; rintro e w' ⟨rfl, o1, o2, rfl⟩)
            | (go_at_call 12; refine (C2.out _).mono ?_; rintro e w' ⟨rfl, o1, o2, o3, rfl⟩))
        all_goals
          go_wp2_with fail
          go_meet
          case rel =>
            refine ⟨_, rfl, ?_, ?_, ?_⟩
            · simp [go_sem, World.cell?_alloc_past]
            · simp [go_sem, World.cell?_alloc_past]
            · refine Below.drew ?_
              repeat (first | exact Below.refl _ _ | apply bal)
      case rest =>
        obtain ⟨b', rfl, q3, q4, hb⟩ := hcut
        obtain ⟨hc, hf⟩ := bcell hb
        have hsz := hb.size
        have r0 := (hc _ 0 z2).trans (hz 0 (by omega))
        have r1 := (hc _ 1 z2).trans (hz 1 (by omega))
        have r2 := (hc _ 2 z2).trans (hz 2 (by omega))
        have r3 := (hc _ 3 z2).trans (hz 3 (by omega))
        have r4 := (hc _ 4 z2).trans (hz 4 (by omega))
        have rf : ∀ o, wc.frozen? ⟨w.heap.size + 1 + 1, o, none⟩ = false := fun o => (hf _ o z2).trans (hzf o)
        have p0 := (hc _ 0 z0).trans t0
        have p5 := (hc _ 0 z1).trans t5
        have b0 := (hc _ 0 hbz).trans q1
        have b1 := (hc _ 1 hbz).trans q2
        have y2 : w.heap.size + 1 + 1 < wc.heap.size := by omega
        have y1 : w.heap.size + 1 < wc.heap.size := by omega
        have y0 : w.heap.size < wc.heap.size := by omega
        have x2 : w.heap.size + 1 + 1 ≤ wc.heap.size := by omega
        have x1 : w.heap.size + 1 ≤ wc.heap.size := by omega
        have BB : Hid (Below w.heap.size w wc) := hB.trans (hb.mono (by omega))
        clear hc hf hz hzf t0 t1 t2 t3 t4 t5 t6 t7 t8 t9 q1 q2 hB hb C1 C2
        go_wp2_with (go_at_call 7; refine (implGlueOk_ex _ _ _ _ _ _).mono ?_; rintro e w' ⟨rfl, c, rfl⟩)
        exact bodyPost_ret (v := .tuple #[glueV (s + s') P PO M MO, .bool true]) (by simp [results, Tryd.results6, go_sem, r0, r1, r2, r3, r4, y2, y1, x2]) rfl ⟨rfl, tail_below BB.out _ _ _ _ _ _ _⟩
end Go.Proofs.YtminpoenfjnmiaaDoor
