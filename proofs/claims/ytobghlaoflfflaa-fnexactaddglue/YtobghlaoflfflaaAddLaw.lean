/-
  Proved: for every two Glues, laws.FnExactAddGlue returns true and its arguments read behind the call as before it; no condition.
-/
import Derived.Test.YtobghlaoflfflaaAddFr
namespace Go.Proofs.Ytobghlaoflfflaa
open Go.ChangeShapes Go.WideShapes Go.ChangeAt Go.RowKit
set_option linter.unusedVariables false
set_option linter.unusedSimpArgs false

theorem al_cells (W : World) (v0 v1 v2 v3 v4 : Value) :
    (W.alloc (.cells #[v0, v1, v2, v3, v4] 37)).cell? ⟨W.heap.size, 0, none⟩ = some v0 ∧ (W.alloc (.cells #[v0, v1, v2, v3, v4] 37)).cell? ⟨W.heap.size, 1, none⟩ = some v1 ∧ (W.alloc (.cells #[v0, v1, v2, v3, v4] 37)).cell? ⟨W.heap.size, 2, none⟩ = some v2 ∧ (W.alloc (.cells #[v0, v1, v2, v3, v4] 37)).cell? ⟨W.heap.size, 3, none⟩ = some v3 ∧ (W.alloc (.cells #[v0, v1, v2, v3, v4] 37)).cell? ⟨W.heap.size, 4, none⟩ = some v4 := by
  refine ⟨?_, ?_, ?_, ?_, ?_⟩
  all_goals simp [go_sem]

set_option maxHeartbeats 16000000 in
theorem lawAdd_any (s p po m mo s' p' po' m' mo' : Int) (w : World) : Calls Try.prog 7 #[glueV s p po m mo, glueV s' p' po' m' mo'] w fun e w' => e = .returned (.bool true) ∧ Below w.heap.size w w' := by
  have cs : ∀ w, _ := fun w => specAdd_any s p po m mo s' p' po' m' mo' w
  have ci : ∀ w, _ := fun w => implAdd_any s p po m mo s' p' po' m' mo' w
  obtain ⟨a, b, c, d, e, f, hv⟩ := addV_shape s p po m mo s' p' po' m' mo'
  simp only [hv] at cs ci
  have CS := hide cs
  have CI := hide ci
  clear cs ci hv
  go_enter Try.func7, Try.ntmps7
  go_upto_region 0 with fail
  go_cut [2, 3, 4] (fun s2 s3 s4 wc => s2 = .pointer (some ⟨w.heap.size, 0, none⟩) ∧ s3 = .pointer (some ⟨w.heap.size + 1, 0, none⟩) ∧ s4 = .bool false ∧ wc = two w s p po m mo s' p' po' m' mo')
  case first =>
    go_wp2_with fail
    go_meet
    case rel => exact ⟨rfl, rfl, rfl, rfl⟩
  case rest =>
    obtain ⟨rfl, rfl, rfl, hwc⟩ := hcut
    have H := two_cells w s p po m mo s' p' po' m' mo'
    rw [← hwc] at H
    clear hwc
    obtain ⟨ts, z0, z1, hbel⟩ := H
    have HBEL := hide hbel
    clear hbel
    obtain ⟨t0, t1, t2, t3, t4, t5, t6, t7, t8, t9⟩ := ts
    have ts := And.intro t0 (And.intro t1 (And.intro t2 (And.intro t3 (And.intro t4 (And.intro t5 (And.intro t6 (And.intro t7 (And.intro t8 t9))))))))
    have TS := hide ts
    clear ts
    have CI' := CI
    clear CI
    go_upto_region 1 with fail
    go_cut [5, 6] (fun s5 s6 wd => ∃ g : Nat, s5 = .pointer (some ⟨g, 0, none⟩) ∧ s6 = .bool f ∧ (wd.cell? ⟨g, 0, none⟩ = some (.int .i64 a) ∧ wd.cell? ⟨g, 1, none⟩ = some (.int .i64 b) ∧ wd.cell? ⟨g, 2, none⟩ = some (.int .i64 c) ∧ wd.cell? ⟨g, 3, none⟩ = some (.int .i64 d) ∧ wd.cell? ⟨g, 4, none⟩ = some (.int .i64 e)) ∧ Below wc.heap.size wc wd)
    case first =>
      go_region_with (first
          | (go_at_call_of 18 (Value.int IntKind.i64 s); refine (toGlue_any _ _ _ _ _ _).mono ?_; rintro e wa ⟨rfl, hba⟩; have ba : Below wc.heap.size wc wa := (by first | exact ((Below.refl wc.heap.size wc).drew).trans hba | exact (bal (Below.refl wc.heap.size wc) _).drew.trans (hba.mono (by simp)) | exact (bal (Below.refl wc.heap.size wc).drew _).trans (hba.mono (by simp)) | (trace_state; fail)); have hk := keepS TS.out ba; obtain ⟨-, -, -, -, -, k5, k6, k7, k8, k9⟩ := hk; have za1 := lt_of_cell k5; clear t0 t1 t2 t3 t4 t5 t6 t7 t8 t9 z0 z1; (first | (have hy := zb_new (X := wc.drew) (g := wc.heap.size) rfl hba; obtain ⟨⟨y0, y1, y2, y3, y4⟩, yf⟩ := hy) | (have hy := zb_new (X := wc) (g := wc.heap.size) rfl hba; obtain ⟨⟨y0, y1, y2, y3, y4⟩, yf⟩ := hy) | skip); clear hba)
          | (go_at_call_of 18 (Value.int IntKind.i64 s'); refine (toGlue_any _ _ _ _ _ _).mono ?_; rintro e wb ⟨rfl, hbb⟩; (first | (have bb := ba.trans (hbb.mono ba.size)) | (have bb := (bal ba _).trans (hbb.mono (by have := ba.size; simp; omega)))); (first | (have hy := zb_keep y0 y1 y2 y3 y4 yf hbb; obtain ⟨⟨x0, x1, x2, x3, x4⟩, xf⟩ := hy) | (have hy := zb_new (X := wa) rfl hbb; obtain ⟨⟨x0, x1, x2, x3, x4⟩, xf⟩ := hy) | skip); clear hbb k5 k6 k7 k8 k9 za1; try clear y0 y1 y2 y3 y4 yf)
          | (go_at_call 20; refine (CS.out _).mono ?_; rintro e wz ⟨rfl, hbz⟩; (first | (have bz := bb.trans (hbz.mono bb.size)) | (have bz := (bal bb _).trans (hbz.mono (by have := bb.size; simp; omega)))); (first | (have hy := zb_keep x0 x1 x2 x3 x4 xf hbz; obtain ⟨⟨u0, u1, u2, u3, u4⟩, uf⟩ := hy) | (have hy := zb_new (X := wb) rfl hbz; obtain ⟨⟨u0, u1, u2, u3, u4⟩, uf⟩ := hy) | skip); clear hbz; try clear x0 x1 x2 x3 x4 xf))
      all_goals
        go_wp2_with fail
        go_meet
        case rel =>
          first
            | exact ⟨_, rfl, rfl, five_cells u0 u1 u2 u3 u4 _ _ _ _ _, five_below bz (by first | exact Nat.le_refl _ | exact ba.size | exact bb.size) _ _ _ _ _⟩
            | exact ⟨_, rfl, rfl, al_cells _ _ _ _ _ _, bal bz _⟩
    case rest =>
      rename World => wd
      obtain ⟨g, rfl, rfl, ⟨r0, r1, r2, r3, r4⟩, hbd⟩ := hcut
      have hk := keepS TS.out hbd
      clear t0 t1 t2 t3 t4 t5 t6 t7 t8 t9 z0 z1
      have TS2 := hide hk
      obtain ⟨t0, t1, t2, t3, t4, t5, t6, t7, t8, t9⟩ := hk
      have z0 := lt_of_cell t0
      have z1 := lt_of_cell t5
      have HBD := hide hbd
      clear hbd CS TS
      go_upto_region 2 with fail
      go_cut [7, 8] (fun s7 s8 we => ∃ h : Nat, s7 = .pointer (some ⟨h, 0, none⟩) ∧ s8 = .bool f ∧ (we.cell? ⟨h, 0, none⟩ = some (.int .i64 a) ∧ we.cell? ⟨h, 1, none⟩ = some (.int .i64 b) ∧ we.cell? ⟨h, 2, none⟩ = some (.int .i64 c) ∧ we.cell? ⟨h, 3, none⟩ = some (.int .i64 d) ∧ we.cell? ⟨h, 4, none⟩ = some (.int .i64 e)) ∧ Below wd.heap.size wd we)
      case first =>
        go_region_with (first
            | (go_at_call_of 18 (Value.int IntKind.i64 s); refine (toGlue_any _ _ _ _ _ _).mono ?_; rintro e wa ⟨rfl, hba⟩; have ba : Below wd.heap.size wd wa := (by first | exact ((Below.refl wd.heap.size wd).drew).trans hba | exact (bal (Below.refl wd.heap.size wd) _).drew.trans (hba.mono (by simp)) | exact (bal (Below.refl wd.heap.size wd).drew _).trans (hba.mono (by simp)) | (trace_state; fail)); have hk := keepS TS2.out ba; obtain ⟨-, -, -, -, -, k5, k6, k7, k8, k9⟩ := hk; have za1 := lt_of_cell k5; clear t0 t1 t2 t3 t4 t5 t6 t7 t8 t9 z0 z1; (first | (have hy := zb_new (X := wd.drew) (g := wd.heap.size) rfl hba; obtain ⟨⟨y0, y1, y2, y3, y4⟩, yf⟩ := hy) | (have hy := zb_new (X := wd) (g := wd.heap.size) rfl hba; obtain ⟨⟨y0, y1, y2, y3, y4⟩, yf⟩ := hy) | skip); clear hba)
            | (go_at_call_of 18 (Value.int IntKind.i64 s'); refine (toGlue_any _ _ _ _ _ _).mono ?_; rintro e wb ⟨rfl, hbb⟩; (first | (have bb := ba.trans (hbb.mono ba.size)) | (have bb := (bal ba _).trans (hbb.mono (by have := ba.size; simp; omega)))); (first | (have hy := zb_keep y0 y1 y2 y3 y4 yf hbb; obtain ⟨⟨x0, x1, x2, x3, x4⟩, xf⟩ := hy) | (have hy := zb_new (X := wa) rfl hbb; obtain ⟨⟨x0, x1, x2, x3, x4⟩, xf⟩ := hy) | skip); clear hbb k5 k6 k7 k8 k9 za1; try clear y0 y1 y2 y3 y4 yf)
            | (go_at_call 21; refine (CI'.out _).mono ?_; rintro e wz ⟨rfl, hbz⟩; (first | (have bz := bb.trans (hbz.mono bb.size)) | (have bz := (bal bb _).trans (hbz.mono (by have := bb.size; simp; omega)))); (first | (have hy := zb_keep x0 x1 x2 x3 x4 xf hbz; obtain ⟨⟨u0, u1, u2, u3, u4⟩, uf⟩ := hy) | (have hy := zb_new (X := wb) rfl hbz; obtain ⟨⟨u0, u1, u2, u3, u4⟩, uf⟩ := hy) | skip); clear hbz; try clear x0 x1 x2 x3 x4 xf))
        all_goals
          go_wp2_with fail
          go_meet
          case rel =>
            first
              | exact ⟨_, rfl, rfl, five_cells u0 u1 u2 u3 u4 _ _ _ _ _, five_below bz (by first | exact Nat.le_refl _ | exact ba.size | exact bb.size) _ _ _ _ _⟩
              | exact ⟨_, rfl, rfl, al_cells _ _ _ _ _ _, bal bz _⟩
      case rest =>
        rename World => we
        obtain ⟨h, rfl, rfl, ⟨v0, v1, v2, v3, v4⟩, hbe⟩ := hcut
        have zg := lt_of_cell r0
        have hc := (bcell hbe).1
        have g0 := (hc _ _ zg).trans r0
        have g1 := (hc _ _ zg).trans r1
        have g2 := (hc _ _ zg).trans r2
        have g3 := (hc _ _ zg).trans r3
        have g4 := (hc _ _ zg).trans r4
        clear hc
        have HBE := hide hbe
        clear hbe
        go_wp2_with (first
          | (go_at_call 22; refine (eqGlue_same a b c d e _).mono ?_; rintro e wq ⟨rfl, hbq⟩))
        go_ret
        have hwd := HBEL.out.trans (HBD.out.mono HBEL.out.size)
        have hwe := hwd.trans (HBE.out.mono hwd.size)
        refine ⟨rfl, ?_⟩
        exact hwe.trans (hbq.mono hwe.size)
theorem addGlue_holds : Rows.FnExactAddGlueSaid := addGlue_of lawAdd_any
#print axioms addGlue_holds
end Go.Proofs.Ytobghlaoflfflaa
