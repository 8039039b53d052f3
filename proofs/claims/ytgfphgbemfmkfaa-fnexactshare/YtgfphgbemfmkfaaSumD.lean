/-
  The walks of impl.totals and impl.SumGlue.
-/
import Derived.Test.YtgfphgbemfmkfaaSumC
namespace Go.Proofs.Ytgfphgbemfmkfaa
open Go.RowKit
set_option linter.unusedVariables false
set_option linter.unusedSimpArgs false

theorem four_parts {xs : List Int} (h : xs.length = 4) : ∃ a b c d, xs = [a, b, c, d] := by
  match xs, h with
  | [a, b, c, d], _ => exact ⟨a, b, c, d, rfl⟩

set_option maxHeartbeats 1000000 in
theorem plusOf_ex (s p po m mo : Int) (w : World) : Calls Try.prog 29 #[glueV s p po m mo] w fun e w' => e = .returned (.agg #[.int .i64 p, .int .i64 po]) ∧ ∃ c1 c2 : Array Value, w' = (w.alloc (.cells c1 33)).alloc (.cells c2 69) := by
  go_enter Try.func29, Try.ntmps29
  go_wp2
  exact bodyPost_ret (v := .agg #[.int .i64 p, .int .i64 po]) (by simp [results, Try.results29, go_sem]) rfl ⟨rfl, _, _, rfl⟩
theorem plusOf_any (s p po m mo : Int) (w : World) : Calls Try.prog 29 #[glueV s p po m mo] w fun e w' => e = .returned (.agg #[.int .i64 p, .int .i64 po]) ∧ Below w.heap.size w w' := by
  refine (plusOf_ex s p po m mo w).mono ?_
  rintro e w' ⟨rfl, c1, c2, rfl⟩
  exact ⟨rfl, ((Below.refl _ _).alloc (Nat.le_refl _) _).alloc (by simp) _⟩

set_option maxRecDepth 20000 in
set_option maxHeartbeats 4000000 in
theorem totalsP_any {v : Value} {gs : List Gl} {w : World} (h : GRow w v gs) (hok : glsOk gs = true) :
    Calls Try.prog 28 #[v, .func (.func 29) #[] #[]] w fun e w' => e = .returned (.agg ((tot Gl.p Gl.po gs).map (Value.int .i64)).toArray) ∧ Below w.heap.size w w' := by
  obtain ⟨ao, n, cap, rfl, hl, hr⟩ := h
  have heach := glsOk_each hok
  have hn2 : n ≤ 10000 := by have := heach.1; omega
  have HE : Hid (∀ k, k < gs.length → (gs.getD k Gl.none).ok = true) := heach.2
  have HBP : Hid (∀ k, k ≤ gs.length → ∀ j, -(1073741823 * (k : Int)) ≤ (tot Gl.p Gl.po (gs.take k)).getD j 0 ∧ (tot Gl.p Gl.po (gs.take k)).getD j 0 ≤ 1073741823 * (k : Int)) := tot_bound Gl.p Gl.po gs (fun k hk => (ok_bounds (HE k hk)).2.1)
  have HR : Hid (0 < n → ∃ b off, ao = some ⟨b, off, none⟩ ∧ b < w.heap.size ∧ ∀ i, i < n → w.cell? ⟨b, off + i * 5, none⟩ = some (.int .i64 (gs.getD i Gl.none).s) ∧ w.cell? ⟨b, off + i * 5 + 1, none⟩ = some (.int .i64 (gs.getD i Gl.none).p) ∧ w.cell? ⟨b, off + i * 5 + 2, none⟩ = some (.int .i64 (gs.getD i Gl.none).po) ∧ w.cell? ⟨b, off + i * 5 + 3, none⟩ = some (.int .i64 (gs.getD i Gl.none).m) ∧ w.cell? ⟨b, off + i * 5 + 4, none⟩ = some (.int .i64 (gs.getD i Gl.none).mo)) := hr
  have HL : Hid (gs.length = n) := hl
  clear hr hl hok heach
  go_enter Try.func28, Try.ntmps28
  go_wp2
  obtain ⟨P, hP⟩ : ∃ P, P = w.heap.size + 1 := ⟨_, rfl⟩
  obtain ⟨R, hR⟩ : ∃ R, R = w.heap.size := ⟨_, rfl⟩
  have hPR : R ≠ P := by omega
  have hPw : w.heap.size ≤ P := by omega
  have hRw : w.heap.size ≤ R := by omega
  have F0 : Hid (Four ((w.alloc (.cells #[.int .i64 0, .int .i64 0, .int .i64 0, .int .i64 0] 53)).alloc (.cells #[.int .i64 0, .int .i64 0, .int .i64 0, .int .i64 0] 53)) 53 R [0, 0, 0, 0] ∧ Four ((w.alloc (.cells #[.int .i64 0, .int .i64 0, .int .i64 0, .int .i64 0] 53)).alloc (.cells #[.int .i64 0, .int .i64 0, .int .i64 0, .int .i64 0] 53)) 53 P [0, 0, 0, 0] ∧ Below w.heap.size w ((w.alloc (.cells #[.int .i64 0, .int .i64 0, .int .i64 0, .int .i64 0] 53)).alloc (.cells #[.int .i64 0, .int .i64 0, .int .i64 0, .int .i64 0] 53))) := by
    rw [hP, hR]
    refine ⟨Four.alloc (show Four (w.alloc (.cells #[.int .i64 0, .int .i64 0, .int .i64 0, .int .i64 0] 53)) 53 w.heap.size [0, 0, 0, 0] from ⟨heap_alloc_new w _, rfl⟩) _, ⟨?_, rfl⟩, ((Below.refl _ _).alloc (Nat.le_refl _) _).alloc (by simp) _⟩
    simpa using heap_alloc_new (w.alloc (.cells #[.int .i64 0, .int .i64 0, .int .i64 0, .int .i64 0] 53)) (.cells #[.int .i64 0, .int .i64 0, .int .i64 0, .int .i64 0] 53)
  rw [← hP, ← hR]
  clear hP hR
  go_loopw [11] (fun s wr => ∃ k : Nat, k ≤ n ∧ s = .int .i64 k ∧ Four wr 53 R [0, 0, 0, 0] ∧ Four wr 53 P (tot Gl.p Gl.po (gs.take k)) ∧ Below w.heap.size w wr) (fun s _ => n - (intOf s).toNat)
  case atStart => exact ⟨0, by omega, rfl, F0.1, F0.2.1, F0.2.2⟩
  case round =>
    obtain ⟨k, hk, rfl, hfr, hfp, hbel⟩ := hrel
    have hlen : gs.length = n := HL
    by_cases hkn : k < n
    · have hki : (k : Int) < (n : Int) := by omega
      obtain ⟨b, off, rfl, hb, hc⟩ := HR (by omega)
      obtain ⟨t, ht⟩ : ∃ t, t = gs.getD k Gl.none := ⟨_, rfl⟩
      obtain ⟨hc0, hc1, hc2, hc3, hc4⟩ := hc k hkn
      rw [← ht] at hc0 hc1 hc2 hc3 hc4
      have hob := ok_bounds (HE k (by omega))
      rw [← ht] at hob
      obtain ⟨⟨b1, b2⟩, ⟨b3, b4⟩, ⟨b5, b6⟩, ⟨b7, b8⟩, ⟨b9, b10⟩⟩ := hob
      have ep : tot Gl.p Gl.po (gs.take (k + 1)) = (tot Gl.p Gl.po (gs.take k)).set t.po.toNat ((tot Gl.p Gl.po (gs.take k)).getD t.po.toNat 0 + t.p) := by rw [take_snoc (by omega), tot_snoc, ← ht]
      have bp := HBP k (by omega) t.po.toNat
      have g0 := (hbel.cell (p := ⟨b, off + k * 5, none⟩) hb).trans hc0
      have g1 := (hbel.cell (p := ⟨b, off + k * 5 + 1, none⟩) hb).trans hc1
      have g2 := (hbel.cell (p := ⟨b, off + k * 5 + 2, none⟩) hb).trans hc2
      have g3 := (hbel.cell (p := ⟨b, off + k * 5 + 3, none⟩) hb).trans hc3
      have g4 := (hbel.cell (p := ⟨b, off + k * 5 + 4, none⟩) hb).trans hc4
      obtain ⟨ts, tp, tpo, tm, tmo⟩ := t
      simp only at *
      obtain ⟨o, ho⟩ : ∃ o : Nat, tpo = (o : Int) := ⟨tpo.toNat, by omega⟩
      subst ho
      simp only [Int.toNat_natCast] at ep bp
      obtain ⟨X, hX⟩ : ∃ X, X = (tot Gl.p Gl.po (gs.take k)).getD o 0 := ⟨_, rfl⟩
      rw [← hX] at bp ep
      have ho4 : o < 4 := by omega
      have hoi : (o : Int) < 4 := by omega
      have hw2 : IntKind.i64.wrap (X + tp) = X + tp := by rw [IntKind.wrap_i64]; omega
      have H1 : Hid (tot Gl.p Gl.po (gs.take (k + 1)) = (tot Gl.p Gl.po (gs.take k)).set o (X + tp) ∧ X = (tot Gl.p Gl.po (gs.take k)).getD o 0) := ⟨ep, hX⟩
      have H2 : Hid (Four wr 53 R [0, 0, 0, 0] ∧ Four wr 53 P (tot Gl.p Gl.po (gs.take k)) ∧ Below w.heap.size w wr) := ⟨hfr, hfp, hbel⟩
      clear hc hc0 hc1 hc2 hc3 hc4 ht hbel hfp hfr ep hX bp b1 b2 b3 b4 b5 b6 b7 b8 b9 b10
      go_wp2_with fail
      refine (plusOf_any _ _ _ _ _ _).mono ?_
      rintro e w2 ⟨rfl, hb2⟩
      have r2 := Four.below (H2.1.alloc _) hb2
      have p2 := Four.below (H2.2.1.alloc _) hb2
      have B2 : Below w.heap.size w w2 := (H2.2.2.alloc H2.2.2.size _).trans (hb2.mono (by have := H2.2.2.size; simp; omega))
      have cp := p2.cell o ho4
      rw [← H1.2] at cp
      have fp := p2.free
      have hPl := p2.lt
      have H3 : Hid (Four w2 53 R [0, 0, 0, 0] ∧ Four w2 53 P (tot Gl.p Gl.po (gs.take k)) ∧ Below w.heap.size w w2) := ⟨r2, p2, B2⟩
      clear r2 p2 B2 hb2 H2 g0 g1 g2 g3 g4
      go_wp2
      go_region
      all_goals go_wp2
      all_goals
        go_roundw
        case rel =>
          refine ⟨k + 1, by omega, by go_num, ?_, ?_, ?_⟩
          · exact ((H3.1.other hPR o _).alloc _).drew
          · rw [H1.1]; exact ((H3.2.1.set o (X + tp)).alloc _).drew
          · exact ((H3.2.2.setCell (p := ⟨P, o, none⟩) hPw _).alloc (by simp; exact H3.2.2.size) _).drew
        case measure => simp [intOf]; omega
    · have hki : ¬ (k : Int) < (n : Int) := by omega
      obtain rfl : k = n := by omega
      rw [← hlen, List.take_length] at hfp
      obtain ⟨x0, x1, x2, x3, hx⟩ := four_parts (tot_length Gl.p Gl.po gs)
      rw [hx] at hfp
      have HX : Hid (tot Gl.p Gl.po gs = [x0, x1, x2, x3]) := hx
      have p0 : wr.cell? ⟨P, 0, none⟩ = some (.int .i64 x0) := hfp.cell 0 (by omega)
      have p1 : wr.cell? ⟨P, 1, none⟩ = some (.int .i64 x1) := hfp.cell 1 (by omega)
      have p2 : wr.cell? ⟨P, 2, none⟩ = some (.int .i64 x2) := hfp.cell 2 (by omega)
      have p3 : wr.cell? ⟨P, 3, none⟩ = some (.int .i64 x3) := hfp.cell 3 (by omega)
      have q0 : wr.cell? ⟨R, 0, none⟩ = some (.int .i64 0) := hfr.cell 0 (by omega)
      have q1 : wr.cell? ⟨R, 1, none⟩ = some (.int .i64 0) := hfr.cell 1 (by omega)
      have q2 : wr.cell? ⟨R, 2, none⟩ = some (.int .i64 0) := hfr.cell 2 (by omega)
      have q3 : wr.cell? ⟨R, 3, none⟩ = some (.int .i64 0) := hfr.cell 3 (by omega)
      have fr := hfr.free
      have s1 := (((hfr.set 0 x0).set 1 x1).set 2 x2).set 3 x3
      have c0 := s1.cell 0 (by omega)
      have c1 := s1.cell 1 (by omega)
      have c2 := s1.cell 2 (by omega)
      have c3 := s1.cell 3 (by omega)
      have HF : Hid (Below w.heap.size w ((((wr.setCell ⟨R, 0, none⟩ (.int .i64 x0)).setCell ⟨R, 1, none⟩ (.int .i64 x1)).setCell ⟨R, 2, none⟩ (.int .i64 x2)).setCell ⟨R, 3, none⟩ (.int .i64 x3)) ∧ True) := ⟨(((hbel.setCell (p := ⟨R, 0, none⟩) hRw _).setCell (p := ⟨R, 1, none⟩) hRw _).setCell (p := ⟨R, 2, none⟩) hRw _).setCell (p := ⟨R, 3, none⟩) hRw _, trivial⟩
      clear hfp hfr hbel s1 hx
      go_wp2
      refine bodyPost_ret (v := .agg #[.int .i64 x0, .int .i64 x1, .int .i64 x2, .int .i64 x3]) ?_ rfl ⟨by rw [show tot Gl.p Gl.po gs = [x0, x1, x2, x3] from HX]; rfl, HF.1⟩
      simp [results, Try.results28, go_sem, c0, c1, c2, c3] at *
      try simp [c0, c1, c2, c3]

set_option maxHeartbeats 1000000 in
theorem minusOf_ex (s p po m mo : Int) (w : World) : Calls Try.prog 30 #[glueV s p po m mo] w fun e w' => e = .returned (.agg #[.int .i64 m, .int .i64 mo]) ∧ ∃ c1 c2 : Array Value, w' = (w.alloc (.cells c1 33)).alloc (.cells c2 69) := by
  go_enter Try.func30, Try.ntmps30
  go_wp2
  exact bodyPost_ret (v := .agg #[.int .i64 m, .int .i64 mo]) (by simp [results, Try.results30, go_sem]) rfl ⟨rfl, _, _, rfl⟩
theorem minusOf_any (s p po m mo : Int) (w : World) : Calls Try.prog 30 #[glueV s p po m mo] w fun e w' => e = .returned (.agg #[.int .i64 m, .int .i64 mo]) ∧ Below w.heap.size w w' := by
  refine (minusOf_ex s p po m mo w).mono ?_
  rintro e w' ⟨rfl, c1, c2, rfl⟩
  exact ⟨rfl, ((Below.refl _ _).alloc (Nat.le_refl _) _).alloc (by simp) _⟩

set_option maxRecDepth 20000 in
set_option maxHeartbeats 4000000 in
theorem totalsM_any {v : Value} {gs : List Gl} {w : World} (h : GRow w v gs) (hok : glsOk gs = true) :
    Calls Try.prog 28 #[v, .func (.func 30) #[] #[]] w fun e w' => e = .returned (.agg ((tot Gl.m Gl.mo gs).map (Value.int .i64)).toArray) ∧ Below w.heap.size w w' := by
  obtain ⟨ao, n, cap, rfl, hl, hr⟩ := h
  have heach := glsOk_each hok
  have hn2 : n ≤ 10000 := by have := heach.1; omega
  have HE : Hid (∀ k, k < gs.length → (gs.getD k Gl.none).ok = true) := heach.2
  have HBP : Hid (∀ k, k ≤ gs.length → ∀ j, -(1073741823 * (k : Int)) ≤ (tot Gl.m Gl.mo (gs.take k)).getD j 0 ∧ (tot Gl.m Gl.mo (gs.take k)).getD j 0 ≤ 1073741823 * (k : Int)) := tot_bound Gl.m Gl.mo gs (fun k hk => (ok_bounds (HE k hk)).2.2.1)
  have HR : Hid (0 < n → ∃ b off, ao = some ⟨b, off, none⟩ ∧ b < w.heap.size ∧ ∀ i, i < n → w.cell? ⟨b, off + i * 5, none⟩ = some (.int .i64 (gs.getD i Gl.none).s) ∧ w.cell? ⟨b, off + i * 5 + 1, none⟩ = some (.int .i64 (gs.getD i Gl.none).p) ∧ w.cell? ⟨b, off + i * 5 + 2, none⟩ = some (.int .i64 (gs.getD i Gl.none).po) ∧ w.cell? ⟨b, off + i * 5 + 3, none⟩ = some (.int .i64 (gs.getD i Gl.none).m) ∧ w.cell? ⟨b, off + i * 5 + 4, none⟩ = some (.int .i64 (gs.getD i Gl.none).mo)) := hr
  have HL : Hid (gs.length = n) := hl
  clear hr hl hok heach
  go_enter Try.func28, Try.ntmps28
  go_wp2
  obtain ⟨P, hP⟩ : ∃ P, P = w.heap.size + 1 := ⟨_, rfl⟩
  obtain ⟨R, hR⟩ : ∃ R, R = w.heap.size := ⟨_, rfl⟩
  have hPR : R ≠ P := by omega
  have hPw : w.heap.size ≤ P := by omega
  have hRw : w.heap.size ≤ R := by omega
  have F0 : Hid (Four ((w.alloc (.cells #[.int .i64 0, .int .i64 0, .int .i64 0, .int .i64 0] 53)).alloc (.cells #[.int .i64 0, .int .i64 0, .int .i64 0, .int .i64 0] 53)) 53 R [0, 0, 0, 0] ∧ Four ((w.alloc (.cells #[.int .i64 0, .int .i64 0, .int .i64 0, .int .i64 0] 53)).alloc (.cells #[.int .i64 0, .int .i64 0, .int .i64 0, .int .i64 0] 53)) 53 P [0, 0, 0, 0] ∧ Below w.heap.size w ((w.alloc (.cells #[.int .i64 0, .int .i64 0, .int .i64 0, .int .i64 0] 53)).alloc (.cells #[.int .i64 0, .int .i64 0, .int .i64 0, .int .i64 0] 53))) := by
    rw [hP, hR]
    refine ⟨Four.alloc (show Four (w.alloc (.cells #[.int .i64 0, .int .i64 0, .int .i64 0, .int .i64 0] 53)) 53 w.heap.size [0, 0, 0, 0] from ⟨heap_alloc_new w _, rfl⟩) _, ⟨?_, rfl⟩, ((Below.refl _ _).alloc (Nat.le_refl _) _).alloc (by simp) _⟩
    simpa using heap_alloc_new (w.alloc (.cells #[.int .i64 0, .int .i64 0, .int .i64 0, .int .i64 0] 53)) (.cells #[.int .i64 0, .int .i64 0, .int .i64 0, .int .i64 0] 53)
  rw [← hP, ← hR]
  clear hP hR
  go_loopw [11] (fun s wr => ∃ k : Nat, k ≤ n ∧ s = .int .i64 k ∧ Four wr 53 R [0, 0, 0, 0] ∧ Four wr 53 P (tot Gl.m Gl.mo (gs.take k)) ∧ Below w.heap.size w wr) (fun s _ => n - (intOf s).toNat)
  case atStart => exact ⟨0, by omega, rfl, F0.1, F0.2.1, F0.2.2⟩
  case round =>
    obtain ⟨k, hk, rfl, hfr, hfp, hbel⟩ := hrel
    have hlen : gs.length = n := HL
    by_cases hkn : k < n
    · have hki : (k : Int) < (n : Int) := by omega
      obtain ⟨b, off, rfl, hb, hc⟩ := HR (by omega)
      obtain ⟨t, ht⟩ : ∃ t, t = gs.getD k Gl.none := ⟨_, rfl⟩
      obtain ⟨hc0, hc1, hc2, hc3, hc4⟩ := hc k hkn
      rw [← ht] at hc0 hc1 hc2 hc3 hc4
      have hob := ok_bounds (HE k (by omega))
      rw [← ht] at hob
      obtain ⟨⟨b1, b2⟩, ⟨b3, b4⟩, ⟨b5, b6⟩, ⟨b7, b8⟩, ⟨b9, b10⟩⟩ := hob
      have ep : tot Gl.m Gl.mo (gs.take (k + 1)) = (tot Gl.m Gl.mo (gs.take k)).set t.mo.toNat ((tot Gl.m Gl.mo (gs.take k)).getD t.mo.toNat 0 + t.m) := by rw [take_snoc (by omega), tot_snoc, ← ht]
      have bp := HBP k (by omega) t.mo.toNat
      have g0 := (hbel.cell (p := ⟨b, off + k * 5, none⟩) hb).trans hc0
      have g1 := (hbel.cell (p := ⟨b, off + k * 5 + 1, none⟩) hb).trans hc1
      have g2 := (hbel.cell (p := ⟨b, off + k * 5 + 2, none⟩) hb).trans hc2
      have g3 := (hbel.cell (p := ⟨b, off + k * 5 + 3, none⟩) hb).trans hc3
      have g4 := (hbel.cell (p := ⟨b, off + k * 5 + 4, none⟩) hb).trans hc4
      obtain ⟨ts, tp, tpo, tm, tmo⟩ := t
      simp only at *
      obtain ⟨o, ho⟩ : ∃ o : Nat, tmo = (o : Int) := ⟨tmo.toNat, by omega⟩
      subst ho
      simp only [Int.toNat_natCast] at ep bp
      obtain ⟨X, hX⟩ : ∃ X, X = (tot Gl.m Gl.mo (gs.take k)).getD o 0 := ⟨_, rfl⟩
      rw [← hX] at bp ep
      have ho4 : o < 4 := by omega
      have hoi : (o : Int) < 4 := by omega
      have hw2 : IntKind.i64.wrap (X + tm) = X + tm := by rw [IntKind.wrap_i64]; omega
      have H1 : Hid (tot Gl.m Gl.mo (gs.take (k + 1)) = (tot Gl.m Gl.mo (gs.take k)).set o (X + tm) ∧ X = (tot Gl.m Gl.mo (gs.take k)).getD o 0) := ⟨ep, hX⟩
      have H2 : Hid (Four wr 53 R [0, 0, 0, 0] ∧ Four wr 53 P (tot Gl.m Gl.mo (gs.take k)) ∧ Below w.heap.size w wr) := ⟨hfr, hfp, hbel⟩
      clear hc hc0 hc1 hc2 hc3 hc4 ht hbel hfp hfr ep hX bp b1 b2 b3 b4 b5 b6 b7 b8 b9 b10
      go_wp2_with fail
      refine (minusOf_any _ _ _ _ _ _).mono ?_
      rintro e w2 ⟨rfl, hb2⟩
      have r2 := Four.below (H2.1.alloc _) hb2
      have p2 := Four.below (H2.2.1.alloc _) hb2
      have B2 : Below w.heap.size w w2 := (H2.2.2.alloc H2.2.2.size _).trans (hb2.mono (by have := H2.2.2.size; simp; omega))
      have cp := p2.cell o ho4
      rw [← H1.2] at cp
      have fp := p2.free
      have hPl := p2.lt
      have H3 : Hid (Four w2 53 R [0, 0, 0, 0] ∧ Four w2 53 P (tot Gl.m Gl.mo (gs.take k)) ∧ Below w.heap.size w w2) := ⟨r2, p2, B2⟩
      clear r2 p2 B2 hb2 H2 g0 g1 g2 g3 g4
      go_wp2
      go_region
      all_goals go_wp2
      all_goals
        go_roundw
        case rel =>
          refine ⟨k + 1, by omega, by go_num, ?_, ?_, ?_⟩
          · exact ((H3.1.other hPR o _).alloc _).drew
          · rw [H1.1]; exact ((H3.2.1.set o (X + tm)).alloc _).drew
          · exact ((H3.2.2.setCell (p := ⟨P, o, none⟩) hPw _).alloc (by simp; exact H3.2.2.size) _).drew
        case measure => simp [intOf]; omega
    · have hki : ¬ (k : Int) < (n : Int) := by omega
      obtain rfl : k = n := by omega
      rw [← hlen, List.take_length] at hfp
      obtain ⟨x0, x1, x2, x3, hx⟩ := four_parts (tot_length Gl.m Gl.mo gs)
      rw [hx] at hfp
      have HX : Hid (tot Gl.m Gl.mo gs = [x0, x1, x2, x3]) := hx
      have p0 : wr.cell? ⟨P, 0, none⟩ = some (.int .i64 x0) := hfp.cell 0 (by omega)
      have p1 : wr.cell? ⟨P, 1, none⟩ = some (.int .i64 x1) := hfp.cell 1 (by omega)
      have p2 : wr.cell? ⟨P, 2, none⟩ = some (.int .i64 x2) := hfp.cell 2 (by omega)
      have p3 : wr.cell? ⟨P, 3, none⟩ = some (.int .i64 x3) := hfp.cell 3 (by omega)
      have q0 : wr.cell? ⟨R, 0, none⟩ = some (.int .i64 0) := hfr.cell 0 (by omega)
      have q1 : wr.cell? ⟨R, 1, none⟩ = some (.int .i64 0) := hfr.cell 1 (by omega)
      have q2 : wr.cell? ⟨R, 2, none⟩ = some (.int .i64 0) := hfr.cell 2 (by omega)
      have q3 : wr.cell? ⟨R, 3, none⟩ = some (.int .i64 0) := hfr.cell 3 (by omega)
      have fr := hfr.free
      have s1 := (((hfr.set 0 x0).set 1 x1).set 2 x2).set 3 x3
      have c0 := s1.cell 0 (by omega)
      have c1 := s1.cell 1 (by omega)
      have c2 := s1.cell 2 (by omega)
      have c3 := s1.cell 3 (by omega)
      have HF : Hid (Below w.heap.size w ((((wr.setCell ⟨R, 0, none⟩ (.int .i64 x0)).setCell ⟨R, 1, none⟩ (.int .i64 x1)).setCell ⟨R, 2, none⟩ (.int .i64 x2)).setCell ⟨R, 3, none⟩ (.int .i64 x3)) ∧ True) := ⟨(((hbel.setCell (p := ⟨R, 0, none⟩) hRw _).setCell (p := ⟨R, 1, none⟩) hRw _).setCell (p := ⟨R, 2, none⟩) hRw _).setCell (p := ⟨R, 3, none⟩) hRw _, trivial⟩
      clear hfp hfr hbel s1 hx
      go_wp2
      refine bodyPost_ret (v := .agg #[.int .i64 x0, .int .i64 x1, .int .i64 x2, .int .i64 x3]) ?_ rfl ⟨by rw [show tot Gl.m Gl.mo gs = [x0, x1, x2, x3] from HX]; rfl, HF.1⟩
      simp [results, Try.results28, go_sem, c0, c1, c2, c3] at *
      try simp [c0, c1, c2, c3]
end Go.Proofs.Ytgfphgbemfmkfaa
