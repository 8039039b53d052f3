/-
  The walk of impl.portions.
-/
import Derived.Test.YtgfphgbemfmkfaaSha
namespace Go.Proofs.Ytgfphgbemfmkfaa
open Go.RowKit
set_option linter.unusedVariables false
set_option linter.unusedSimpArgs false

/-- What is shared: the sum so far, what was given so far, and the portions. -/
def stp (f o : Gl → Int) (ord want have_ : Int) (gs : List Gl) : Int × Int × List Int :=
  gs.foldl (fun st g => if o g = ord then (st.1 + f g, cut want (st.1 + f g) have_, st.2.2 ++ [cut want (st.1 + f g) have_ - st.2.1]) else (st.1, st.2.1, st.2.2 ++ [0])) (0, 0, [])
theorem stp_yes {f o : Gl → Int} {ord want have_ : Int} {gs : List Gl} {g : Gl} (h : o g = ord) : stp f o ord want have_ (gs ++ [g]) = ((stp f o ord want have_ gs).1 + f g, cut want ((stp f o ord want have_ gs).1 + f g) have_, (stp f o ord want have_ gs).2.2 ++ [cut want ((stp f o ord want have_ gs).1 + f g) have_ - (stp f o ord want have_ gs).2.1]) := by
  simp [stp, List.foldl_append, h]
theorem stp_no {f o : Gl → Int} {ord want have_ : Int} {gs : List Gl} {g : Gl} (h : o g ≠ ord) : stp f o ord want have_ (gs ++ [g]) = ((stp f o ord want have_ gs).1, (stp f o ord want have_ gs).2.1, (stp f o ord want have_ gs).2.2 ++ [0]) := by
  simp [stp, List.foldl_append, h]
theorem stp_bound (f o : Gl → Int) (ord want have_ : Int) (gs : List Gl) (h : ∀ k, k < gs.length → -1073741823 ≤ f (gs.getD k Gl.none) ∧ f (gs.getD k Gl.none) ≤ 1073741823) :
    ∀ k, k ≤ gs.length → (-(1073741823 * (k : Int)) ≤ (stp f o ord want have_ (gs.take k)).1 ∧ (stp f o ord want have_ (gs.take k)).1 ≤ 1073741823 * (k : Int)) ∧ (-1152921504606846976 ≤ (stp f o ord want have_ (gs.take k)).2.1 ∧ (stp f o ord want have_ (gs.take k)).2.1 ≤ 1152921504606846976) ∧ (stp f o ord want have_ (gs.take k)).2.2.length = k ∧
      ∀ j, -2305843009213693952 ≤ (stp f o ord want have_ (gs.take k)).2.2.getD j 0 ∧ (stp f o ord want have_ (gs.take k)).2.2.getD j 0 ≤ 2305843009213693952
  | 0, _ => by simp [stp]
  | k + 1, hk => by
    obtain ⟨ih1, ih2, ih3, ih4⟩ := stp_bound f o ord want have_ gs h k (by omega)
    have hb := h k (by omega)
    rw [take_snoc (by omega)]
    generalize gs.getD k Gl.none = g at hb
    by_cases hg : o g = ord
    · rw [stp_yes hg]
      have hc := cut_le want ((stp f o ord want have_ (gs.take k)).1 + f g) have_
      refine ⟨by push_cast; omega, hc, by simp [ih3], fun j => ?_⟩
      by_cases hj : j < k
      · have := ih4 j
        simpa [List.getD, List.getElem?_append_left (show j < (stp f o ord want have_ (gs.take k)).2.2.length by omega)] using this
      · by_cases hjk : j = k
        · subst hjk
          have e : ((stp f o ord want have_ (gs.take j)).2.2 ++ [cut want ((stp f o ord want have_ (gs.take j)).1 + f g) have_ - (stp f o ord want have_ (gs.take j)).2.1]).getD j 0 = cut want ((stp f o ord want have_ (gs.take j)).1 + f g) have_ - (stp f o ord want have_ (gs.take j)).2.1 := by
            simp [List.getD, List.getElem?_append_right (show (stp f o ord want have_ (gs.take j)).2.2.length ≤ j by omega), ih3]
          rw [e]
          omega
        · have e : ((stp f o ord want have_ (gs.take k)).2.2 ++ [cut want ((stp f o ord want have_ (gs.take k)).1 + f g) have_ - (stp f o ord want have_ (gs.take k)).2.1]).getD j 0 = 0 := by
            rw [List.getD, List.getElem?_eq_none (by simp [ih3]; omega)]
            rfl
          rw [e]
          omega
    · rw [stp_no hg]
      refine ⟨by push_cast; omega, ih2, by simp [ih3], fun j => ?_⟩
      by_cases hj : j < k
      · have := ih4 j
        simpa [List.getD, List.getElem?_append_left (show j < (stp f o ord want have_ (gs.take k)).2.2.length by omega)] using this
      · have e : ((stp f o ord want have_ (gs.take k)).2.2 ++ [0]).getD j 0 = 0 := by
          by_cases hjk : j = k
          · subst hjk
            simp [List.getD, List.getElem?_append_right (show (stp f o ord want have_ (gs.take j)).2.2.length ≤ j by omega), ih3]
          · rw [List.getD, List.getElem?_eq_none (by simp [ih3]; omega)]
            rfl
        rw [e]
        omega

theorem rep_set {ps : List Int} {n k : Nat} (hl : ps.length = k) (hk : k < n) (z : Int) : (ps ++ List.replicate (n - k) 0).set k z = (ps ++ [z]) ++ List.replicate (n - (k + 1)) 0 := by
  obtain ⟨m, hm⟩ : ∃ m, n - k = m + 1 := ⟨n - k - 1, by omega⟩
  rw [hm, show n - (k + 1) = m by omega, List.replicate_succ]
  subst hl
  rw [List.set_append_right _ _ (Nat.le_refl _), Nat.sub_self]
  simp
theorem rep_skip {ps : List Int} {n k : Nat} (hk : k < n) : ps ++ List.replicate (n - k) 0 = (ps ++ [0]) ++ List.replicate (n - (k + 1)) 0 := by
  obtain ⟨m, hm⟩ : ∃ m, n - k = m + 1 := ⟨n - k - 1, by omega⟩
  rw [hm, show n - (k + 1) = m by omega, List.replicate_succ]
  simp

theorem made_ints (n : Nat) : (madeCells (Value.cells (.int .i64 0)) (n * 1)).toList = (List.replicate n (0 : Int)).map (Value.int .i64) := by
  rw [Nat.mul_one]
  show (madeCells #[Value.int .i64 0] n).toList = _
  rw [toList_madeCells_one]
  simp
theorem owns_keep {w w' : World} {base e size n : Nat} {v : Value} {xs : List Value} (h : w.ownsRow base e size v n xs) (hb : Below w.heap.size w w') : w'.ownsRow base e size v n xs := by
  refine ⟨h.1, ?_⟩
  rcases h.2 with h' | ⟨g, cap, cur, hv, hg0, hg, hr⟩
  · exact .inl h'
  · exact .inr ⟨g, cap, cur, hv, hg0, (hb.block g (Array.getElem?_eq_some_iff.1 hg).1).trans hg, hr⟩
theorem block_keep {w w' : World} {g : Nat} {o : Obj} (h : w.heap[g]? = some o) (hb : Below w.heap.size w w') : w'.heap[g]? = some o := (hb.block g (Array.getElem?_eq_some_iff.1 h).1).trans h
theorem set_cells {w : World} {g : Nat} {a b c d e f : Int} (h : w.heap[g]? = some (.cells #[.int .i64 a, .int .i64 b, .int .i64 c, .int .i64 d, .int .i64 e, .int .i64 f] 29 (0, 0))) :
    w.cell? ⟨g, 0, none⟩ = some (.int .i64 a) ∧ w.cell? ⟨g, 1, none⟩ = some (.int .i64 b) ∧ w.cell? ⟨g, 2, none⟩ = some (.int .i64 c) ∧ w.cell? ⟨g, 3, none⟩ = some (.int .i64 d) ∧ w.cell? ⟨g, 4, none⟩ = some (.int .i64 e) ∧ w.cell? ⟨g, 5, none⟩ = some (.int .i64 f) :=
  ⟨by rw [cell_of_row w g 0 _ _ _ h]; rfl, by rw [cell_of_row w g 1 _ _ _ h]; rfl, by rw [cell_of_row w g 2 _ _ _ h]; rfl, by rw [cell_of_row w g 3 _ _ _ h]; rfl, by rw [cell_of_row w g 4 _ _ _ h]; rfl, by rw [cell_of_row w g 5 _ _ _ h]; rfl⟩

set_option maxRecDepth 20000 in
set_option maxHeartbeats 4000000 in
theorem portionsP_any {v : Value} {gs : List Gl} {w : World} (sa sb sc sd se sf : Int) (h : GRow w v gs) (hok : glsOk gs = true) (hsc0 : 0 < sc) (hsc1 : sc ≤ 9223372036854775807) (hsd0 : 0 < sd) (hsd1 : sd ≤ 9223372036854775807) :
    Calls Try.prog 44 #[v, .func (.func 29) #[] #[], setV sa sb sc sd se sf] w fun e w' => ∃ O : Nat, e = .returned (.slice (some ⟨O, 0, none⟩) gs.length gs.length) ∧
      w'.ownsRow w.heap.size 2 1 (.slice (some ⟨O, 0, none⟩) gs.length gs.length) gs.length ((stp Gl.p Gl.po sb sc sd gs).2.2.map (Value.int .i64)) ∧ Below w.heap.size w w' := by
  obtain ⟨ao, n, cap, rfl, hl, hr⟩ := h
  have heach := glsOk_each hok
  have hn2 : n ≤ 10000 := by have := heach.1; omega
  have HE : Hid (∀ k, k < gs.length → (gs.getD k Gl.none).ok = true) := heach.2
  have HBD := stp_bound Gl.p Gl.po sb sc sd gs (fun k hk => (ok_bounds (HE k hk)).2.1)
  rw [hl] at HBD
  have HBP : Hid (_) := HBD
  have HR : Hid (0 < n → ∃ b off, ao = some ⟨b, off, none⟩ ∧ b < w.heap.size ∧ ∀ i, i < n → w.cell? ⟨b, off + i * 5, none⟩ = some (.int .i64 (gs.getD i Gl.none).s) ∧ w.cell? ⟨b, off + i * 5 + 1, none⟩ = some (.int .i64 (gs.getD i Gl.none).p) ∧ w.cell? ⟨b, off + i * 5 + 2, none⟩ = some (.int .i64 (gs.getD i Gl.none).po) ∧ w.cell? ⟨b, off + i * 5 + 3, none⟩ = some (.int .i64 (gs.getD i Gl.none).m) ∧ w.cell? ⟨b, off + i * 5 + 4, none⟩ = some (.int .i64 (gs.getD i Gl.none).mo)) := hr
  have HL : Hid (gs.length = n) := hl
  rw [hl]
  clear hr hl hok heach HBD
  obtain ⟨i0, hi, hz0, hz1, hz2⟩ := info_parts Try.info2
  have HI : Hid (i0.bytes = 8) := hz2
  clear hz2
  have hbox : (w.alloc (.cells #[.int .i64 sa, .int .i64 sb, .int .i64 sc, .int .i64 sd, .int .i64 se, .int .i64 sf] 29)).heap[w.heap.size]? = some (.cells #[.int .i64 sa, .int .i64 sb, .int .i64 sc, .int .i64 sd, .int .i64 se, .int .i64 sf] 29 (0, 0)) := heap_alloc_new w _
  have HX : Hid ((w.alloc (.cells #[.int .i64 sa, .int .i64 sb, .int .i64 sc, .int .i64 sd, .int .i64 se, .int .i64 sf] 29)).heap[w.heap.size]? = some (.cells #[.int .i64 sa, .int .i64 sb, .int .i64 sc, .int .i64 sd, .int .i64 se, .int .i64 sf] 29 (0, 0))) := hbox
  clear hbox
  go_enter Try.func44, Try.ntmps44
  go_wp2_with (first
    | (refine wpList_make_full _ rfl _ _ 27 rfl w.heap.size 2 i0 (.int .i64 0) 1 Try.underlying27 hi hz0 hz1 _ _ _ _ n rfl rfl rfl rfl (by rw [show i0.bytes = 8 from HI]; omega) (by unfold maxLen; omega) (by simp) ?_; intro w1 hown hgrow))
  have hO : (w.alloc (.cells #[.int .i64 sa, .int .i64 sb, .int .i64 sc, .int .i64 sd, .int .i64 se, .int .i64 sf] 29)).heap.size = w.heap.size + 1 := by simp
  have H0 : Hid (w1.heap[w.heap.size]? = some (.cells #[.int .i64 sa, .int .i64 sb, .int .i64 sc, .int .i64 sd, .int .i64 se, .int .i64 sf] 29 (0, 0)) ∧ w1.ownsRow w.heap.size 2 1 (.slice (some ⟨w.heap.size + 1, 0, none⟩) n n) n (([] ++ List.replicate (n - 0) (0 : Int)).map (Value.int .i64)) ∧ Below w.heap.size w w1) := by
    refine ⟨(hgrow.block _ (by simp) (by simp)).trans HX, ?_, Below.grown ((Below.refl _ _).alloc (Nat.le_refl _) _) hgrow (by simp) (by simp)⟩
    rw [List.nil_append, Nat.sub_zero, ← made_ints, ← hO]
    exact hown
  clear hown hgrow
  clear hO
  obtain ⟨O, hOO⟩ : ∃ O, O = w.heap.size + 1 := ⟨_, rfl⟩
  have hOB : w.heap.size ≤ O := by omega
  have hOne : w.heap.size ≠ O := by omega
  rw [← hOO]
  have H1 : Hid (w1.heap[w.heap.size]? = some (.cells #[.int .i64 sa, .int .i64 sb, .int .i64 sc, .int .i64 sd, .int .i64 se, .int .i64 sf] 29 (0, 0)) ∧ w1.ownsRow w.heap.size 2 1 (.slice (some ⟨O, 0, none⟩) n n) n (([] ++ List.replicate (n - 0) (0 : Int)).map (Value.int .i64)) ∧ Below w.heap.size w w1) := by rw [hOO]; exact H0
  clear H0 hOO
  obtain ⟨X, hX⟩ : ∃ X, X = w.heap.size := ⟨_, rfl⟩
  go_wp2
  go_loopw [8, 9, 20] (fun s8 s9 s20 wr => ∃ k : Nat, k ≤ n ∧ s20 = .int .i64 k ∧ s8 = .int .i64 (stp Gl.p Gl.po sb sc sd (gs.take k)).1 ∧ s9 = .int .i64 (stp Gl.p Gl.po sb sc sd (gs.take k)).2.1 ∧
      wr.heap[w.heap.size]? = some (.cells #[.int .i64 sa, .int .i64 sb, .int .i64 sc, .int .i64 sd, .int .i64 se, .int .i64 sf] 29 (0, 0)) ∧ wr.ownsRow w.heap.size 2 1 (.slice (some ⟨O, 0, none⟩) n n) n (((stp Gl.p Gl.po sb sc sd (gs.take k)).2.2 ++ List.replicate (n - k) (0 : Int)).map (Value.int .i64)) ∧ Below w.heap.size w wr) (fun _ _ s _ => n - (intOf s).toNat)
  case atStart => exact ⟨0, by omega, rfl, rfl, rfl, H1.1, H1.2.1, H1.2.2⟩
  case round =>
    obtain ⟨k, hk, rfl, rfl, rfl, hbx, hown, hbel⟩ := hrel
    have hlen : gs.length = n := HL
    obtain ⟨bd1, bd2, bd3, bd4⟩ := HBP k hk
    by_cases hkn : k < n
    · have hki : (k : Int) < (n : Int) := by omega
      obtain ⟨b, off, rfl, hb, hc⟩ := HR (by omega)
      obtain ⟨t, ht⟩ : ∃ t, t = gs.getD k Gl.none := ⟨_, rfl⟩
      obtain ⟨hc0, hc1, hc2, hc3, hc4⟩ := hc k hkn
      rw [← ht] at hc0 hc1 hc2 hc3 hc4
      have hob := ok_bounds (HE k (by omega))
      rw [← ht] at hob
      have hfb : -1073741823 ≤ t.p ∧ t.p ≤ 1073741823 := hob.2.1
      obtain ⟨st, hst⟩ : ∃ st, st = stp Gl.p Gl.po sb sc sd (gs.take k) := ⟨_, rfl⟩
      have eyes : t.po = sb → stp Gl.p Gl.po sb sc sd (gs.take (k + 1)) = (st.1 + t.p, cut sc (st.1 + t.p) sd, st.2.2 ++ [cut sc (st.1 + t.p) sd - st.2.1]) := fun hh => by rw [take_snoc (by omega), ← ht, stp_yes hh, ← hst]
      have eno : t.po ≠ sb → stp Gl.p Gl.po sb sc sd (gs.take (k + 1)) = (st.1, st.2.1, st.2.2 ++ [0]) := fun hh => by rw [take_snoc (by omega), ← ht, stp_no hh, ← hst]
      rw [← hst] at bd1 bd2 bd3 bd4 hown ⊢
      clear hst
      obtain ⟨s0, d0, ps⟩ := st
      simp only at *
      have g0 := (hbel.cell (p := ⟨b, off + k * 5, none⟩) hb).trans hc0
      have g1 := (hbel.cell (p := ⟨b, off + k * 5 + 1, none⟩) hb).trans hc1
      have g2 := (hbel.cell (p := ⟨b, off + k * 5 + 2, none⟩) hb).trans hc2
      have g3 := (hbel.cell (p := ⟨b, off + k * 5 + 3, none⟩) hb).trans hc3
      have g4 := (hbel.cell (p := ⟨b, off + k * 5 + 4, none⟩) hb).trans hc4
      have HY : Hid (t.po = sb → stp Gl.p Gl.po sb sc sd (gs.take (k + 1)) = (s0 + t.p, cut sc (s0 + t.p) sd, ps ++ [cut sc (s0 + t.p) sd - d0])) := eyes
      have HNO : Hid (t.po ≠ sb → stp Gl.p Gl.po sb sc sd (gs.take (k + 1)) = (s0, d0, ps ++ [0])) := eno
      have H2 : Hid (wr.heap[w.heap.size]? = some (.cells #[.int .i64 sa, .int .i64 sb, .int .i64 sc, .int .i64 sd, .int .i64 se, .int .i64 sf] 29 (0, 0)) ∧ wr.ownsRow w.heap.size 2 1 (.slice (some ⟨O, 0, none⟩) n n) n ((ps ++ List.replicate (n - k) (0 : Int)).map (Value.int .i64)) ∧ Below w.heap.size w wr) := ⟨hbx, hown, hbel⟩
      have HPS : Hid (ps.length = k) := bd3
      clear hc hc0 hc1 hc2 hc3 hc4 ht hbx hown hbel eyes eno hob bd3 bd4
      go_wp2_with fail
      refine (plusOf_any _ _ _ _ _ _).mono ?_
      rintro e w2 ⟨rfl, hb2⟩
      have B2 : Below w.heap.size w w2 := (H2.2.2.alloc H2.2.2.size _).trans (hb2.mono (by have := H2.2.2.size; simp; omega))
      have X2 : w2.heap[w.heap.size]? = some (.cells #[.int .i64 sa, .int .i64 sb, .int .i64 sc, .int .i64 sd, .int .i64 se, .int .i64 sf] 29 (0, 0)) := block_keep ((Below.heap_alloc wr _ _ (Array.getElem?_eq_some_iff.1 H2.1).1).trans H2.1) hb2
      have O2 := owns_keep (H2.2.1.alloc _) hb2
      obtain ⟨x0, x1, x2, x3, x4, x5⟩ := set_cells X2
      have hXl : w.heap.size < w2.heap.size := (Array.getElem?_eq_some_iff.1 X2).1
      have H3 : Hid (w2.heap[w.heap.size]? = some (.cells #[.int .i64 sa, .int .i64 sb, .int .i64 sc, .int .i64 sd, .int .i64 se, .int .i64 sf] 29 (0, 0)) ∧ w2.ownsRow w.heap.size 2 1 (.slice (some ⟨O, 0, none⟩) n n) n ((ps ++ List.replicate (n - k) (0 : Int)).map (Value.int .i64)) ∧ Below w.heap.size w w2) := ⟨X2, O2, B2⟩
      clear B2 X2 O2 hb2 H2 g0 g1 g2 g3 g4
      by_cases hord : t.po = sb
      · have hw2 : IntKind.i64.wrap (s0 + t.p) = s0 + t.p := by rw [IntKind.wrap_i64]; omega
        have hcl := cut_le sc (s0 + t.p) sd
        go_wp2_with fail
        refine (scaledCut_any sc (s0 + t.p) sd _ hsc0 hsc1 (by omega) (by omega) hsd0 hsd1).mono ?_
        rintro e w3 ⟨⟨bb, rfl⟩, hb3⟩
        obtain ⟨cc, hcc⟩ : ∃ cc, cc = cut sc (s0 + t.p) sd := ⟨_, rfl⟩
        rw [← hcc] at hcl ⊢
        have hw3 : IntKind.i64.wrap (cc - d0) = cc - d0 := by rw [IntKind.wrap_i64]; omega
        have X3 := block_keep ((Below.heap_alloc w2 _ _ (Array.getElem?_eq_some_iff.1 H3.1).1).trans H3.1) hb3
        have O3 := owns_keep (H3.2.1.alloc _) hb3
        have B3 : Below w.heap.size w w3 := (H3.2.2.alloc H3.2.2.size _).trans (hb3.mono (by have := H3.2.2.size; simp; omega))
        have hfz : w3.frozen? ⟨O, k, none⟩ = false := World.ownsRow.frozenAt O3 k
        obtain ⟨zz, hzz⟩ : ∃ zz, w3.cell? ⟨O, k, none⟩ = some zz := by
          rw [World.ownsRow.cellAt O3 k (by omega)]
          have hpl : ps.length = k := HPS
          exact ⟨_, List.getElem?_eq_getElem (by simp [hpl]; omega)⟩
        have HF : Hid ((w3.setCell ⟨O, k, none⟩ (.int .i64 (cc - d0))).heap[w.heap.size]? = some (.cells #[.int .i64 sa, .int .i64 sb, .int .i64 sc, .int .i64 sd, .int .i64 se, .int .i64 sf] 29 (0, 0)) ∧ (w3.setCell ⟨O, k, none⟩ (.int .i64 (cc - d0))).ownsRow w.heap.size 2 1 (.slice (some ⟨O, 0, none⟩) n n) n (((ps ++ [cc - d0]) ++ List.replicate (n - (k + 1)) (0 : Int)).map (Value.int .i64)) ∧ Below w.heap.size w (w3.setCell ⟨O, k, none⟩ (.int .i64 (cc - d0))) ∧ cc = cut sc (s0 + t.p) sd) := by
          refine ⟨(Below.heap_setCell _ _ _ _ hOne).trans X3, ?_, B3.setCell (p := ⟨O, k, none⟩) hOB _, hcc⟩
          rw [← rep_set HPS hkn, List.map_set]
          exact (World.ownsRow.stored O3 k _).1
        clear X3 O3 B3 hb3 H3 hcc
        go_wp2
        go_roundw
        case rel =>
          have hy := HY hord
          rw [← show cc = cut sc (s0 + t.p) sd from HF.2.2.2] at hy
          refine ⟨k + 1, by omega, by go_num, by rw [hy], by rw [hy], HF.1, ?_, HF.2.2.1⟩
          rw [hy]
          exact HF.2.1
        case measure => simp [intOf]; omega
      · go_wp2
        go_roundw
        case rel =>
          have hy := HNO hord
          refine ⟨k + 1, by omega, by go_num, by rw [hy], by rw [hy], (Below.heap_alloc _ _ _ (Array.getElem?_eq_some_iff.1 H3.1).1).trans H3.1, ?_, H3.2.2.alloc H3.2.2.size _⟩
          rw [hy, ← rep_skip hkn]
          exact H3.2.1.alloc _
        case measure => simp [intOf]; omega
    · have hki : ¬ (k : Int) < (n : Int) := by omega
      obtain rfl : k = n := by omega
      have et : gs.take k = gs := by rw [← hlen, List.take_length]
      rw [et, Nat.sub_self, List.replicate_zero, List.append_nil] at hown
      have HF : Hid (wr.ownsRow w.heap.size 2 1 (.slice (some ⟨O, 0, none⟩) k k) k ((stp Gl.p Gl.po sb sc sd gs).2.2.map (Value.int .i64)) ∧ Below w.heap.size w wr) := ⟨hown, hbel⟩
      clear hown hbel hbx bd1 bd2 bd3 bd4 et hlen
      go_wp2
      go_ret
      exact ⟨O, rfl, HF⟩

set_option maxRecDepth 20000 in
set_option maxHeartbeats 4000000 in
theorem portionsM_any {v : Value} {gs : List Gl} {w : World} (sa sb sc sd se sf : Int) (h : GRow w v gs) (hok : glsOk gs = true) (hsc0 : 0 < sc) (hsc1 : sc ≤ 9223372036854775807) (hsd0 : 0 < sd) (hsd1 : sd ≤ 9223372036854775807) :
    Calls Try.prog 44 #[v, .func (.func 30) #[] #[], setV sa sb sc sd se sf] w fun e w' => ∃ O : Nat, e = .returned (.slice (some ⟨O, 0, none⟩) gs.length gs.length) ∧
      w'.ownsRow w.heap.size 2 1 (.slice (some ⟨O, 0, none⟩) gs.length gs.length) gs.length ((stp Gl.m Gl.mo sb sc sd gs).2.2.map (Value.int .i64)) ∧ Below w.heap.size w w' := by
  obtain ⟨ao, n, cap, rfl, hl, hr⟩ := h
  have heach := glsOk_each hok
  have hn2 : n ≤ 10000 := by have := heach.1; omega
  have HE : Hid (∀ k, k < gs.length → (gs.getD k Gl.none).ok = true) := heach.2
  have HBD := stp_bound Gl.m Gl.mo sb sc sd gs (fun k hk => (ok_bounds (HE k hk)).2.2.1)
  rw [hl] at HBD
  have HBP : Hid (_) := HBD
  have HR : Hid (0 < n → ∃ b off, ao = some ⟨b, off, none⟩ ∧ b < w.heap.size ∧ ∀ i, i < n → w.cell? ⟨b, off + i * 5, none⟩ = some (.int .i64 (gs.getD i Gl.none).s) ∧ w.cell? ⟨b, off + i * 5 + 1, none⟩ = some (.int .i64 (gs.getD i Gl.none).p) ∧ w.cell? ⟨b, off + i * 5 + 2, none⟩ = some (.int .i64 (gs.getD i Gl.none).po) ∧ w.cell? ⟨b, off + i * 5 + 3, none⟩ = some (.int .i64 (gs.getD i Gl.none).m) ∧ w.cell? ⟨b, off + i * 5 + 4, none⟩ = some (.int .i64 (gs.getD i Gl.none).mo)) := hr
  have HL : Hid (gs.length = n) := hl
  rw [hl]
  clear hr hl hok heach HBD
  obtain ⟨i0, hi, hz0, hz1, hz2⟩ := info_parts Try.info2
  have HI : Hid (i0.bytes = 8) := hz2
  clear hz2
  have hbox : (w.alloc (.cells #[.int .i64 sa, .int .i64 sb, .int .i64 sc, .int .i64 sd, .int .i64 se, .int .i64 sf] 29)).heap[w.heap.size]? = some (.cells #[.int .i64 sa, .int .i64 sb, .int .i64 sc, .int .i64 sd, .int .i64 se, .int .i64 sf] 29 (0, 0)) := heap_alloc_new w _
  have HX : Hid ((w.alloc (.cells #[.int .i64 sa, .int .i64 sb, .int .i64 sc, .int .i64 sd, .int .i64 se, .int .i64 sf] 29)).heap[w.heap.size]? = some (.cells #[.int .i64 sa, .int .i64 sb, .int .i64 sc, .int .i64 sd, .int .i64 se, .int .i64 sf] 29 (0, 0))) := hbox
  clear hbox
  go_enter Try.func44, Try.ntmps44
  go_wp2_with (first
    | (refine wpList_make_full _ rfl _ _ 27 rfl w.heap.size 2 i0 (.int .i64 0) 1 Try.underlying27 hi hz0 hz1 _ _ _ _ n rfl rfl rfl rfl (by rw [show i0.bytes = 8 from HI]; omega) (by unfold maxLen; omega) (by simp) ?_; intro w1 hown hgrow))
  have hO : (w.alloc (.cells #[.int .i64 sa, .int .i64 sb, .int .i64 sc, .int .i64 sd, .int .i64 se, .int .i64 sf] 29)).heap.size = w.heap.size + 1 := by simp
  have H0 : Hid (w1.heap[w.heap.size]? = some (.cells #[.int .i64 sa, .int .i64 sb, .int .i64 sc, .int .i64 sd, .int .i64 se, .int .i64 sf] 29 (0, 0)) ∧ w1.ownsRow w.heap.size 2 1 (.slice (some ⟨w.heap.size + 1, 0, none⟩) n n) n (([] ++ List.replicate (n - 0) (0 : Int)).map (Value.int .i64)) ∧ Below w.heap.size w w1) := by
    refine ⟨(hgrow.block _ (by simp) (by simp)).trans HX, ?_, Below.grown ((Below.refl _ _).alloc (Nat.le_refl _) _) hgrow (by simp) (by simp)⟩
    rw [List.nil_append, Nat.sub_zero, ← made_ints, ← hO]
    exact hown
  clear hown hgrow
  clear hO
  obtain ⟨O, hOO⟩ : ∃ O, O = w.heap.size + 1 := ⟨_, rfl⟩
  have hOB : w.heap.size ≤ O := by omega
  have hOne : w.heap.size ≠ O := by omega
  rw [← hOO]
  have H1 : Hid (w1.heap[w.heap.size]? = some (.cells #[.int .i64 sa, .int .i64 sb, .int .i64 sc, .int .i64 sd, .int .i64 se, .int .i64 sf] 29 (0, 0)) ∧ w1.ownsRow w.heap.size 2 1 (.slice (some ⟨O, 0, none⟩) n n) n (([] ++ List.replicate (n - 0) (0 : Int)).map (Value.int .i64)) ∧ Below w.heap.size w w1) := by rw [hOO]; exact H0
  clear H0 hOO
  obtain ⟨X, hX⟩ : ∃ X, X = w.heap.size := ⟨_, rfl⟩
  go_wp2
  go_loopw [8, 9, 20] (fun s8 s9 s20 wr => ∃ k : Nat, k ≤ n ∧ s20 = .int .i64 k ∧ s8 = .int .i64 (stp Gl.m Gl.mo sb sc sd (gs.take k)).1 ∧ s9 = .int .i64 (stp Gl.m Gl.mo sb sc sd (gs.take k)).2.1 ∧
      wr.heap[w.heap.size]? = some (.cells #[.int .i64 sa, .int .i64 sb, .int .i64 sc, .int .i64 sd, .int .i64 se, .int .i64 sf] 29 (0, 0)) ∧ wr.ownsRow w.heap.size 2 1 (.slice (some ⟨O, 0, none⟩) n n) n (((stp Gl.m Gl.mo sb sc sd (gs.take k)).2.2 ++ List.replicate (n - k) (0 : Int)).map (Value.int .i64)) ∧ Below w.heap.size w wr) (fun _ _ s _ => n - (intOf s).toNat)
  case atStart => exact ⟨0, by omega, rfl, rfl, rfl, H1.1, H1.2.1, H1.2.2⟩
  case round =>
    obtain ⟨k, hk, rfl, rfl, rfl, hbx, hown, hbel⟩ := hrel
    have hlen : gs.length = n := HL
    obtain ⟨bd1, bd2, bd3, bd4⟩ := HBP k hk
    by_cases hkn : k < n
    · have hki : (k : Int) < (n : Int) := by omega
      obtain ⟨b, off, rfl, hb, hc⟩ := HR (by omega)
      obtain ⟨t, ht⟩ : ∃ t, t = gs.getD k Gl.none := ⟨_, rfl⟩
      obtain ⟨hc0, hc1, hc2, hc3, hc4⟩ := hc k hkn
      rw [← ht] at hc0 hc1 hc2 hc3 hc4
      have hob := ok_bounds (HE k (by omega))
      rw [← ht] at hob
      have hfb : -1073741823 ≤ t.m ∧ t.m ≤ 1073741823 := hob.2.2.1
      obtain ⟨st, hst⟩ : ∃ st, st = stp Gl.m Gl.mo sb sc sd (gs.take k) := ⟨_, rfl⟩
      have eyes : t.mo = sb → stp Gl.m Gl.mo sb sc sd (gs.take (k + 1)) = (st.1 + t.m, cut sc (st.1 + t.m) sd, st.2.2 ++ [cut sc (st.1 + t.m) sd - st.2.1]) := fun hh => by rw [take_snoc (by omega), ← ht, stp_yes hh, ← hst]
      have eno : t.mo ≠ sb → stp Gl.m Gl.mo sb sc sd (gs.take (k + 1)) = (st.1, st.2.1, st.2.2 ++ [0]) := fun hh => by rw [take_snoc (by omega), ← ht, stp_no hh, ← hst]
      rw [← hst] at bd1 bd2 bd3 bd4 hown ⊢
      clear hst
      obtain ⟨s0, d0, ps⟩ := st
      simp only at *
      have g0 := (hbel.cell (p := ⟨b, off + k * 5, none⟩) hb).trans hc0
      have g1 := (hbel.cell (p := ⟨b, off + k * 5 + 1, none⟩) hb).trans hc1
      have g2 := (hbel.cell (p := ⟨b, off + k * 5 + 2, none⟩) hb).trans hc2
      have g3 := (hbel.cell (p := ⟨b, off + k * 5 + 3, none⟩) hb).trans hc3
      have g4 := (hbel.cell (p := ⟨b, off + k * 5 + 4, none⟩) hb).trans hc4
      have HY : Hid (t.mo = sb → stp Gl.m Gl.mo sb sc sd (gs.take (k + 1)) = (s0 + t.m, cut sc (s0 + t.m) sd, ps ++ [cut sc (s0 + t.m) sd - d0])) := eyes
      have HNO : Hid (t.mo ≠ sb → stp Gl.m Gl.mo sb sc sd (gs.take (k + 1)) = (s0, d0, ps ++ [0])) := eno
      have H2 : Hid (wr.heap[w.heap.size]? = some (.cells #[.int .i64 sa, .int .i64 sb, .int .i64 sc, .int .i64 sd, .int .i64 se, .int .i64 sf] 29 (0, 0)) ∧ wr.ownsRow w.heap.size 2 1 (.slice (some ⟨O, 0, none⟩) n n) n ((ps ++ List.replicate (n - k) (0 : Int)).map (Value.int .i64)) ∧ Below w.heap.size w wr) := ⟨hbx, hown, hbel⟩
      have HPS : Hid (ps.length = k) := bd3
      clear hc hc0 hc1 hc2 hc3 hc4 ht hbx hown hbel eyes eno hob bd3 bd4
      go_wp2_with fail
      refine (minusOf_any _ _ _ _ _ _).mono ?_
      rintro e w2 ⟨rfl, hb2⟩
      have B2 : Below w.heap.size w w2 := (H2.2.2.alloc H2.2.2.size _).trans (hb2.mono (by have := H2.2.2.size; simp; omega))
      have X2 : w2.heap[w.heap.size]? = some (.cells #[.int .i64 sa, .int .i64 sb, .int .i64 sc, .int .i64 sd, .int .i64 se, .int .i64 sf] 29 (0, 0)) := block_keep ((Below.heap_alloc wr _ _ (Array.getElem?_eq_some_iff.1 H2.1).1).trans H2.1) hb2
      have O2 := owns_keep (H2.2.1.alloc _) hb2
      obtain ⟨x0, x1, x2, x3, x4, x5⟩ := set_cells X2
      have hXl : w.heap.size < w2.heap.size := (Array.getElem?_eq_some_iff.1 X2).1
      have H3 : Hid (w2.heap[w.heap.size]? = some (.cells #[.int .i64 sa, .int .i64 sb, .int .i64 sc, .int .i64 sd, .int .i64 se, .int .i64 sf] 29 (0, 0)) ∧ w2.ownsRow w.heap.size 2 1 (.slice (some ⟨O, 0, none⟩) n n) n ((ps ++ List.replicate (n - k) (0 : Int)).map (Value.int .i64)) ∧ Below w.heap.size w w2) := ⟨X2, O2, B2⟩
      clear B2 X2 O2 hb2 H2 g0 g1 g2 g3 g4
      by_cases hord : t.mo = sb
      · have hw2 : IntKind.i64.wrap (s0 + t.m) = s0 + t.m := by rw [IntKind.wrap_i64]; omega
        have hcl := cut_le sc (s0 + t.m) sd
        go_wp2_with fail
        refine (scaledCut_any sc (s0 + t.m) sd _ hsc0 hsc1 (by omega) (by omega) hsd0 hsd1).mono ?_
        rintro e w3 ⟨⟨bb, rfl⟩, hb3⟩
        obtain ⟨cc, hcc⟩ : ∃ cc, cc = cut sc (s0 + t.m) sd := ⟨_, rfl⟩
        rw [← hcc] at hcl ⊢
        have hw3 : IntKind.i64.wrap (cc - d0) = cc - d0 := by rw [IntKind.wrap_i64]; omega
        have X3 := block_keep ((Below.heap_alloc w2 _ _ (Array.getElem?_eq_some_iff.1 H3.1).1).trans H3.1) hb3
        have O3 := owns_keep (H3.2.1.alloc _) hb3
        have B3 : Below w.heap.size w w3 := (H3.2.2.alloc H3.2.2.size _).trans (hb3.mono (by have := H3.2.2.size; simp; omega))
        have hfz : w3.frozen? ⟨O, k, none⟩ = false := World.ownsRow.frozenAt O3 k
        obtain ⟨zz, hzz⟩ : ∃ zz, w3.cell? ⟨O, k, none⟩ = some zz := by
          rw [World.ownsRow.cellAt O3 k (by omega)]
          have hpl : ps.length = k := HPS
          exact ⟨_, List.getElem?_eq_getElem (by simp [hpl]; omega)⟩
        have HF : Hid ((w3.setCell ⟨O, k, none⟩ (.int .i64 (cc - d0))).heap[w.heap.size]? = some (.cells #[.int .i64 sa, .int .i64 sb, .int .i64 sc, .int .i64 sd, .int .i64 se, .int .i64 sf] 29 (0, 0)) ∧ (w3.setCell ⟨O, k, none⟩ (.int .i64 (cc - d0))).ownsRow w.heap.size 2 1 (.slice (some ⟨O, 0, none⟩) n n) n (((ps ++ [cc - d0]) ++ List.replicate (n - (k + 1)) (0 : Int)).map (Value.int .i64)) ∧ Below w.heap.size w (w3.setCell ⟨O, k, none⟩ (.int .i64 (cc - d0))) ∧ cc = cut sc (s0 + t.m) sd) := by
          refine ⟨(Below.heap_setCell _ _ _ _ hOne).trans X3, ?_, B3.setCell (p := ⟨O, k, none⟩) hOB _, hcc⟩
          rw [← rep_set HPS hkn, List.map_set]
          exact (World.ownsRow.stored O3 k _).1
        clear X3 O3 B3 hb3 H3 hcc
        go_wp2
        go_roundw
        case rel =>
          have hy := HY hord
          rw [← show cc = cut sc (s0 + t.m) sd from HF.2.2.2] at hy
          refine ⟨k + 1, by omega, by go_num, by rw [hy], by rw [hy], HF.1, ?_, HF.2.2.1⟩
          rw [hy]
          exact HF.2.1
        case measure => simp [intOf]; omega
      · go_wp2
        go_roundw
        case rel =>
          have hy := HNO hord
          refine ⟨k + 1, by omega, by go_num, by rw [hy], by rw [hy], (Below.heap_alloc _ _ _ (Array.getElem?_eq_some_iff.1 H3.1).1).trans H3.1, ?_, H3.2.2.alloc H3.2.2.size _⟩
          rw [hy, ← rep_skip hkn]
          exact H3.2.1.alloc _
        case measure => simp [intOf]; omega
    · have hki : ¬ (k : Int) < (n : Int) := by omega
      obtain rfl : k = n := by omega
      have et : gs.take k = gs := by rw [← hlen, List.take_length]
      rw [et, Nat.sub_self, List.replicate_zero, List.append_nil] at hown
      have HF : Hid (wr.ownsRow w.heap.size 2 1 (.slice (some ⟨O, 0, none⟩) k k) k ((stp Gl.m Gl.mo sb sc sd gs).2.2.map (Value.int .i64)) ∧ Below w.heap.size w wr) := ⟨hown, hbel⟩
      clear hown hbel hbx bd1 bd2 bd3 bd4 et hlen
      go_wp2
      go_ret
      exact ⟨O, rfl, HF⟩
end Go.Proofs.Ytgfphgbemfmkfaa
