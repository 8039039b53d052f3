/-
  The turn at an item: the program.
-/
import Derived.Test.YtdgfnceipginkaaSln
import Derived.Test.YtdgfnceipginkaaLin
namespace Go.Proofs.Ytdgfnceipginkaa
open Go.RowKit
set_option linter.unusedVariables false
set_option linter.unusedSimpArgs false

theorem bl_mem {xs : List Nd} {S : Sy} {t : Int} (h : t ∈ blL xs S) : listB xs = true ∧ syB S = true ∧ (its xs).length ≤ 2000 ∧ ∃ b : Nat, t = (b : Int) ∧ b < (rowI xs S).length ∧ trnB (rowI xs S) b = true := by
  unfold blL at h
  split at h
  · rename_i hh
    unfold bl0 at h
    rw [List.mem_map] at h
    obtain ⟨b, hb, rfl⟩ := h
    rw [List.mem_filter, List.mem_range] at hb
    exact ⟨hh.2.1, hh.1, hh.2.2.1, b, rfl, hb.1, hb.2⟩
  · simp at h
theorem rowI_few {xs : List Nd} {S : Sy} (h : (its xs).length ≤ 2000) : (rowI xs S).length ≤ 2003 := by
  unfold rowI
  have := trm_le (its xs) (its xs).length
  simp
  omega
theorem bl_len5 (xs : List Nd) (S : Sy) : (blL xs S).length ≤ 5000 := by
  unfold blL
  split
  · rename_i hh
    have := hh.2.2.2
    omega
  · simp

set_option maxRecDepth 20000 in
set_option maxHeartbeats 8000000 in
theorem specLO_any {v : Value} {xs : List Nd} {w : World} (S : Sy) (f t : Int) (h : NRow 0 w v xs) (hs : xs.length ≤ 1048576) (hcp : ∀ a n c, v = .slice a n c → n ≤ c ∧ c ≤ 9223372036854775807) :
    Calls Try.prog 5 #[v, syV S, .int .i64 f, .int .i64 t] w fun e W' => (∃ u, e = .returned u ∧ W'.ownsRow w.heap.size 48 15 u (lnL xs S f t).length (flatN (lnL xs S f t))) ∧ Below w.heap.size w W' := by
  have BC : Hid (∀ W, Below w.heap.size w W → Calls Try.prog 13 #[v, syV S] W fun e W' => (∃ r u, e = .returned (.tuple #[r, u]) ∧ W'.ownsRow W.heap.size 2 1 u (blL xs S).length ((blL xs S).map (Value.int .i64)) ∧ (blL xs S ≠ [] → listB xs = true ∧ Rws W.heap.size W' r (rowL xs S))) ∧ Below W.heap.size W W') := hideP (fun W hW => specBreaks_any S (SRow.below ndStable h hW) hs hcp)
  have LC : Hid (∀ (W : World) (lo : Nat) (r : Value) (a b : Nat), listB xs = true → (its xs).length ≤ 2000 → f + 1 = (a : Int) → a ≤ b → b < (rowI xs S).length → Rws lo W r (rowL xs S) → Calls Try.prog 15 #[r, syV S, .int .i64 f, .int .i64 (b : Int)] W fun e w' => (∃ u, e = .returned u ∧ w'.ownsRow W.heap.size 48 15 u (lineZ S (rowI xs S) (rowL xs S) a b).length (flatN (lineZ S (rowI xs S) (rowL xs S) a b))) ∧ Below W.heap.size W w') := hideP (fun W lo r a b hob h2 hf hab hb hR => l9Line_any S a b f hf hR (heads_row hob hR) rfl (rowI_len S hob) (fun i hi => row_item S hob hi) (fun i => row_seg hob i) (rowI_few h2) hab hb)
  have hsy : ∃ cs : Array Value, syV S = .agg cs ∧ cs.size = 23 := ⟨_, rfl, rfl⟩
  obtain ⟨cs, hcs, hsz⟩ := hsy
  rw [hcs] at BC LC ⊢
  obtain ⟨va, vn, vc, rfl, _⟩ := h
  obtain ⟨LN, hLN⟩ : ∃ LN, LN = lnL xs S f t := ⟨_, rfl⟩
  rw [← hLN]
  have HLN := hideP hLN
  have hb5 := bl_len5 xs S
  obtain ⟨L, hL⟩ : ∃ L, L = blL xs S := ⟨_, rfl⟩
  rw [← hL] at BC hb5
  have HL := hideP hL
  clear hcs hs hcp hLN hL
  have hG0 := heap_alloc_new w (.cells cs 33)
  have B0 := hideP (below1 w (.cells cs 33))
  have hZ0 : w.heap.size < (w.alloc (.cells cs 33)).heap.size := by simp
  have HG : Hid (∀ W, Below (w.alloc (.cells cs 33)).heap.size (w.alloc (.cells cs 33)) W → W.heap[w.heap.size]? = some (.cells cs 33 (0, 0))) := hideP (fun W hW => (hW.block _ hZ0).trans hG0)
  go_enter Try.func5, Try.ntmps5
  go_upto_region 1 with fail
  generalize World.alloc _ _ = W0 at B0 HG hG0 hZ0 ⊢
  go_wp2_with (refine wpList_load_row rfl 33 _ rfl w.heap.size rfl cs 33 (0, 0) hG0 _ Try.underlying33 rfl (by rw [hsz]; kernel_rfl) ?_)
  refine (BC.out W0 B0.out).mono ?_
  rintro e w1 ⟨⟨r, u, rfl, hu, hR⟩, hb1⟩
  have U1 := hideP hu
  have R1 := hideP hR
  have BW1 := hideP hb1
  obtain ⟨ua, uc, rfl⟩ := ownG_shape hu
  have IN : Hid (∀ x : Int, Calls Try.prog 14 #[.slice ua L.length uc, .int .i64 x] w1 fun e w' => e = .returned (.bool (decide (x ∈ L))) ∧ w' = w1) := hideP (fun x => l9In_any x U1.out hb5)
  obtain ⟨n, hn⟩ : ∃ n, n = L.length := ⟨_, rfl⟩
  rw [← hn] at IN ⊢
  clear hu hR hb1 hG0 BC hn hb5
  obtain ⟨mf, hmf⟩ : ∃ m, m = decide (f ∈ L) := ⟨_, rfl⟩
  obtain ⟨mt, hmt⟩ : ∃ m, m = decide (t ∈ L) := ⟨_, rfl⟩
  have INf : Hid (Calls Try.prog 14 #[.slice ua n uc, .int .i64 f] w1 fun e w' => e = .returned (.bool mf) ∧ w' = w1) := hideP (by rw [hmf]; exact IN.out f)
  have INt : Hid (Calls Try.prog 14 #[.slice ua n uc, .int .i64 t] w1 fun e w' => e = .returned (.bool mt) ∧ w' = w1) := hideP (by rw [hmt]; exact IN.out t)
  obtain ⟨T, hT⟩ : ∃ T, T = !decide ((f = -1 ∨ f ∈ L) ∧ t ∈ L ∧ f < t) := ⟨_, rfl⟩
  have HT := hideP hT
  have HMF := hideP hmf
  have HMT := hideP hmt
  clear hmf hmt IN hT
  go_upto_region 2 with fail
  go_cut [35] (fun s35 wc => s35 = .bool T ∧ wc = w1)
  case first =>
    by_cases hf1 : f = -1
    · have hf1b : (f != -1) = false := by simp [hf1]
      have hf1c : (f == -1) = true := by simp [hf1]
      have HF : Hid (f = -1) := hideP hf1
      clear hf1
      go_wp2_with fail
      refine INt.out.mono ?_
      rintro e w2 ⟨rfl, hw⟩
      subst hw
      cases mt with
      | false =>
        have HE : Hid (T = true) := hideP (by
          rw [HT.out]
          have := HMT.out
          simp only [Bool.false_eq, decide_eq_false_iff_not] at this
          simp [this])
        go_wp2
        go_meet
        case rel => exact ⟨by rw [HE.out], rfl⟩
      | true =>
        have hmt2 : t ∈ L := by
          have := HMT.out
          simpa using this
        by_cases hft : f < t
        · have hge : ¬ f ≥ t := by omega
          have hgd : decide (f ≥ t) = false := decide_eq_false hge
          have hgd2 : decide (t ≤ f) = false := decide_eq_false hge
          have HE : Hid (T = false) := hideP (by rw [HT.out, decide_eq_true ⟨.inl HF.out, hmt2, hft⟩]; rfl)
          clear hmt2
          go_wp2
          go_meet
          case rel => exact ⟨by rw [HE.out], rfl⟩
        · have hge : f ≥ t := by omega
          have hgd : decide (f ≥ t) = true := decide_eq_true hge
          have hgd2 : decide (t ≤ f) = true := decide_eq_true hge
          have HE : Hid (T = true) := hideP (by rw [HT.out, decide_eq_false (fun h => hft h.2.2)]; rfl)
          clear hmt2
          go_wp2
          go_meet
          case rel => exact ⟨by rw [HE.out], rfl⟩
    · have hf1b : (f != -1) = true := by simp [hf1]
      have hf1c : (f == -1) = false := by simp [hf1]
      have HF : Hid (f ≠ -1) := hideP hf1
      clear hf1
      go_wp2_with fail
      refine INf.out.mono ?_
      rintro e w2 ⟨rfl, hw⟩
      subst hw
      cases mf with
      | false =>
        have HE : Hid (T = true) := hideP (by
          rw [HT.out]
          have := HMF.out
          simp only [Bool.false_eq, decide_eq_false_iff_not] at this
          rw [decide_eq_false (by rintro ⟨h1 | h1, _⟩; exact HF.out h1; exact this h1)]
          rfl)
        go_wp2
        go_meet
        case rel => exact ⟨by rw [HE.out], rfl⟩
      | true =>
        have hmf2 : f ∈ L := by
          have := HMF.out
          simpa using this
        have HMF2 := hideP hmf2
        clear hmf2
        go_wp2_with fail
        refine INt.out.mono ?_
        rintro e w2 ⟨rfl, hw⟩
        subst hw
        cases mt with
        | false =>
          have HE : Hid (T = true) := hideP (by
            rw [HT.out]
            have := HMT.out
            simp only [Bool.false_eq, decide_eq_false_iff_not] at this
            simp [this])
          go_wp2
          go_meet
          case rel => exact ⟨by rw [HE.out], rfl⟩
        | true =>
          have hmt2 : t ∈ L := by
            have := HMT.out
            simpa using this
          by_cases hft : f < t
          · have hge : ¬ f ≥ t := by omega
            have hgd : decide (f ≥ t) = false := decide_eq_false hge
            have hgd2 : decide (t ≤ f) = false := decide_eq_false hge
            have HE : Hid (T = false) := hideP (by rw [HT.out, decide_eq_true ⟨.inr HMF2.out, hmt2, hft⟩]; rfl)
            clear hmt2
            go_wp2
            go_meet
            case rel => exact ⟨by rw [HE.out], rfl⟩
          · have hge : f ≥ t := by omega
            have hgd : decide (f ≥ t) = true := decide_eq_true hge
            have hgd2 : decide (t ≤ f) = true := decide_eq_true hge
            have HE : Hid (T = true) := hideP (by rw [HT.out, decide_eq_false (fun h => hft h.2.2)]; rfl)
            clear hmt2
            go_wp2
            go_meet
            case rel => exact ⟨by rw [HE.out], rfl⟩
  case rest =>
    obtain ⟨rfl, hw⟩ := hcut
    subst hw
    have BWc : Hid (Below w.heap.size w wc) := hideP (below_more B0.out BW1.out B0.out.size)
    cases T with
    | true =>
      have HE : Hid (LN = []) := hideP (by
        rw [HLN.out]
        unfold lnL
        rw [← HL.out, if_neg]
        intro hP
        have h1 := HT.out
        rw [decide_eq_true hP] at h1
        cases h1)
      have OE : Hid ((wc.alloc (.cells #[] 48)).ownsRow w.heap.size 48 15 (.slice (some ⟨wc.heap.size, 0, none⟩) 0 0) 0 []) := hideP ⟨rfl, .inr ⟨_, _, _, rfl, BWc.out.size, heap_alloc_new wc _, Nat.le_refl _, by unfold maxLen; omega, rfl, rfl⟩⟩
      have BE : Hid (Below w.heap.size w (wc.alloc (.cells #[] 48))) := hideP (BWc.out.alloc BWc.out.size _)
      go_wp2
      go_ret
      exact ⟨⟨_, rfl, by rw [HE.out]; exact OE.out⟩, BE.out⟩
    | false =>
      have hcond : (f = -1 ∨ f ∈ L) ∧ t ∈ L ∧ f < t := Decidable.byContradiction (fun hn => by
        have h1 := HT.out
        rw [decide_eq_false hn] at h1
        cases h1)
      obtain ⟨hf, ht, hft⟩ := hcond
      have HE : Hid (LN = lineZ S (rowI xs S) (rowL xs S) (f + 1).toNat t.toNat) := hideP (by
        rw [HLN.out]
        unfold lnL
        rw [← HL.out, if_pos ⟨hf, ht, hft⟩])
      have ht2 := ht
      rw [HL.out] at ht2
      obtain ⟨h1, h2, h3, b, rfl, hb, _⟩ := bl_mem ht2
      have hf0 : -1 ≤ f := by
        rcases hf with h | h
        · omega
        · rw [HL.out] at h
          obtain ⟨_, _, _, b2, rfl, _, _⟩ := bl_mem h
          omega
      have hne : L ≠ [] := fun e => by rw [e] at ht; simp at ht
      have LC2 := hideP (LC.out wc _ r (f + 1).toNat b h1 h3 (by omega) (by omega) hb (R1.out hne).2)
      have HGc := HG.out wc BW1.out
      rw [show ((b : Nat) : Int).toNat = b by omega] at HE
      obtain ⟨LZ, hLZ⟩ : ∃ LZ, LZ = lineZ S (rowI xs S) (rowL xs S) (f + 1).toNat b := ⟨_, rfl⟩
      rw [← hLZ] at HE LC2
      clear hf ht hft ht2 h1 h2 h3 hb hf0 hne hLZ
      go_wp2_with (refine wpList_load_row rfl 33 _ rfl w.heap.size rfl cs 33 (0, 0) HGc _ Try.underlying33 rfl (by rw [hsz]; kernel_rfl) ?_)
      refine LC2.out.mono ?_
      rintro e w3 ⟨⟨z, rfl, hz⟩, hb3⟩
      have OZ := hideP (ownG_mono hz BWc.out.size)
      have BZ : Hid (Below w.heap.size w w3) := hideP (below_more BWc.out hb3 BWc.out.size)
      clear hz hb3
      go_wp2
      go_ret
      exact ⟨⟨_, rfl, by rw [HE.out]; exact OZ.out⟩, BZ.out⟩

theorem isNan_any (x : Int) (w : World) : Calls Try.prog 57 #[.int .i64 x] w fun e w' => e = .returned (.bool false) ∧ w' = w := by
  have h0 : (x != x) = false := by simp
  go_enter Try.func57, Try.ntmps57
  go_wp2
  go_ret
  exact ⟨rfl, rfl⟩
def cmpI (x y : Int) : Int := if x < y then -1 else if x > y then 1 else 0
theorem compare_any (x y : Int) (w : World) : Calls Try.prog 38 #[.int .i64 x, .int .i64 y] w fun e w' => e = .returned (.int .i64 (cmpI x y)) ∧ w' = w := by
  go_enter Try.func38, Try.ntmps38
  go_wp2_with fail
  refine (isNan_any x w).mono ?_
  rintro e w1 ⟨rfl, hw⟩
  subst hw
  go_wp2_with fail
  refine (isNan_any y w1).mono ?_
  rintro e w2 ⟨rfl, hw⟩
  subst hw
  by_cases h1 : x < y
  · have h1b : decide (x < y) = true := decide_eq_true h1
    have HE : Hid (cmpI x y = -1) := hideP (by unfold cmpI; rw [if_pos h1])
    go_wp2
    go_ret
    exact ⟨by rw [HE.out]; rfl, rfl⟩
  · have h1b : decide (x < y) = false := decide_eq_false h1
    by_cases h2 : x > y
    · have h2b : decide (x > y) = true := decide_eq_true h2
      have HE : Hid (cmpI x y = 1) := hideP (by unfold cmpI; rw [if_neg h1, if_pos h2])
      go_wp2
      go_ret
      exact ⟨by rw [HE.out]; rfl, rfl⟩
    · have h2b : decide (x > y) = false := decide_eq_false h2
      have HE : Hid (cmpI x y = 0) := hideP (by unfold cmpI; rw [if_neg h1, if_neg h2])
      go_wp2
      go_ret
      exact ⟨by rw [HE.out]; rfl, rfl⟩
theorem turnCmp_any (i c nx y : Int) (q : Option Addr) (w : World) : Calls Try.prog 37 #[.agg #[.int .i64 i, .int .i64 c, .pointer q, .int .i64 nx], .int .i64 y] w fun e w' => e = .returned (.int .i64 (cmpI i y)) ∧ Below w.heap.size w w' := by
  have CC : Hid (∀ W, Calls Try.prog 38 #[.int .i64 i, .int .i64 y] W fun e w' => e = .returned (.int .i64 (cmpI i y)) ∧ w' = W) := hideP (fun W => compare_any i y W)
  obtain ⟨r, hr⟩ : ∃ r, r = cmpI i y := ⟨_, rfl⟩
  rw [← hr] at CC ⊢
  clear hr
  go_enter Try.func37, Try.ntmps37
  go_wp2_with fail
  refine (CC.out _).mono ?_
  rintro e w1 ⟨rfl, hw⟩
  subst hw
  go_wp2
  go_ret
  exact ⟨rfl, below1 _ _⟩
theorem cmpI_neg {x y : Int} : cmpI x y < 0 ↔ x < y := by
  unfold cmpI
  split
  · omega
  · split <;> omega
theorem cmpI_eq {x y : Int} : cmpI x y = 0 ↔ x = y := by
  unfold cmpI
  split
  · omega
  · split <;> omega

/-- What a search among turns tells. -/
def FndP (ts : List Tn) (m : Nat) (x : Int) (e : Ending) : Prop := ∃ (k : Nat) (ok : Bool), e = .returned (.tuple #[.int .i64 (k : Int), .bool ok]) ∧ (ok = true → k < m ∧ (ts.getD k Tn.none).1 = x) ∧ (ok = false → ∀ p, p < m → (ts.getD p Tn.none).1 ≠ x)

set_option maxRecDepth 20000 in
set_option maxHeartbeats 4000000 in
theorem bsearch_any {w : World} {lo g m c : Nat} {ts : List Tn} (x : Int) (h : w.ownsRow lo 87 4 (.slice (some ⟨g, 0, none⟩) m c) m (flatT ts)) (hl : ts.length = m) (hm : m ≤ 5001) (hs : ∀ p q, p < q → q < m → (ts.getD p Tn.none).1 < (ts.getD q Tn.none).1) :
    Calls Try.prog 36 #[.slice (some ⟨g, 0, none⟩) m c, .int .i64 x, .func (.func 37) #[] #[]] w fun e w' => FndP ts m x e ∧ Below w.heap.size w w' := by
  have hgl : g < w.heap.size := (World.ownsRow.lt h g rfl).2
  have TC : Hid (∀ X, Below w.heap.size w X → ∀ k, k < m → ∃ (t : Tn), t = ts.getD k Tn.none ∧ X.cell? ⟨g, k * 4, none⟩ = some (.int .i64 t.1) ∧ X.cell? ⟨g, k * 4 + 1, none⟩ = some (.int .i64 t.2.1) ∧ X.cell? ⟨g, k * 4 + 2, none⟩ = some (.pointer t.2.2.1) ∧ X.cell? ⟨g, k * 4 + 3, none⟩ = some (.int .i64 t.2.2.2)) := hideP (fun X hX k hk => by
    have ht : ∀ j, j < 4 → X.cell? ⟨g, k * 4 + j, none⟩ = (ts.getD k Tn.none).cells[j]? := fun j hj => by
      rw [World.cell?_of_block (w := w) (a := ⟨g, k * 4 + j, none⟩) (hX.block g hgl), h.cellAt _ (by omega)]
      exact flatT_at ts k j (by omega) hj
    exact ⟨_, rfl, ht 0 (by omega), ht 1 (by omega), ht 2 (by omega), ht 3 (by omega)⟩)
  have HS := hideP hs
  clear h hs
  go_enter Try.func36, Try.ntmps36
  go_wp2
  go_loopw [9, 10, 11] (fun s9 s10 _ wr => ∃ (i j : Nat), i ≤ j ∧ j ≤ m ∧ s9 = .int .i64 (i : Int) ∧ s10 = .int .i64 (j : Int) ∧ Hid (∀ p, p < i → (ts.getD p Tn.none).1 < x) ∧ Hid (∀ p, j ≤ p → p < m → x ≤ (ts.getD p Tn.none).1) ∧ Hid (Below w.heap.size w wr)) (fun s9 s10 _ _ => (intOf s10).toNat - (intOf s9).toNat)
  case atStart => exact ⟨0, m, by omega, by omega, rfl, rfl, hideP (fun p hp => by omega), hideP (fun p h1 h2 => by omega), hideP (Below.refl _ _)⟩
  case round =>
    obtain ⟨i, j, hij, hjm, rfl, rfl, HA, HB, HBr⟩ := hrel
    by_cases hlt : i < j
    · have hki : (i : Int) < (j : Int) := by omega
      obtain ⟨d, hd⟩ : ∃ d : Nat, d = (i + j) / 2 := ⟨_, rfl⟩
      have hmi : ((i : Int) + (j : Int)) / 2 = (d : Int) := by omega
      have hd1 : i ≤ d := by omega
      have hd2 : d < j := by omega
      have hdm : (d : Int) < (m : Int) := by omega
      obtain ⟨t, ht, t0, t1, t2, t3⟩ := TC.out wr HBr.out d (by omega)
      obtain ⟨ti, tc, tq, tn⟩ := t
      dsimp only at t0 t1 t2 t3
      have CC : Hid (∀ W, Calls Try.prog 37 #[.agg #[.int .i64 ti, .int .i64 tc, .pointer tq, .int .i64 tn], .int .i64 x] W fun e w' => e = .returned (.int .i64 (cmpI ti x)) ∧ Below W.heap.size W w') := hideP (fun W => turnCmp_any ti tc tn x tq W)
      obtain ⟨r, hr⟩ : ∃ r, r = cmpI ti x := ⟨_, rfl⟩
      rw [← hr] at CC
      have HR : Hid ((r < 0 ↔ (ts.getD d Tn.none).1 < x)) := hideP (by rw [hr, ← ht]; exact cmpI_neg)
      clear hd hr ht
      go_wp2_with fail
      refine (CC.out wr).mono ?_
      rintro e w2 ⟨rfl, hb2⟩
      have B2 : Hid (Below w.heap.size w w2) := hideP (below_more HBr.out hb2 HBr.out.size)
      clear hb2 t0 t1 t2 t3 CC
      by_cases hr0 : r < 0
      · have hrb : decide (r < 0) = true := decide_eq_true hr0
        have HA2 : Hid (∀ p, p < d + 1 → (ts.getD p Tn.none).1 < x) := hideP (fun p hp => by
          have h1 := HR.out.1 hr0
          by_cases hpd : p = d
          · rw [hpd]; exact h1
          · have h2 := HS.out p d (by omega) (by omega)
            omega)
        clear HR
        go_wp2
        go_roundw
        case rel => exact ⟨d + 1, j, by omega, hjm, by go_num, rfl, HA2, HB, B2⟩
        case measure => simp [intOf]; omega
      · have hrb : decide (r < 0) = false := decide_eq_false hr0
        have HB2 : Hid (∀ p, d ≤ p → p < m → x ≤ (ts.getD p Tn.none).1) := hideP (fun p h1 h2 => by
          have h3 : ¬ (ts.getD d Tn.none).1 < x := fun h => hr0 (HR.out.2 h)
          by_cases hpd : p = d
          · rw [hpd]; omega
          · have h4 := HS.out d p (by omega) h2
            omega)
        clear HR
        go_wp2
        go_roundw
        case rel => exact ⟨i, d, by omega, by omega, rfl, rfl, HA, HB2, B2⟩
        case measure => simp [intOf]; omega
    · obtain rfl : i = j := by omega
      have hki : ¬ (i : Int) < (i : Int) := by omega
      by_cases him : i < m
      · have hni : (i : Int) < (m : Int) := by omega
        obtain ⟨t, ht, t0, t1, t2, t3⟩ := TC.out wr HBr.out i him
        obtain ⟨ti, tc, tq, tn⟩ := t
        dsimp only at t0 t1 t2 t3
        have CC : Hid (∀ W, Calls Try.prog 37 #[.agg #[.int .i64 ti, .int .i64 tc, .pointer tq, .int .i64 tn], .int .i64 x] W fun e w' => e = .returned (.int .i64 (cmpI ti x)) ∧ Below W.heap.size W w') := hideP (fun W => turnCmp_any ti tc tn x tq W)
        obtain ⟨r, hr⟩ : ∃ r, r = cmpI ti x := ⟨_, rfl⟩
        rw [← hr] at CC
        have HR : Hid ((r = 0 ↔ (ts.getD i Tn.none).1 = x)) := hideP (by rw [hr, ← ht]; exact cmpI_eq)
        clear hr ht
        go_wp2_with fail
        refine (CC.out wr).mono ?_
        rintro e w2 ⟨rfl, hb2⟩
        have B2 : Hid (Below w.heap.size w w2) := hideP (below_more HBr.out hb2 HBr.out.size)
        clear hb2 t0 t1 t2 t3 CC
        by_cases hr0 : r = 0
        · have hrb : (r == 0) = true := by simp [hr0]
          go_wp2
          refine bodyPost_ret (v := .tuple #[.int .i64 (i : Int), .bool true]) (by simp [results, Try.results36, go_sem, hrb]) rfl ⟨⟨i, true, rfl, fun _ => ⟨him, HR.out.1 hr0⟩, (fun h => by cases h)⟩, B2.out⟩
        · have hrb : (r == 0) = false := by simp [hr0]
          go_wp2
          refine bodyPost_ret (v := .tuple #[.int .i64 (i : Int), .bool false]) (by simp [results, Try.results36, go_sem, hrb]) rfl ⟨⟨i, false, rfl, (fun h => by cases h), fun _ p hp e => ?_⟩, B2.out⟩
          have h1 : ¬ (ts.getD i Tn.none).1 = x := fun h => hr0 (HR.out.2 h)
          by_cases hpi : p < i
          · have := HA.out p hpi
            omega
          · have h2 := HB.out i (Nat.le_refl _) him
            by_cases hpe : p = i
            · rw [hpe] at e; exact h1 e
            · have h3 := HS.out i p (by omega) hp
              omega
      · have hni : ¬ (i : Int) < (m : Int) := by omega
        go_wp2
        refine bodyPost_ret (v := .tuple #[.int .i64 (i : Int), .bool false]) (by simp [results, Try.results36, go_sem]) rfl ⟨⟨i, false, rfl, (fun h => by cases h), fun _ p hp e => ?_⟩, HBr.out⟩
        have := HA.out p (by omega)
        omega
set_option maxRecDepth 20000 in
set_option maxHeartbeats 4000000 in
theorem turnNumbered_any {w : World} {lo g m c PB : Nat} {ts : List Tn} (x : Int) (hP : w.cell? ⟨PB, 26, none⟩ = some (.slice (some ⟨g, 0, none⟩) m c)) (h : w.ownsRow lo 87 4 (.slice (some ⟨g, 0, none⟩) m c) m (flatT ts)) (hl : ts.length = m) (hm : m ≤ 5001) (hs : ∀ p q, p < q → q < m → (ts.getD p Tn.none).1 < (ts.getD q Tn.none).1) :
    Calls Try.prog 19 #[.pointer (some ⟨PB, 0, none⟩), .int .i64 x] w fun e w' => FndP ts m x e ∧ Below w.heap.size w w' := by
  have BC := hideP (bsearch_any x h hl hm hs)
  have hPl : PB < w.heap.size := World.block_lt_of_cell? w _ hP
  clear h hl hs
  go_enter Try.func19, Try.ntmps19
  go_wp2_with fail
  refine BC.out.mono ?_
  rintro e w2 ⟨⟨k, ok, rfl, h1, h2⟩, hb2⟩
  have H1 := hideP h1
  have H2 := hideP h2
  have B2 := hideP hb2
  clear h1 h2 hb2
  go_wp2
  refine bodyPost_ret (v := .tuple #[.int .i64 (k : Int), .bool ok]) (by simp [results, Try.results19, go_sem]) rfl ⟨⟨k, ok, rfl, H1.out, H2.out⟩, B2.out⟩
end Go.Proofs.Ytdgfnceipginkaa
