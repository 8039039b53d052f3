/-
  What a name means, looked up and copied: the specification's way.
-/
import Derived.Test.YtflpjfgodkodiaaLkc
import Derived.Test.YtflpjfgodkodiaaPrp
namespace Go.Proofs.Ytflpjfgodkodiaa
open Go.RowKit
set_option linter.unusedVariables false
set_option linter.unusedSimpArgs false

theorem TOn.shape3 {lo : Nat} {w : World} {v : Value} {ts : List Tk} (h : TOn lo w v ts) : ∃ ao n cap, v = .slice ao n cap := by
  obtain ⟨b, off, cap, rfl, _⟩ := h
  exact ⟨_, _, _, rfl⟩
/-- The two lists of a meaning: none at all, or both with an address. -/
def MeanN (w : World) (vp vb : Value) (m : Mn) : Prop := (vp = .slice none 0 0 ∧ vb = .slice none 0 0 ∧ m.p = [] ∧ m.b = []) ∨ (TOn 0 w vp m.p ∧ TOn 0 w vb m.b)
theorem MeanN.tn {w : World} {vp vb : Value} {m : Mn} (h : MeanN w vp vb m) : TN 0 w vp m.p ∧ TN 0 w vb m.b := by
  rcases h with ⟨h1, h2, h3, h4⟩ | ⟨h1, h2⟩
  · exact ⟨.inl ⟨h1, h3⟩, .inl ⟨h2, h4⟩⟩
  · exact ⟨.inr h1, .inr h2⟩
def BdS (lo : Nat) (w : World) (cs : List Value) (x : Bd) : Prop := ∃ vp vb, cs = [.string x.nm, .int .i64 x.m.k, .int .i64 x.m.n, .int .i64 x.m.t.c, .int .i64 x.m.t.h, .string x.m.t.s, vp, .int .i64 x.m.sl, vb] ∧ TOn lo w vp x.m.p ∧ TOn lo w vb x.m.b
theorem bsStable : Stable BdS where
  abv := by rintro lo w w' cs x ⟨vp, vb, rfl, h, h2⟩ ha; exact ⟨vp, vb, rfl, h.abv ha, h2.abv ha⟩
  mono := by rintro lo lo' w cs x ⟨vp, vb, rfl, h, h2⟩ hl; exact ⟨vp, vb, rfl, h.mono hl, h2.mono hl⟩
def LvS (lo : Nat) (w : World) (cs : List Value) (x : Lv) : Prop := ∃ v0 v1 v2 v3 v4 v5, cs = [v0, v1, v2, v3, v4, v5] ∧ SRow 9 BdS Bd.none lo w v1 x.binds
theorem lsStable : Stable LvS where
  abv := by rintro lo w w' cs x ⟨v0, v1, v2, v3, v4, v5, rfl, h1⟩ ha; exact ⟨v0, v1, v2, v3, v4, v5, rfl, h1.abv bsStable ha⟩
  mono := by rintro lo lo' w cs x ⟨v0, v1, v2, v3, v4, v5, rfl, h1⟩ hl; exact ⟨v0, v1, v2, v3, v4, v5, rfl, h1.mono bsStable hl⟩
theorem bdP_S (lo : Nat) (w : World) (cs : List Value) (x : Bd) (h : BdP lo w cs x) : BdS lo w cs x := by
  obtain ⟨vp, vb, rfl, h, h2⟩ := h
  exact ⟨vp, vb, rfl, h.on, h2.on⟩
theorem bdS_R (lo : Nat) (w : World) (cs : List Value) (x : Bd) (h : BdS lo w cs x) : BdR lo w cs x := by
  obtain ⟨vp, vb, rfl, h, h2⟩ := h
  exact ⟨vp, vb, rfl, h.inn, h2.inn⟩
theorem lvP_S (lo : Nat) (w : World) (cs : List Value) (x : Lv) (h : LvP lo w cs x) : LvS lo w cs x := by
  obtain ⟨v0, v1, v2, v3, v4, v5, rfl, h0, h1, h2, h3, h4, h5⟩ := h
  exact ⟨v0, v1, v2, v3, v4, v5, rfl, h1.row bpStable bdP_S⟩

set_option maxHeartbeats 4000000 in
theorem specLook_n {v : Value} {xs : List Lv} {w : World} {nm : ByteArray} (h : SRow 6 LvS Lv.none 0 w v xs) (hs : SmE xs) (hp : 0 < xs.length) :
    Calls Try.prog 57 #[.agg #[v], .string nm] w fun e w' => ∃ vp vb, e = .returned (mnV (lookM (xs.getD (xs.length - 1) Lv.none).binds nm) vp vb) ∧ MeanN w' vp vb (lookM (xs.getD (xs.length - 1) Lv.none).binds nm) ∧ Below w.heap.size w w' := by
  obtain ⟨ao, n, cap, rfl, hn, hr⟩ := h
  have hn0 : 0 < n := by omega
  have hnb : n ≤ 1048576 := by have := hs.1; omega
  obtain ⟨b, off, rfl, hlo, hb, hc⟩ := hr hn0
  obtain ⟨j, hj⟩ : ∃ j, j = n - 1 := ⟨_, rfl⟩
  obtain ⟨cs, hcl, hRel, hcj⟩ := hc j (by omega)
  obtain ⟨t, ht⟩ : ∃ t, t = xs.getD j Lv.none := ⟨_, rfl⟩
  rw [show xs.length - 1 = j by omega, ← ht]
  rw [← ht] at hRel
  obtain ⟨e0, e1, e2, e3, e4, e5, rfl, i1⟩ := hRel
  obtain ⟨a1, c1, rfl⟩ := i1.shape
  have g1 : w.cell? ⟨b, off + j * 6 + 1, none⟩ = some (.slice a1 t.binds.length c1) := hcj 1 (by omega)
  have hk9 : (n : Int) - 1 = (j : Int) := by omega
  have hj0 : (j : Int) < (n : Int) := by omega
  have hjn : j < n := by omega
  have hw : IntKind.i64.wrap (j : Int) = (j : Int) := by rw [IntKind.wrap_i64]; omega
  have HC : Hid (∀ i, i < n → ∃ cs : List Value, cs.length = 6 ∧ LvS 0 w cs (xs.getD i Lv.none) ∧ ∀ j, j < 6 → w.cell? ⟨b, off + i * 6 + j, none⟩ = cs[j]?) := hc
  obtain ⟨mm, hmm⟩ : ∃ mm, mm = lookM t.binds nm := ⟨_, rfl⟩
  rw [← hmm]
  have HMM : Hid (mm = lookM t.binds nm) := hmm
  clear hmm
  have HSB : Hid (t.binds.length ≤ 1048576) := by rw [ht]; exact (hs.2 j (by omega)).2.1.1
  clear hc hr hcj hj ht hcl
  go_enter Try.func57, Try.ntmps57
  go_wp2
  have i1w : SRow 9 BdS Bd.none 0 w (.slice a1 t.binds.length c1) t.binds := i1
  obtain ⟨ao1, m1, cap1, e, hm1, hr1⟩ := i1
  simp only [Value.slice.injEq] at e
  obtain ⟨rfl, rfl, rfl⟩ := e
  have hmb : t.binds.length ≤ 1048576 := HSB
  obtain ⟨q, hq⟩ : ∃ q, q = t.binds.length := ⟨_, rfl⟩
  rw [← hq] at hr1 hmb
  rw [← hq]
  have HR1 : Hid (0 < q → ∃ b off, a1 = some ⟨b, off, none⟩ ∧ 0 ≤ b ∧ b < w.heap.size ∧ ∀ i, i < q → ∃ cs : List Value, cs.length = 9 ∧ BdS 0 w cs (t.binds.getD i Bd.none) ∧ ∀ j, j < 9 → w.cell? ⟨b, off + i * 9 + j, none⟩ = cs[j]?) := hr1
  have HQ : Hid (q = t.binds.length) := hq
  clear hr1 hm1 hq i1w g1
  go_loop [6, 7] (fun l h => ∃ low high : Nat, low ≤ high ∧ high ≤ q ∧ l = .int .i64 low ∧ h = .int .i64 high ∧ Hid (halve (lessAt t.binds nm) q low high = placeOf t.binds nm)) (fun l h => (intOf h).toNat - (intOf l).toNat)
  case atStart => exact ⟨0, q, by omega, by omega, rfl, rfl, by show _ = _; unfold placeOf; rw [← show q = t.binds.length from HQ]⟩
  case round =>
    obtain ⟨low, high, hlh, hhq, rfl, rfl, HH⟩ := hrel
    by_cases hlt : low < high
    · have hlti : (low : Int) < (high : Int) := by omega
      obtain ⟨b', off', rfl, _, hb', hc'⟩ := HR1 (by omega)
      obtain ⟨mid, hmid⟩ : ∃ mid, mid = (low + high) / 2 := ⟨_, rfl⟩
      obtain ⟨cs, hcl, hRel, hcj⟩ := hc' mid (by omega)
      obtain ⟨y, hy⟩ : ∃ y, y = t.binds.getD mid Bd.none := ⟨_, rfl⟩
      rw [← hy] at hRel
      obtain ⟨u2, z2, rfl, _, _⟩ := hRel
      have g0 : w.cell? ⟨b', off' + mid * 9, none⟩ = some (.string y.nm) := hcj 0 (by omega)
      have HLE : Hid (lessAt t.binds nm mid = Op.bytesLess y.nm.toList nm.toList) := by show lessAt _ _ _ = _; unfold lessAt; rw [← hy]
      obtain ⟨ynm, hyn⟩ : ∃ a, a = y.nm := ⟨_, rfl⟩
      rw [← hyn] at g0 HLE
      have hmi : ((low : Int) + (high : Int)) / 2 = (mid : Int) := by omega
      have hm1 : mid < high := by omega
      have hm2 : low ≤ mid := by omega
      have hmq : (mid : Int) < (q : Int) := by omega
      have HMID : Hid (mid = (low + high) / 2) := hmid
      clear hc' hcj hcl hy hyn hmid
      cases hless : Op.bytesLess ynm.toList nm.toList
      · have hnn : halve (lessAt t.binds nm) q low mid = placeOf t.binds nm := by
          rw [← show _ = placeOf t.binds nm from HH, halve_down (h := high) (by omega) (by omega) (by rw [← show mid = (low + high) / 2 from HMID, show lessAt _ _ mid = _ from HLE]; exact hless), ← show mid = (low + high) / 2 from HMID]
        have HN : Hid (halve (lessAt t.binds nm) q low mid = placeOf t.binds nm) := hnn
        clear hnn
        go_wp2
        go_round
        case rel => exact ⟨low, mid, by omega, by omega, rfl, by rw [hmi], HN⟩
        case measure => simp [intOf]; omega
      · have hnn : halve (lessAt t.binds nm) q (mid + 1) high = placeOf t.binds nm := by
          rw [← show _ = placeOf t.binds nm from HH, halve_up (h := high) (l := low) (by omega) (by omega) (by rw [← show mid = (low + high) / 2 from HMID, show lessAt _ _ mid = _ from HLE]; exact hless), ← show mid = (low + high) / 2 from HMID]
        have HN : Hid (halve (lessAt t.binds nm) q (mid + 1) high = placeOf t.binds nm) := hnn
        clear hnn
        go_wp2
        go_round
        case rel => exact ⟨mid + 1, high, by omega, by omega, by first | go_num | (rw [hmi]; go_num), rfl, HN⟩
        case measure => simp [intOf]; omega
    · have hlti : ¬ (low : Int) < (high : Int) := by omega
      have hpl : low = placeOf t.binds nm := by rw [← show _ = placeOf t.binds nm from HH, halve_end hlt]
      have HPL : Hid (low = placeOf t.binds nm) := hpl
      clear hpl
      obtain rfl : low = high := by omega
      by_cases hlq : low < q
      · have hlqi : (low : Int) < (q : Int) := by omega
        obtain ⟨b', off', rfl, _, hb', hc'⟩ := HR1 (by omega)
        obtain ⟨cs, hcl, hRel, hcj⟩ := hc' low (by omega)
        obtain ⟨y, hy⟩ : ∃ y, y = t.binds.getD low Bd.none := ⟨_, rfl⟩
        rw [← hy] at hRel
        obtain ⟨u2, z2, rfl, hp1, hp2⟩ := hRel
        obtain ⟨ynm, ⟨mk, mn, mt, mp, ms, mb⟩⟩ := y
        obtain ⟨pa, pn, pc, rfl⟩ := hp1.shape3
        obtain ⟨qa, qn, qc, rfl⟩ := hp2.shape3
        dsimp only at hcj hp1 hp2
        have g0 : w.cell? ⟨b', off' + low * 9, none⟩ = some (.string ynm) := hcj 0 (by omega)
        have g1 : w.cell? ⟨b', off' + low * 9 + 1, none⟩ = some (.int .i64 mk) := hcj 1 (by omega)
        have g2 : w.cell? ⟨b', off' + low * 9 + 2, none⟩ = some (.int .i64 mn) := hcj 2 (by omega)
        have g3 : w.cell? ⟨b', off' + low * 9 + 3, none⟩ = some (.int .i64 mt.c) := hcj 3 (by omega)
        have g4 : w.cell? ⟨b', off' + low * 9 + 4, none⟩ = some (.int .i64 mt.h) := hcj 4 (by omega)
        have g5 : w.cell? ⟨b', off' + low * 9 + 5, none⟩ = some (.string mt.s) := hcj 5 (by omega)
        have g6 : w.cell? ⟨b', off' + low * 9 + 6, none⟩ = some (.slice pa pn pc) := hcj 6 (by omega)
        have g7 : w.cell? ⟨b', off' + low * 9 + 7, none⟩ = some (.int .i64 ms) := hcj 7 (by omega)
        have g8 : w.cell? ⟨b', off' + low * 9 + 8, none⟩ = some (.slice qa qn qc) := hcj 8 (by omega)
        have HY : Hid ((⟨ynm, ⟨mk, mn, mt, mp, ms, mb⟩⟩ : Bd) = t.binds.getD low Bd.none) := hy
        have HP : Hid (TOn 0 w (.slice pa pn pc) mp ∧ TOn 0 w (.slice qa qn qc) mb) := ⟨hp1, hp2⟩
        clear hcj hcl hc' hy hp1 hp2
        cases hnm : (ynm.toList == nm.toList)
        · obtain rfl : mm = Mn.none := by rw [show mm = _ from HMM]; exact look_other HPL HY hnm
          go_wp2
          refine bodyPost_ret (v := mnV Mn.none (.slice none 0 0) (.slice none 0 0)) (by simp [results, Try.results57, go_sem, Mn.none, Tk.none]; rfl) rfl ⟨_, _, rfl, .inl ⟨rfl, rfl, rfl, rfl⟩, below2 _ _ _⟩
        · obtain rfl : mm = ⟨mk, mn, mt, mp, ms, mb⟩ := by rw [show mm = _ from HMM]; exact look_yes HPL (by rw [← show q = _ from HQ]; exact hlq) HY hnm
          go_wp2
          refine bodyPost_ret (v := meanV mk mn mt (.slice pa pn pc) ms (.slice qa qn qc)) (by simp [results, Try.results57, go_sem]) rfl ⟨_, _, rfl, .inr ⟨TOn.below HP.1 (below2 _ _ _), TOn.below HP.2 (below2 _ _ _)⟩, below2 _ _ _⟩
      · have hlqi : ¬ (low : Int) < (q : Int) := by omega
        obtain rfl : mm = Mn.none := by rw [show mm = _ from HMM]; exact look_past HPL (by rw [← show q = _ from HQ]; exact hlq)
        go_wp2
        refine bodyPost_ret (v := mnV Mn.none (.slice none 0 0) (.slice none 0 0)) (by simp [results, Try.results57, go_sem, Mn.none, Tk.none]; rfl) rfl ⟨_, _, rfl, .inl ⟨rfl, rfl, rfl, rfl⟩, below2 _ _ _⟩

theorem own_lit (W : World) (base : Nat) (hb : base ≤ W.heap.size) : (W.alloc (.cells #[] 31)).ownsRow base 31 3 (.slice (some ⟨W.heap.size, 0, none⟩) 0 0) 0 (flat []) := World.ownsRow_made W #[] 0 hb (Nat.zero_le _) (by simp)

set_option maxRecDepth 100000 in
set_option maxHeartbeats 4000000 in
theorem l3Copy_any {m : Mn} {vp vb : Value} {w : World} (h : MeanN w vp vb m) (sp : m.p.length ≤ 1048576) (sb : m.b.length ≤ 1048576) :
    Calls Try.prog 56 #[mnV m vp vb] w fun e w' => ∃ vp' vb', e = .returned (mnV m vp' vb') ∧ (∃ n, w'.ownsRow w.heap.size 31 3 vp' n (flat m.p)) ∧ (∃ n, w'.ownsRow w.heap.size 31 3 vb' n (flat m.b)) ∧ Below w.heap.size w w' := by
  obtain ⟨i0, hi, hz0, hz1, hz2⟩ := info_parts Try.info31
  obtain ⟨k, n, t, p, sl, b⟩ := m
  rcases h with ⟨h1, h2, h3, h4⟩ | ⟨hp, hb⟩
  · dsimp only at h3 h4
    subst h1 h2 h3 h4
    go_enter Try.func56, Try.ntmps56
    go_wp2
    refine bodyPost_ret (v := meanV k n t (.slice (some ⟨w.heap.size + 1 + 1, 0, none⟩) 0 0) sl (.slice (some ⟨w.heap.size + 1 + 1 + 1, 0, none⟩) 0 0)) (by simp [results, Try.results56, go_sem]) rfl ⟨.slice (some ⟨w.heap.size + 1 + 1, 0, none⟩) 0 0, .slice (some ⟨w.heap.size + 1 + 1 + 1, 0, none⟩) 0 0, rfl, ⟨0, ?_⟩, ⟨0, ?_⟩, ?_⟩
    · have h := own_lit ((w.alloc (.cells #[.int .i64 k, .int .i64 n, .int .i64 t.c, .int .i64 t.h, .string t.s, .slice (some ⟨w.heap.size + 1 + 1, 0, none⟩) 0 0, .int .i64 sl, .slice (some ⟨w.heap.size + 1 + 1 + 1, 0, none⟩) 0 0] 36)).alloc (.cells #[.int .i64 k, .int .i64 n, .int .i64 t.c, .int .i64 t.h, .string t.s, .slice (some ⟨w.heap.size + 1 + 1, 0, none⟩) 0 0, .int .i64 sl, .slice (some ⟨w.heap.size + 1 + 1 + 1, 0, none⟩) 0 0] 36)) w.heap.size (by simp; omega)
      simp only [World.size_alloc] at h
      exact h.alloc _
    · have h := own_lit (((w.alloc (.cells #[.int .i64 k, .int .i64 n, .int .i64 t.c, .int .i64 t.h, .string t.s, .slice (some ⟨w.heap.size + 1 + 1, 0, none⟩) 0 0, .int .i64 sl, .slice (some ⟨w.heap.size + 1 + 1 + 1, 0, none⟩) 0 0] 36)).alloc (.cells #[.int .i64 k, .int .i64 n, .int .i64 t.c, .int .i64 t.h, .string t.s, .slice (some ⟨w.heap.size + 1 + 1, 0, none⟩) 0 0, .int .i64 sl, .slice (some ⟨w.heap.size + 1 + 1 + 1, 0, none⟩) 0 0] 36)).alloc (.cells #[] 31)) w.heap.size (by simp; omega)
      simp only [World.size_alloc] at h
      exact h
    · exact (((below1 w _).alloc (by simp) _).alloc (by simp; omega) _).alloc (by simp; omega) _
  · dsimp only at hp hb sp sb
    obtain ⟨pb, po, pc, rfl, hpc, _, hpw, hpx⟩ := hp
    obtain ⟨qb, qo, qc, rfl, hqc, _, hqw, hqx⟩ := hb
    obtain ⟨pn, hpn⟩ : ∃ x, x = p.length := ⟨_, rfl⟩
    obtain ⟨qn, hqn⟩ : ∃ x, x = b.length := ⟨_, rfl⟩
    rw [← hpn] at hpc sp
    rw [← hqn] at hqc sb
    rw [← hpn, ← hqn]
    have HPX : Hid ((∀ j u, (flat p)[j]? = some u → w.cell? ⟨pb, po + j, none⟩ = some u) ∧ pn = p.length) := ⟨hpx, hpn⟩
    have HQX : Hid ((∀ j u, (flat b)[j]? = some u → w.cell? ⟨qb, qo + j, none⟩ = some u) ∧ qn = b.length) := ⟨hqx, hqn⟩
    clear hpx hqx hpn hqn
    obtain ⟨W2, hW2⟩ : ∃ W, W = (w.alloc (.cells #[.int .i64 k, .int .i64 n, .int .i64 t.c, .int .i64 t.h, .string t.s, .slice (some ⟨pb, po, none⟩) pn pc, .int .i64 sl, .slice (some ⟨qb, qo, none⟩) qn qc] 36)).alloc (.cells #[.int .i64 0, .int .i64 0, .int .i64 0, .int .i64 0, .string ⟨#[]⟩, .slice none 0 0, .int .i64 0, .slice none 0 0] 36) := ⟨_, rfl⟩
    have KW : Hid (W2.heap.size = w.heap.size + 1 + 1 ∧ Below w.heap.size w W2 ∧ W2.heap[w.heap.size]? = some (.cells #[.int .i64 k, .int .i64 n, .int .i64 t.c, .int .i64 t.h, .string t.s, .slice (some ⟨pb, po, none⟩) pn pc, .int .i64 sl, .slice (some ⟨qb, qo, none⟩) qn qc] 36 (0, 0)) ∧ W2.heap[w.heap.size + 1]? = some (.cells #[.int .i64 0, .int .i64 0, .int .i64 0, .int .i64 0, .string ⟨#[]⟩, .slice none 0 0, .int .i64 0, .slice none 0 0] 36 (0, 0))) := by
      rw [hW2]
      refine ⟨by simp, below2 _ _ _, ?_, ?_⟩
      · rw [(below1 _ _).block _ (by simp)]
        exact heap_alloc_new w _
      · have h := heap_alloc_new (w.alloc (.cells #[.int .i64 k, .int .i64 n, .int .i64 t.c, .int .i64 t.h, .string t.s, .slice (some ⟨pb, po, none⟩) pn pc, .int .i64 sl, .slice (some ⟨qb, qo, none⟩) qn qc] 36)) (.cells #[.int .i64 0, .int .i64 0, .int .i64 0, .int .i64 0, .string ⟨#[]⟩, .slice none 0 0, .int .i64 0, .slice none 0 0] 36)
        simpa using h
    have HW2 : Hid (W2 = (w.alloc (.cells #[.int .i64 k, .int .i64 n, .int .i64 t.c, .int .i64 t.h, .string t.s, .slice (some ⟨pb, po, none⟩) pn pc, .int .i64 sl, .slice (some ⟨qb, qo, none⟩) qn qc] 36)).alloc (.cells #[.int .i64 0, .int .i64 0, .int .i64 0, .int .i64 0, .string ⟨#[]⟩, .slice none 0 0, .int .i64 0, .slice none 0 0] 36)) := hW2
    have HOL : Hid ((W2.alloc (.cells #[] 31)).ownsRow (w.heap.size + 1 + 1) 31 3 (.slice (some ⟨w.heap.size + 1 + 1, 0, none⟩) 0 0) 0 (flat [])) := by
      have h := own_lit W2 (w.heap.size + 1 + 1) (by rw [KW.1]; exact Nat.le_refl _)
      rw [KW.1] at h
      exact h
    clear hW2
    go_enter Try.func56, Try.ntmps56
    go_wp2_with (at_builtin; rw [← show W2 = _ from HW2]; refine wpList_append_own _ rfl _ _ 32 rfl (w.heap.size + 1 + 1) 31 i0 _ 3 32 Try.underlying32 hi hz0 hz1 hz2 rfl (by decide) _ _ _ rfl HOL ⟨pb, po, none⟩ pn pc (flat p) rfl ?c1 ?c2 ?c3 ?c4 ?c5 ?c6 ?_)
    case c1 => rw [flat_len, ← HPX.2]
    case c2 =>
      intro j u hj
      rw [Addr.add_lit]
      exact Lib.cell?_alloc_some _ ((KW.2.1.cell (p := ⟨pb, po + j, none⟩) hpw).trans (HPX.1 j u hj))
    case c3 => exact flat_one p
    case c4 => unfold maxLen; omega
    case c5 => omega
    case c6 => simp [KW.1]
    intro v1 w1 ho1 hg1 _
    have D1 : Below (w.heap.size + 1 + 1) W2 w1 := ((Below.refl _ W2).alloc (by rw [KW.1]; exact Nat.le_refl _) _).grown hg1 (by simp [KW.1]) (by intro r hr; simp [Value.ownBlock] at hr; omega)
    simp only [flat, List.nil_append, Nat.zero_add] at ho1
    obtain ⟨a1, c1, rfl, _⟩ := own_shape ho1
    have O1 : Hid (w1.ownsRow (w.heap.size + 1 + 1) 31 3 (.slice a1 pn c1) pn (flat p)) := ho1
    have K1 : Hid (w1.heap[w.heap.size]? = some (.cells #[.int .i64 k, .int .i64 n, .int .i64 t.c, .int .i64 t.h, .string t.s, .slice (some ⟨pb, po, none⟩) pn pc, .int .i64 sl, .slice (some ⟨qb, qo, none⟩) qn qc] 36 (0, 0)) ∧ w1.heap[w.heap.size + 1]? = some (.cells #[.int .i64 0, .int .i64 0, .int .i64 0, .int .i64 0, .string ⟨#[]⟩, .slice none 0 0, .int .i64 0, .slice none 0 0] 36 (0, 0)) ∧ w.heap.size + 1 + 1 ≤ w1.heap.size ∧ Below w.heap.size w w1) :=
      ⟨(D1.block _ (by omega)).trans KW.2.2.1, (D1.block _ (by omega)).trans KW.2.2.2, by have := D1.size; rw [KW.1] at this; exact this, KW.2.1.trans (D1.mono (by omega))⟩
    clear ho1 hg1 D1 HOL
    have rr : ∀ j, w1.cell? ⟨w.heap.size, j, none⟩ = (#[.int .i64 k, .int .i64 n, .int .i64 t.c, .int .i64 t.h, .string t.s, .slice (some ⟨pb, po, none⟩) pn pc, .int .i64 sl, .slice (some ⟨qb, qo, none⟩) qn qc] : Array Value)[j]? := fun j => cell_of_row w1 _ j _ 36 _ K1.1
    have r5 := rr 5
    have r7 := rr 7
    have f0 : ∀ j, w1.frozen? ⟨w.heap.size, j, none⟩ = false := fun j => frozen_of_row w1 _ j _ 36 K1.1
    have hs1 : w.heap.size < w1.heap.size := by have := K1.2.2.1; omega
    simp at r5 r7
    clear rr
    obtain ⟨W3, hW3⟩ : ∃ W, W = w1.setCell ⟨w.heap.size, 5, none⟩ (.slice a1 pn c1) := ⟨_, rfl⟩
    have KX : Hid (w.heap.size + 1 + 1 ≤ W3.heap.size ∧ Below w.heap.size w W3 ∧ W3.heap[w.heap.size]? = some (.cells #[.int .i64 k, .int .i64 n, .int .i64 t.c, .int .i64 t.h, .string t.s, .slice a1 pn c1, .int .i64 sl, .slice (some ⟨qb, qo, none⟩) qn qc] 36 (0, 0)) ∧ W3.heap[w.heap.size + 1]? = some (.cells #[.int .i64 0, .int .i64 0, .int .i64 0, .int .i64 0, .string ⟨#[]⟩, .slice none 0 0, .int .i64 0, .slice none 0 0] 36 (0, 0)) ∧ W3.ownsRow (w.heap.size + 1 + 1) 31 3 (.slice a1 pn c1) pn (flat p)) := by
      rw [hW3]
      exact ⟨by simp; exact K1.2.2.1, Below.setCell K1.2.2.2 (Nat.le_refl _) _, (heap_setCell_same w1 _ 5 _ 36 _ K1.1).trans rfl, (heap_setCell_other w1 ⟨w.heap.size, 5, none⟩ _ _ (by show w.heap.size + 1 ≠ w.heap.size; omega)).trans K1.2.1, own_set O1 (by omega)⟩
    have HW3 : Hid (W3 = w1.setCell ⟨w.heap.size, 5, none⟩ (.slice a1 pn c1)) := hW3
    have HOM : Hid ((W3.alloc (.cells #[] 31)).ownsRow (w.heap.size + 1 + 1) 31 3 (.slice (some ⟨w1.heap.size, 0, none⟩) 0 0) 0 (flat [])) := by
      have h := own_lit W3 (w.heap.size + 1 + 1) KX.1
      rw [hW3] at h ⊢
      simp only [World.size_setCell] at h
      exact h
    clear hW3
    go_wp2_with (at_builtin; refine wpList_append_own _ rfl _ _ 32 rfl (w.heap.size + 1 + 1) 31 i0 _ 3 32 Try.underlying32 hi hz0 hz1 hz2 rfl (by decide) _ _ _ rfl (by rw [← show W3 = _ from HW3]; exact HOM) ⟨qb, qo, none⟩ qn qc (flat b) rfl ?d1 ?d2 ?d3 ?d4 ?d5 ?d6 ?_)
    case d1 => rw [flat_len, ← HQX.2]
    case d2 =>
      intro j u hj
      rw [Addr.add_lit, ← show W3 = _ from HW3]
      exact Lib.cell?_alloc_some _ ((KX.2.1.cell (p := ⟨qb, qo + j, none⟩) hqw).trans (HQX.1 j u hj))
    case d3 => exact flat_one b
    case d4 => unfold maxLen; omega
    case d5 => omega
    case d6 => rw [← show W3 = _ from HW3]; have := KX.1; simp; omega
    intro v2 w2 ho2 hg2 _
    rw [← show W3 = _ from HW3] at hg2
    have D2 : Below (w.heap.size + 1 + 1) W3 w2 := ((Below.refl _ W3).alloc KX.1 _).grown hg2 (by have := KX.1; simp; omega) (by intro r hr; simp [Value.ownBlock] at hr; have := K1.2.2.1; omega)
    simp only [flat, List.nil_append, Nat.zero_add] at ho2
    obtain ⟨a2, c2, rfl, _⟩ := own_shape ho2
    have K2 : Hid (w2.heap[w.heap.size]? = some (.cells #[.int .i64 k, .int .i64 n, .int .i64 t.c, .int .i64 t.h, .string t.s, .slice a1 pn c1, .int .i64 sl, .slice (some ⟨qb, qo, none⟩) qn qc] 36 (0, 0)) ∧ w2.heap[w.heap.size + 1]? = some (.cells #[.int .i64 0, .int .i64 0, .int .i64 0, .int .i64 0, .string ⟨#[]⟩, .slice none 0 0, .int .i64 0, .slice none 0 0] 36 (0, 0)) ∧ w2.ownsRow (w.heap.size + 1 + 1) 31 3 (.slice a1 pn c1) pn (flat p) ∧ w2.ownsRow (w.heap.size + 1 + 1) 31 3 (.slice a2 qn c2) qn (flat b) ∧ w.heap.size + 1 + 1 ≤ w2.heap.size ∧ Below w.heap.size w w2) := by
      refine ⟨(D2.block _ (by omega)).trans KX.2.2.1, (D2.block _ (by omega)).trans KX.2.2.2.1, ?_, ho2, Nat.le_trans KX.1 D2.size, KX.2.1.trans (D2.mono (by omega))⟩
      have hx := KX.2.2.2.2
      have hq : ∀ g, some g ≠ (Value.slice (some ⟨w1.heap.size, 0, none⟩) 0 0).ownBlock → g < W3.heap.size → w2.heap[g]? = W3.heap[g]? := fun g h1 h2 => (hg2.block g (by simp; omega) h1).trans ((below1 W3 _).block g h2)
      obtain ⟨hl, h | ⟨g, cap, cur, e, hg, hbk, hr⟩⟩ := hx
      · exact ⟨hl, .inl h⟩
      · have hgl := (Array.getElem?_eq_some_iff.1 hbk).1
        have hgs : W3.heap.size = w1.heap.size := by rw [show W3 = _ from HW3]; simp
        exact ⟨hl, .inr ⟨g, cap, cur, e, hg, (hq g (by simp [Value.ownBlock]; omega) hgl).trans hbk, hr⟩⟩
    clear ho2 hg2 D2 r5 r7 f0 O1
    have rr : ∀ j, w2.cell? ⟨w.heap.size, j, none⟩ = (#[.int .i64 k, .int .i64 n, .int .i64 t.c, .int .i64 t.h, .string t.s, .slice a1 pn c1, .int .i64 sl, .slice (some ⟨qb, qo, none⟩) qn qc] : Array Value)[j]? := fun j => cell_of_row w2 _ j _ 36 _ K2.1
    have zz : ∀ j, w2.cell? ⟨w.heap.size + 1, j, none⟩ = (#[.int .i64 0, .int .i64 0, .int .i64 0, .int .i64 0, .string ⟨#[]⟩, .slice none 0 0, .int .i64 0, .slice none 0 0] : Array Value)[j]? := fun j => cell_of_row w2 _ j _ 36 _ K2.2.1
    have r0 := rr 0
    have z0 := zz 0
    have r1 := rr 1
    have z1 := zz 1
    have r2 := rr 2
    have z2 := zz 2
    have r3 := rr 3
    have z3 := zz 3
    have r4 := rr 4
    have z4 := zz 4
    have r5 := rr 5
    have z5 := zz 5
    have r6 := rr 6
    have z6 := zz 6
    have r7 := rr 7
    have z7 := zz 7
    have f0 : ∀ j, w2.frozen? ⟨w.heap.size, j, none⟩ = false := fun j => frozen_of_row w2 _ j _ 36 K2.1
    have f1 : ∀ j, w2.frozen? ⟨w.heap.size + 1, j, none⟩ = false := fun j => frozen_of_row w2 _ j _ 36 K2.2.1
    have hx3 : w.heap.size < w2.heap.size := by have := K2.2.2.2.2.1; omega
    have hy3 : w.heap.size + 1 < w2.heap.size := by have := K2.2.2.2.2.1; omega
    simp at r0 r1 r2 r3 r4 r5 r6 r7 z0 z1 z2 z3 z4 z5 z6 z7
    clear rr zz
    go_wp2
    refine bodyPost_ret (v := meanV k n t (.slice a1 pn c1) sl (.slice a2 qn c2)) (by simp [results, Try.results56, go_sem, z0, z1, z2, z3, z4, z5, z6, z7, hx3, hy3]) rfl ⟨.slice a1 pn c1, .slice a2 qn c2, rfl, ⟨pn, ?_⟩, ⟨qn, ?_⟩, ?_⟩
    · exact own_mono (own_set (own_set (own_set (own_set (own_set (own_set (own_set (own_set (own_set K2.2.2.1 (by omega)) (by omega)) (by omega)) (by omega)) (by omega)) (by omega)) (by omega)) (by omega)) (by omega)) (by omega)
    · exact own_mono (own_set (own_set (own_set (own_set (own_set (own_set (own_set (own_set (own_set K2.2.2.2.1 (by omega)) (by omega)) (by omega)) (by omega)) (by omega)) (by omega)) (by omega)) (by omega)) (by omega)) (by omega)
    · exact (Below.setCell (Below.setCell (Below.setCell (Below.setCell (Below.setCell (Below.setCell (Below.setCell (Below.setCell (Below.setCell K2.2.2.2.2.2 (by first | (simp; done) | (simp; omega)) _) (by first | (simp; done) | (simp; omega)) _) (by first | (simp; done) | (simp; omega)) _) (by first | (simp; done) | (simp; omega)) _) (by first | (simp; done) | (simp; omega)) _) (by first | (simp; done) | (simp; omega)) _) (by first | (simp; done) | (simp; omega)) _) (by first | (simp; done) | (simp; omega)) _) (by first | (simp; done) | (simp; omega)) _)
end Go.Proofs.Ytflpjfgodkodiaa
