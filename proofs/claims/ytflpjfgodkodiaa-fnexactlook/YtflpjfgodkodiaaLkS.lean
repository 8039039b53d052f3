/-
  The walk of spec.l3Look: a name looked up by halving.
-/
import Derived.Test.YtflpjfgodkodiaaEd
import Derived.Laws.Cover1
namespace Go.Proofs.Ytflpjfgodkodiaa
open Go.RowKit
set_option linter.unusedVariables false
set_option linter.unusedSimpArgs false

/-- Halving: the place at which f turns false. -/
def halve (f : Nat → Bool) (fuel l h : Nat) : Nat := match fuel with
  | 0 => l
  | fuel + 1 => if l < h then (if f ((l + h) / 2) then halve f fuel ((l + h) / 2 + 1) h else halve f fuel l ((l + h) / 2)) else l
def lessAt (bs : List Bd) (nm : ByteArray) (i : Nat) : Bool := Op.bytesLess (bs.getD i Bd.none).nm.toList nm.toList

theorem halve_more (f : Nat → Bool) : ∀ (fuel l h : Nat), h - l ≤ fuel → ∀ fuel', h - l ≤ fuel' → halve f fuel l h = halve f fuel' l h
  | 0, l, h, hf, fuel', _ => by
    cases fuel' with
    | zero => rfl
    | succ n => simp only [halve]; rw [if_neg (by omega)]
  | fuel + 1, l, h, hf, fuel', hf' => by
    cases fuel' with
    | zero => simp only [halve]; rw [if_neg (by omega)]
    | succ n =>
      simp only [halve]
      by_cases hlt : l < h
      · rw [if_pos hlt, if_pos hlt]
        split
        · exact halve_more f fuel _ _ (by omega) n (by omega)
        · exact halve_more f fuel _ _ (by omega) n (by omega)
      · rw [if_neg hlt, if_neg hlt]
theorem halve_end {f : Nat → Bool} {l h fuel : Nat} (hn : ¬ l < h) : halve f fuel l h = l := by
  cases fuel with
  | zero => rfl
  | succ n => simp only [halve]; rw [if_neg hn]
theorem halve_up {f : Nat → Bool} {l h fuel : Nat} (hl : l < h) (hf : h - l ≤ fuel) (hm : f ((l + h) / 2) = true) : halve f fuel l h = halve f fuel ((l + h) / 2 + 1) h := by
  cases fuel with
  | zero => omega
  | succ n =>
    rw [show halve f (n + 1) l h = halve f n ((l + h) / 2 + 1) h by simp only [halve]; rw [if_pos hl, if_pos hm]]
    exact halve_more f _ _ _ (by omega) _ (by omega)
theorem halve_down {f : Nat → Bool} {l h fuel : Nat} (hl : l < h) (hf : h - l ≤ fuel) (hm : f ((l + h) / 2) = false) : halve f fuel l h = halve f fuel l ((l + h) / 2) := by
  cases fuel with
  | zero => omega
  | succ n =>
    rw [show halve f (n + 1) l h = halve f n l ((l + h) / 2) by simp only [halve]; rw [if_pos hl, if_neg (by simp [hm])]]
    exact halve_more f _ _ _ (by omega) _ (by omega)
def placeOf (bs : List Bd) (nm : ByteArray) : Nat := halve (lessAt bs nm) bs.length 0 bs.length

def foundB (bs : List Bd) (nm : ByteArray) : Bool := decide (placeOf bs nm < bs.length) && ((bs.getD (placeOf bs nm) Bd.none).nm.toList == nm.toList)
/-- What a name means. -/
def lookM (bs : List Bd) (nm : ByteArray) : Mn := if foundB bs nm = true then (bs.getD (placeOf bs nm) Bd.none).m else Mn.none
abbrev mnV (m : Mn) (vp vb : Value) : Value := meanV m.k m.n m.t vp m.sl vb
theorem look_yes {bs : List Bd} {nm : ByteArray} {i : Nat} {x : Bd} (hi : i = placeOf bs nm) (hl : i < bs.length) (hx : x = bs.getD i Bd.none) (hn : (x.nm.toList == nm.toList) = true) : lookM bs nm = x.m := by
  unfold lookM foundB
  rw [← hi, ← hx, decide_eq_true hl, hn]
  rfl
theorem look_other {bs : List Bd} {nm : ByteArray} {i : Nat} {x : Bd} (hi : i = placeOf bs nm) (hx : x = bs.getD i Bd.none) (hn : (x.nm.toList == nm.toList) = false) : lookM bs nm = Mn.none := by
  unfold lookM foundB
  rw [← hi, ← hx, hn]
  simp
theorem look_past {bs : List Bd} {nm : ByteArray} {i : Nat} (hi : i = placeOf bs nm) (hl : ¬ i < bs.length) : lookM bs nm = Mn.none := by
  unfold lookM foundB
  rw [← hi, decide_eq_false hl]
  rfl
theorem TRow.nil (w : World) : TRow w (.slice none 0 0) [] := ⟨none, 0, 0, rfl, rfl, fun h => by omega⟩

set_option maxHeartbeats 4000000 in
theorem specLook_any {v : Value} {xs : List Lv} {w : World} {nm : ByteArray} (h : LRow 0 w v xs) (hs : SmE xs) (hp : 0 < xs.length) :
    Calls Try.prog 57 #[.agg #[v], .string nm] w fun e w' => ∃ vp vb, e = .returned (mnV (lookM (xs.getD (xs.length - 1) Lv.none).binds nm) vp vb) ∧ TRow w' vp (lookM (xs.getD (xs.length - 1) Lv.none).binds nm).p ∧ TRow w' vb (lookM (xs.getD (xs.length - 1) Lv.none).binds nm).b ∧ Below w.heap.size w w' := by
  obtain ⟨ao, n, cap, rfl, hn, hr⟩ := h
  have hn0 : 0 < n := by omega
  have hnb : n ≤ 1048576 := by have := hs.1; omega
  obtain ⟨b, off, rfl, hlo, hb, hc⟩ := hr hn0
  obtain ⟨j, hj⟩ : ∃ j, j = n - 1 := ⟨_, rfl⟩
  obtain ⟨cs, hcl, hRel, hcj⟩ := hc j (by omega)
  obtain ⟨t, ht⟩ : ∃ t, t = xs.getD j Lv.none := ⟨_, rfl⟩
  rw [show xs.length - 1 = j by omega, ← ht]
  rw [← ht] at hRel
  obtain ⟨e0, e1, e2, e3, e4, e5, rfl, i0, i1, i2, i3, i4, i5⟩ := hRel
  obtain ⟨a1, c1, rfl⟩ := i1.shape
  have g1 : w.cell? ⟨b, off + j * 6 + 1, none⟩ = some (.slice a1 t.binds.length c1) := hcj 1 (by omega)
  have hk9 : (n : Int) - 1 = (j : Int) := by omega
  have hj0 : (j : Int) < (n : Int) := by omega
  have hjn : j < n := by omega
  have hw : IntKind.i64.wrap (j : Int) = (j : Int) := by rw [IntKind.wrap_i64]; omega
  have HC : Hid (∀ i, i < n → ∃ cs : List Value, cs.length = 6 ∧ LvR 0 w cs (xs.getD i Lv.none) ∧ ∀ j, j < 6 → w.cell? ⟨b, off + i * 6 + j, none⟩ = cs[j]?) := hc
  obtain ⟨mm, hmm⟩ : ∃ mm, mm = lookM t.binds nm := ⟨_, rfl⟩
  rw [← hmm]
  have HMM : Hid (mm = lookM t.binds nm) := hmm
  clear hmm
  have HSB : Hid (t.binds.length ≤ 1048576) := by rw [ht]; exact (hs.2 j (by omega)).2.1.1
  clear hc hr hcj hj ht hcl i0 i2 i3 i4 i5
  go_enter Try.func57, Try.ntmps57
  go_wp2
  have i1w : BRow 0 w (.slice a1 t.binds.length c1) t.binds := i1
  obtain ⟨ao1, m1, cap1, e, hm1, hr1⟩ := i1
  simp only [Value.slice.injEq] at e
  obtain ⟨rfl, rfl, rfl⟩ := e
  have hmb : t.binds.length ≤ 1048576 := HSB
  obtain ⟨q, hq⟩ : ∃ q, q = t.binds.length := ⟨_, rfl⟩
  rw [← hq] at hr1 hmb
  rw [← hq]
  have HR1 : Hid (0 < q → ∃ b off, a1 = some ⟨b, off, none⟩ ∧ 0 ≤ b ∧ b < w.heap.size ∧ ∀ i, i < q → ∃ cs : List Value, cs.length = 9 ∧ BdR 0 w cs (t.binds.getD i Bd.none) ∧ ∀ j, j < 9 → w.cell? ⟨b, off + i * 9 + j, none⟩ = cs[j]?) := hr1
  have HQ : Hid (q = t.binds.length) := hq
  clear hr1 hm1 hq i1w g1
  go_loop [6, 7] (fun l h => ∃ low high : Nat, low ≤ high ∧ high ≤ q ∧ l = .int .i64 low ∧ h = .int .i64 high ∧ Hid (halve (lessAt t.binds nm) q low high = placeOf t.binds nm)) (fun l h => (intOf h).toNat - (intOf l).toNat)
  case atStart => exact ⟨0, q, by omega, by omega, rfl, rfl, by show _ = _; unfold placeOf; rw [← show q = t.binds.length from HQ]⟩
  case round =>
    obtain ⟨low, high, hlh, hhq, rfl, rfl, HH⟩ := hrel
    by_cases hlt : low < high
    · have hlti : (low : Int) < (high : Int) := by omega
      obtain ⟨b', off', rfl, _, hb', hc'⟩ := HR1 (by omega)
      obtain ⟨mid, hmid⟩ : ∃ mid, mid = (low + high) / 2 := ⟨_, rfl⟩
      obtain ⟨cs, hcl, hRel, hcj⟩ := hc' mid (by omega)
      obtain ⟨y, hy⟩ : ∃ y, y = t.binds.getD mid Bd.none := ⟨_, rfl⟩
      rw [← hy] at hRel
      obtain ⟨u2, z2, rfl, _, _⟩ := hRel
      have g0 : w.cell? ⟨b', off' + mid * 9, none⟩ = some (.string y.nm) := hcj 0 (by omega)
      have HLE : Hid (lessAt t.binds nm mid = Op.bytesLess y.nm.toList nm.toList) := by show lessAt _ _ _ = _; unfold lessAt; rw [← hy]
      obtain ⟨ynm, hyn⟩ : ∃ a, a = y.nm := ⟨_, rfl⟩
      rw [← hyn] at g0 HLE
      have hmi : ((low : Int) + (high : Int)) / 2 = (mid : Int) := by omega
      have hm1 : mid < high := by omega
      have hm2 : low ≤ mid := by omega
      have hmq : (mid : Int) < (q : Int) := by omega
      have HMID : Hid (mid = (low + high) / 2) := hmid
      clear hc' hcj hcl hy hyn hmid
      cases hless : Op.bytesLess ynm.toList nm.toList
      · have hnn : halve (lessAt t.binds nm) q low mid = placeOf t.binds nm := by
          rw [← show _ = placeOf t.binds nm from HH, halve_down (h := high) (by omega) (by omega) (by rw [← show mid = (low + high) / 2 from HMID, show lessAt _ _ mid = _ from HLE]; exact hless), ← show mid = (low + high) / 2 from HMID]
        have HN : Hid (halve (lessAt t.binds nm) q low mid = placeOf t.binds nm) := hnn
        clear hnn
        go_wp2
        go_round
        case rel => exact ⟨low, mid, by omega, by omega, rfl, by rw [hmi], HN⟩
        case measure => simp [intOf]; omega
      · have hnn : halve (lessAt t.binds nm) q (mid + 1) high = placeOf t.binds nm := by
          rw [← show _ = placeOf t.binds nm from HH, halve_up (h := high) (l := low) (by omega) (by omega) (by rw [← show mid = (low + high) / 2 from HMID, show lessAt _ _ mid = _ from HLE]; exact hless), ← show mid = (low + high) / 2 from HMID]
        have HN : Hid (halve (lessAt t.binds nm) q (mid + 1) high = placeOf t.binds nm) := hnn
        clear hnn
        go_wp2
        go_round
        case rel => exact ⟨mid + 1, high, by omega, by omega, by first | go_num | (rw [hmi]; go_num), rfl, HN⟩
        case measure => simp [intOf]; omega
    · have hlti : ¬ (low : Int) < (high : Int) := by omega
      have hpl : low = placeOf t.binds nm := by rw [← show _ = placeOf t.binds nm from HH, halve_end hlt]
      have HPL : Hid (low = placeOf t.binds nm) := hpl
      clear hpl
      obtain rfl : low = high := by omega
      by_cases hlq : low < q
      · have hlqi : (low : Int) < (q : Int) := by omega
        obtain ⟨b', off', rfl, _, hb', hc'⟩ := HR1 (by omega)
        obtain ⟨cs, hcl, hRel, hcj⟩ := hc' low (by omega)
        obtain ⟨y, hy⟩ : ∃ y, y = t.binds.getD low Bd.none := ⟨_, rfl⟩
        rw [← hy] at hRel
        obtain ⟨u2, z2, rfl, hp1, hp2⟩ := hRel
        obtain ⟨ynm, ⟨mk, mn, mt, mp, ms, mb⟩⟩ := y
        obtain ⟨pa, pn, pc, rfl⟩ := hp1.shape
        obtain ⟨qa, qn, qc, rfl⟩ := hp2.shape
        dsimp only at hcj hp1 hp2
        have g0 : w.cell? ⟨b', off' + low * 9, none⟩ = some (.string ynm) := hcj 0 (by omega)
        have g1 : w.cell? ⟨b', off' + low * 9 + 1, none⟩ = some (.int .i64 mk) := hcj 1 (by omega)
        have g2 : w.cell? ⟨b', off' + low * 9 + 2, none⟩ = some (.int .i64 mn) := hcj 2 (by omega)
        have g3 : w.cell? ⟨b', off' + low * 9 + 3, none⟩ = some (.int .i64 mt.c) := hcj 3 (by omega)
        have g4 : w.cell? ⟨b', off' + low * 9 + 4, none⟩ = some (.int .i64 mt.h) := hcj 4 (by omega)
        have g5 : w.cell? ⟨b', off' + low * 9 + 5, none⟩ = some (.string mt.s) := hcj 5 (by omega)
        have g6 : w.cell? ⟨b', off' + low * 9 + 6, none⟩ = some (.slice pa pn pc) := hcj 6 (by omega)
        have g7 : w.cell? ⟨b', off' + low * 9 + 7, none⟩ = some (.int .i64 ms) := hcj 7 (by omega)
        have g8 : w.cell? ⟨b', off' + low * 9 + 8, none⟩ = some (.slice qa qn qc) := hcj 8 (by omega)
        have HY : Hid ((⟨ynm, ⟨mk, mn, mt, mp, ms, mb⟩⟩ : Bd) = t.binds.getD low Bd.none) := hy
        have HP : Hid (TRow w (.slice pa pn pc) mp ∧ TRow w (.slice qa qn qc) mb) := ⟨hp1.1, hp2.1⟩
        clear hcj hcl hc' hy hp1 hp2
        cases hnm : (ynm.toList == nm.toList)
        · obtain rfl : mm = Mn.none := by rw [show mm = _ from HMM]; exact look_other HPL HY hnm
          go_wp2
          refine bodyPost_ret (v := mnV Mn.none (.slice none 0 0) (.slice none 0 0)) (by simp [results, Try.results57, go_sem, Mn.none, Tk.none]; rfl) rfl ⟨_, _, rfl, TRow.nil _, TRow.nil _, below2 _ _ _⟩
        · obtain rfl : mm = ⟨mk, mn, mt, mp, ms, mb⟩ := by rw [show mm = _ from HMM]; exact look_yes HPL (by rw [← show q = _ from HQ]; exact hlq) HY hnm
          go_wp2
          refine bodyPost_ret (v := meanV mk mn mt (.slice pa pn pc) ms (.slice qa qn qc)) (by simp [results, Try.results57, go_sem]) rfl ⟨_, _, rfl, TRow.below HP.1 (below2 _ _ _), TRow.below HP.2 (below2 _ _ _), below2 _ _ _⟩
      · have hlqi : ¬ (low : Int) < (q : Int) := by omega
        obtain rfl : mm = Mn.none := by rw [show mm = _ from HMM]; exact look_past HPL (by rw [← show q = _ from HQ]; exact hlq)
        go_wp2
        refine bodyPost_ret (v := mnV Mn.none (.slice none 0 0) (.slice none 0 0)) (by simp [results, Try.results57, go_sem, Mn.none, Tk.none]; rfl) rfl ⟨_, _, rfl, TRow.nil _, TRow.nil _, below2 _ _ _⟩
end Go.Proofs.Ytflpjfgodkodiaa
