/-
  The specification's lists that may be, and lists turned round, as walks.
-/
import Derived.Test.YtbceblgnjicdcaaUnt
import Derived.Test.YtbceblgnjicdcaaFlt
import Derived.Test.YtbceblgnjicdcaaMrk
namespace Go.Proofs.Ytbceblgnjicdcaa
open Go.RowKit
set_option linter.unusedVariables false
set_option linter.unusedSimpArgs false

set_option maxRecDepth 100000 in
set_option maxHeartbeats 4000000 in
theorem l4TokensOk_any {v : Value} {ts : List Tk} {w : World} (h : TRow w v ts) (hn : ts.length ≤ 1048576) :
    Calls Try.prog 64 #[v] w fun e w' => e = .returned (.bool (decide ((ts.length : Int) ≤ 20000) && ts.all (okT 0))) ∧ Below w.heap.size w w' := by
  obtain ⟨ao, n, cap, rfl, hl, hr⟩ := h
  rw [hl] at hn
  by_cases hbig : 20000 < (n : Int)
  · have e : (decide ((ts.length : Int) ≤ 20000) && ts.all (okT 0)) = false := by rw [hl, decide_eq_false (by omega)]; rfl
    rw [e]
    go_enter Try.func64, Try.ntmps64
    go_wp2
    go_ret
    exact ⟨rfl, Below.refl _ _⟩
  · have HR : Hid (0 < n → ∃ b off, ao = some ⟨b, off, none⟩ ∧ b < w.heap.size ∧ ∀ i, i < n →
      w.cell? ⟨b, off + i * 3, none⟩ = some (.int .i64 (ts.getD i Tk.none).c) ∧ w.cell? ⟨b, off + i * 3 + 1, none⟩ = some (.int .i64 (ts.getD i Tk.none).h) ∧ w.cell? ⟨b, off + i * 3 + 2, none⟩ = some (.string (ts.getD i Tk.none).s)) := hr
    have HL : Hid (ts.length = n) := hl
    obtain ⟨ans, hans⟩ : ∃ a, a = ts.all (okT 0) := ⟨_, rfl⟩
    rw [hl, decide_eq_true (show (n : Int) ≤ 20000 by omega), Bool.true_and, ← hans]
    have HA : Hid (ans = ts.all (okT 0)) := hans
    clear hr hl hans
    go_enter Try.func64, Try.ntmps64
    go_wp2
    go_loopw [3] (fun i wr => ∃ (k : Nat), k ≤ n ∧ i = .int .i64 k ∧ Hid ((ts.take k).all (okT 0) = true) ∧ Below w.heap.size w wr)
      (fun i _ => n - (intOf i).toNat)
    case atStart => exact ⟨0, by omega, rfl, rfl, Below.refl _ _⟩
    case round =>
      obtain ⟨k, hk, rfl, HO, hbel⟩ := hrel
      by_cases hkn : k < n
      · have hki : (k : Int) < (n : Int) := by omega
        obtain ⟨b, off, rfl, hb, hc⟩ := HR (by omega)
        have HLK : Hid (k < ts.length) := by show k < ts.length; rw [show ts.length = n from HL]; exact hkn
        obtain ⟨t, ht⟩ : ∃ t, t = ts.getD k Tk.none := ⟨_, rfl⟩
        obtain ⟨hc0, hc1, hc2⟩ := hc k hkn
        rw [← ht] at hc0 hc1 hc2
        have HT : Hid (t = ts.getD k Tk.none) := ht
        have g0 := (hbel.cell (p := ⟨b, off + k * 3, none⟩) hb).trans hc0
        have g1 := (hbel.cell (p := ⟨b, off + k * 3 + 1, none⟩) hb).trans hc1
        have g2 := (hbel.cell (p := ⟨b, off + k * 3 + 2, none⟩) hb).trans hc2
        have hbw : b < wr.heap.size := Nat.lt_of_lt_of_le hb hbel.size
        have HB : Hid (Below w.heap.size w wr) := hbel
        have dead : okT 0 t = false → ans = false := by
          intro hd
          rw [show ans = ts.all (okT 0) from HA]
          exact all_dead HLK (by rw [← show t = ts.getD k Tk.none from HT]; exact hd)
        have onto : okT 0 t = true → (ts.take (k + 1)).all (okT 0) = true := by
          intro h2
          exact all_on HLK HO (by rw [← show t = ts.getD k Tk.none from HT]; exact h2)
        have DEAD : Hid (okT 0 t = false → ans = false) := dead
        have ONTO : Hid (okT 0 t = true → (ts.take (k + 1)).all (okT 0) = true) := onto
        obtain ⟨c, h, s⟩ := t
        dsimp only at g0 g1 g2
        obtain ⟨tb, htb⟩ : ∃ tb, tb = tokB c h s := ⟨_, rfl⟩
        have hcall : ∀ w : World, Calls Try.prog 45 #[tokV c h s] w fun e w' => e = .returned (.bool tb) ∧ Below w.heap.size w w' := by rw [htb]; exact specTokenOk_any c h s
        have HTB : Hid (tb = tokB c h s) := htb
        clear hc hc0 hc1 hc2 hbel ht htb dead onto HA
        go_wp2_with fail
        refine (hcall _).mono ?_
        rintro e w2 ⟨rfl, hb1⟩
        have hz2 : wr.heap.size ≤ w2.heap.size := hb1.size
        have f0 : w2.cell? ⟨b, off + k * 3, none⟩ = some (.int .i64 c) := (hb1.cell (p := ⟨b, off + k * 3, none⟩) hbw).trans g0
        have B2 : Hid (Below w.heap.size w w2) := below_more HB hb1 (Below.size HB)
        clear hb1 g0 g1 g2
        cases tb
        · have hd : ans = false := DEAD (okT0_no (.inl (show false = tokB c h s from HTB).symm))
          go_wp2
          go_ret
          exact ⟨by first | rfl | (rw [hd]; rfl), B2⟩
        · have hw2 : b < w2.heap.size := by omega
          by_cases hc16 : c = 16
          · have hd : ans = false := DEAD (okT0_no (.inr hc16))
            subst hc16
            go_wp2
            go_ret
            exact ⟨by first | rfl | (rw [hd]; rfl), B2⟩
          · have HN : Hid ((ts.take (k + 1)).all (okT 0) = true) := ONTO (okT0_yes (show true = tokB c h s from HTB).symm hc16)
            have m16 : (c == 16) = false := by simp; omega
            go_wp2
            go_roundw
            case rel => exact ⟨k + 1, by omega, by go_num, HN, B2⟩
            case measure => simp [intOf]; omega
      · have hki : ¬ (k : Int) < (n : Int) := by omega
        obtain rfl : k = n := by omega
        have HB : Hid (Below w.heap.size w wr) := hbel
        have hans : ans = true := by
          rw [show ans = ts.all (okT 0) from HA]
          have := show (ts.take k).all (okT 0) = true from HO
          rwa [← show ts.length = k from HL, List.take_length] at this
        clear hbel HA
        go_wp2
        go_ret
        exact ⟨by first | rfl | (rw [hans]; rfl), HB⟩

/-- The last k tokens of ts lie in block g, which has room for n. -/
def TRev (w : World) (g n k : Nat) (ts : List Tk) : Prop :=
  ∃ cur : Array Value, w.heap[g]? = some (.cells cur 31 (0, 0)) ∧ cur.size = n * 3 ∧ ∀ i, n ≤ i + k → i < n → cur[i * 3]? = some (.int .i64 (ts.getD i Tk.none).c) ∧ cur[i * 3 + 1]? = some (.int .i64 (ts.getD i Tk.none).h) ∧ cur[i * 3 + 2]? = some (.string (ts.getD i Tk.none).s)
theorem TRev.full {w : World} {g n : Nat} {ts : List Tk} (h : TRev w g n n ts) : TPart w g n n ts := by
  obtain ⟨cur, hg, hs, hc⟩ := h
  exact ⟨cur, hg, hs, fun i hi => hc i (by omega) hi⟩
theorem TRev.part {w : World} {g n k : Nat} {ts : List Tk} (h : TRev w g n k ts) : TPart w g n 0 ts := by
  obtain ⟨cur, hg, hs, hc⟩ := h
  exact ⟨cur, hg, hs, fun i hi => by omega⟩
theorem TRev.put {w : World} {g n k q : Nat} {ts : List Tk} (h : TRev w g n k ts) (hk : n = q + k + 1) {t : Tk} (ht : t = ts.getD q Tk.none) :
    TRev (((w.setCell ⟨g, q * 3, none⟩ (.int .i64 t.c)).setCell ⟨g, q * 3 + 1, none⟩ (.int .i64 t.h)).setCell ⟨g, q * 3 + 2, none⟩ (.string t.s)) g n (k + 1) ts := by
  obtain ⟨cur, hg, hs, hc⟩ := h
  have e1 := heap_setCell_same w g (q * 3) cur 31 (.int .i64 t.c) hg
  have e2 := heap_setCell_same _ g (q * 3 + 1) _ 31 (.int .i64 t.h) e1
  have e3 := heap_setCell_same _ g (q * 3 + 2) _ 31 (.string t.s) e2
  refine ⟨_, e3, by simp [hs], fun i hi hin => ?_⟩
  by_cases hik : i = q
  · subst hik
    subst ht
    simp only [Array.getElem?_setIfInBounds, Array.size_setIfInBounds, hs]
    refine ⟨?_, ?_, ?_⟩
    · simp; omega
    · simp; omega
    · simp; omega
  · obtain ⟨h1, h2, h3⟩ := hc i (by omega) hin
    simp only [Array.getElem?_setIfInBounds, Array.size_setIfInBounds]
    refine ⟨?_, ?_, ?_⟩
    · rw [if_neg (by omega), if_neg (by omega), if_neg (by omega)]; exact h1
    · rw [if_neg (by omega), if_neg (by omega), if_neg (by omega)]; exact h2
    · rw [if_neg (by omega), if_neg (by omega), if_neg (by omega)]; exact h3
theorem rev_getD {ts : List Tk} {k q : Nat} (h : ts.length = q + k + 1) : ts.getD k Tk.none = ts.reverse.getD q Tk.none := by
  have h1 : k < ts.length := by omega
  have h2 : q < ts.reverse.length := by rw [List.length_reverse]; omega
  simp only [List.getD, List.getElem?_eq_getElem h1, List.getElem?_eq_getElem h2, Option.getD_some, List.getElem_reverse]
  congr 1
  omega

set_option maxRecDepth 100000 in
set_option maxHeartbeats 4000000 in
theorem l4Turn_any {v : Value} {ts : List Tk} {w : World} (h : TRow w v ts) (hsz : ts.length ≤ 1048576) :
    Calls Try.prog 65 #[v] w fun e w' => e = .returned (.slice (some ⟨w.heap.size, 0, none⟩) ts.length ts.length) ∧ TOn w.heap.size w' (.slice (some ⟨w.heap.size, 0, none⟩) ts.length ts.length) ts.reverse ∧ Below w.heap.size w w' := by
  obtain ⟨ao, n, cap, rfl, hn, hr⟩ := h
  rw [hn] at hsz
  rw [hn]
  obtain ⟨i0, hi, hz0, hz1, hz2⟩ := info_parts Try.info31
  have HI : Hid (i0.bytes = 32) := hz2
  have HN : Hid (ts.length = n) := hn
  have HR : Hid (0 < n → ∃ b off, ao = some ⟨b, off, none⟩ ∧ b < w.heap.size ∧ ∀ i, i < n →
    w.cell? ⟨b, off + i * 3, none⟩ = some (.int .i64 (ts.getD i Tk.none).c) ∧ w.cell? ⟨b, off + i * 3 + 1, none⟩ = some (.int .i64 (ts.getD i Tk.none).h) ∧ w.cell? ⟨b, off + i * 3 + 2, none⟩ = some (.string (ts.getD i Tk.none).s)) := hr
  clear hr hn
  go_enter Try.func65, Try.ntmps65
  go_wp2_with (first
    | (refine wpList_make_full _ rfl _ _ 32 rfl w.heap.size 31 i0 (.agg #[.int .i64 0, .int .i64 0, .string ByteArray.empty]) 3 Try.underlying32 hi hz0 hz1 _ _ _ _ n rfl rfl rfl rfl (by rw [show i0.bytes = 32 from HI]; omega) (by unfold maxLen; omega) (Nat.le_refl _) ?_; intro w1 hown hgrow))
  have hbel : Below w.heap.size w w1 := Below.grown (Below.refl _ _) hgrow (Nat.le_refl _) (by simp)
  have HO : Hid (TRev w1 w.heap.size n 0 ts.reverse ∧ Below w.heap.size w w1) := by
    refine ⟨?_, hbel⟩
    rcases hown.2 with ⟨h', _⟩ | ⟨g', cap', cur, h', _, hg, _, _, hcs, _⟩
    · simp at h'
    · simp only [Value.slice.injEq, Option.some.injEq, Addr.mk.injEq, and_true, true_and] at h'
      obtain ⟨rfl, rfl⟩ := h'
      exact ⟨cur, hg, hcs, fun i h1 h2 => by omega⟩
  clear hown hgrow hbel
  go_wp2
  go_loopw [4] (fun i wr => ∃ k : Nat, k ≤ n ∧ i = .int .i64 k ∧ TRev wr w.heap.size n k ts.reverse ∧ Below w.heap.size w wr) (fun i _ => n - (intOf i).toNat)
  case atStart => exact ⟨0, by omega, rfl, HO.1, HO.2⟩
  case round =>
    obtain ⟨k, hk, rfl, hp, hbel⟩ := hrel
    by_cases hkn : k < n
    · have hki : (k : Int) < (n : Int) := by omega
      obtain ⟨b, off, rfl, hb, hc⟩ := HR (by omega)
      obtain ⟨q, hq⟩ : ∃ q, n = q + k + 1 := ⟨n - k - 1, by omega⟩
      obtain ⟨t, ht⟩ : ∃ t, t = ts.getD k Tk.none := ⟨_, rfl⟩
      obtain ⟨hc0, hc1, hc2⟩ := hc k hkn
      rw [← ht] at hc0 hc1 hc2
      have g0 := (hbel.cell (p := ⟨b, off + k * 3, none⟩) hb).trans hc0
      have g1 := (hbel.cell (p := ⟨b, off + k * 3 + 1, none⟩) hb).trans hc1
      have g2 := (hbel.cell (p := ⟨b, off + k * 3 + 2, none⟩) hb).trans hc2
      have HT : Hid (t = ts.reverse.getD q Tk.none) := by show t = _; rw [ht]; exact rev_getD (by rw [show ts.length = n from HN]; exact hq)
      have hpp := hp.part
      have hfz := hpp.free
      obtain ⟨x0, hx0⟩ := hpp.cells (q * 3) (by omega)
      obtain ⟨x1, hx1⟩ := hpp.cells (q * 3 + 1) (by omega)
      obtain ⟨x2, hx2⟩ := hpp.cells (q * 3 + 2) (by omega)
      have HP : Hid (TRev wr w.heap.size n k ts.reverse ∧ Below w.heap.size w wr ∧ n = q + k + 1) := ⟨hp, hbel, hq⟩
      have hq1 : (n : Int) - 1 - (k : Int) = (q : Int) := by omega
      have hq2 : (q : Int) < (n : Int) := by omega
      have hq3 : ¬ (q : Int) < 0 := by omega
      have hgw : w.heap.size < wr.heap.size := hpp.lt
      have hbw : b < wr.heap.size := Nat.lt_of_lt_of_le hb hbel.size
      clear hc hc0 hc1 hc2 hbel ht hp hpp hq
      obtain ⟨c, h, s⟩ := t
      dsimp only at g0 g1 g2
      go_wp2
      refine ⟨⟨k + 1, by omega, by go_num, TRev.put HP.1 HP.2.2 (t := ⟨c, h, s⟩) HT, ((HP.2.1.setCell (Nat.le_refl _) _).setCell (Nat.le_refl _) _).setCell (Nat.le_refl _) _⟩, by simp [intOf]; omega⟩
    · have hki : ¬ (k : Int) < (n : Int) := by omega
      obtain rfl : k = n := by omega
      have HP : Hid (TOn w.heap.size wr (.slice (some ⟨w.heap.size, 0, none⟩) k k) ts.reverse ∧ Below w.heap.size w wr) := ⟨TPart.on hp.full (by rw [List.length_reverse]; exact HN) (Nat.le_refl _), hbel⟩
      clear hp hbel
      go_wp2
      go_ret
      exact ⟨rfl, HP⟩
end Go.Proofs.Ytbceblgnjicdcaa
