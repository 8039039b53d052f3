/-
  Where items begin: the specification.
-/
import Derived.Test.YtdgfnceipginkaaStk
import Derived.Test.YtdgfnceipginkaaShf
import Derived.Lib.SliceRun
import Derived.OwnWalk
import Derived.Test.YtdgfnceipginkaaSpl
import Derived.Maps.AppendAt
namespace Go.Proofs.Ytdgfnceipginkaa
open Go.RowKit
set_option linter.unusedVariables false
set_option linter.unusedSimpArgs false

def flatN : List Nd → List Value
  | [] => []
  | x :: xs => x.cells ++ flatN xs
theorem cells_len (x : Nd) : x.cells.length = 15 := rfl
theorem flatN_len : ∀ xs : List Nd, (flatN xs).length = xs.length * 15
  | [] => rfl
  | x :: xs => by simp only [flatN, List.length_append, List.length_cons, flatN_len xs, cells_len]; omega
theorem flatN_one : ∀ xs : List Nd, ∀ u ∈ flatN xs, u.oneCell' = true
  | [], u, h => by simp [flatN] at h
  | x :: xs, u, h => by
    simp only [flatN, List.mem_append] at h
    rcases h with h | h
    · simp only [Nd.cells, List.mem_cons, List.not_mem_nil, or_false] at h
      rcases h with rfl | rfl | rfl | rfl | rfl | rfl | rfl | rfl | rfl | rfl | rfl | rfl | rfl | rfl | rfl <;> rfl
    · exact flatN_one xs u h
theorem flatN_get : ∀ (xs : List Nd) (i : Nat), i < xs.length → ∀ j, j < 15 → (flatN xs)[i * 15 + j]? = (xs.getD i Nd.none).cells[j]?
  | [], i, h, _, _ => by simp at h
  | x :: xs, 0, h, j, hj => by
    simp only [flatN, List.getD_cons_zero]
    rw [Nat.zero_mul, Nat.zero_add, List.getElem?_append_left (by rw [cells_len]; exact hj)]
  | x :: xs, i + 1, h, j, hj => by
    simp only [List.length_cons] at h
    simp only [flatN, List.getD_cons_succ]
    rw [List.getElem?_append_right (by rw [cells_len]; omega), cells_len, show (i + 1) * 15 + j - 15 = i * 15 + j by omega]
    exact flatN_get xs i (by omega) j hj
theorem flatN_at (xs : List Nd) (i : Nat) (h : i < xs.length) (j : Nat) (hj : j < 15) {u : Value} (hu : (xs.getD i Nd.none).cells[j]? = some u) : (flatN xs)[i * 15 + j]? = some u := (flatN_get xs i h j hj).trans hu

theorem stringsClone_any (s : ByteArray) (w : World) (hs : s.size ≤ 281474976710656) : Calls Try.prog 58 #[.string s] w fun e w' => e = .returned (.string s) ∧ Below w.heap.size w w' := by
  go_enter Try.func58, Try.ntmps58
  go_wp2_with (go_at_call 68; refine (Try.stringslite_Clone s _ hs).mono ?_; rintro e w1 ⟨rfl, hb⟩)
  go_ret
  exact ⟨rfl, ‹Below _ _ _›⟩

theorem eqNil (w : World) (a : Option Addr) (n c n' c' : Nat) : (binOp .eql 28 (.slice a n c) (.slice none n' c')).run Try.prog w = .ok (.bool a.isNone) w := Lib.run_eql_slice_nil w _ _ a n c n' c' Try.underlying28
theorem Try.info57c : (Try.prog.info? 48).map (fun i => (i.zero, i.size, i.bytes)) = some (some (ndV Nd.none), 15, 128) := by kernel_rfl

/-- A slice that came of nodes: nil, or one that reads as them. -/
def NN (lo : Nat) (w : World) (v : Value) (xs : List Nd) : Prop := (v = .slice none 0 0 ∧ xs = []) ∨ ∃ b off cap, v = .slice (some ⟨b, off, none⟩) xs.length cap ∧ xs.length ≤ cap ∧ lo ≤ b ∧ (0 < xs.length → b < w.heap.size) ∧ ∀ j u, (flatN xs)[j]? = some u → w.cell? ⟨b, off + j, none⟩ = some u

set_option maxRecDepth 100000 in
set_option maxHeartbeats 2000000 in
theorem clone_any {lo : Nat} {v : Value} {xs : List Nd} {w : World} (h : NN lo w v xs) (hn : xs.length ≤ 1048576) :
    Calls Try.prog 33 #[v] w fun e w' => ∃ v', e = .returned v' ∧ w'.ownsRow w.heap.size 48 15 v' xs.length (flatN xs) ∧ Below w.heap.size w w' := by
  obtain ⟨i0, hi, hz0, hz1, hz2⟩ := info_parts Try.info57c
  have q33 := eqNil
  rcases h with ⟨rfl, rfl⟩ | ⟨b, off, cap, rfl, hcap, hlo, hb, hc⟩
  · go_enter Try.func33, Try.ntmps33
    go_wp2
    go_ret
    exact ⟨_, rfl, World.ownsRow_nil _ _ _ _, Below.refl _ _⟩
  · obtain ⟨n, hl⟩ : ∃ n, n = xs.length := ⟨_, rfl⟩
    rw [← hl] at hn hcap
    rw [← hl]
    have HC : Hid (∀ j u, (flatN xs)[j]? = some u → w.cell? ⟨b, off + j, none⟩ = some u) := hc
    have HLEN : Hid (n = xs.length) := hl
    clear hc hl hb
    go_enter Try.func33, Try.ntmps33
    go_wp2_with (at_builtin; refine wpList_append_own _ rfl _ _ 28 rfl w.heap.size 48 i0 _ 15 128 Try.underlying28 hi hz0 hz1 hz2 rfl (by decide) _ _ _ rfl (World.ownsRow_made w #[] 0 (Nat.le_refl _) (Nat.zero_le _) (by simp)) ⟨b, off, none⟩ n cap (flatN xs) rfl ?c1 ?c2 ?c3 ?c4 ?c5 ?c6 ?_)
    case c1 => rw [flatN_len, ← show n = xs.length from HLEN]
    case c2 =>
      intro j u hj
      rw [Addr.add_lit]
      exact Lib.cell?_alloc_some _ (HC j u hj)
    case c3 => exact flatN_one xs
    case c4 => unfold maxLen; omega
    case c5 => omega
    case c6 => simp
    intro v' w1 hown hgrow hnil
    have HO : Hid (w1.ownsRow w.heap.size 48 15 v' n (flatN xs) ∧ Below w.heap.size w w1) := ⟨by simpa using hown, ((Below.refl _ w).alloc (Nat.le_refl _) _).grown hgrow (by simp) (by intro k hk; simp [Value.ownBlock] at hk; omega)⟩
    clear hown hgrow hnil
    go_wp2
    go_ret
    exact ⟨v', rfl, HO⟩

theorem own_shape {base n : Nat} {w : World} {v : Value} {xs : List Value} (h : w.ownsRow base 48 15 v n xs) : ∃ ao cap, v = .slice ao n cap ∧ (0 < n → ∃ g, ao = some ⟨g, 0, none⟩ ∧ base ≤ g ∧ g < w.heap.size) := by
  obtain ⟨hl, ⟨rfl, rfl⟩ | ⟨g, cap, cur, rfl, hg, hb, _⟩⟩ := h
  · exact ⟨_, _, rfl, fun h => absurd h (Nat.lt_irrefl 0)⟩
  · exact ⟨_, _, rfl, fun _ => ⟨g, rfl, hg, (Array.getElem?_eq_some_iff.1 hb).1⟩⟩
theorem own_cell {base g n cap : Nat} {w : World} {xs : List Value} (h : w.ownsRow base 48 15 (.slice (some ⟨g, 0, none⟩) n cap) n xs) {j : Nat} {x : Value} (hj : xs[j]? = some x) : w.cell? ⟨g, j, none⟩ = some x ∧ w.frozen? ⟨g, j, none⟩ = false := by
  obtain ⟨hl, h | ⟨g', cap', cur, e, hg, hb, hn, hm, hs, hx⟩⟩ := h
  · exact absurd h.1 (by simp)
  · simp at e
    obtain ⟨rfl, rfl⟩ := e
    refine ⟨?_, frozen_of_row w g j cur 48 hb⟩
    rw [cell_of_row w g _ cur 48 _ hb, ← Array.getElem?_toList]
    rw [← hx, List.getElem?_take] at hj
    split at hj
    · exact hj
    · simp at hj
theorem own_below {base n : Nat} {w w' : World} {v : Value} {xs : List Value} (h : w.ownsRow base 48 15 v n xs) (hb : Below w.heap.size w w') : w'.ownsRow base 48 15 v n xs := by
  obtain ⟨hl, h | ⟨g, cap, cur, rfl, hg, hbk, hr⟩⟩ := h
  · exact ⟨hl, .inl h⟩
  · exact ⟨hl, .inr ⟨g, cap, cur, rfl, hg, (hb.block g (Array.getElem?_eq_some_iff.1 hbk).1).trans hbk, hr⟩⟩
theorem own_set {base g n cap : Nat} {w : World} {xs : List Value} (h : w.ownsRow base 48 15 (.slice (some ⟨g, 0, none⟩) n cap) n xs) (j : Nat) (x : Value) : (w.setCell ⟨g, j, none⟩ x).ownsRow base 48 15 (.slice (some ⟨g, 0, none⟩) n cap) n (xs.set j x) := by
  simpa using (World.ownsRow.stored h j x).1
theorem own_put {base g n cap : Nat} {w : World} {xs : List Value} (h : w.ownsRow base 48 15 (.slice (some ⟨g, 0, none⟩) n cap) n xs) {j : Nat} {x : Value} (hj : xs[j]? = some x) : (w.setCell ⟨g, j, none⟩ x).ownsRow base 48 15 (.slice (some ⟨g, 0, none⟩) n cap) n xs := by
  have h2 := own_set h j x
  rw [show xs.set j x = xs from by
    apply List.ext_getElem?
    intro i
    rw [List.getElem?_set]
    split
    · rename_i hij
      subst hij
      rw [hj]
      split
      · rfl
      · rename_i h3
        rw [List.getElem?_eq_none (by omega)] at hj
        exact hj
    · rfl] at h2
  exact h2

set_option maxRecDepth 100000 in
set_option maxHeartbeats 4000000 in
theorem copyNodes_any {lo : Nat} {v : Value} {xs : List Nd} {w : World} (h : NN lo w v xs) (hn : xs.length ≤ 1048576) (hs : ∀ i, i < xs.length → (xs.getD i Nd.none).tx.size ≤ 281474976710656) :
    Calls Try.prog 41 #[v] w fun e w' => ∃ v', e = .returned v' ∧ w'.ownsRow w.heap.size 48 15 v' xs.length (flatN xs) ∧ Below w.heap.size w w' := by
  obtain ⟨n, hl⟩ : ∃ n, n = xs.length := ⟨_, rfl⟩
  have HT : Hid (NN lo w v xs) := h
  have HLEN : Hid (n = xs.length) := hl
  have HS : Hid (∀ i, i < xs.length → (xs.getD i Nd.none).tx.size ≤ 281474976710656) := hs
  obtain ⟨ao, n', cap, rfl⟩ : ∃ a n c, v = .slice a n c := by
    rcases h with ⟨rfl, _⟩ | ⟨b, off, cap, rfl, _⟩
    · exact ⟨_, _, _, rfl⟩
    · exact ⟨_, _, _, rfl⟩
  rw [← hl] at hn
  rw [← hl]
  clear hs hl h
  go_enter Try.func41, Try.ntmps41
  go_wp2_with (go_at_call 33; refine (clone_any HT (by rw [← show n = xs.length from HLEN]; exact hn)).mono ?_; rintro e w1 ⟨v1, rfl, hown, hb⟩; rw [← show n = xs.length from HLEN] at hown; have hsh := own_shape hown; obtain ⟨a1, cap1, rfl, hg1⟩ := hsh; have HO : Hid (w1.ownsRow w.heap.size 48 15 (.slice a1 n cap1) n (flatN xs) ∧ Below w.heap.size w w1) := ⟨hown, hb⟩; have HG : Hid (0 < n → ∃ g, a1 = some ⟨g, 0, none⟩ ∧ w.heap.size ≤ g ∧ g < w1.heap.size) := hg1; clear hown hb hg1)
  go_loopw [10] (fun i wr => ∃ k : Nat, k ≤ n ∧ i = .int .i64 k ∧ wr.ownsRow w.heap.size 48 15 (.slice a1 n cap1) n (flatN xs) ∧ Below w.heap.size w wr) (fun i _ => n - (intOf i).toNat)
  case atStart => exact ⟨0, by omega, rfl, HO.1, HO.2⟩
  case round =>
    obtain ⟨k, hk, rfl, hown, hbel⟩ := hrel
    by_cases hkn : k < n
    · have hki : (k : Int) < (n : Int) := by omega
      obtain ⟨g, rfl, hg0, hg1⟩ := HG (by omega)
      obtain ⟨t, ht⟩ : ∃ t, t = xs.getD k Nd.none := ⟨_, rfl⟩
      have hkt : k < xs.length := by rw [← show n = xs.length from HLEN]; exact hkn
      have hts : t.tx.size ≤ 281474976710656 := by rw [ht]; exact HS k hkt
      obtain ⟨kd, wd, hh, dp, sh, fo, ch, nn, gs, gp, gpo, gm, gmo, tx, kids⟩ := t
      obtain ⟨c0, z0⟩ := own_cell hown (flatN_at xs k hkt 0 (by omega) (show _ = some (Value.int .i64 kd) by rw [← ht]; rfl))
      obtain ⟨c1, z1⟩ := own_cell hown (flatN_at xs k hkt 1 (by omega) (show _ = some (Value.int .i64 wd) by rw [← ht]; rfl))
      obtain ⟨c2, z2⟩ := own_cell hown (flatN_at xs k hkt 2 (by omega) (show _ = some (Value.int .i64 hh) by rw [← ht]; rfl))
      obtain ⟨c3, z3⟩ := own_cell hown (flatN_at xs k hkt 3 (by omega) (show _ = some (Value.int .i64 dp) by rw [← ht]; rfl))
      obtain ⟨c4, z4⟩ := own_cell hown (flatN_at xs k hkt 4 (by omega) (show _ = some (Value.int .i64 sh) by rw [← ht]; rfl))
      obtain ⟨c5, z5⟩ := own_cell hown (flatN_at xs k hkt 5 (by omega) (show _ = some (Value.int .i64 fo) by rw [← ht]; rfl))
      obtain ⟨c6, z6⟩ := own_cell hown (flatN_at xs k hkt 6 (by omega) (show _ = some (Value.int .i64 ch) by rw [← ht]; rfl))
      obtain ⟨c7, z7⟩ := own_cell hown (flatN_at xs k hkt 7 (by omega) (show _ = some (Value.int .i64 nn) by rw [← ht]; rfl))
      obtain ⟨c8, z8⟩ := own_cell hown (flatN_at xs k hkt 8 (by omega) (show _ = some (Value.int .i64 gs) by rw [← ht]; rfl))
      obtain ⟨c9, z9⟩ := own_cell hown (flatN_at xs k hkt 9 (by omega) (show _ = some (Value.int .i64 gp) by rw [← ht]; rfl))
      obtain ⟨c10, z10⟩ := own_cell hown (flatN_at xs k hkt 10 (by omega) (show _ = some (Value.int .i64 gpo) by rw [← ht]; rfl))
      obtain ⟨c11, z11⟩ := own_cell hown (flatN_at xs k hkt 11 (by omega) (show _ = some (Value.int .i64 gm) by rw [← ht]; rfl))
      obtain ⟨c12, z12⟩ := own_cell hown (flatN_at xs k hkt 12 (by omega) (show _ = some (Value.int .i64 gmo) by rw [← ht]; rfl))
      obtain ⟨c13, z13⟩ := own_cell hown (flatN_at xs k hkt 13 (by omega) (show _ = some (Value.string tx) by rw [← ht]; rfl))
      obtain ⟨c14, z14⟩ := own_cell hown (flatN_at xs k hkt 14 (by omega) (show _ = some (Value.int .i64 kids) by rw [← ht]; rfl))
      simp only [Nat.add_zero] at c0
      have HF : Hid ((flatN xs)[k * 15 + 13]? = some (.string tx)) := hideP (flatN_at xs k hkt 13 (by omega) (show _ = some (Value.string tx) by rw [← ht]; rfl))
      have hgw : g < wr.heap.size := (World.ownsRow.lt hown g rfl).2
      have HO2 : Hid (wr.ownsRow w.heap.size 48 15 (.slice (some ⟨g, 0, none⟩) n cap1) n (flatN xs) ∧ Below w.heap.size w wr) := ⟨hown, hbel⟩
      dsimp only at hts
      clear hown hbel ht z0 z1 z2 z3 z4 z5 z6 z7 z8 z9 z10 z11 z12 z13 z14
      go_wp2_with (go_at_call 58; refine (stringsClone_any tx _ hts).mono ?_; rintro e w2 ⟨rfl, hb2⟩; have hbx := below_more (below1 wr _) hb2 (by simp); have hown2 := own_below HO2.1 hbx; have hst := own_cell hown2 HF.out; obtain ⟨hs2, hfz⟩ := hst; have HO3 : Hid (w2.ownsRow w.heap.size 48 15 (.slice (some ⟨g, 0, none⟩) n cap1) n (flatN xs) ∧ Below w.heap.size w w2) := ⟨hown2, below_more HO2.2 hbx (Below.size HO2.2)⟩; clear hown2 hb2 hbx)
      go_roundw
      case rel => exact ⟨k + 1, by omega, by go_num, own_put HO3.1 HF.out, HO3.2.setCell hg0 _⟩
      case measure => simp [intOf]; omega
    · have hki : ¬ (k : Int) < (n : Int) := by omega
      obtain rfl : k = n := by omega
      have HP : Hid (wr.ownsRow w.heap.size 48 15 (.slice a1 k cap1) k (flatN xs) ∧ Below w.heap.size w wr) := ⟨hown, hbel⟩
      clear hown hbel
      go_wp2
      go_ret
      exact ⟨_, rfl, HP⟩

def natI (ps : List Nat) : List Int := ps.map (fun p : Nat => (p : Int))

set_option maxRecDepth 20000 in
set_option maxHeartbeats 4000000 in
theorem starts_any {v : Value} {xs : List Nd} {w : World} (h : NRow 0 w v xs) (hlen : xs.length ≤ 20000) (hkids : ∀ i, i < xs.length → 0 ≤ (xs.getD i Nd.none).kids ∧ (xs.getD i Nd.none).kids ≤ 20000) :
    Calls Try.prog 47 #[v] w fun e w' => (∃ u, e = .returned u ∧ IR w' w.heap.size u (starts xs (xs.length + 1) 0).length (natI (starts xs (xs.length + 1) 0))) ∧ Below w.heap.size w w' := by
  obtain ⟨ao, n, cap, rfl, hl, hr⟩ := h
  have HL := hideP hl
  have HR : Hid (0 < n → ∃ b off, ao = some ⟨b, off, none⟩ ∧ 0 ≤ b ∧ b < w.heap.size ∧ ∀ i, i < n → ∃ cs : List Value, cs.length = 15 ∧ NdR 0 w cs (xs.getD i Nd.none) ∧ ∀ j, j < 15 → w.cell? ⟨b, off + i * 15 + j, none⟩ = cs[j]?) := hideP hr
  have HK := hideP hkids
  have hn : n ≤ 20000 := by rw [← hl]; exact hlen
  obtain ⟨Z, hZ⟩ : ∃ Z, Z = starts xs (xs.length + 1) 0 := ⟨_, rfl⟩
  rw [← hZ]
  have HZ := hideP hZ
  clear hr hl hkids hlen hZ
  go_enter Try.func47, Try.ntmps47
  go_wp2
  go_loopw [3, 4] (fun s a wr => ∃ (i f : Nat) (pre : List Nat) (g c r : Nat), a = .int .i64 (i : Int) ∧ i ≤ 40001 ∧ n < i + f ∧ Hid (pre ++ starts xs f i = Z) ∧ r ≤ i ∧ r ≤ 20001 ∧ pre.length = r ∧ s = .slice (some ⟨g, 0, none⟩) r c ∧ IR wr w.heap.size (.slice (some ⟨g, 0, none⟩) r c) r (natI pre) ∧ Below w.heap.size w wr) (fun _ a _ => n - (intOf a).toNat)
  case atStart =>
    exact ⟨0, n + 1, [], w.heap.size, 0, 0, rfl, by omega, by omega, hideP (by rw [HZ.out, ← HL.out]; rfl), by omega, by omega, rfl, rfl, ⟨rfl, .inr ⟨_, _, _, rfl, Nat.le_refl _, heap_alloc_new w _, by omega, by decide, rfl, rfl⟩⟩, below1 _ _⟩
  case round =>
    obtain ⟨i, f, pre, g, c, r, rfl, hi, hf, HP, hri, hr2, hpr, rfl, hI, hbel⟩ := hrel
    by_cases hin : i < n
    · have hii : (i : Int) < (n : Int) := by omega
      obtain ⟨b, off, rfl, _, hb, hc⟩ := HR.out (by omega)
      obtain ⟨cs, hcl, hRel, hcj⟩ := hc i hin
      obtain ⟨t, ht⟩ : ∃ t, t = xs.getD i Nd.none := ⟨_, rfl⟩
      have hkk := HK.out i (by rw [HL.out]; exact hin)
      rw [← ht] at hRel hkk
      obtain ⟨kids, hkd⟩ : ∃ z, z = t.kids := ⟨_, rfl⟩
      rw [← hkd] at hkk
      obtain ⟨hk0, hk1⟩ := hkk
      have g14 : wr.cell? ⟨b, off + i * 15 + 14, none⟩ = some (.int .i64 kids) := (hbel.cell (p := ⟨b, off + i * 15 + 14, none⟩) hb).trans ((hcj 14 (by omega)).trans (by rw [show cs = _ from hRel, hkd]; rfl))
      obtain ⟨f, rfl⟩ : ∃ q, f = q + 1 := ⟨f - 1, by omega⟩
      have HST : Hid ((pre ++ [i]) ++ starts xs f (i + 1 + kids.toNat) = Z) := hideP (by
        have h := HP.out
        rw [show starts xs (f + 1) i = i :: starts xs f (i + 1 + (xs.getD i Nd.none).kids.toNat) by simp only [starts]; rw [if_pos (by rw [HL.out]; exact hin)]] at h
        rw [← ht, ← hkd] at h
        rw [List.append_assoc]
        exact h)
      have HI := hideP hI
      have HB := hideP hbel
      have hw1 : w.heap.size ≤ wr.heap.size := hbel.size
      have HPR := hideP hpr
      obtain ⟨i0, hi0, hy0, hy1, hy2⟩ := info_parts Try.info3b
      have Q14 : Hid (∀ x, Below w.heap.size w x → x.cell? ⟨b, off + i * 15 + 14, none⟩ = some (.int .i64 kids)) := hideP (fun x hx => (hx.cell (p := ⟨b, off + i * 15 + 14, none⟩) hb).trans ((hcj 14 (by omega)).trans (by rw [show cs = _ from hRel, hkd]; rfl)))
      clear hc hcj hcl ht hRel hI hbel hkd g14
      go_wp2_with (at_builtin; refine wpList_append_own_at _ rfl _ _ 106 rfl w.heap.size 3 i0 (.int .i64 0) 1 8 Try.underlying106 hi0 hy0 hy1 hy2 rfl (by decide) _ _ _ rfl (HI.out.alloc _) ⟨wr.heap.size, 0, none⟩ 1 1 [.int .i64 (i : Int)] rfl rfl (cell_one_new _ _ _) (by intro u hu; simp at hu; subst hu; rfl) (by unfold maxLen; omega) (by omega) (by simp; omega) ?_; intro v6 w6 hown6 hgrow6 hnil6 hlies6; have hg6 : (wr.alloc (.cells #[.int .i64 (i : Int)] 3)).grownBy w6 (some g) := hgrow6; have hB6 : Below w.heap.size w w6 := Below.grown (HB.out.alloc hw1 _) hg6 (by simp; omega) (by intro j hj; simp at hj; subst hj; exact (stk_cap HI.out).2.2.1); have hk6 := Q14.out w6 hB6; have H6 := hideP (And.intro hown6 hB6); clear hown6 hgrow6 hnil6 hlies6 hg6 hB6)
      have hI6 : IR w6 w.heap.size v6 (r + 1) (natI (pre ++ [i])) := by
        show w6.ownsRow w.heap.size 3 1 v6 (r + 1) ((natI (pre ++ [i])).map (Value.int .i64))
        unfold natI
        rw [List.map_append, List.map_append]
        exact H6.out.1
      go_roundw
      case rel =>
        obtain ⟨g6, c6, rfl⟩ : ∃ g c, v6 = .slice (some ⟨g, 0, none⟩) (r + 1) c := by
          rcases hI6.2 with ⟨_, h⟩ | ⟨g, c, cur, h, _⟩
          · omega
          · exact ⟨g, c, h⟩
        exact ⟨i + 1 + kids.toNat, f, pre ++ [i], g6, c6, r + 1, congrArg _ (by omega), by omega, by omega, HST, by omega, by omega, by simp [HPR.out], rfl, hI6, H6.out.2⟩
      case measure => simp [intOf]; omega
    · have hii : ¬ (i : Int) < (n : Int) := by omega
      have HE : Hid (pre = Z) := hideP (by
        have h := HP.out
        cases f with
        | zero => simpa [starts] using h
        | succ f =>
          rw [show starts xs (f + 1) i = [] by simp only [starts]; rw [if_neg (by rw [HL.out]; exact hin)]] at h
          simpa using h)
      have HI := hideP hI
      have HB := hideP hbel
      clear hI hbel
      go_wp2
      go_ret
      refine ⟨⟨_, rfl, ?_⟩, HB.out⟩
      rw [← HE.out, hpr]
      exact HI.out
end Go.Proofs.Ytdgfnceipginkaa
