/-
  Nodes are copied into memory of one's own: slices.Clone, strings.Clone and copyNodes.
-/
import Derived.Shelf.LaysM
import Derived.Shelf.Strconv.Clone
import Derived.Test.YtbbehmcekbnkiaaProg
import Derived.Test.YtbbehmcekbnkiaaTha
import Derived.Lib.SliceRun
import Derived.OwnWalk
namespace Go.Proofs.Ytbbehmcekbnkiaa
open Go.Shelf
def Try.laysM316_ren : Go.Shelf.Ren := ⟨fun | 316 => 27 | n => n, fun | 9 => 9 | 3 => 3 | 4 => 4 | 37 => 22 | 0 => 0 | 127 => 106 | 5 => 5 | n => n, fun | n => n⟩
theorem Try.laysM316 : Go.Proofs.LaysM.n316 Try.prog Try.laysM316_ren := {
  mixed := by kernel_rfl
  f316 := Try.func27.trans (congrArg some (by kernel_rfl))
  t0 := Try.underlying0
  a0 := Try.isAgg0
  z0 := Try.sizeOf0
  v0 := Try.zeroValue0
  t3 := Try.underlying3
  a3 := Try.isAgg3
  z3 := Try.sizeOf3
  v3 := Try.zeroValue3
  t4 := Try.underlying4
  a4 := Try.isAgg4
  z4 := Try.sizeOf4
  v4 := Try.zeroValue4
  t9 := Try.underlying9
  a9 := Try.isAgg9
  z9 := Try.sizeOf9
  v9 := Try.zeroValue9
  t37 := Try.underlying22
  a37 := Try.isAgg22
  z37 := Try.sizeOf22
  v37 := Try.zeroValue22
  t127 := Try.underlying106
  a127 := Try.isAgg106
  z127 := Try.sizeOf106
  v127 := Try.zeroValue106
  t5 := Try.underlying5
  a5 := Try.isAgg5
  z5 := Try.sizeOf5
  v5 := Try.zeroValue5
  i0 := by kernel_rfl
  i3 := by kernel_rfl
  i4 := by kernel_rfl
  i5 := by kernel_rfl
  i9 := by kernel_rfl
  i37 := by kernel_rfl
  i127 := by kernel_rfl }
open Go.RowKit in
theorem Try.stringslite_Clone (s : ByteArray) (w : World) (hlim : s.size ≤ 281474976710656) :
    Calls Try.prog 27 #[.string s] w fun e w' => e = .returned (.string s) ∧ Below w.heap.size w w' := Any.stringslite_Clone Try.laysM316 s w hlim
end Go.Proofs.Ytbbehmcekbnkiaa
namespace Go.Proofs.Ytbbehmcekbnkiaa
open Go.RowKit
set_option linter.unusedVariables false
set_option linter.unusedSimpArgs false

def flatN : List Nd → List Value
  | [] => []
  | x :: xs => x.cells ++ flatN xs
theorem cells_len (x : Nd) : x.cells.length = 15 := rfl
theorem flatN_len : ∀ xs : List Nd, (flatN xs).length = xs.length * 15
  | [] => rfl
  | x :: xs => by simp only [flatN, List.length_append, List.length_cons, flatN_len xs, cells_len]; omega
theorem flatN_one : ∀ xs : List Nd, ∀ u ∈ flatN xs, u.oneCell' = true
  | [], u, h => by simp [flatN] at h
  | x :: xs, u, h => by
    simp only [flatN, List.mem_append] at h
    rcases h with h | h
    · simp only [Nd.cells, List.mem_cons, List.not_mem_nil, or_false] at h
      rcases h with rfl | rfl | rfl | rfl | rfl | rfl | rfl | rfl | rfl | rfl | rfl | rfl | rfl | rfl | rfl <;> rfl
    · exact flatN_one xs u h
theorem flatN_get : ∀ (xs : List Nd) (i : Nat), i < xs.length → ∀ j, j < 15 → (flatN xs)[i * 15 + j]? = (xs.getD i Nd.none).cells[j]?
  | [], i, h, _, _ => by simp at h
  | x :: xs, 0, h, j, hj => by
    simp only [flatN, List.getD_cons_zero]
    rw [Nat.zero_mul, Nat.zero_add, List.getElem?_append_left (by rw [cells_len]; exact hj)]
  | x :: xs, i + 1, h, j, hj => by
    simp only [List.length_cons] at h
    simp only [flatN, List.getD_cons_succ]
    rw [List.getElem?_append_right (by rw [cells_len]; omega), cells_len, show (i + 1) * 15 + j - 15 = i * 15 + j by omega]
    exact flatN_get xs i (by omega) j hj
theorem flatN_at (xs : List Nd) (i : Nat) (h : i < xs.length) (j : Nat) (hj : j < 15) {u : Value} (hu : (xs.getD i Nd.none).cells[j]? = some u) : (flatN xs)[i * 15 + j]? = some u := (flatN_get xs i h j hj).trans hu

theorem stringsClone_any (s : ByteArray) (w : World) (hs : s.size ≤ 281474976710656) : Calls Try.prog 20 #[.string s] w fun e w' => e = .returned (.string s) ∧ Below w.heap.size w w' := by
  go_enter Try.func20, Try.ntmps20
  go_wp2_with (go_at_call 27; refine (Try.stringslite_Clone s _ hs).mono ?_; rintro e w1 ⟨rfl, hb⟩)
  go_ret
  exact ⟨rfl, ‹Below _ _ _›⟩

theorem eqNil (w : World) (a : Option Addr) (n c n' c' : Nat) : (binOp .eql 24 (.slice a n c) (.slice none n' c')).run Try.prog w = .ok (.bool a.isNone) w := Lib.run_eql_slice_nil w _ _ a n c n' c' Try.underlying24
theorem Try.info57c : (Try.prog.info? 32).map (fun i => (i.zero, i.size, i.bytes)) = some (some (ndV Nd.none), 15, 128) := by kernel_rfl

/-- A slice that came of nodes: nil, or one that reads as them. -/
def NN (lo : Nat) (w : World) (v : Value) (xs : List Nd) : Prop := (v = .slice none 0 0 ∧ xs = []) ∨ ∃ b off cap, v = .slice (some ⟨b, off, none⟩) xs.length cap ∧ xs.length ≤ cap ∧ lo ≤ b ∧ (0 < xs.length → b < w.heap.size) ∧ ∀ j u, (flatN xs)[j]? = some u → w.cell? ⟨b, off + j, none⟩ = some u

set_option maxRecDepth 100000 in
set_option maxHeartbeats 2000000 in
theorem clone_any {lo : Nat} {v : Value} {xs : List Nd} {w : World} (h : NN lo w v xs) (hn : xs.length ≤ 1048576) :
    Calls Try.prog 19 #[v] w fun e w' => ∃ v', e = .returned v' ∧ w'.ownsRow w.heap.size 32 15 v' xs.length (flatN xs) ∧ Below w.heap.size w w' := by
  obtain ⟨i0, hi, hz0, hz1, hz2⟩ := info_parts Try.info57c
  have q33 := eqNil
  rcases h with ⟨rfl, rfl⟩ | ⟨b, off, cap, rfl, hcap, hlo, hb, hc⟩
  · go_enter Try.func19, Try.ntmps19
    go_wp2
    go_ret
    exact ⟨_, rfl, World.ownsRow_nil _ _ _ _, Below.refl _ _⟩
  · obtain ⟨n, hl⟩ : ∃ n, n = xs.length := ⟨_, rfl⟩
    rw [← hl] at hn hcap
    rw [← hl]
    have HC : Hid (∀ j u, (flatN xs)[j]? = some u → w.cell? ⟨b, off + j, none⟩ = some u) := hc
    have HLEN : Hid (n = xs.length) := hl
    clear hc hl hb
    go_enter Try.func19, Try.ntmps19
    go_wp2_with (at_builtin; refine wpList_append_own _ rfl _ _ 24 rfl w.heap.size 32 i0 _ 15 128 Try.underlying24 hi hz0 hz1 hz2 rfl (by decide) _ _ _ rfl (World.ownsRow_made w #[] 0 (Nat.le_refl _) (Nat.zero_le _) (by simp)) ⟨b, off, none⟩ n cap (flatN xs) rfl ?c1 ?c2 ?c3 ?c4 ?c5 ?c6 ?_)
    case c1 => rw [flatN_len, ← show n = xs.length from HLEN]
    case c2 =>
      intro j u hj
      rw [Addr.add_lit]
      exact Lib.cell?_alloc_some _ (HC j u hj)
    case c3 => exact flatN_one xs
    case c4 => unfold maxLen; omega
    case c5 => omega
    case c6 => simp
    intro v' w1 hown hgrow hnil
    have HO : Hid (w1.ownsRow w.heap.size 32 15 v' n (flatN xs) ∧ Below w.heap.size w w1) := ⟨by simpa using hown, ((Below.refl _ w).alloc (Nat.le_refl _) _).grown hgrow (by simp) (by intro k hk; simp [Value.ownBlock] at hk; omega)⟩
    clear hown hgrow hnil
    go_wp2
    go_ret
    exact ⟨v', rfl, HO⟩

theorem own_shape {base n : Nat} {w : World} {v : Value} {xs : List Value} (h : w.ownsRow base 32 15 v n xs) : ∃ ao cap, v = .slice ao n cap ∧ (0 < n → ∃ g, ao = some ⟨g, 0, none⟩ ∧ base ≤ g ∧ g < w.heap.size) := by
  obtain ⟨hl, ⟨rfl, rfl⟩ | ⟨g, cap, cur, rfl, hg, hb, _⟩⟩ := h
  · exact ⟨_, _, rfl, fun h => absurd h (Nat.lt_irrefl 0)⟩
  · exact ⟨_, _, rfl, fun _ => ⟨g, rfl, hg, (Array.getElem?_eq_some_iff.1 hb).1⟩⟩
theorem own_cell {base g n cap : Nat} {w : World} {xs : List Value} (h : w.ownsRow base 32 15 (.slice (some ⟨g, 0, none⟩) n cap) n xs) {j : Nat} {x : Value} (hj : xs[j]? = some x) : w.cell? ⟨g, j, none⟩ = some x ∧ w.frozen? ⟨g, j, none⟩ = false := by
  obtain ⟨hl, h | ⟨g', cap', cur, e, hg, hb, hn, hm, hs, hx⟩⟩ := h
  · exact absurd h.1 (by simp)
  · simp at e
    obtain ⟨rfl, rfl⟩ := e
    refine ⟨?_, frozen_of_row w g j cur 32 hb⟩
    rw [cell_of_row w g _ cur 32 _ hb, ← Array.getElem?_toList]
    rw [← hx, List.getElem?_take] at hj
    split at hj
    · exact hj
    · simp at hj
theorem own_below {base n : Nat} {w w' : World} {v : Value} {xs : List Value} (h : w.ownsRow base 32 15 v n xs) (hb : Below w.heap.size w w') : w'.ownsRow base 32 15 v n xs := by
  obtain ⟨hl, h | ⟨g, cap, cur, rfl, hg, hbk, hr⟩⟩ := h
  · exact ⟨hl, .inl h⟩
  · exact ⟨hl, .inr ⟨g, cap, cur, rfl, hg, (hb.block g (Array.getElem?_eq_some_iff.1 hbk).1).trans hbk, hr⟩⟩
theorem own_set {base g n cap : Nat} {w : World} {xs : List Value} (h : w.ownsRow base 32 15 (.slice (some ⟨g, 0, none⟩) n cap) n xs) (j : Nat) (x : Value) : (w.setCell ⟨g, j, none⟩ x).ownsRow base 32 15 (.slice (some ⟨g, 0, none⟩) n cap) n (xs.set j x) := by
  simpa using (World.ownsRow.stored h j x).1
theorem own_put {base g n cap : Nat} {w : World} {xs : List Value} (h : w.ownsRow base 32 15 (.slice (some ⟨g, 0, none⟩) n cap) n xs) {j : Nat} {x : Value} (hj : xs[j]? = some x) : (w.setCell ⟨g, j, none⟩ x).ownsRow base 32 15 (.slice (some ⟨g, 0, none⟩) n cap) n xs := by
  have h2 := own_set h j x
  rw [show xs.set j x = xs from by
    apply List.ext_getElem?
    intro i
    rw [List.getElem?_set]
    split
    · rename_i hij
      subst hij
      rw [hj]
      split
      · rfl
      · rename_i h3
        rw [List.getElem?_eq_none (by omega)] at hj
        exact hj
    · rfl] at h2
  exact h2

set_option maxRecDepth 100000 in
set_option maxHeartbeats 4000000 in
theorem copyNodes_any {lo : Nat} {v : Value} {xs : List Nd} {w : World} (h : NN lo w v xs) (hn : xs.length ≤ 1048576) (hs : ∀ i, i < xs.length → (xs.getD i Nd.none).tx.size ≤ 281474976710656) :
    Calls Try.prog 12 #[v] w fun e w' => ∃ v', e = .returned v' ∧ w'.ownsRow w.heap.size 32 15 v' xs.length (flatN xs) ∧ Below w.heap.size w w' := by
  obtain ⟨n, hl⟩ : ∃ n, n = xs.length := ⟨_, rfl⟩
  have HT : Hid (NN lo w v xs) := h
  have HLEN : Hid (n = xs.length) := hl
  have HS : Hid (∀ i, i < xs.length → (xs.getD i Nd.none).tx.size ≤ 281474976710656) := hs
  obtain ⟨ao, n', cap, rfl⟩ : ∃ a n c, v = .slice a n c := by
    rcases h with ⟨rfl, _⟩ | ⟨b, off, cap, rfl, _⟩
    · exact ⟨_, _, _, rfl⟩
    · exact ⟨_, _, _, rfl⟩
  rw [← hl] at hn
  rw [← hl]
  clear hs hl h
  go_enter Try.func12, Try.ntmps12
  go_wp2_with (go_at_call 19; refine (clone_any HT (by rw [← show n = xs.length from HLEN]; exact hn)).mono ?_; rintro e w1 ⟨v1, rfl, hown, hb⟩; rw [← show n = xs.length from HLEN] at hown; have hsh := own_shape hown; obtain ⟨a1, cap1, rfl, hg1⟩ := hsh; have HO : Hid (w1.ownsRow w.heap.size 32 15 (.slice a1 n cap1) n (flatN xs) ∧ Below w.heap.size w w1) := ⟨hown, hb⟩; have HG : Hid (0 < n → ∃ g, a1 = some ⟨g, 0, none⟩ ∧ w.heap.size ≤ g ∧ g < w1.heap.size) := hg1; clear hown hb hg1)
  go_loopw [10] (fun i wr => ∃ k : Nat, k ≤ n ∧ i = .int .i64 k ∧ wr.ownsRow w.heap.size 32 15 (.slice a1 n cap1) n (flatN xs) ∧ Below w.heap.size w wr) (fun i _ => n - (intOf i).toNat)
  case atStart => exact ⟨0, by omega, rfl, HO.1, HO.2⟩
  case round =>
    obtain ⟨k, hk, rfl, hown, hbel⟩ := hrel
    by_cases hkn : k < n
    · have hki : (k : Int) < (n : Int) := by omega
      obtain ⟨g, rfl, hg0, hg1⟩ := HG (by omega)
      obtain ⟨t, ht⟩ : ∃ t, t = xs.getD k Nd.none := ⟨_, rfl⟩
      have hkt : k < xs.length := by rw [← show n = xs.length from HLEN]; exact hkn
      have hts : t.tx.size ≤ 281474976710656 := by rw [ht]; exact HS k hkt
      obtain ⟨kd, wd, hh, dp, sh, fo, ch, nn, gs, gp, gpo, gm, gmo, tx, kids⟩ := t
      obtain ⟨c0, z0⟩ := own_cell hown (flatN_at xs k hkt 0 (by omega) (show _ = some (Value.int .i64 kd) by rw [← ht]; rfl))
      obtain ⟨c1, z1⟩ := own_cell hown (flatN_at xs k hkt 1 (by omega) (show _ = some (Value.int .i64 wd) by rw [← ht]; rfl))
      obtain ⟨c2, z2⟩ := own_cell hown (flatN_at xs k hkt 2 (by omega) (show _ = some (Value.int .i64 hh) by rw [← ht]; rfl))
      obtain ⟨c3, z3⟩ := own_cell hown (flatN_at xs k hkt 3 (by omega) (show _ = some (Value.int .i64 dp) by rw [← ht]; rfl))
      obtain ⟨c4, z4⟩ := own_cell hown (flatN_at xs k hkt 4 (by omega) (show _ = some (Value.int .i64 sh) by rw [← ht]; rfl))
      obtain ⟨c5, z5⟩ := own_cell hown (flatN_at xs k hkt 5 (by omega) (show _ = some (Value.int .i64 fo) by rw [← ht]; rfl))
      obtain ⟨c6, z6⟩ := own_cell hown (flatN_at xs k hkt 6 (by omega) (show _ = some (Value.int .i64 ch) by rw [← ht]; rfl))
      obtain ⟨c7, z7⟩ := own_cell hown (flatN_at xs k hkt 7 (by omega) (show _ = some (Value.int .i64 nn) by rw [← ht]; rfl))
      obtain ⟨c8, z8⟩ := own_cell hown (flatN_at xs k hkt 8 (by omega) (show _ = some (Value.int .i64 gs) by rw [← ht]; rfl))
      obtain ⟨c9, z9⟩ := own_cell hown (flatN_at xs k hkt 9 (by omega) (show _ = some (Value.int .i64 gp) by rw [← ht]; rfl))
      obtain ⟨c10, z10⟩ := own_cell hown (flatN_at xs k hkt 10 (by omega) (show _ = some (Value.int .i64 gpo) by rw [← ht]; rfl))
      obtain ⟨c11, z11⟩ := own_cell hown (flatN_at xs k hkt 11 (by omega) (show _ = some (Value.int .i64 gm) by rw [← ht]; rfl))
      obtain ⟨c12, z12⟩ := own_cell hown (flatN_at xs k hkt 12 (by omega) (show _ = some (Value.int .i64 gmo) by rw [← ht]; rfl))
      obtain ⟨c13, z13⟩ := own_cell hown (flatN_at xs k hkt 13 (by omega) (show _ = some (Value.string tx) by rw [← ht]; rfl))
      obtain ⟨c14, z14⟩ := own_cell hown (flatN_at xs k hkt 14 (by omega) (show _ = some (Value.int .i64 kids) by rw [← ht]; rfl))
      simp only [Nat.add_zero] at c0
      have HF : Hid ((flatN xs)[k * 15 + 13]? = some (.string tx)) := hideP (flatN_at xs k hkt 13 (by omega) (show _ = some (Value.string tx) by rw [← ht]; rfl))
      have hgw : g < wr.heap.size := (World.ownsRow.lt hown g rfl).2
      have HO2 : Hid (wr.ownsRow w.heap.size 32 15 (.slice (some ⟨g, 0, none⟩) n cap1) n (flatN xs) ∧ Below w.heap.size w wr) := ⟨hown, hbel⟩
      dsimp only at hts
      clear hown hbel ht z0 z1 z2 z3 z4 z5 z6 z7 z8 z9 z10 z11 z12 z13 z14
      go_wp2_with (go_at_call 20; refine (stringsClone_any tx _ hts).mono ?_; rintro e w2 ⟨rfl, hb2⟩; have hbx := below_more (below1 wr _) hb2 (by simp); have hown2 := own_below HO2.1 hbx; have hst := own_cell hown2 HF.out; obtain ⟨hs2, hfz⟩ := hst; have HO3 : Hid (w2.ownsRow w.heap.size 32 15 (.slice (some ⟨g, 0, none⟩) n cap1) n (flatN xs) ∧ Below w.heap.size w w2) := ⟨hown2, below_more HO2.2 hbx (Below.size HO2.2)⟩; clear hown2 hb2 hbx)
      go_roundw
      case rel => exact ⟨k + 1, by omega, by go_num, own_put HO3.1 HF.out, HO3.2.setCell hg0 _⟩
      case measure => simp [intOf]; omega
    · have hki : ¬ (k : Int) < (n : Int) := by omega
      obtain rfl : k = n := by omega
      have HP : Hid (wr.ownsRow w.heap.size 32 15 (.slice a1 k cap1) k (flatN xs) ∧ Below w.heap.size w wr) := ⟨hown, hbel⟩
      clear hown hbel
      go_wp2
      go_ret
      exact ⟨_, rfl, HP⟩
end Go.Proofs.Ytbbehmcekbnkiaa
