import Derived.Shelf.LaysM
import Derived.Shelf.Strconv.Clone
import Derived.Test.YtojoehdmjkgnnaaGreatProg
import Derived.Test.YtojoehdmjkgnnaaGreatNdt
import Derived.Lib.SliceRun
import Derived.OwnWalk
import Derived.Test.YtojoehdmjkgnnaaGreatOpn
namespace Go.Proofs.YtojoehdmjkgnnaaGreat
open Go.Shelf
def Tryz.laysM316_ren : Go.Shelf.Ren := ⟨fun | 316 => 117 | n => n, fun | 9 => 9 | 3 => 3 | 4 => 4 | 37 => 22 | 0 => 0 | 127 => 223 | 5 => 5 | n => n, fun | n => n⟩
theorem Tryz.laysM316 : Go.Proofs.LaysM.n316 Tryz.prog Tryz.laysM316_ren := {
 mixed := by kernel_rfl
 f316 := Tryz.func117.trans (congrArg some (by kernel_rfl))
 t0 := Tryz.underlying0
 a0 := Tryz.isAgg0
 z0 := Tryz.sizeOf0
 v0 := Tryz.zeroValue0
 t3 := Tryz.underlying3
 a3 := Tryz.isAgg3
 z3 := Tryz.sizeOf3
 v3 := Tryz.zeroValue3
 t4 := Tryz.underlying4
 a4 := Tryz.isAgg4
 z4 := Tryz.sizeOf4
 v4 := Tryz.zeroValue4
 t9 := Tryz.underlying9
 a9 := Tryz.isAgg9
 z9 := Tryz.sizeOf9
 v9 := Tryz.zeroValue9
 t37 := Tryz.underlying22
 a37 := Tryz.isAgg22
 z37 := Tryz.sizeOf22
 v37 := Tryz.zeroValue22
 t127 := Tryz.underlying223
 a127 := Tryz.isAgg223
 z127 := Tryz.sizeOf223
 v127 := Tryz.zeroValue223
 t5 := Tryz.underlying5
 a5 := Tryz.isAgg5
 z5 := Tryz.sizeOf5
 v5 := Tryz.zeroValue5
 i0 := by kernel_rfl
 i3 := by kernel_rfl
 i4 := by kernel_rfl
 i5 := by kernel_rfl
 i9 := by kernel_rfl
 i37 := by kernel_rfl
 i127 := by kernel_rfl }
open Go.RowKit in
theorem Tryz.stringslite_Clone (s : ByteArray) (w : World) (hlim : s.size ≤ 281474976710656) :
 Calls Tryz.prog 117 #[.string s] w fun e w' => e = .returned (.string s) ∧ Below w.heap.size w w' := Any.stringslite_Clone Tryz.laysM316 s w hlim
end Go.Proofs.YtojoehdmjkgnnaaGreat
namespace Go.Proofs.YtojoehdmjkgnnaaGreat
open Go.RowKit
set_option linter.unusedVariables false
set_option linter.unusedSimpArgs false
def flatN : List Nd → List Value
 | [] => []
 | x :: xs => x.cells ++ flatN xs
theorem cells_len (x : Nd) : x.cells.length = 15 := rfl
theorem flatN_len : ∀ xs : List Nd, (flatN xs).length = xs.length * 15
 | [] => rfl
 | x :: xs => by simp only [flatN, List.length_append, List.length_cons, flatN_len xs, cells_len]; omega
theorem flatN_one : ∀ xs : List Nd, ∀ u ∈ flatN xs, u.oneCell' = true
 | [], u, h => by simp [flatN] at h
 | x :: xs, u, h => by
  simp only [flatN, List.mem_append] at h
  rcases h with h | h
  ·simp only [Nd.cells, List.mem_cons, List.not_mem_nil, or_false] at h
   rcases h with rfl | rfl | rfl | rfl | rfl | rfl | rfl | rfl | rfl | rfl | rfl | rfl | rfl | rfl | rfl <;> rfl
  ·exact flatN_one xs u h
theorem flatN_get : ∀ (xs : List Nd) (i : Nat), i < xs.length → ∀ j, j < 15 → (flatN xs)[i * 15 + j]? = (xs.getD i Nd.none).cells[j]?
 | [], i, h, _, _ => by simp at h
 | x :: xs, 0, h, j, hj => by
  simp only [flatN, List.getD_cons_zero]
  rw [Nat.zero_mul, Nat.zero_add, List.getElem?_append_left (by rw [cells_len]; exact hj)]
 | x :: xs, i + 1, h, j, hj => by
  simp only [List.length_cons] at h
  simp only [flatN, List.getD_cons_succ]
  rw [List.getElem?_append_right (by rw [cells_len]; omega), cells_len, show (i + 1) * 15 + j - 15 = i * 15 + j by omega]
  exact flatN_get xs i (by omega) j hj
theorem flatN_at (xs : List Nd) (i : Nat) (h : i < xs.length) (j : Nat) (hj : j < 15) {u : Value} (hu : (xs.getD i Nd.none).cells[j]? = some u) : (flatN xs)[i * 15 + j]? = some u := (flatN_get xs i h j hj).trans hu
theorem stringsClone_any (s : ByteArray) (w : World) (hs : s.size ≤ 281474976710656) : Calls Tryz.prog 87 #[.string s] w fun e w' => e = .returned (.string s) ∧ Below w.heap.size w w' := by
 go_enter Tryz.func87, Tryz.ntmps87
 go_wp2_with (go_at_call 117; refine (Tryz.stringslite_Clone s _ hs).mono ?_; rintro e w1 ⟨rfl, hb⟩)
 go_ret
 exact ⟨rfl, ‹Below _ _ _›⟩
theorem eqNil (w : World) (a : Option Addr) (n c n' c' : Nat) : (binOp .eql 24 (.slice a n c) (.slice none n' c')).run Tryz.prog w = .ok (.bool a.isNone) w := Lib.run_eql_slice_nil w _ _ a n c n' c' Tryz.underlying24
theorem Tryz.info57c : (Tryz.prog.info? 36).map (fun i => (i.zero, i.size, i.bytes)) = some (some (ndV Nd.none), 15, 128) := by kernel_rfl
def NN (lo : Nat) (w : World) (v : Value) (xs : List Nd) : Prop := (v = .slice none 0 0 ∧ xs = []) ∨ ∃ b off cap, v = .slice (some ⟨b, off, none⟩) xs.length cap ∧ xs.length ≤ cap ∧ lo ≤ b ∧ (0 < xs.length → b < w.heap.size) ∧ ∀ j u, (flatN xs)[j]? = some u → w.cell? ⟨b, off + j, none⟩ = some u
set_option maxRecDepth 100000 in
set_option maxHeartbeats 2000000 in
theorem clone_any {lo : Nat} {v : Value} {xs : List Nd} {w : World} (h : NN lo w v xs) (hn : xs.length ≤ 1048576) :
 Calls Tryz.prog 86 #[v] w fun e w' => ∃ v', e = .returned v' ∧ w'.ownsRow w.heap.size 36 15 v' xs.length (flatN xs) ∧ Below w.heap.size w w' := by
 obtain ⟨i0, hi, hz0, hz1, hz2⟩ := info_parts Tryz.info57c
 have q33 := eqNil
 rcases h with ⟨rfl, rfl⟩ | ⟨b, off, cap, rfl, hcap, hlo, hb, hc⟩
 ·go_enter Tryz.func86, Tryz.ntmps86
  go_wp2
  go_ret
  exact ⟨_, rfl, World.ownsRow_nil _ _ _ _, Below.refl _ _⟩
 ·obtain ⟨n, hl⟩ : ∃ n, n = xs.length := ⟨_, rfl⟩
  rw [← hl] at hn hcap
  rw [← hl]
  have HC : Hid (∀ j u, (flatN xs)[j]? = some u → w.cell? ⟨b, off + j, none⟩ = some u) := hc
  have HLEN : Hid (n = xs.length) := hl
  clear hc hl hb
  go_enter Tryz.func86, Tryz.ntmps86
  go_wp2_with (at_builtin; refine wpList_append_own _ rfl _ _ 24 rfl w.heap.size 36 i0 _ 15 128 Tryz.underlying24 hi hz0 hz1 hz2 rfl (by decide) _ _ _ rfl (World.ownsRow_made w #[] 0 (Nat.le_refl _) (Nat.zero_le _) (by simp)) ⟨b, off, none⟩ n cap (flatN xs) rfl ?c1 ?c2 ?c3 ?c4 ?c5 ?c6 ?_)
  case c1 => rw [flatN_len, ← show n = xs.length from HLEN]
  case c2 =>
   intro j u hj
   rw [Addr.add_lit]
   exact Lib.cell?_alloc_some _ (HC j u hj)
  case c3 => exact flatN_one xs
  case c4 => unfold maxLen; omega
  case c5 => omega
  case c6 => simp
  intro v' w1 hown hgrow hnil
  have HO : Hid (w1.ownsRow w.heap.size 36 15 v' n (flatN xs) ∧ Below w.heap.size w w1) := ⟨by simpa using hown, ((Below.refl _ w).alloc (Nat.le_refl _) _).grown hgrow (by simp) (by intro k hk; simp [Value.ownBlock] at hk; omega)⟩
  clear hown hgrow hnil
  go_wp2
  go_ret
  exact ⟨v', rfl, HO⟩
theorem own_shape {base n : Nat} {w : World} {v : Value} {xs : List Value} (h : w.ownsRow base 36 15 v n xs) : ∃ ao cap, v = .slice ao n cap ∧ (0 < n → ∃ g, ao = some ⟨g, 0, none⟩ ∧ base ≤ g ∧ g < w.heap.size) := by
 obtain ⟨hl, ⟨rfl, rfl⟩ | ⟨g, cap, cur, rfl, hg, hb, _⟩⟩ := h
 ·exact ⟨_, _, rfl, fun h => absurd h (Nat.lt_irrefl 0)⟩
 ·exact ⟨_, _, rfl, fun _ => ⟨g, rfl, hg, (Array.getElem?_eq_some_iff.1 hb).1⟩⟩
theorem own_cell {base g n cap : Nat} {w : World} {xs : List Value} (h : w.ownsRow base 36 15 (.slice (some ⟨g, 0, none⟩) n cap) n xs) {j : Nat} {x : Value} (hj : xs[j]? = some x) : w.cell? ⟨g, j, none⟩ = some x ∧ w.frozen? ⟨g, j, none⟩ = false := by
 obtain ⟨hl, h | ⟨g', cap', cur, e, hg, hb, hn, hm, hs, hx⟩⟩ := h
 ·exact absurd h.1 (by simp)
 ·simp at e
  obtain ⟨rfl, rfl⟩ := e
  refine ⟨?_, frozen_of_row w g j cur 36 hb⟩
  rw [cell_of_row w g _ cur 36 _ hb, ← Array.getElem?_toList]
  rw [← hx, List.getElem?_take] at hj
  split at hj
  ·exact hj
  ·simp at hj
theorem own_below {base n : Nat} {w w' : World} {v : Value} {xs : List Value} (h : w.ownsRow base 36 15 v n xs) (hb : Below w.heap.size w w') : w'.ownsRow base 36 15 v n xs := by
 obtain ⟨hl, h | ⟨g, cap, cur, rfl, hg, hbk, hr⟩⟩ := h
 ·exact ⟨hl, .inl h⟩
 ·exact ⟨hl, .inr ⟨g, cap, cur, rfl, hg, (hb.block g (Array.getElem?_eq_some_iff.1 hbk).1).trans hbk, hr⟩⟩
theorem own_set {base g n cap : Nat} {w : World} {xs : List Value} (h : w.ownsRow base 36 15 (.slice (some ⟨g, 0, none⟩) n cap) n xs) (j : Nat) (x : Value) : (w.setCell ⟨g, j, none⟩ x).ownsRow base 36 15 (.slice (some ⟨g, 0, none⟩) n cap) n (xs.set j x) := by
 simpa using (World.ownsRow.stored h j x).1
theorem own_put {base g n cap : Nat} {w : World} {xs : List Value} (h : w.ownsRow base 36 15 (.slice (some ⟨g, 0, none⟩) n cap) n xs) {j : Nat} {x : Value} (hj : xs[j]? = some x) : (w.setCell ⟨g, j, none⟩ x).ownsRow base 36 15 (.slice (some ⟨g, 0, none⟩) n cap) n xs := by
 have h2 := own_set h j x
 rw [show xs.set j x = xs from by
  apply List.ext_getElem?
  intro i
  rw [List.getElem?_set]
  split
  ·rename_i hij
   subst hij
   rw [hj]
   split
   ·rfl
   ·rename_i h3
    rw [List.getElem?_eq_none (by omega)] at hj
    exact hj
  ·rfl] at h2
 exact h2
set_option maxRecDepth 100000 in
set_option maxHeartbeats 4000000 in
theorem copyNodes_any {lo : Nat} {v : Value} {xs : List Nd} {w : World} (h : NN lo w v xs) (hn : xs.length ≤ 1048576) (hs : ∀ i, i < xs.length → (xs.getD i Nd.none).tx.size ≤ 281474976710656) :
 Calls Tryz.prog 47 #[v] w fun e w' => ∃ v', e = .returned v' ∧ w'.ownsRow w.heap.size 36 15 v' xs.length (flatN xs) ∧ Below w.heap.size w w' := by
 obtain ⟨n, hl⟩ : ∃ n, n = xs.length := ⟨_, rfl⟩
 have HT : Hid (NN lo w v xs) := h
 have HLEN : Hid (n = xs.length) := hl
 have HS : Hid (∀ i, i < xs.length → (xs.getD i Nd.none).tx.size ≤ 281474976710656) := hs
 obtain ⟨ao, n', cap, rfl⟩ : ∃ a n c, v = .slice a n c := by
  rcases h with ⟨rfl, _⟩ | ⟨b, off, cap, rfl, _⟩
  ·exact ⟨_, _, _, rfl⟩
  ·exact ⟨_, _, _, rfl⟩
 rw [← hl] at hn
 rw [← hl]
 clear hs hl h
 go_enter Tryz.func47, Tryz.ntmps47
 go_wp2_with (go_at_call 86; refine (clone_any HT (by rw [← show n = xs.length from HLEN]; exact hn)).mono ?_; rintro e w1 ⟨v1, rfl, hown, hb⟩; rw [← show n = xs.length from HLEN] at hown; have hsh := own_shape hown; obtain ⟨a1, cap1, rfl, hg1⟩ := hsh; have HO : Hid (w1.ownsRow w.heap.size 36 15 (.slice a1 n cap1) n (flatN xs) ∧ Below w.heap.size w w1) := ⟨hown, hb⟩; have HG : Hid (0 < n → ∃ g, a1 = some ⟨g, 0, none⟩ ∧ w.heap.size ≤ g ∧ g < w1.heap.size) := hg1; clear hown hb hg1)
 go_loopw [10] (fun i wr => ∃ k : Nat, k ≤ n ∧ i = .int .i64 k ∧ wr.ownsRow w.heap.size 36 15 (.slice a1 n cap1) n (flatN xs) ∧ Below w.heap.size w wr) (fun i _ => n - (intOf i).toNat)
 case atStart => exact ⟨0, by omega, rfl, HO.1, HO.2⟩
 case round =>
  obtain ⟨k, hk, rfl, hown, hbel⟩ := hrel
  by_cases hkn : k < n
  ·have hki : (k : Int) < (n : Int) := by omega
   obtain ⟨g, rfl, hg0, hg1⟩ := HG (by omega)
   obtain ⟨t, ht⟩ : ∃ t, t = xs.getD k Nd.none := ⟨_, rfl⟩
   have hkt : k < xs.length := by rw [← show n = xs.length from HLEN]; exact hkn
   have hts : t.tx.size ≤ 281474976710656 := by rw [ht]; exact HS k hkt
   obtain ⟨kd, wd, hh, dp, sh, fo, ch, nn, gs, gp, gpo, gm, gmo, tx, kids⟩ := t
   obtain ⟨c0, z0⟩ := own_cell hown (flatN_at xs k hkt 0 (by omega) (show _ = some (Value.int .i64 kd) by rw [← ht]; rfl))
   obtain ⟨c1, z1⟩ := own_cell hown (flatN_at xs k hkt 1 (by omega) (show _ = some (Value.int .i64 wd) by rw [← ht]; rfl))
   obtain ⟨c2, z2⟩ := own_cell hown (flatN_at xs k hkt 2 (by omega) (show _ = some (Value.int .i64 hh) by rw [← ht]; rfl))
   obtain ⟨c3, z3⟩ := own_cell hown (flatN_at xs k hkt 3 (by omega) (show _ = some (Value.int .i64 dp) by rw [← ht]; rfl))
   obtain ⟨c4, z4⟩ := own_cell hown (flatN_at xs k hkt 4 (by omega) (show _ = some (Value.int .i64 sh) by rw [← ht]; rfl))
   obtain ⟨c5, z5⟩ := own_cell hown (flatN_at xs k hkt 5 (by omega) (show _ = some (Value.int .i64 fo) by rw [← ht]; rfl))
   obtain ⟨c6, z6⟩ := own_cell hown (flatN_at xs k hkt 6 (by omega) (show _ = some (Value.int .i64 ch) by rw [← ht]; rfl))
   obtain ⟨c7, z7⟩ := own_cell hown (flatN_at xs k hkt 7 (by omega) (show _ = some (Value.int .i64 nn) by rw [← ht]; rfl))
   obtain ⟨c8, z8⟩ := own_cell hown (flatN_at xs k hkt 8 (by omega) (show _ = some (Value.int .i64 gs) by rw [← ht]; rfl))
   obtain ⟨c9, z9⟩ := own_cell hown (flatN_at xs k hkt 9 (by omega) (show _ = some (Value.int .i64 gp) by rw [← ht]; rfl))
   obtain ⟨c10, z10⟩ := own_cell hown (flatN_at xs k hkt 10 (by omega) (show _ = some (Value.int .i64 gpo) by rw [← ht]; rfl))
   obtain ⟨c11, z11⟩ := own_cell hown (flatN_at xs k hkt 11 (by omega) (show _ = some (Value.int .i64 gm) by rw [← ht]; rfl))
   obtain ⟨c12, z12⟩ := own_cell hown (flatN_at xs k hkt 12 (by omega) (show _ = some (Value.int .i64 gmo) by rw [← ht]; rfl))
   obtain ⟨c13, z13⟩ := own_cell hown (flatN_at xs k hkt 13 (by omega) (show _ = some (Value.string tx) by rw [← ht]; rfl))
   obtain ⟨c14, z14⟩ := own_cell hown (flatN_at xs k hkt 14 (by omega) (show _ = some (Value.int .i64 kids) by rw [← ht]; rfl))
   simp only [Nat.add_zero] at c0
   have HF : Hid ((flatN xs)[k * 15 + 13]? = some (.string tx)) := hideP (flatN_at xs k hkt 13 (by omega) (show _ = some (Value.string tx) by rw [← ht]; rfl))
   have hgw : g < wr.heap.size := (World.ownsRow.lt hown g rfl).2
   have HO2 : Hid (wr.ownsRow w.heap.size 36 15 (.slice (some ⟨g, 0, none⟩) n cap1) n (flatN xs) ∧ Below w.heap.size w wr) := ⟨hown, hbel⟩
   dsimp only at hts
   clear hown hbel ht z0 z1 z2 z3 z4 z5 z6 z7 z8 z9 z10 z11 z12 z13 z14
   go_wp2_with (go_at_call 87; refine (stringsClone_any tx _ hts).mono ?_; rintro e w2 ⟨rfl, hb2⟩; have hbx := below_more (below1 wr _) hb2 (by simp); have hown2 := own_below HO2.1 hbx; have hst := own_cell hown2 HF.out; obtain ⟨hs2, hfz⟩ := hst; have HO3 : Hid (w2.ownsRow w.heap.size 36 15 (.slice (some ⟨g, 0, none⟩) n cap1) n (flatN xs) ∧ Below w.heap.size w w2) := ⟨hown2, below_more HO2.2 hbx (Below.size HO2.2)⟩; clear hown2 hb2 hbx)
   go_roundw
   case rel => exact ⟨k + 1, by omega, by go_num, own_put HO3.1 HF.out, HO3.2.setCell hg0 _⟩
   case measure => simp [intOf]; omega
  ·have hki : ¬ (k : Int) < (n : Int) := by omega
   obtain rfl : k = n := by omega
   have HP : Hid (wr.ownsRow w.heap.size 36 15 (.slice a1 k cap1) k (flatN xs) ∧ Below w.heap.size w wr) := ⟨hown, hbel⟩
   clear hown hbel
   go_wp2
   go_ret
   exact ⟨_, rfl, HP⟩
structure Cl where
 sp : Int
 al : Int
 ns : List Nd
structure Rw where
 cs : List Cl
 ru : Int
structure Tb where
 co : Int
 gs : Int
 gp : Int
 gpo : Int
 gm : Int
 gmo : Int
 rs : List Rw
def Cl.none : Cl := ⟨0, 0, []⟩
def Rw.none : Rw := ⟨[], 0⟩
abbrev clV (x : Cl) (v : Value) : Value := .agg #[.int .i64 x.sp, .int .i64 x.al, v]
abbrev rwV (x : Rw) (v : Value) : Value := .agg #[v, .int .i64 x.ru]
abbrev tbV (t : Tb) (v : Value) : Value := .agg #[.int .i64 t.co, .int .i64 t.gs, .int .i64 t.gp, .int .i64 t.gpo, .int .i64 t.gm, .int .i64 t.gmo, v]
theorem NN.abv {lo : Nat} {w w' : World} {v : Value} {xs : List Nd} (h : NN lo w v xs) (ha : Abv lo w w') : NN lo w' v xs := by
 rcases h with h | ⟨b, off, cap, rfl, h1, h2, h3, h4⟩
 ·exact .inl h
 ·refine .inr ⟨b, off, cap, rfl, h1, h2, fun hp => Nat.lt_of_lt_of_le (h3 hp) ha.size, fun j u hj => ?_⟩
  have hp : 0 < xs.length := by
   cases xs with
   | nil => simp [flatN] at hj
   | cons a tl => simp
  exact (World.cell?_of_block (w := w) (a := ⟨b, off + j, none⟩) (ha.block b h2 (h3 hp))).trans (h4 j u hj)
theorem NN.mono {lo lo' : Nat} {w : World} {v : Value} {xs : List Nd} (h : NN lo w v xs) (hl : lo' ≤ lo) : NN lo' w v xs := by
 rcases h with h | ⟨b, off, cap, rfl, h1, h2, h3, h4⟩
 ·exact .inl h
 ·exact .inr ⟨b, off, cap, rfl, h1, Nat.le_trans hl h2, h3, h4⟩
def ClR (lo : Nat) (w : World) (cs : List Value) (x : Cl) : Prop := ∃ v, cs = [.int .i64 x.sp, .int .i64 x.al, v] ∧ NRow lo w v x.ns
def ClN (lo : Nat) (w : World) (cs : List Value) (x : Cl) : Prop := ∃ v, cs = [.int .i64 x.sp, .int .i64 x.al, v] ∧ NRow lo w v x.ns ∧ NN lo w v x.ns
theorem clStable : Stable ClR where
 abv := fun ⟨v, h1, h2⟩ ha => ⟨v, h1, h2.abv ndStable ha⟩
 mono := fun ⟨v, h1, h2⟩ hl => ⟨v, h1, h2.mono ndStable hl⟩
theorem clNStable : Stable ClN where
 abv := fun ⟨v, h1, h2, h3⟩ ha => ⟨v, h1, h2.abv ndStable ha, h3.abv ha⟩
 mono := fun ⟨v, h1, h2, h3⟩ hl => ⟨v, h1, h2.mono ndStable hl, h3.mono hl⟩
abbrev CRow (lo : Nat) (w : World) (v : Value) (xs : List Cl) : Prop := SRow 3 ClR Cl.none lo w v xs
abbrev CRowN (lo : Nat) (w : World) (v : Value) (xs : List Cl) : Prop := SRow 3 ClN Cl.none lo w v xs
def RwR (lo : Nat) (w : World) (cs : List Value) (x : Rw) : Prop := ∃ v, cs = [v, .int .i64 x.ru] ∧ CRow lo w v x.cs
def RwN (lo : Nat) (w : World) (cs : List Value) (x : Rw) : Prop := ∃ v, cs = [v, .int .i64 x.ru] ∧ CRowN lo w v x.cs
theorem rwStable : Stable RwR where
 abv := fun ⟨v, h1, h2⟩ ha => ⟨v, h1, h2.abv clStable ha⟩
 mono := fun ⟨v, h1, h2⟩ hl => ⟨v, h1, h2.mono clStable hl⟩
theorem rwNStable : Stable RwN where
 abv := fun ⟨v, h1, h2⟩ ha => ⟨v, h1, h2.abv clNStable ha⟩
 mono := fun ⟨v, h1, h2⟩ hl => ⟨v, h1, h2.mono clNStable hl⟩
abbrev RRow (lo : Nat) (w : World) (v : Value) (xs : List Rw) : Prop := SRow 2 RwR Rw.none lo w v xs
abbrev RRowN (lo : Nat) (w : World) (v : Value) (xs : List Rw) : Prop := SRow 2 RwN Rw.none lo w v xs
def FnC (x : Cl) : Prop := x.ns.length ≤ 9223372036854775807 ∧ ∀ i, i < x.ns.length → FnN (x.ns.getD i Nd.none)
def SmC (x : Cl) : Prop := x.ns.length ≤ 1048576 ∧ ∀ i, i < x.ns.length → SmN (x.ns.getD i Nd.none)
def FnW (x : Rw) : Prop := x.cs.length ≤ 9223372036854775807 ∧ ∀ i, i < x.cs.length → FnC (x.cs.getD i Cl.none)
def SmW (x : Rw) : Prop := x.cs.length ≤ 1048576 ∧ ∀ i, i < x.cs.length → SmC (x.cs.getD i Cl.none)
def FnT (t : Tb) : Prop := t.rs.length ≤ 9223372036854775807 ∧ ∀ i, i < t.rs.length → FnW (t.rs.getD i Rw.none)
def SmT (t : Tb) : Prop := t.rs.length ≤ 1048576 ∧ ∀ i, i < t.rs.length → SmW (t.rs.getD i Rw.none)
end Go.Proofs.YtojoehdmjkgnnaaGreat
namespace Go.Proofs.YtojoehdmjkgnnaaGreat
open Go.ChangeShapes Go.WideShapes Go.ChangeAt Go.RowKit Go.Joins
set_option linter.unusedVariables false
set_option linter.unusedSimpArgs false
theorem cells227 : Tryz.prog.cellsOf 227 = 3 := by kernel_rfl
theorem cells180 : Tryz.prog.cellsOf 180 = 2 := by kernel_rfl
theorem cells178 : Tryz.prog.cellsOf 178 = 1 := by kernel_rfl
theorem cells62 : Tryz.prog.cellsOf 62 = 1 := by kernel_rfl
theorem cells64 : Tryz.prog.cellsOf 64 = 7 := by kernel_rfl
theorem list2 {α : Type} {cs : List α} (h : cs.length = 2) : ∃ c0 c1, cs = [c0, c1] := by
 match cs, h with
 | [c0, c1], _ => exact ⟨c0, c1, rfl⟩
theorem list3 {α : Type} {cs : List α} (h : cs.length = 3) : ∃ c0 c1 c2, cs = [c0, c1, c2] := by
 match cs, h with
 | [c0, c1, c2], _ => exact ⟨c0, c1, c2, rfl⟩
theorem list7 {α : Type} {cs : List α} (h : cs.length = 7) : ∃ c0 c1 c2 c3 c4 c5 c6, cs = [c0, c1, c2, c3, c4, c5, c6] := by
 match cs, h with
 | [c0, c1, c2, c3, c4, c5, c6], _ => exact ⟨c0, c1, c2, c3, c4, c5, c6, rfl⟩
set_option maxRecDepth 100000 in
theorem openCell {H : Type} {enc : TypeId × Value → H} {w : World} {base : Nat} {held : Bool} {fuel : Nat} {cs : List Value} {y : DataW H × List MemPlace} (hl : cs.length = 3)
 (hf : DataW.trod enc Tryz.prog w base (fun _ => true) held fuel 227 cs = some y) : ∃ x : Cl, ClR 0 w cs x ∧ FnC x := by
 obtain ⟨c0, c1, c2, rfl⟩ := list3 hl
 obtain ⟨xs, n, _, _, _, hlen, hfs⟩ := DataW.trod_struct Tryz.underlying227 hf
 obtain ⟨y0, y1, y2, rfl⟩ := list3 (by simpa using hlen)
 have g0 : DataW.trod enc Tryz.prog w base (fun _ => true) held n 2 [c0] = some y0 := by simpa [cells2, cells225] using hfs 0 _ rfl
 have g1 : DataW.trod enc Tryz.prog w base (fun _ => true) held n 2 [c1] = some y1 := by simpa [cells2, cells225] using hfs 1 _ rfl
 have g2 : DataW.trod enc Tryz.prog w base (fun _ => true) held n 225 [c2] = some y2 := by simpa [cells2, cells225] using hfs 2 _ rfl
 obtain ⟨sp, i0, _, _⟩ := DataW.trod_int Tryz.underlying2 g0
 obtain ⟨al, i1, _, _⟩ := DataW.trod_int Tryz.underlying2 g1
 obtain ⟨ns, hr, hl1, hF⟩ := openSlice (R := NdR) (F := FnN) Nd.none Tryz.underlying225 cells268 (by omega) (fun fuel cs y ht hl => openNode hl ht) g2
 simp only [List.cons.injEq, and_true] at i0 i1
 subst i0 i1
 exact ⟨⟨sp, al, ns⟩, ⟨c2, rfl, hr⟩, hl1, hF⟩
set_option maxRecDepth 100000 in
theorem openRow {H : Type} {enc : TypeId × Value → H} {w : World} {base : Nat} {held : Bool} {fuel : Nat} {cs : List Value} {y : DataW H × List MemPlace} (hl : cs.length = 2)
 (hf : DataW.trod enc Tryz.prog w base (fun _ => true) held fuel 180 cs = some y) : ∃ x : Rw, RwR 0 w cs x ∧ FnW x := by
 obtain ⟨c0, c1, rfl⟩ := list2 hl
 obtain ⟨xs, n, _, _, _, hlen, hfs⟩ := DataW.trod_struct Tryz.underlying180 hf
 obtain ⟨y0, y1, rfl⟩ := list2 (by simpa using hlen)
 have g0 : DataW.trod enc Tryz.prog w base (fun _ => true) held n 178 [c0] = some y0 := by simpa [cells2, cells178] using hfs 0 _ rfl
 have g1 : DataW.trod enc Tryz.prog w base (fun _ => true) held n 2 [c1] = some y1 := by simpa [cells2, cells178] using hfs 1 _ rfl
 obtain ⟨ru, i1, _, _⟩ := DataW.trod_int Tryz.underlying2 g1
 obtain ⟨ks, hr, hl1, hF⟩ := openSlice (R := ClR) (F := FnC) Cl.none Tryz.underlying178 cells227 (by omega) (fun fuel cs y ht hl => openCell hl ht) g0
 simp only [List.cons.injEq, and_true] at i1
 subst i1
 exact ⟨⟨ks, ru⟩, ⟨c0, rfl, hr⟩, hl1, hF⟩
set_option maxRecDepth 100000 in
theorem openTable {H : Type} {enc : TypeId × Value → H} {w : World} {r : Reach} {b0 : Nat} {v : Value} {d : DataW H} {p : List MemPlace}
 (hv : Value.okWide Tryz.prog w r b0 64 v) (h : DataW.Trod enc Tryz.prog w 0 (fun _ => true) true 64 v d p) : ∃ (t : Tb) (u : Value), v = tbV t u ∧ RRow 0 w u t.rs ∧ FnT t := by
 obtain ⟨cs, rfl, hsz⟩ := okWide_struct Tryz.underlying64 hv
 obtain ⟨l⟩ := cs
 obtain ⟨c0, c1, c2, c3, c4, c5, c6, rfl⟩ := list7 (cs := l) (by simpa using hsz.trans cells64)
 obtain ⟨fuel, hf⟩ := h
 obtain ⟨xs, n, _, _, _, hlen, hfs⟩ := DataW.trod_struct Tryz.underlying64 (by simpa [Value.cells] using hf : DataW.trod enc Tryz.prog w 0 (fun _ => true) true fuel 64 [c0, c1, c2, c3, c4, c5, c6] = _)
 obtain ⟨y0, y1, y2, rfl⟩ := list3 (by simpa using hlen)
 have k0 : DataW.trod enc Tryz.prog w 0 (fun _ => true) true n 2 [c0] = some y0 := by simpa [Value.cells, cells2, cells61, cells62] using hfs 0 _ rfl
 have k1 : DataW.trod enc Tryz.prog w 0 (fun _ => true) true n 61 [c1, c2, c3, c4, c5] = some y1 := by simpa [Value.cells, cells2, cells61, cells62] using hfs 1 _ rfl
 have k2 : DataW.trod enc Tryz.prog w 0 (fun _ => true) true n 62 [c6] = some y2 := by simpa [Value.cells, cells2, cells61, cells62] using hfs 2 _ rfl
 obtain ⟨co, e0, _, _⟩ := DataW.trod_int Tryz.underlying2 k0
 obtain ⟨xs2, n2, _, _, _, hlen2, hfs2⟩ := DataW.trod_struct Tryz.underlying61 k1
 obtain ⟨z0, z1, z2, z3, z4, rfl⟩ := list5 (by simpa using hlen2)
 have m0 : DataW.trod enc Tryz.prog w 0 (fun _ => true) true n2 2 [c1] = some z0 := by simpa [cells2] using hfs2 0 _ rfl
 have m1 : DataW.trod enc Tryz.prog w 0 (fun _ => true) true n2 2 [c2] = some z1 := by simpa [cells2] using hfs2 1 _ rfl
 have m2 : DataW.trod enc Tryz.prog w 0 (fun _ => true) true n2 2 [c3] = some z2 := by simpa [cells2] using hfs2 2 _ rfl
 have m3 : DataW.trod enc Tryz.prog w 0 (fun _ => true) true n2 2 [c4] = some z3 := by simpa [cells2] using hfs2 3 _ rfl
 have m4 : DataW.trod enc Tryz.prog w 0 (fun _ => true) true n2 2 [c5] = some z4 := by simpa [cells2] using hfs2 4 _ rfl
 obtain ⟨gs, j0, _, _⟩ := DataW.trod_int Tryz.underlying2 m0
 obtain ⟨gp, j1, _, _⟩ := DataW.trod_int Tryz.underlying2 m1
 obtain ⟨gpo, j2, _, _⟩ := DataW.trod_int Tryz.underlying2 m2
 obtain ⟨gm, j3, _, _⟩ := DataW.trod_int Tryz.underlying2 m3
 obtain ⟨gmo, j4, _, _⟩ := DataW.trod_int Tryz.underlying2 m4
 obtain ⟨rs, hr, hl1, hF⟩ := openSlice (R := RwR) (F := FnW) Rw.none Tryz.underlying62 cells180 (by omega) (fun fuel cs y ht hl => openRow hl ht) k2
 simp only [List.cons.injEq, and_true] at e0 j0 j1 j2 j3 j4
 subst e0 j0 j1 j2 j3 j4
 exact ⟨⟨co, gs, gp, gpo, gm, gmo, rs⟩, c6, rfl, hr, hl1, hF⟩
end Go.Proofs.YtojoehdmjkgnnaaGreat
