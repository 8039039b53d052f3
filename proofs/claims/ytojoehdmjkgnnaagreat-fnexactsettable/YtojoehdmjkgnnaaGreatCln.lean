import Derived.Test.YtojoehdmjkgnnaaGreatRows
import Derived.Test.YtojoehdmjkgnnaaGreatChecked
import Derived.Test.YtojoehdmjkgnnaaGreatNdq
import Derived.Deep.RegionWith
import Derived.ProofKit
import Derived.OpenShut
import Derived.ShutString
import Derived.ChangeOld
import Derived.Lib.SmallJoins
import Derived.Deep.Slices
import Derived.Shelf.LaysM
import Derived.Shelf.Strconv.Clone
import Derived.Test.YtojoehdmjkgnnaaGreatProg
import Derived.Lib.SliceRun
import Derived.OwnWalk
namespace Go.Proofs.YtojoehdmjkgnnaaGreat
open Go.ChangeShapes Go.WideShapes Go.ChangeAt Go.RowKit Go.Joins
set_option linter.unusedVariables false
set_option linter.unusedSimpArgs false
theorem ownT : ownKnob Tryz.prog.godebug = none := by kernel_rfl
theorem laidOut : laidOutB Tryz.prog = true := by kernel_rfl
theorem cells2 : Tryz.prog.cellsOf 2 = 1 := by kernel_rfl
theorem cells9 : Tryz.prog.cellsOf 9 = 1 := by kernel_rfl
theorem cells61 : Tryz.prog.cellsOf 61 = 5 := by kernel_rfl
theorem cells268 : Tryz.prog.cellsOf 268 = 15 := by kernel_rfl
theorem cells225 : Tryz.prog.cellsOf 225 = 1 := by kernel_rfl
theorem list5 {α : Type} {cs : List α} (h : cs.length = 5) : ∃ c0 c1 c2 c3 c4, cs = [c0, c1, c2, c3, c4] := by
 match cs, h with
 | [c0, c1, c2, c3, c4], _ => exact ⟨c0, c1, c2, c3, c4, rfl⟩
theorem list11 {α : Type} {cs : List α} (h : cs.length = 11) : ∃ c0 c1 c2 c3 c4 c5 c6 c7 c8 c9 c10, cs = [c0, c1, c2, c3, c4, c5, c6, c7, c8, c9, c10] := by
 match cs, h with
 | [c0, c1, c2, c3, c4, c5, c6, c7, c8, c9, c10], _ => exact ⟨c0, c1, c2, c3, c4, c5, c6, c7, c8, c9, c10, rfl⟩
theorem list15 {α : Type} {cs : List α} (h : cs.length = 15) : ∃ c0 c1 c2 c3 c4 c5 c6 c7 c8 c9 c10 c11 c12 c13 c14, cs = [c0, c1, c2, c3, c4, c5, c6, c7, c8, c9, c10, c11, c12, c13, c14] := by
 match cs, h with
 | [c0, c1, c2, c3, c4, c5, c6, c7, c8, c9, c10, c11, c12, c13, c14], _ => exact ⟨c0, c1, c2, c3, c4, c5, c6, c7, c8, c9, c10, c11, c12, c13, c14, rfl⟩
set_option maxRecDepth 100000 in
theorem openSlice {H : Type} {enc : TypeId × Value → H} {w : World} {base : Nat} {held : Bool} {fuel ty el sz : Nat} {v : Value} {y : DataW H × List MemPlace} {α : Type} {R : Nat → World → List Value → α → Prop} {F : α → Prop} (d : α)
 (hu : Tryz.prog.underlying ty = some (.slice el)) (hcell : Tryz.prog.cellsOf el = sz) (hpos : 0 < sz)
 (each : ∀ (fuel : Nat) (cs : List Value) (y : DataW H × List MemPlace), DataW.trod enc Tryz.prog w base (fun _ => true) held fuel el cs = some y → cs.length = sz → ∃ x, R 0 w cs x ∧ F x)
 (hf : DataW.trod enc Tryz.prog w base (fun _ => true) held fuel ty [v] = some y) : ∃ xs : List α, SRow sz R d 0 w v xs ∧ xs.length ≤ 9223372036854775807 ∧ ∀ i, i < xs.length → F (xs.getD i d) := by
 rcases Go.Deep.open_slice hu hf with ⟨hcs, hx⟩ | ⟨a, len, cap, m, n, D, Pl, hcs, _, hl, hm, hmm, hx, hel⟩
 ·simp at hcs
  subst hcs
  exact ⟨[], ⟨none, 0, 0, rfl, rfl, fun h => by omega⟩, Nat.zero_le _, fun i hi => by simp at hi⟩
 ·simp at hcs
  subst hcs
  by_cases h0 : len = 0
  ·subst h0
   exact ⟨[], ⟨_, 0, cap, rfl, rfl, fun h => by omega⟩, Nat.zero_le _, fun i hi => by simp at hi⟩
  ·rw [hcell] at hel
   have hplain : ∃ b off, a = ⟨b, off, none⟩ := by
    obtain ⟨cs', hcells, htr⟩ := hel 0 (by simp at hmm; omega)
    obtain ⟨_, hlen, hat⟩ := World.cells?_some hcells
    have h1 := hat 0 hpos
    rw [List.getElem?_eq_getElem (by omega)] at h1
    obtain ⟨b, off, spot⟩ := a
    have hspot : spot = none := by simpa [Addr.add] using World.cell?_spot h1
    subst hspot
    exact ⟨b, off, rfl⟩
   obtain ⟨b, off, rfl⟩ := hplain
   have each2 : ∀ i, i < len → ∃ x : α, F x ∧ ∃ cs : List Value, cs.length = sz ∧ R 0 w cs x ∧ ∀ j, j < sz → w.cell? ⟨b, off + i * sz + j, none⟩ = cs[j]? := by
    intro i hi
    obtain ⟨cs', hcells, htr⟩ := hel i (by simp at hmm; omega)
    rw [add_plain] at hcells
    obtain ⟨_, hlen, hat⟩ := World.cells?_some hcells
    obtain ⟨x, hR, hF⟩ := each _ _ _ htr hlen
    refine ⟨x, hF, cs', hlen, hR, fun j hj => ?_⟩
    have := hat j hj
    rw [add_plain] at this
    exact this
   let f : Nat → α := fun i => if hi : i < len then Classical.choose (each2 i hi) else d
   have hff : ∀ i, (hi : i < len) → F (f i) ∧ ∃ cs : List Value, cs.length = sz ∧ R 0 w cs (f i) ∧ ∀ j, j < sz → w.cell? ⟨b, off + i * sz + j, none⟩ = cs[j]? := by
    intro i hi
    have := Classical.choose_spec (each2 i hi)
    simp only [f, dif_pos hi]
    exact this
   have hget : ∀ i, i < len → ((List.range len).map f).getD i d = f i := by
    intro i hi
    simp [List.getD, List.getElem?_map, List.getElem?_range hi]
   have hblock : b < w.heap.size := by
    obtain ⟨_, cs, hcl, _, hj⟩ := hff 0 (by omega)
    have h1 := hj 0 hpos
    rw [List.getElem?_eq_getElem (by omega)] at h1
    exact World.block_lt_of_cell? w _ h1
   refine ⟨(List.range len).map f, ⟨_, len, cap, rfl, by simp, fun hp => ⟨b, off, rfl, Nat.zero_le _, hblock, fun i hi => ?_⟩⟩, ?_, ?_⟩
   ·rw [hget i hi]
    exact (hff i hi).2
   ·simp
    unfold maxLen at hm
    omega
   ·intro i hi
    have hi' : i < len := by simpa using hi
    rw [hget i hi']
    exact (hff i hi').1
set_option maxRecDepth 100000 in
theorem openNode {H : Type} {enc : TypeId × Value → H} {w : World} {base : Nat} {held : Bool} {fuel : Nat} {cs : List Value} {y : DataW H × List MemPlace} (hl : cs.length = 15)
 (hf : DataW.trod enc Tryz.prog w base (fun _ => true) held fuel 268 cs = some y) : ∃ x : Nd, NdR 0 w cs x ∧ FnN x := by
 obtain ⟨c0, c1, c2, c3, c4, c5, c6, c7, c8, c9, c10, c11, c12, c13, c14, rfl⟩ := list15 hl
 obtain ⟨xs, n, _, _, _, hlen, hfs⟩ := DataW.trod_struct Tryz.underlying268 hf
 obtain ⟨y0, y1, y2, y3, y4, y5, y6, y7, y8, y9, y10, rfl⟩ := list11 (by simpa using hlen)
 have g0 : DataW.trod enc Tryz.prog w base (fun _ => true) held n 2 [c0] = some y0 := by simpa [cells2, cells9, cells61] using hfs 0 _ rfl
 have g1 : DataW.trod enc Tryz.prog w base (fun _ => true) held n 2 [c1] = some y1 := by simpa [cells2, cells9, cells61] using hfs 1 _ rfl
 have g2 : DataW.trod enc Tryz.prog w base (fun _ => true) held n 2 [c2] = some y2 := by simpa [cells2, cells9, cells61] using hfs 2 _ rfl
 have g3 : DataW.trod enc Tryz.prog w base (fun _ => true) held n 2 [c3] = some y3 := by simpa [cells2, cells9, cells61] using hfs 3 _ rfl
 have g4 : DataW.trod enc Tryz.prog w base (fun _ => true) held n 2 [c4] = some y4 := by simpa [cells2, cells9, cells61] using hfs 4 _ rfl
 have g5 : DataW.trod enc Tryz.prog w base (fun _ => true) held n 2 [c5] = some y5 := by simpa [cells2, cells9, cells61] using hfs 5 _ rfl
 have g6 : DataW.trod enc Tryz.prog w base (fun _ => true) held n 2 [c6] = some y6 := by simpa [cells2, cells9, cells61] using hfs 6 _ rfl
 have g7 : DataW.trod enc Tryz.prog w base (fun _ => true) held n 2 [c7] = some y7 := by simpa [cells2, cells9, cells61] using hfs 7 _ rfl
 have g8 : DataW.trod enc Tryz.prog w base (fun _ => true) held n 61 [c8, c9, c10, c11, c12] = some y8 := by simpa [cells2, cells9, cells61] using hfs 8 _ rfl
 have g9 : DataW.trod enc Tryz.prog w base (fun _ => true) held n 9 [c13] = some y9 := by simpa [cells2, cells9, cells61] using hfs 9 _ rfl
 have g10 : DataW.trod enc Tryz.prog w base (fun _ => true) held n 2 [c14] = some y10 := by simpa [cells2, cells9, cells61] using hfs 10 _ rfl
 obtain ⟨xs2, n2, _, _, _, hlen2, hfs2⟩ := DataW.trod_struct Tryz.underlying61 g8
 obtain ⟨z0, z1, z2, z3, z4, rfl⟩ := list5 (by simpa using hlen2)
 have e0 : DataW.trod enc Tryz.prog w base (fun _ => true) held n2 2 [c8] = some z0 := by simpa [cells2] using hfs2 0 _ rfl
 have e1 : DataW.trod enc Tryz.prog w base (fun _ => true) held n2 2 [c9] = some z1 := by simpa [cells2] using hfs2 1 _ rfl
 have e2 : DataW.trod enc Tryz.prog w base (fun _ => true) held n2 2 [c10] = some z2 := by simpa [cells2] using hfs2 2 _ rfl
 have e3 : DataW.trod enc Tryz.prog w base (fun _ => true) held n2 2 [c11] = some z3 := by simpa [cells2] using hfs2 3 _ rfl
 have e4 : DataW.trod enc Tryz.prog w base (fun _ => true) held n2 2 [c12] = some z4 := by simpa [cells2] using hfs2 4 _ rfl
 obtain ⟨k, i0, _, _⟩ := DataW.trod_int Tryz.underlying2 g0
 obtain ⟨wd, i1, _, _⟩ := DataW.trod_int Tryz.underlying2 g1
 obtain ⟨ht, i2, _, _⟩ := DataW.trod_int Tryz.underlying2 g2
 obtain ⟨dp, i3, _, _⟩ := DataW.trod_int Tryz.underlying2 g3
 obtain ⟨sh, i4, _, _⟩ := DataW.trod_int Tryz.underlying2 g4
 obtain ⟨fo, i5, _, _⟩ := DataW.trod_int Tryz.underlying2 g5
 obtain ⟨ch, i6, _, _⟩ := DataW.trod_int Tryz.underlying2 g6
 obtain ⟨nn, i7, _, _⟩ := DataW.trod_int Tryz.underlying2 g7
 obtain ⟨kids, i10, _, _⟩ := DataW.trod_int Tryz.underlying2 g10
 obtain ⟨gs, j0, _, _⟩ := DataW.trod_int Tryz.underlying2 e0
 obtain ⟨gp, j1, _, _⟩ := DataW.trod_int Tryz.underlying2 e1
 obtain ⟨gpo, j2, _, _⟩ := DataW.trod_int Tryz.underlying2 e2
 obtain ⟨gm, j3, _, _⟩ := DataW.trod_int Tryz.underlying2 e3
 obtain ⟨gmo, j4, _, _⟩ := DataW.trod_int Tryz.underlying2 e4
 obtain ⟨tx, t0, ht0⟩ := DataW.trod_string Tryz.underlying9 g9
 simp only [List.cons.injEq, and_true] at i0 i1 i2 i3 i4 i5 i6 i7 i10 j0 j1 j2 j3 j4 t0
 refine ⟨⟨k, wd, ht, dp, sh, fo, ch, nn, gs, gp, gpo, gm, gmo, tx, kids⟩, ?_, by first | exact ht0.2 | (unfold FnN; dsimp only; omega)⟩
 simp only [NdR, Nd.cells, i0, i1, i2, i3, i4, i5, i6, i7, i10, j0, j1, j2, j3, j4, t0]
end Go.Proofs.YtojoehdmjkgnnaaGreat
namespace Go.Proofs.YtojoehdmjkgnnaaGreat
open Go.Shelf
def Tryz.laysM316_ren : Go.Shelf.Ren := ⟨fun | 316 => 117 | n => n, fun | 9 => 9 | 3 => 3 | 4 => 4 | 37 => 22 | 0 => 0 | 127 => 223 | 5 => 5 | n => n, fun | n => n⟩
theorem Tryz.laysM316 : Go.Proofs.LaysM.n316 Tryz.prog Tryz.laysM316_ren := {
 mixed := by kernel_rfl
 f316 := Tryz.func117.trans (congrArg some (by kernel_rfl))
 t0 := Tryz.underlying0
 a0 := Tryz.isAgg0
 z0 := Tryz.sizeOf0
 v0 := Tryz.zeroValue0
 t3 := Tryz.underlying3
 a3 := Tryz.isAgg3
 z3 := Tryz.sizeOf3
 v3 := Tryz.zeroValue3
 t4 := Tryz.underlying4
 a4 := Tryz.isAgg4
 z4 := Tryz.sizeOf4
 v4 := Tryz.zeroValue4
 t9 := Tryz.underlying9
 a9 := Tryz.isAgg9
 z9 := Tryz.sizeOf9
 v9 := Tryz.zeroValue9
 t37 := Tryz.underlying22
 a37 := Tryz.isAgg22
 z37 := Tryz.sizeOf22
 v37 := Tryz.zeroValue22
 t127 := Tryz.underlying223
 a127 := Tryz.isAgg223
 z127 := Tryz.sizeOf223
 v127 := Tryz.zeroValue223
 t5 := Tryz.underlying5
 a5 := Tryz.isAgg5
 z5 := Tryz.sizeOf5
 v5 := Tryz.zeroValue5
 i0 := by kernel_rfl
 i3 := by kernel_rfl
 i4 := by kernel_rfl
 i5 := by kernel_rfl
 i9 := by kernel_rfl
 i37 := by kernel_rfl
 i127 := by kernel_rfl }
open Go.RowKit in
theorem Tryz.stringslite_Clone (s : ByteArray) (w : World) (hlim : s.size ≤ 281474976710656) :
 Calls Tryz.prog 117 #[.string s] w fun e w' => e = .returned (.string s) ∧ Below w.heap.size w w' := Any.stringslite_Clone Tryz.laysM316 s w hlim
end Go.Proofs.YtojoehdmjkgnnaaGreat
namespace Go.Proofs.YtojoehdmjkgnnaaGreat
open Go.RowKit
set_option linter.unusedVariables false
set_option linter.unusedSimpArgs false
def flatN : List Nd → List Value
 | [] => []
 | x :: xs => x.cells ++ flatN xs
theorem cells_len (x : Nd) : x.cells.length = 15 := rfl
theorem flatN_len : ∀ xs : List Nd, (flatN xs).length = xs.length * 15
 | [] => rfl
 | x :: xs => by simp only [flatN, List.length_append, List.length_cons, flatN_len xs, cells_len]; omega
theorem flatN_one : ∀ xs : List Nd, ∀ u ∈ flatN xs, u.oneCell' = true
 | [], u, h => by simp [flatN] at h
 | x :: xs, u, h => by
  simp only [flatN, List.mem_append] at h
  rcases h with h | h
  ·simp only [Nd.cells, List.mem_cons, List.not_mem_nil, or_false] at h
   rcases h with rfl | rfl | rfl | rfl | rfl | rfl | rfl | rfl | rfl | rfl | rfl | rfl | rfl | rfl | rfl <;> rfl
  ·exact flatN_one xs u h
theorem flatN_get : ∀ (xs : List Nd) (i : Nat), i < xs.length → ∀ j, j < 15 → (flatN xs)[i * 15 + j]? = (xs.getD i Nd.none).cells[j]?
 | [], i, h, _, _ => by simp at h
 | x :: xs, 0, h, j, hj => by
  simp only [flatN, List.getD_cons_zero]
  rw [Nat.zero_mul, Nat.zero_add, List.getElem?_append_left (by rw [cells_len]; exact hj)]
 | x :: xs, i + 1, h, j, hj => by
  simp only [List.length_cons] at h
  simp only [flatN, List.getD_cons_succ]
  rw [List.getElem?_append_right (by rw [cells_len]; omega), cells_len, show (i + 1) * 15 + j - 15 = i * 15 + j by omega]
  exact flatN_get xs i (by omega) j hj
theorem flatN_at (xs : List Nd) (i : Nat) (h : i < xs.length) (j : Nat) (hj : j < 15) {u : Value} (hu : (xs.getD i Nd.none).cells[j]? = some u) : (flatN xs)[i * 15 + j]? = some u := (flatN_get xs i h j hj).trans hu
theorem stringsClone_any (s : ByteArray) (w : World) (hs : s.size ≤ 281474976710656) : Calls Tryz.prog 87 #[.string s] w fun e w' => e = .returned (.string s) ∧ Below w.heap.size w w' := by
 go_enter Tryz.func87, Tryz.ntmps87
 go_wp2_with (go_at_call 117; refine (Tryz.stringslite_Clone s _ hs).mono ?_; rintro e w1 ⟨rfl, hb⟩)
 go_ret
 exact ⟨rfl, ‹Below _ _ _›⟩
theorem eqNil (w : World) (a : Option Addr) (n c n' c' : Nat) : (binOp .eql 24 (.slice a n c) (.slice none n' c')).run Tryz.prog w = .ok (.bool a.isNone) w := Lib.run_eql_slice_nil w _ _ a n c n' c' Tryz.underlying24
theorem Tryz.info57c : (Tryz.prog.info? 36).map (fun i => (i.zero, i.size, i.bytes)) = some (some (ndV Nd.none), 15, 128) := by kernel_rfl
def NN (lo : Nat) (w : World) (v : Value) (xs : List Nd) : Prop := (v = .slice none 0 0 ∧ xs = []) ∨ ∃ b off cap, v = .slice (some ⟨b, off, none⟩) xs.length cap ∧ xs.length ≤ cap ∧ lo ≤ b ∧ (0 < xs.length → b < w.heap.size) ∧ ∀ j u, (flatN xs)[j]? = some u → w.cell? ⟨b, off + j, none⟩ = some u
set_option maxRecDepth 100000 in
set_option maxHeartbeats 2000000 in
theorem clone_any {lo : Nat} {v : Value} {xs : List Nd} {w : World} (h : NN lo w v xs) (hn : xs.length ≤ 1048576) :
 Calls Tryz.prog 86 #[v] w fun e w' => ∃ v', e = .returned v' ∧ w'.ownsRow w.heap.size 36 15 v' xs.length (flatN xs) ∧ Below w.heap.size w w' := by
 obtain ⟨i0, hi, hz0, hz1, hz2⟩ := info_parts Tryz.info57c
 have q33 := eqNil
 rcases h with ⟨rfl, rfl⟩ | ⟨b, off, cap, rfl, hcap, hlo, hb, hc⟩
 ·go_enter Tryz.func86, Tryz.ntmps86
  go_wp2
  go_ret
  exact ⟨_, rfl, World.ownsRow_nil _ _ _ _, Below.refl _ _⟩
 ·obtain ⟨n, hl⟩ := exq (xs.length)
  rw [← hl] at hn hcap
  rw [← hl]
  have HC : Hid (∀ j u, (flatN xs)[j]? = some u → w.cell? ⟨b, off + j, none⟩ = some u) := hc
  have HLEN : Hid (n = xs.length) := hl
  clear hc hl hb
  go_enter Tryz.func86, Tryz.ntmps86
  go_wp2_with (at_builtin; refine wpList_append_own _ rfl _ _ 24 rfl w.heap.size 36 i0 _ 15 128 Tryz.underlying24 hi hz0 hz1 hz2 rfl (by decide) _ _ _ rfl (World.ownsRow_made w #[] 0 (Nat.le_refl _) (Nat.zero_le _) (by simp)) ⟨b, off, none⟩ n cap (flatN xs) rfl ?c1 ?c2 ?c3 ?c4 ?c5 ?c6 ?_)
  case c1 => rw [flatN_len, ← show n = xs.length from HLEN]
  case c2 =>
   intro j u hj
   rw [Addr.add_lit]
   exact Lib.cell?_alloc_some _ (HC j u hj)
  case c3 => exact flatN_one xs
  case c4 => unfold maxLen; omega
  case c5 => omega
  case c6 => simp
  intro v' w1 hown hgrow hnil
  have HO : Hid (w1.ownsRow w.heap.size 36 15 v' n (flatN xs) ∧ Below w.heap.size w w1) := ⟨by simpa using hown, ((Below.refl _ w).alloc (Nat.le_refl _) _).grown hgrow (by simp) (by intro k hk; simp [Value.ownBlock] at hk; omega)⟩
  clear hown hgrow hnil
  go_wp2
  go_ret
  exact ⟨v', rfl, HO⟩
theorem own_shape {base n : Nat} {w : World} {v : Value} {xs : List Value} (h : w.ownsRow base 36 15 v n xs) : ∃ ao cap, v = .slice ao n cap ∧ (0 < n → ∃ g, ao = some ⟨g, 0, none⟩ ∧ base ≤ g ∧ g < w.heap.size) := by
 obtain ⟨hl, ⟨rfl, rfl⟩ | ⟨g, cap, cur, rfl, hg, hb, _⟩⟩ := h
 ·exact ⟨_, _, rfl, fun h => absurd h (Nat.lt_irrefl 0)⟩
 ·exact ⟨_, _, rfl, fun _ => ⟨g, rfl, hg, (glt hb)⟩⟩
theorem own_cell {base g n cap : Nat} {w : World} {xs : List Value} (h : w.ownsRow base 36 15 (.slice (some ⟨g, 0, none⟩) n cap) n xs) {j : Nat} {x : Value} (hj : xs[j]? = some x) : w.cell? ⟨g, j, none⟩ = some x ∧ w.frozen? ⟨g, j, none⟩ = false := by
 obtain ⟨hl, h | ⟨g', cap', cur, e, hg, hb, hn, hm, hs, hx⟩⟩ := h
 ·exact absurd h.1 (by simp)
 ·simp at e
  obtain ⟨rfl, rfl⟩ := e
  refine ⟨?_, frozen_of_row w g j cur 36 hb⟩
  rw [cell_of_row w g _ cur 36 _ hb, ← Array.getElem?_toList]
  rw [← hx, List.getElem?_take] at hj
  split at hj
  ·exact hj
  ·simp at hj
theorem own_below {base n : Nat} {w w' : World} {v : Value} {xs : List Value} (h : w.ownsRow base 36 15 v n xs) (hb : Below w.heap.size w w') : w'.ownsRow base 36 15 v n xs := by
 obtain ⟨hl, h | ⟨g, cap, cur, rfl, hg, hbk, hr⟩⟩ := h
 ·exact ⟨hl, .inl h⟩
 ·exact ⟨hl, .inr ⟨g, cap, cur, rfl, hg, (hb.block g (glt hbk)).trans hbk, hr⟩⟩
theorem own_set {base g n cap : Nat} {w : World} {xs : List Value} (h : w.ownsRow base 36 15 (.slice (some ⟨g, 0, none⟩) n cap) n xs) (j : Nat) (x : Value) : (w.setCell ⟨g, j, none⟩ x).ownsRow base 36 15 (.slice (some ⟨g, 0, none⟩) n cap) n (xs.set j x) := by
 simpa using (World.ownsRow.stored h j x).1
theorem own_put {base g n cap : Nat} {w : World} {xs : List Value} (h : w.ownsRow base 36 15 (.slice (some ⟨g, 0, none⟩) n cap) n xs) {j : Nat} {x : Value} (hj : xs[j]? = some x) : (w.setCell ⟨g, j, none⟩ x).ownsRow base 36 15 (.slice (some ⟨g, 0, none⟩) n cap) n xs := by
 have h2 := own_set h j x
 rw [show xs.set j x = xs from by
  apply List.ext_getElem?
  intro i
  rw [List.getElem?_set]
  split
  ·rename_i hij
   subst hij
   rw [hj]
   split
   ·rfl
   ·rename_i h3
    rw [List.getElem?_eq_none (by omega)] at hj
    exact hj
  ·rfl] at h2
 exact h2
set_option maxRecDepth 100000 in
set_option maxHeartbeats 4000000 in
theorem copyNodes_any {lo : Nat} {v : Value} {xs : List Nd} {w : World} (h : NN lo w v xs) (hn : xs.length ≤ 1048576) (hs : ∀ i, i < xs.length → (xs.getD i Nd.none).tx.size ≤ 281474976710656) :
 Calls Tryz.prog 47 #[v] w fun e w' => ∃ v', e = .returned v' ∧ w'.ownsRow w.heap.size 36 15 v' xs.length (flatN xs) ∧ Below w.heap.size w w' := by
 obtain ⟨n, hl⟩ := exq (xs.length)
 have HT : Hid (NN lo w v xs) := h
 have HLEN : Hid (n = xs.length) := hl
 have HS : Hid (∀ i, i < xs.length → (xs.getD i Nd.none).tx.size ≤ 281474976710656) := hs
 obtain ⟨ao, n', cap, rfl⟩ : ∃ a n c, v = .slice a n c := by
  rcases h with ⟨rfl, _⟩ | ⟨b, off, cap, rfl, _⟩
  ·exact ⟨_, _, _, rfl⟩
  ·exact ⟨_, _, _, rfl⟩
 rw [← hl] at hn
 rw [← hl]
 clear hs hl h
 go_enter Tryz.func47, Tryz.ntmps47
 go_wp2_with (go_at_call 86; refine (clone_any HT (by rw [← show n = xs.length from HLEN]; exact hn)).mono ?_; rintro e w1 ⟨v1, rfl, hown, hb⟩; rw [← show n = xs.length from HLEN] at hown; have hsh := own_shape hown; obtain ⟨a1, cap1, rfl, hg1⟩ := hsh; have HO : Hid (w1.ownsRow w.heap.size 36 15 (.slice a1 n cap1) n (flatN xs) ∧ Below w.heap.size w w1) := ⟨hown, hb⟩; have HG : Hid (0 < n → ∃ g, a1 = some ⟨g, 0, none⟩ ∧ w.heap.size ≤ g ∧ g < w1.heap.size) := hg1; clear hown hb hg1)
 go_loopw [10] (fun i wr => ∃ k : Nat, k ≤ n ∧ i = .int .i64 k ∧ wr.ownsRow w.heap.size 36 15 (.slice a1 n cap1) n (flatN xs) ∧ Below w.heap.size w wr) (fun i _ => n - (intOf i).toNat)
 case atStart => exact ⟨0, by omega, rfl, HO.1, HO.2⟩
 case round =>
  obtain ⟨k, hk, rfl, hown, hbel⟩ := hrel
  by_cases hkn : k < n
  ·have hki : (k : Int) < (n : Int) := by omega
   obtain ⟨g, rfl, hg0, hg1⟩ := HG (by omega)
   obtain ⟨t, ht⟩ := exq (xs.getD k Nd.none)
   have hkt : k < xs.length := by rw [← show n = xs.length from HLEN]; exact hkn
   have hts : t.tx.size ≤ 281474976710656 := by rw [ht]; exact HS k hkt
   obtain ⟨kd, wd, hh, dp, sh, fo, ch, nn, gs, gp, gpo, gm, gmo, tx, kids⟩ := t
   obtain ⟨c0, z0⟩ := own_cell hown (flatN_at xs k hkt 0 (by omega) (show _ = some (Value.int .i64 kd) by rw [← ht]; rfl))
   obtain ⟨c1, z1⟩ := own_cell hown (flatN_at xs k hkt 1 (by omega) (show _ = some (Value.int .i64 wd) by rw [← ht]; rfl))
   obtain ⟨c2, z2⟩ := own_cell hown (flatN_at xs k hkt 2 (by omega) (show _ = some (Value.int .i64 hh) by rw [← ht]; rfl))
   obtain ⟨c3, z3⟩ := own_cell hown (flatN_at xs k hkt 3 (by omega) (show _ = some (Value.int .i64 dp) by rw [← ht]; rfl))
   obtain ⟨c4, z4⟩ := own_cell hown (flatN_at xs k hkt 4 (by omega) (show _ = some (Value.int .i64 sh) by rw [← ht]; rfl))
   obtain ⟨c5, z5⟩ := own_cell hown (flatN_at xs k hkt 5 (by omega) (show _ = some (Value.int .i64 fo) by rw [← ht]; rfl))
   obtain ⟨c6, z6⟩ := own_cell hown (flatN_at xs k hkt 6 (by omega) (show _ = some (Value.int .i64 ch) by rw [← ht]; rfl))
   obtain ⟨c7, z7⟩ := own_cell hown (flatN_at xs k hkt 7 (by omega) (show _ = some (Value.int .i64 nn) by rw [← ht]; rfl))
   obtain ⟨c8, z8⟩ := own_cell hown (flatN_at xs k hkt 8 (by omega) (show _ = some (Value.int .i64 gs) by rw [← ht]; rfl))
   obtain ⟨c9, z9⟩ := own_cell hown (flatN_at xs k hkt 9 (by omega) (show _ = some (Value.int .i64 gp) by rw [← ht]; rfl))
   obtain ⟨c10, z10⟩ := own_cell hown (flatN_at xs k hkt 10 (by omega) (show _ = some (Value.int .i64 gpo) by rw [← ht]; rfl))
   obtain ⟨c11, z11⟩ := own_cell hown (flatN_at xs k hkt 11 (by omega) (show _ = some (Value.int .i64 gm) by rw [← ht]; rfl))
   obtain ⟨c12, z12⟩ := own_cell hown (flatN_at xs k hkt 12 (by omega) (show _ = some (Value.int .i64 gmo) by rw [← ht]; rfl))
   obtain ⟨c13, z13⟩ := own_cell hown (flatN_at xs k hkt 13 (by omega) (show _ = some (Value.string tx) by rw [← ht]; rfl))
   obtain ⟨c14, z14⟩ := own_cell hown (flatN_at xs k hkt 14 (by omega) (show _ = some (Value.int .i64 kids) by rw [← ht]; rfl))
   simp only [Nat.add_zero] at c0
   have HF : Hid ((flatN xs)[k * 15 + 13]? = some (.string tx)) := hideP (flatN_at xs k hkt 13 (by omega) (show _ = some (Value.string tx) by rw [← ht]; rfl))
   have hgw : g < wr.heap.size := (World.ownsRow.lt hown g rfl).2
   have HO2 : Hid (wr.ownsRow w.heap.size 36 15 (.slice (some ⟨g, 0, none⟩) n cap1) n (flatN xs) ∧ Below w.heap.size w wr) := ⟨hown, hbel⟩
   dsimp only at hts
   clear hown hbel ht z0 z1 z2 z3 z4 z5 z6 z7 z8 z9 z10 z11 z12 z13 z14
   go_wp2_with (go_at_call 87; refine (stringsClone_any tx _ hts).mono ?_; rintro e w2 ⟨rfl, hb2⟩; have hbx := below_more (below1 wr _) hb2 (by simp); have hown2 := own_below HO2.1 hbx; have hst := own_cell hown2 HF.out; obtain ⟨hs2, hfz⟩ := hst; have HO3 : Hid (w2.ownsRow w.heap.size 36 15 (.slice (some ⟨g, 0, none⟩) n cap1) n (flatN xs) ∧ Below w.heap.size w w2) := ⟨hown2, below_more HO2.2 hbx (Below.size HO2.2)⟩; clear hown2 hb2 hbx)
   go_roundw
   case rel => exact ⟨k + 1, by omega, by go_num, own_put HO3.1 HF.out, HO3.2.setCell hg0 _⟩
   case measure => simp [intOf]; omega
  ·have hki : ¬ (k : Int) < (n : Int) := by omega
   obtain rfl : k = n := by omega
   have HP : Hid (wr.ownsRow w.heap.size 36 15 (.slice a1 k cap1) k (flatN xs) ∧ Below w.heap.size w wr) := ⟨hown, hbel⟩
   clear hown hbel
   go_wp2
   go_ret
   exact ⟨_, rfl, HP⟩
end Go.Proofs.YtojoehdmjkgnnaaGreat
