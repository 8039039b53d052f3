import Derived.Test.YtbpidcfoldkhgaaGreatTable
import Derived.Test.YtbpidcfoldkhgaaGreatRowg
import Derived.Test.YtbpidcfoldkhgaaGreatGlues
namespace Go.Proofs.YtbpidcfoldkhgaaGreat
open Go.RowKit
set_option linter.unusedVariables false
set_option linter.unusedSimpArgs false
theorem tableOf_any {v : Value} {zs : List Int} {w : World} (h : Row w v zs) :
 Calls Tryz.prog 119 #[v] w fun e w' => (∃ gs : List Int, e = .returned (.tuple #[.agg (cellsI gs), .bool (catsB zs)]) ∧ gs.length = 256 ∧ (catsB zs = true → gs = zs)) ∧ Below w.heap.size w w' := by
 obtain ⟨ao, n, cap, rfl, hn, hr⟩ := h
 by_cases hl : n = 256
 ·subst hl
  obtain ⟨b, off, rfl, hb, hc⟩ := hr (by omega)
  refine (tableOf_full hn hb hc).mono ?_
  rintro e w' ⟨rfl, hb'⟩
  exact ⟨⟨zs, rfl, hn, fun _ => rfl⟩, hb'⟩
 ·refine (tableOf_short hl).mono ?_
  rintro e w' ⟨⟨gs, rfl, hgl⟩, hb'⟩
  have hc := catsB_len (zs := zs) (by omega)
  rw [hc]
  exact ⟨⟨gs, rfl, hgl, fun h => by cases h⟩, hb'⟩
set_option maxRecDepth 20000 in
set_option maxHeartbeats 1000000 in
theorem implCatsOk_any {v : Value} {zs : List Int} {w : World} (h : Row w v zs) : Calls Tryz.prog 94 #[v] w fun e w' => e = .returned (.bool (catsB zs)) ∧ Below w.heap.size w w' := by
 go_enter Tryz.func94, Tryz.ntmps94
 go_wp2_with fail
 refine (tableOf_any h).mono ?_
 rintro e w1 ⟨⟨gs, rfl, hgl, _⟩, hb1⟩
 obtain ⟨hv, hi⟩ := zero_of_info Tryz.info167
 rw [cellsI_zero] at hv
 obtain ⟨os, ho⟩ : ∃ os : List Int, os = List.replicate 256 0 := ⟨_, rfl⟩
 rw [← ho] at hv
 have hol : os.length = 256 := by rw [ho, List.length_replicate]
 have hcs : (cellsI gs).size = 256 := by rw [cellsI_size, hgl]
 have hst := (Blk.new w1 os).store hol hgl
 have HB : Hid (Below w.heap.size w ((w1.alloc (Obj.cells (cellsI os) 167)).setRow w1.heap.size (cellsI gs))) := Below.setRow (hb1.alloc hb1.size _) hb1.size _
 clear ho hi hol hb1
 go_wp2
 go_ret
 exact ⟨rfl, HB⟩
theorem Copied.row {B n : Nat} {w w' : World} {zs : List Int} (h : Copied B n w w' zs) : Row w' (.slice (some ⟨B, 0, none⟩) n n) zs := Row.own h.1 h.2.1 h.2.2.2
def RIn (lo : Nat) (w : World) (v : Value) (zs : List Int) : Prop := Row w v zs ∧ ∀ b off n cap, v = .slice (some ⟨b, off, none⟩) n cap → lo ≤ b
def GIn (lo : Nat) (w : World) (v : Value) (gs : List Gl) : Prop := GRow w v gs ∧ ∀ b off n cap, v = .slice (some ⟨b, off, none⟩) n cap → lo ≤ b
theorem RIn.abv {lo : Nat} {w w' : World} {v : Value} {zs : List Int} (h : RIn lo w v zs) (ha : Abv lo w w') : RIn lo w' v zs := by
 obtain ⟨⟨ao, n, cap, rfl, hn, hc⟩, hlo⟩ := h
 refine ⟨⟨ao, n, cap, rfl, hn, fun hp => ?_⟩, hlo⟩
 obtain ⟨b, off, rfl, hlt, hcell⟩ := hc hp
 have hb : w'.heap[b]? = w.heap[b]? := ha.block b (hlo b off n cap rfl) hlt
 exact ⟨b, off, rfl, Nat.lt_of_lt_of_le hlt ha.size, fun i hi => (World.cell?_of_block (w := w) (a := ⟨b, off + i, none⟩) hb).trans (hcell i hi)⟩
theorem RIn.mono {lo lo' : Nat} {w : World} {v : Value} {zs : List Int} (h : RIn lo w v zs) (hl : lo' ≤ lo) : RIn lo' w v zs := ⟨h.1, fun b off n cap e => Nat.le_trans hl (h.2 b off n cap e)⟩
theorem RIn.zero {w : World} {v : Value} {zs : List Int} (h : Row w v zs) : RIn 0 w v zs := ⟨h, fun _ _ _ _ _ => Nat.zero_le _⟩
theorem RIn.shape {lo : Nat} {w : World} {v : Value} {zs : List Int} (h : RIn lo w v zs) : ∃ ao cap, v = .slice ao zs.length cap := by
 obtain ⟨⟨ao, n, cap, e, rfl, _⟩, _⟩ := h
 exact ⟨ao, cap, e⟩
theorem GIn.abv {lo : Nat} {w w' : World} {v : Value} {gs : List Gl} (h : GIn lo w v gs) (ha : Abv lo w w') : GIn lo w' v gs := by
 obtain ⟨⟨ao, n, cap, rfl, hn, hc⟩, hlo⟩ := h
 refine ⟨⟨ao, n, cap, rfl, hn, fun hp => ?_⟩, hlo⟩
 obtain ⟨b, off, rfl, hlt, hcell⟩ := hc hp
 have hb : w'.heap[b]? = w.heap[b]? := ha.block b (hlo b off n cap rfl) hlt
 refine ⟨b, off, rfl, Nat.lt_of_lt_of_le hlt ha.size, fun i hi => ?_⟩
 obtain ⟨h0, h1, h2, h3, h4⟩ := hcell i hi
 exact ⟨(World.cell?_of_block (w := w) (a := ⟨b, off + i * 5, none⟩) hb).trans h0, (World.cell?_of_block (w := w) (a := ⟨b, off + i * 5 + 1, none⟩) hb).trans h1, (World.cell?_of_block (w := w) (a := ⟨b, off + i * 5 + 2, none⟩) hb).trans h2, (World.cell?_of_block (w := w) (a := ⟨b, off + i * 5 + 3, none⟩) hb).trans h3, (World.cell?_of_block (w := w) (a := ⟨b, off + i * 5 + 4, none⟩) hb).trans h4⟩
theorem GIn.mono {lo lo' : Nat} {w : World} {v : Value} {gs : List Gl} (h : GIn lo w v gs) (hl : lo' ≤ lo) : GIn lo' w v gs := ⟨h.1, fun b off n cap e => Nat.le_trans hl (h.2 b off n cap e)⟩
theorem GIn.zero {w : World} {v : Value} {gs : List Gl} (h : GRow w v gs) : GIn 0 w v gs := ⟨h, fun _ _ _ _ _ => Nat.zero_le _⟩
theorem GIn.shape {lo : Nat} {w : World} {v : Value} {gs : List Gl} (h : GIn lo w v gs) : ∃ ao cap, v = .slice ao gs.length cap := by
 obtain ⟨⟨ao, n, cap, e, rfl, _⟩, _⟩ := h
 exact ⟨ao, cap, e⟩
theorem toInts_in {v : Value} {zs : List Int} {w : World} (h : Row w v zs) (hsz : zs.length ≤ 1048576) :
 Calls Tryz.prog 64 #[v] w fun e w' => ∃ v', e = .returned v' ∧ RIn w.heap.size w' v' zs ∧ Below w.heap.size w w' := by
 refine (toInts_any h hsz).mono ?_
 rintro e w' ⟨rfl, hp⟩
 refine ⟨_, rfl, ⟨hp.row, fun b off n cap e => ?_⟩, hp.2.2.1⟩
 simp at e
 omega
theorem toGlues_in {v : Value} {gs : List Gl} {w : World} (h : GRow w v gs) (hsz : gs.length ≤ 1048576) :
 Calls Tryz.prog 66 #[v] w fun e w' => ∃ v', e = .returned v' ∧ GIn w.heap.size w' v' gs ∧ Below w.heap.size w w' := by
 refine (toGlues_any h hsz).mono ?_
 rintro e w' ⟨rfl, hp, hb⟩
 refine ⟨_, rfl, ⟨hp.row rfl, fun b off n cap e => ?_⟩, hb⟩
 simp at e
 omega
structure Mn where
 k : Int
 n : Int
 t : Tk
 p : List Tk
 sl : Int
 b : List Tk
structure Bd where
 nm : ByteArray
 m : Mn
def Mn.none : Mn := ⟨0, 0, Tk.none, [], 0, []⟩
def Bd.none : Bd := ⟨ByteArray.empty, Mn.none⟩
def BdR (lo : Nat) (w : World) (cs : List Value) (x : Bd) : Prop := ∃ vp vb, cs = [.string x.nm, .int .i64 x.m.k, .int .i64 x.m.n, .int .i64 x.m.t.c, .int .i64 x.m.t.h, .string x.m.t.s, vp, .int .i64 x.m.sl, vb] ∧ TIn lo w vp x.m.p ∧ TIn lo w vb x.m.b
theorem bdStable : Stable BdR where
 abv := by rintro lo w w' cs x ⟨vp, vb, rfl, h, h2⟩ ha; exact ⟨vp, vb, rfl, h.abv ha, h2.abv ha⟩
 mono := by rintro lo lo' w cs x ⟨vp, vb, rfl, h, h2⟩ hl; exact ⟨vp, vb, rfl, h.mono hl, h2.mono hl⟩
abbrev BRow (lo : Nat) (w : World) (v : Value) (bs : List Bd) : Prop := SRow 9 BdR Bd.none lo w v bs
structure Lv where
 cats : List Int
 binds : List Bd
 counts : List Int
 lens : List Int
 glues : List Gl
 toks : List (List Tk)
def Lv.none : Lv := ⟨[], [], [], [], [], []⟩
def LvR (lo : Nat) (w : World) (cs : List Value) (x : Lv) : Prop := ∃ v0 v1 v2 v3 v4 v5, cs = [v0, v1, v2, v3, v4, v5] ∧ RIn lo w v0 x.cats ∧ BRow lo w v1 x.binds ∧ RIn lo w v2 x.counts ∧ RIn lo w v3 x.lens ∧ GIn lo w v4 x.glues ∧ TsRow lo w v5 x.toks
theorem lvStable : Stable LvR where
 abv := by rintro lo w w' cs x ⟨v0, v1, v2, v3, v4, v5, rfl, h0, h1, h2, h3, h4, h5⟩ ha; exact ⟨v0, v1, v2, v3, v4, v5, rfl, h0.abv ha, h1.abv bdStable ha, h2.abv ha, h3.abv ha, h4.abv ha, h5.abv tsStable ha⟩
 mono := by rintro lo lo' w cs x ⟨v0, v1, v2, v3, v4, v5, rfl, h0, h1, h2, h3, h4, h5⟩ hl; exact ⟨v0, v1, v2, v3, v4, v5, rfl, h0.mono hl, h1.mono bdStable hl, h2.mono hl, h3.mono hl, h4.mono hl, h5.mono tsStable hl⟩
abbrev LRow (lo : Nat) (w : World) (v : Value) (ls : List Lv) : Prop := SRow 6 LvR Lv.none lo w v ls
end Go.Proofs.YtbpidcfoldkhgaaGreat
