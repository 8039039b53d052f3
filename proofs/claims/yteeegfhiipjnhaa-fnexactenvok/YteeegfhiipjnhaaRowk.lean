/-
  Slices of anything that lies in cells: how one reads in a world, and how one is filled.
-/
import Derived.Test.YteeegfhiipjnhaaMeanB
import Derived.Test.YteeegfhiipjnhaaGlues
import Derived.Test.YteeegfhiipjnhaaCats
namespace Go.Proofs.Yteeegfhiipjnhaa
open Go.RowKit
set_option linter.unusedVariables false
set_option linter.unusedSimpArgs false

/-- Cells written one after another. -/
def putC (w : World) (g o : Nat) : List Value → World
  | [] => w
  | c :: cs => putC (w.setCell ⟨g, o, none⟩ c) g (o + 1) cs

theorem putC_below {lo g : Nat} {w0 : World} (hg : lo ≤ g) : ∀ (cs : List Value) (o : Nat) (w : World), Below lo w0 w → Below lo w0 (putC w g o cs)
  | [], _, _, h => h
  | c :: cs, o, w, h => putC_below hg cs (o + 1) _ (h.setCell hg _)
theorem putC_abv {lo g : Nat} (hg : g < lo) : ∀ (cs : List Value) (o : Nat) (w : World), Abv lo w (putC w g o cs)
  | [], _, _ => Abv.refl _ _
  | c :: cs, o, w => (Abv.set hg _).trans (putC_abv hg cs (o + 1) _)
theorem putC_block {g ty : Nat} : ∀ (cs : List Value) (o : Nat) (w : World) (cur : Array Value), w.heap[g]? = some (.cells cur ty (0, 0)) → o + cs.length ≤ cur.size →
    ∃ cur' : Array Value, (putC w g o cs).heap[g]? = some (.cells cur' ty (0, 0)) ∧ cur'.size = cur.size ∧ (∀ i, i < o ∨ o + cs.length ≤ i → cur'[i]? = cur[i]?) ∧ (∀ j, j < cs.length → cur'[o + j]? = cs[j]?)
  | [], o, w, cur, h, _ => ⟨cur, h, rfl, fun _ _ => rfl, fun j hj => by simp at hj⟩
  | c :: cs, o, w, cur, h, hl => by
    simp only [List.length_cons] at hl
    obtain ⟨cur', h1, h2, h3, h4⟩ := putC_block cs (o + 1) (w.setCell ⟨g, o, none⟩ c) _ (heap_setCell_same w g o cur ty c h) (by simp; omega)
    refine ⟨cur', h1, by simpa using h2, fun i hi => ?_, fun j hj => ?_⟩
    · simp only [List.length_cons] at hi
      rw [h3 i (by omega), Array.getElem?_setIfInBounds, if_neg (by omega)]
    · cases j with
      | zero =>
        rw [Nat.add_zero, h3 o (by omega), Array.getElem?_setIfInBounds, if_pos rfl, if_pos (by omega)]
        rfl
      | succ j =>
        simp only [List.length_cons] at hj
        rw [show o + (j + 1) = o + 1 + j by omega, h4 j (by omega)]
        rfl

/-- What an element is in its cells keeps where the memory from lo on keeps. -/
structure Stable {α : Type} (R : Nat → World → List Value → α → Prop) : Prop where
  abv : ∀ {lo w w' cs x}, R lo w cs x → Abv lo w w' → R lo w' cs x
  mono : ∀ {lo lo' w cs x}, R lo w cs x → lo' ≤ lo → R lo' w cs x

/-- In world w the slice v reads as the elements xs; it lies from block lo on. -/
def SRow {α : Type} (sz : Nat) (R : Nat → World → List Value → α → Prop) (d : α) (lo : Nat) (w : World) (v : Value) (xs : List α) : Prop :=
  ∃ ao n cap, v = .slice ao n cap ∧ xs.length = n ∧ (0 < n → ∃ b off, ao = some ⟨b, off, none⟩ ∧ lo ≤ b ∧ b < w.heap.size ∧ ∀ i, i < n → ∃ cs : List Value, cs.length = sz ∧ R lo w cs (xs.getD i d) ∧ ∀ j, j < sz → w.cell? ⟨b, off + i * sz + j, none⟩ = cs[j]?)

theorem SRow.abv {α : Type} {sz : Nat} {R : Nat → World → List Value → α → Prop} {d : α} (st : Stable R) {lo : Nat} {w w' : World} {v : Value} {xs : List α} (h : SRow sz R d lo w v xs) (ha : Abv lo w w') : SRow sz R d lo w' v xs := by
  obtain ⟨ao, n, cap, rfl, hn, hc⟩ := h
  refine ⟨ao, n, cap, rfl, hn, fun hp => ?_⟩
  obtain ⟨b, off, rfl, hlo, hlt, hcell⟩ := hc hp
  refine ⟨b, off, rfl, hlo, Nat.lt_of_lt_of_le hlt ha.size, fun i hi => ?_⟩
  obtain ⟨cs, hl, hr, hj⟩ := hcell i hi
  exact ⟨cs, hl, st.abv hr ha, fun j hj2 => (World.cell?_of_block (w := w) (a := ⟨b, off + i * sz + j, none⟩) (ha.block b hlo hlt)).trans (hj j hj2)⟩
theorem SRow.mono {α : Type} {sz : Nat} {R : Nat → World → List Value → α → Prop} {d : α} (st : Stable R) {lo lo' : Nat} {w : World} {v : Value} {xs : List α} (h : SRow sz R d lo w v xs) (hl : lo' ≤ lo) : SRow sz R d lo' w v xs := by
  obtain ⟨ao, n, cap, rfl, hn, hc⟩ := h
  refine ⟨ao, n, cap, rfl, hn, fun hp => ?_⟩
  obtain ⟨b, off, rfl, hlo, hlt, hcell⟩ := hc hp
  refine ⟨b, off, rfl, Nat.le_trans hl hlo, hlt, fun i hi => ?_⟩
  obtain ⟨cs, hcl, hr, hj⟩ := hcell i hi
  exact ⟨cs, hcl, st.mono hr hl, hj⟩
theorem SRow.below {α : Type} {sz : Nat} {R : Nat → World → List Value → α → Prop} {d : α} (st : Stable R) {lo : Nat} {w w' : World} {v : Value} {xs : List α} (h : SRow sz R d lo w v xs) (hb : Below w.heap.size w w') : SRow sz R d lo w' v xs := h.abv st (Abv.below hb)
theorem SRow.shape {α : Type} {sz : Nat} {R : Nat → World → List Value → α → Prop} {d : α} {lo : Nat} {w : World} {v : Value} {xs : List α} (h : SRow sz R d lo w v xs) : ∃ ao cap, v = .slice ao xs.length cap := by
  obtain ⟨ao, n, cap, rfl, rfl, _⟩ := h
  exact ⟨ao, cap, rfl⟩

/-- The first k elements of xs lie in block g, which has room for n; what they lead to lies behind g. -/
def SPart {α : Type} (sz : Nat) (R : Nat → World → List Value → α → Prop) (d : α) (ty : Nat) (w : World) (g n k : Nat) (xs : List α) : Prop :=
  ∃ cur : Array Value, w.heap[g]? = some (.cells cur ty (0, 0)) ∧ cur.size = n * sz ∧ ∀ i, i < k → ∃ cs : List Value, cs.length = sz ∧ R (g + 1) w cs (xs.getD i d) ∧ ∀ j, j < sz → cur[i * sz + j]? = cs[j]?

theorem SPart.row {α : Type} {sz : Nat} {R : Nat → World → List Value → α → Prop} {d : α} {ty : Nat} (st : Stable R) {w : World} {g n cap : Nat} {xs : List α} (h : SPart sz R d ty w g n n xs) (hn : xs.length = n) : SRow sz R d g w (.slice (some ⟨g, 0, none⟩) n cap) xs := by
  obtain ⟨cur, hg, hs, hc⟩ := h
  refine ⟨_, n, cap, rfl, hn, fun _ => ⟨g, 0, rfl, Nat.le_refl _, (Array.getElem?_eq_some_iff.1 hg).1, fun i hi => ?_⟩⟩
  obtain ⟨cs, hl, hr, hj⟩ := hc i hi
  refine ⟨cs, hl, st.mono hr (by omega), fun j hj2 => ?_⟩
  rw [Nat.zero_add, cell_of_row w g _ cur ty _ hg]
  exact hj j hj2
theorem SPart.cells {α : Type} {sz : Nat} {R : Nat → World → List Value → α → Prop} {d : α} {ty : Nat} {w : World} {g n k : Nat} {xs : List α} (h : SPart sz R d ty w g n k xs) (j : Nat) (hj : j < n * sz) : ∃ x, w.cell? ⟨g, j, none⟩ = some x := by
  obtain ⟨cur, hg, hs, _⟩ := h
  rw [cell_of_row w g _ cur ty _ hg]
  exact ⟨_, Array.getElem?_eq_getElem (by omega)⟩
theorem SPart.free {α : Type} {sz : Nat} {R : Nat → World → List Value → α → Prop} {d : α} {ty : Nat} {w : World} {g n k : Nat} {xs : List α} (h : SPart sz R d ty w g n k xs) (j : Nat) : w.frozen? ⟨g, j, none⟩ = false := by
  obtain ⟨cur, hg, hs, _⟩ := h
  exact frozen_of_row w g j cur ty hg
theorem SPart.lt {α : Type} {sz : Nat} {R : Nat → World → List Value → α → Prop} {d : α} {ty : Nat} {w : World} {g n k : Nat} {xs : List α} (h : SPart sz R d ty w g n k xs) : g < w.heap.size := by
  obtain ⟨cur, hg, _⟩ := h
  exact (Array.getElem?_eq_some_iff.1 hg).1
theorem SPart.below {α : Type} {sz : Nat} {R : Nat → World → List Value → α → Prop} {d : α} {ty : Nat} (st : Stable R) {w w' : World} {g n k : Nat} {xs : List α} (h : SPart sz R d ty w g n k xs) (hb : Below w.heap.size w w') : SPart sz R d ty w' g n k xs := by
  obtain ⟨cur, hg, hs, hc⟩ := h
  refine ⟨cur, (hb.block g (Array.getElem?_eq_some_iff.1 hg).1).trans hg, hs, fun i hi => ?_⟩
  obtain ⟨cs, hl, hr, hj⟩ := hc i hi
  exact ⟨cs, hl, st.abv hr (Abv.below hb), hj⟩
theorem SPart.put {α : Type} {sz : Nat} {R : Nat → World → List Value → α → Prop} {d : α} {ty : Nat} (st : Stable R) {w : World} {g n k : Nat} {xs : List α} (h : SPart sz R d ty w g n k xs) (hk : k < n) {cs : List Value} (hl : cs.length = sz) (hr : R (g + 1) w cs (xs.getD k d)) :
    SPart sz R d ty (putC w g (k * sz) cs) g n (k + 1) xs := by
  obtain ⟨cur, hg, hs, hc⟩ := h
  have hroom : k * sz + cs.length ≤ cur.size := by
    rw [hl, hs, ← Nat.succ_mul]
    exact Nat.mul_le_mul_right _ hk
  obtain ⟨cur', h1, h2, h3, h4⟩ := putC_block cs (k * sz) w cur hg hroom
  have ha : Abv (g + 1) w (putC w g (k * sz) cs) := putC_abv (Nat.lt_succ_self _) _ _ _
  refine ⟨cur', h1, h2.trans hs, fun i hi => ?_⟩
  by_cases hik : i = k
  · subst hik
    exact ⟨cs, hl, st.abv hr ha, fun j hj => h4 j (by omega)⟩
  · obtain ⟨cs2, hl2, hr2, hj2⟩ := hc i (by omega)
    refine ⟨cs2, hl2, st.abv hr2 ha, fun j hj => ?_⟩
    rw [h3 _ (.inl ?_)]
    · exact hj2 j hj
    · have : (i + 1) * sz ≤ k * sz := Nat.mul_le_mul_right _ (by omega)
      rw [Nat.succ_mul] at this
      omega
theorem SPart.new {α : Type} {sz : Nat} {R : Nat → World → List Value → α → Prop} {d : α} {ty : Nat} {w : World} {g n : Nat} {xs : List α} {cur : Array Value} (hg : w.heap[g]? = some (.cells cur ty (0, 0))) (hs : cur.size = n * sz) : SPart sz R d ty w g n 0 xs := ⟨cur, hg, hs, fun i hi => by omega⟩

/-- Numbers and glues that lie from block lo on. -/
def RIn (lo : Nat) (w : World) (v : Value) (zs : List Int) : Prop := Row w v zs ∧ ∀ b off n cap, v = .slice (some ⟨b, off, none⟩) n cap → lo ≤ b
def GIn (lo : Nat) (w : World) (v : Value) (gs : List Gl) : Prop := GRow w v gs ∧ ∀ b off n cap, v = .slice (some ⟨b, off, none⟩) n cap → lo ≤ b
theorem RIn.abv {lo : Nat} {w w' : World} {v : Value} {zs : List Int} (h : RIn lo w v zs) (ha : Abv lo w w') : RIn lo w' v zs := by
  obtain ⟨⟨ao, n, cap, rfl, hn, hc⟩, hlo⟩ := h
  refine ⟨⟨ao, n, cap, rfl, hn, fun hp => ?_⟩, hlo⟩
  obtain ⟨b, off, rfl, hlt, hcell⟩ := hc hp
  have hb : w'.heap[b]? = w.heap[b]? := ha.block b (hlo b off n cap rfl) hlt
  exact ⟨b, off, rfl, Nat.lt_of_lt_of_le hlt ha.size, fun i hi => (World.cell?_of_block (w := w) (a := ⟨b, off + i, none⟩) hb).trans (hcell i hi)⟩
theorem RIn.mono {lo lo' : Nat} {w : World} {v : Value} {zs : List Int} (h : RIn lo w v zs) (hl : lo' ≤ lo) : RIn lo' w v zs := ⟨h.1, fun b off n cap e => Nat.le_trans hl (h.2 b off n cap e)⟩
theorem RIn.zero {w : World} {v : Value} {zs : List Int} (h : Row w v zs) : RIn 0 w v zs := ⟨h, fun _ _ _ _ _ => Nat.zero_le _⟩
theorem RIn.shape {lo : Nat} {w : World} {v : Value} {zs : List Int} (h : RIn lo w v zs) : ∃ ao cap, v = .slice ao zs.length cap := by
  obtain ⟨⟨ao, n, cap, e, rfl, _⟩, _⟩ := h
  exact ⟨ao, cap, e⟩
theorem GIn.abv {lo : Nat} {w w' : World} {v : Value} {gs : List Gl} (h : GIn lo w v gs) (ha : Abv lo w w') : GIn lo w' v gs := by
  obtain ⟨⟨ao, n, cap, rfl, hn, hc⟩, hlo⟩ := h
  refine ⟨⟨ao, n, cap, rfl, hn, fun hp => ?_⟩, hlo⟩
  obtain ⟨b, off, rfl, hlt, hcell⟩ := hc hp
  have hb : w'.heap[b]? = w.heap[b]? := ha.block b (hlo b off n cap rfl) hlt
  refine ⟨b, off, rfl, Nat.lt_of_lt_of_le hlt ha.size, fun i hi => ?_⟩
  obtain ⟨h0, h1, h2, h3, h4⟩ := hcell i hi
  exact ⟨(World.cell?_of_block (w := w) (a := ⟨b, off + i * 5, none⟩) hb).trans h0, (World.cell?_of_block (w := w) (a := ⟨b, off + i * 5 + 1, none⟩) hb).trans h1, (World.cell?_of_block (w := w) (a := ⟨b, off + i * 5 + 2, none⟩) hb).trans h2, (World.cell?_of_block (w := w) (a := ⟨b, off + i * 5 + 3, none⟩) hb).trans h3, (World.cell?_of_block (w := w) (a := ⟨b, off + i * 5 + 4, none⟩) hb).trans h4⟩
theorem GIn.mono {lo lo' : Nat} {w : World} {v : Value} {gs : List Gl} (h : GIn lo w v gs) (hl : lo' ≤ lo) : GIn lo' w v gs := ⟨h.1, fun b off n cap e => Nat.le_trans hl (h.2 b off n cap e)⟩
theorem GIn.zero {w : World} {v : Value} {gs : List Gl} (h : GRow w v gs) : GIn 0 w v gs := ⟨h, fun _ _ _ _ _ => Nat.zero_le _⟩
theorem GIn.shape {lo : Nat} {w : World} {v : Value} {gs : List Gl} (h : GIn lo w v gs) : ∃ ao cap, v = .slice ao gs.length cap := by
  obtain ⟨⟨ao, n, cap, e, rfl, _⟩, _⟩ := h
  exact ⟨ao, cap, e⟩

theorem toInts_in {v : Value} {zs : List Int} {w : World} (h : Row w v zs) (hsz : zs.length ≤ 1048576) :
    Calls Try.prog 84 #[v] w fun e w' => ∃ v', e = .returned v' ∧ RIn w.heap.size w' v' zs ∧ Below w.heap.size w w' := by
  refine (toInts_any h hsz).mono ?_
  rintro e w' ⟨rfl, hp⟩
  refine ⟨_, rfl, ⟨hp.row, fun b off n cap e => ?_⟩, hp.2.2.1⟩
  simp at e
  omega
theorem toGlues_in {v : Value} {gs : List Gl} {w : World} (h : GRow w v gs) (hsz : gs.length ≤ 1048576) :
    Calls Try.prog 86 #[v] w fun e w' => ∃ v', e = .returned v' ∧ GIn w.heap.size w' v' gs ∧ Below w.heap.size w w' := by
  refine (toGlues_any h hsz).mono ?_
  rintro e w' ⟨rfl, hp, hb⟩
  refine ⟨_, rfl, ⟨hp.row rfl, fun b off n cap e => ?_⟩, hb⟩
  simp at e
  omega

/-- Lists of tokens as elements: a slice, in one cell. -/
def TsR (lo : Nat) (w : World) (cs : List Value) (ts : List Tk) : Prop := ∃ v, cs = [v] ∧ TIn lo w v ts
theorem tsStable : Stable TsR where
  abv := by rintro lo w w' cs x ⟨v, rfl, h⟩ ha; exact ⟨v, rfl, h.abv ha⟩
  mono := by rintro lo lo' w cs x ⟨v, rfl, h⟩ hl; exact ⟨v, rfl, h.mono hl⟩
abbrev TsRow (lo : Nat) (w : World) (v : Value) (tss : List (List Tk)) : Prop := SRow 1 TsR [] lo w v tss

/-- A meaning, and a name with its meaning, as data. -/
structure Mn where
  k : Int
  n : Int
  t : Tk
  p : List Tk
  sl : Int
  b : List Tk
structure Bd where
  nm : ByteArray
  m : Mn
def Mn.none : Mn := ⟨0, 0, Tk.none, [], 0, []⟩
def Bd.none : Bd := ⟨ByteArray.empty, Mn.none⟩
abbrev bdV (x : Bd) (vp vb : Value) : Value := .agg #[.string x.nm, .int .i64 x.m.k, .int .i64 x.m.n, .int .i64 x.m.t.c, .int .i64 x.m.t.h, .string x.m.t.s, vp, .int .i64 x.m.sl, vb]
def BdR (lo : Nat) (w : World) (cs : List Value) (x : Bd) : Prop := ∃ vp vb, cs = [.string x.nm, .int .i64 x.m.k, .int .i64 x.m.n, .int .i64 x.m.t.c, .int .i64 x.m.t.h, .string x.m.t.s, vp, .int .i64 x.m.sl, vb] ∧ TIn lo w vp x.m.p ∧ TIn lo w vb x.m.b
theorem bdStable : Stable BdR where
  abv := by rintro lo w w' cs x ⟨vp, vb, rfl, h, h2⟩ ha; exact ⟨vp, vb, rfl, h.abv ha, h2.abv ha⟩
  mono := by rintro lo lo' w cs x ⟨vp, vb, rfl, h, h2⟩ hl; exact ⟨vp, vb, rfl, h.mono hl, h2.mono hl⟩
abbrev BRow (lo : Nat) (w : World) (v : Value) (bs : List Bd) : Prop := SRow 9 BdR Bd.none lo w v bs

/-- A level, as data. -/
structure Lv where
  cats : List Int
  binds : List Bd
  counts : List Int
  lens : List Int
  glues : List Gl
  toks : List (List Tk)
def Lv.none : Lv := ⟨[], [], [], [], [], []⟩
def LvR (lo : Nat) (w : World) (cs : List Value) (x : Lv) : Prop := ∃ v0 v1 v2 v3 v4 v5, cs = [v0, v1, v2, v3, v4, v5] ∧ RIn lo w v0 x.cats ∧ BRow lo w v1 x.binds ∧ RIn lo w v2 x.counts ∧ RIn lo w v3 x.lens ∧ GIn lo w v4 x.glues ∧ TsRow lo w v5 x.toks
theorem lvStable : Stable LvR where
  abv := by rintro lo w w' cs x ⟨v0, v1, v2, v3, v4, v5, rfl, h0, h1, h2, h3, h4, h5⟩ ha; exact ⟨v0, v1, v2, v3, v4, v5, rfl, h0.abv ha, h1.abv bdStable ha, h2.abv ha, h3.abv ha, h4.abv ha, h5.abv tsStable ha⟩
  mono := by rintro lo lo' w cs x ⟨v0, v1, v2, v3, v4, v5, rfl, h0, h1, h2, h3, h4, h5⟩ hl; exact ⟨v0, v1, v2, v3, v4, v5, rfl, h0.mono hl, h1.mono bdStable hl, h2.mono hl, h3.mono hl, h4.mono hl, h5.mono tsStable hl⟩
abbrev LRow (lo : Nat) (w : World) (v : Value) (ls : List Lv) : Prop := SRow 6 LvR Lv.none lo w v ls
end Go.Proofs.Yteeegfhiipjnhaa
