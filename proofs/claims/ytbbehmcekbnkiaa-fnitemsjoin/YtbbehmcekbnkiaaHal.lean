/-
  The small functions of packing, of the specification: the greater of two, whether all fit, the length along.
-/
import Derived.Test.YtbbehmcekbnkiaaSshD
import Derived.Test.YtbbehmcekbnkiaaSshE
import Derived.Test.YtbbehmcekbnkiaaSshF
import Derived.Test.YtbbehmcekbnkiaaSshG
import Derived.Test.YtbbehmcekbnkiaaFng
import Derived.Deep.RegionWith
namespace Go.Proofs.Ytbbehmcekbnkiaa.Shr
open Go.RowKit
set_option linter.unusedVariables false
set_option linter.unusedSimpArgs false

theorem specShare_ok {v : Value} {gs : List Gl} {w : World} (width target q : Int) (h : GRow w v gs) (hok : glsOk gs = true) (hfw : fitsB width = true) (hft : fitsB target = true) (hq : q = target - width - siz gs) :
    Calls Try.prog 32 #[v, .int .i64 width, .int .i64 target] w fun e w' => (∃ v', e = .returned (.tuple #[v', (shareS gs q).v]) ∧ Row w' v' (shareL gs q)) ∧ Below w.heap.size w w' := by
  by_cases h1 : 0 < q
  · have e1 : shareS gs q = upS gs q := by unfold shareS; rw [if_pos h1]
    have e2 : shareL gs q = upL gs q := by unfold shareL; rw [if_pos h1]
    rw [e1, e2]
    by_cases hno : hvOf Gl.p Gl.po gs ≤ 0
    · have e3 : upS gs q = ⟨1, ordOf Gl.p Gl.po gs, q, hvOf Gl.p Gl.po gs, 10000, 0⟩ := by unfold upS; rw [if_pos hno]
      have e4 : upL gs q = sizes gs := by unfold upL; rw [if_pos hno]
      rw [e3, e4]
      exact specShare_up_none width target q _ _ h1 rfl rfl hno h hok hfw hft hq
    · have hpos : 0 < hvOf Gl.p Gl.po gs := by omega
      have e3 : upS gs q = ⟨1, ordOf Gl.p Gl.po gs, q, hvOf Gl.p Gl.po gs, if 0 < ordOf Gl.p Gl.po gs then 0 else badV q (hvOf Gl.p Gl.po gs), 0⟩ := by unfold upS; rw [if_neg hno]
      have e4 : upL gs q = plusL (sizes gs) (stp Gl.p Gl.po (ordOf Gl.p Gl.po gs) q (hvOf Gl.p Gl.po gs) gs).2.2 := by unfold upL; rw [if_neg hno]
      rw [e3, e4]
      by_cases h0 : top (tot Gl.p Gl.po gs) = 0
      · have e5 : ordOf Gl.p Gl.po gs = 0 := by unfold ordOf; omega
        rw [e5, if_neg (by omega)]
        exact specShare_up_zero width target q _ _ h1 h0 rfl hpos rfl h hok hfw hft hq
      · have e5 : 0 < ordOf Gl.p Gl.po gs := by unfold ordOf; omega
        rw [if_pos e5]
        exact specShare_up_high width target q _ _ h1 rfl rfl hpos (by omega) h hok hfw hft hq
  · by_cases h2 : q < 0
    · have e1 : shareS gs q = downS gs (-q) := by unfold shareS; rw [if_neg h1, if_pos h2]
      have e2 : shareL gs q = downL gs (-q) := by unfold shareL; rw [if_neg h1, if_pos h2]
      rw [e1, e2]
      by_cases hno : hvOf Gl.m Gl.mo gs ≤ 0
      · have e3 : downS gs (-q) = ⟨-1, ordOf Gl.m Gl.mo gs, -q, hvOf Gl.m Gl.mo gs, 1000000, -q⟩ := by unfold downS; rw [if_pos hno]
        have e4 : downL gs (-q) = sizes gs := by unfold downL; rw [if_pos hno]
        rw [e3, e4]
        exact specShare_down_none width target q _ _ (-q) rfl h2 rfl rfl hno h hok hfw hft hq
      · have hpos : 0 < hvOf Gl.m Gl.mo gs := by omega
        by_cases h0 : top (tot Gl.m Gl.mo gs) = 0
        · have e5 : ordOf Gl.m Gl.mo gs = 0 := by unfold ordOf; omega
          by_cases hlt : hvOf Gl.m Gl.mo gs < -q
          · have e3 : downS gs (-q) = ⟨-1, 0, -q, hvOf Gl.m Gl.mo gs, 1000000, -q - hvOf Gl.m Gl.mo gs⟩ := by unfold downS; rw [if_neg hno, if_pos ⟨e5, hlt⟩]
            have e4 : downL gs (-q) = minusL (sizes gs) (stp Gl.m Gl.mo 0 (hvOf Gl.m Gl.mo gs) (hvOf Gl.m Gl.mo gs) gs).2.2 := by unfold downL; rw [if_neg hno, if_pos ⟨e5, hlt⟩]
            rw [e3, e4]
            exact specShare_down_over width target q _ (-q) rfl h2 h0 rfl hpos hlt h hok hfw hft hq
          · have e3 : downS gs (-q) = ⟨-1, ordOf Gl.m Gl.mo gs, -q, hvOf Gl.m Gl.mo gs, if 0 < ordOf Gl.m Gl.mo gs then 0 else badV (-q) (hvOf Gl.m Gl.mo gs), 0⟩ := by unfold downS; rw [if_neg hno, if_neg (fun hh => hlt hh.2)]
            have e4 : downL gs (-q) = minusL (sizes gs) (stp Gl.m Gl.mo (ordOf Gl.m Gl.mo gs) (-q) (hvOf Gl.m Gl.mo gs) gs).2.2 := by unfold downL; rw [if_neg hno, if_neg (fun hh => hlt hh.2)]
            rw [e3, e4, e5, if_neg (by omega)]
            exact specShare_down_zero width target q _ _ (-q) rfl h2 h0 rfl hpos (Int.not_lt.1 hlt) rfl h hok hfw hft hq
        · have e5 : 0 < ordOf Gl.m Gl.mo gs := by unfold ordOf; omega
          have e3 : downS gs (-q) = ⟨-1, ordOf Gl.m Gl.mo gs, -q, hvOf Gl.m Gl.mo gs, if 0 < ordOf Gl.m Gl.mo gs then 0 else badV (-q) (hvOf Gl.m Gl.mo gs), 0⟩ := by unfold downS; rw [if_neg hno, if_neg (fun hh => by omega)]
          have e4 : downL gs (-q) = minusL (sizes gs) (stp Gl.m Gl.mo (ordOf Gl.m Gl.mo gs) (-q) (hvOf Gl.m Gl.mo gs) gs).2.2 := by unfold downL; rw [if_neg hno, if_neg (fun hh => by omega)]
          rw [e3, e4, if_pos e5]
          exact specShare_down_high width target q _ _ (-q) rfl h2 rfl rfl hpos (by omega) h hok hfw hft hq
    · have e1 : shareS gs q = ⟨0, 0, 0, 0, 0, 0⟩ := by unfold shareS; rw [if_neg h1, if_neg h2]
      have e2 : shareL gs q = sizes gs := by unfold shareL; rw [if_neg h1, if_neg h2]
      rw [e1, e2]
      exact specShare_zero width target q (by omega) h hok hfw hft hq

theorem plus_len (gs : List Gl) (xs : List Int) : (plusL (sizes gs) xs).length = gs.length := by rw [plusL_length]; simp [sizes]
theorem minus_len (gs : List Gl) (xs : List Int) : (minusL (sizes gs) xs).length = gs.length := by rw [minusL_length]; simp [sizes]
theorem sizes_len (gs : List Gl) : (sizes gs).length = gs.length := by simp [sizes]
theorem shareL_length (gs : List Gl) (q : Int) : (shareL gs q).length = gs.length := by
  unfold shareL upL downL
  split
  · split
    · exact sizes_len gs
    · exact plus_len gs _
  · split
    · split
      · exact sizes_len gs
      · split
        · exact minus_len gs _
        · exact minus_len gs _
    · exact sizes_len gs
end Go.Proofs.Ytbbehmcekbnkiaa.Shr
namespace Go.Proofs.Ytbbehmcekbnkiaa
open Go.RowKit
set_option linter.unusedVariables false
set_option linter.unusedSimpArgs false

/-- Cells written one after another. -/
def putC (w : World) (g o : Nat) : List Value → World
  | [] => w
  | c :: cs => putC (w.setCell ⟨g, o, none⟩ c) g (o + 1) cs

theorem putC_abv {lo g : Nat} (hg : g < lo) : ∀ (cs : List Value) (o : Nat) (w : World), Abv lo w (putC w g o cs)
  | [], _, _ => Abv.refl _ _
  | c :: cs, o, w => (Abv.set hg _).trans (putC_abv hg cs (o + 1) _)
theorem putC_block {g ty : Nat} : ∀ (cs : List Value) (o : Nat) (w : World) (cur : Array Value), w.heap[g]? = some (.cells cur ty (0, 0)) → o + cs.length ≤ cur.size →
    ∃ cur' : Array Value, (putC w g o cs).heap[g]? = some (.cells cur' ty (0, 0)) ∧ cur'.size = cur.size ∧ (∀ i, i < o ∨ o + cs.length ≤ i → cur'[i]? = cur[i]?) ∧ (∀ j, j < cs.length → cur'[o + j]? = cs[j]?)
  | [], o, w, cur, h, _ => ⟨cur, h, rfl, fun _ _ => rfl, fun j hj => by simp at hj⟩
  | c :: cs, o, w, cur, h, hl => by
    simp only [List.length_cons] at hl
    obtain ⟨cur', h1, h2, h3, h4⟩ := putC_block cs (o + 1) (w.setCell ⟨g, o, none⟩ c) _ (heap_setCell_same w g o cur ty c h) (by simp; omega)
    refine ⟨cur', h1, by simpa using h2, fun i hi => ?_, fun j hj => ?_⟩
    · simp only [List.length_cons] at hi
      rw [h3 i (by omega), Array.getElem?_setIfInBounds, if_neg (by omega)]
    · cases j with
      | zero =>
        rw [Nat.add_zero, h3 o (by omega), Array.getElem?_setIfInBounds, if_pos rfl, if_pos (by omega)]
        rfl
      | succ j =>
        simp only [List.length_cons] at hj
        rw [show o + (j + 1) = o + 1 + j by omega, h4 j (by omega)]
        rfl

/-- What an element is in its cells keeps where the memory from lo on keeps. -/
structure Stable {α : Type} (R : Nat → World → List Value → α → Prop) : Prop where
  abv : ∀ {lo w w' cs x}, R lo w cs x → Abv lo w w' → R lo w' cs x
  mono : ∀ {lo lo' w cs x}, R lo w cs x → lo' ≤ lo → R lo' w cs x

/-- In world w the slice v reads as the elements xs; it lies from block lo on. -/
def SRow {α : Type} (sz : Nat) (R : Nat → World → List Value → α → Prop) (d : α) (lo : Nat) (w : World) (v : Value) (xs : List α) : Prop :=
  ∃ ao n cap, v = .slice ao n cap ∧ xs.length = n ∧ (0 < n → ∃ b off, ao = some ⟨b, off, none⟩ ∧ lo ≤ b ∧ b < w.heap.size ∧ ∀ i, i < n → ∃ cs : List Value, cs.length = sz ∧ R lo w cs (xs.getD i d) ∧ ∀ j, j < sz → w.cell? ⟨b, off + i * sz + j, none⟩ = cs[j]?)

theorem SRow.abv {α : Type} {sz : Nat} {R : Nat → World → List Value → α → Prop} {d : α} (st : Stable R) {lo : Nat} {w w' : World} {v : Value} {xs : List α} (h : SRow sz R d lo w v xs) (ha : Abv lo w w') : SRow sz R d lo w' v xs := by
  obtain ⟨ao, n, cap, rfl, hn, hc⟩ := h
  refine ⟨ao, n, cap, rfl, hn, fun hp => ?_⟩
  obtain ⟨b, off, rfl, hlo, hlt, hcell⟩ := hc hp
  refine ⟨b, off, rfl, hlo, Nat.lt_of_lt_of_le hlt ha.size, fun i hi => ?_⟩
  obtain ⟨cs, hl, hr, hj⟩ := hcell i hi
  exact ⟨cs, hl, st.abv hr ha, fun j hj2 => (World.cell?_of_block (w := w) (a := ⟨b, off + i * sz + j, none⟩) (ha.block b hlo hlt)).trans (hj j hj2)⟩
theorem SRow.mono {α : Type} {sz : Nat} {R : Nat → World → List Value → α → Prop} {d : α} (st : Stable R) {lo lo' : Nat} {w : World} {v : Value} {xs : List α} (h : SRow sz R d lo w v xs) (hl : lo' ≤ lo) : SRow sz R d lo' w v xs := by
  obtain ⟨ao, n, cap, rfl, hn, hc⟩ := h
  refine ⟨ao, n, cap, rfl, hn, fun hp => ?_⟩
  obtain ⟨b, off, rfl, hlo, hlt, hcell⟩ := hc hp
  refine ⟨b, off, rfl, Nat.le_trans hl hlo, hlt, fun i hi => ?_⟩
  obtain ⟨cs, hcl, hr, hj⟩ := hcell i hi
  exact ⟨cs, hcl, st.mono hr hl, hj⟩
theorem SRow.below {α : Type} {sz : Nat} {R : Nat → World → List Value → α → Prop} {d : α} (st : Stable R) {lo : Nat} {w w' : World} {v : Value} {xs : List α} (h : SRow sz R d lo w v xs) (hb : Below w.heap.size w w') : SRow sz R d lo w' v xs := h.abv st (Abv.below hb)
/-- The first k elements of xs lie in block g, which has room for n; what they lead to lies behind g. -/
def SPart {α : Type} (sz : Nat) (R : Nat → World → List Value → α → Prop) (d : α) (ty : Nat) (w : World) (g n k : Nat) (xs : List α) : Prop :=
  ∃ cur : Array Value, w.heap[g]? = some (.cells cur ty (0, 0)) ∧ cur.size = n * sz ∧ ∀ i, i < k → ∃ cs : List Value, cs.length = sz ∧ R (g + 1) w cs (xs.getD i d) ∧ ∀ j, j < sz → cur[i * sz + j]? = cs[j]?

theorem SPart.row {α : Type} {sz : Nat} {R : Nat → World → List Value → α → Prop} {d : α} {ty : Nat} (st : Stable R) {w : World} {g n cap : Nat} {xs : List α} (h : SPart sz R d ty w g n n xs) (hn : xs.length = n) : SRow sz R d g w (.slice (some ⟨g, 0, none⟩) n cap) xs := by
  obtain ⟨cur, hg, hs, hc⟩ := h
  refine ⟨_, n, cap, rfl, hn, fun _ => ⟨g, 0, rfl, Nat.le_refl _, (Array.getElem?_eq_some_iff.1 hg).1, fun i hi => ?_⟩⟩
  obtain ⟨cs, hl, hr, hj⟩ := hc i hi
  refine ⟨cs, hl, st.mono hr (by omega), fun j hj2 => ?_⟩
  rw [Nat.zero_add, cell_of_row w g _ cur ty _ hg]
  exact hj j hj2
theorem SPart.cells {α : Type} {sz : Nat} {R : Nat → World → List Value → α → Prop} {d : α} {ty : Nat} {w : World} {g n k : Nat} {xs : List α} (h : SPart sz R d ty w g n k xs) (j : Nat) (hj : j < n * sz) : ∃ x, w.cell? ⟨g, j, none⟩ = some x := by
  obtain ⟨cur, hg, hs, _⟩ := h
  rw [cell_of_row w g _ cur ty _ hg]
  exact ⟨_, Array.getElem?_eq_getElem (by omega)⟩
theorem SPart.free {α : Type} {sz : Nat} {R : Nat → World → List Value → α → Prop} {d : α} {ty : Nat} {w : World} {g n k : Nat} {xs : List α} (h : SPart sz R d ty w g n k xs) (j : Nat) : w.frozen? ⟨g, j, none⟩ = false := by
  obtain ⟨cur, hg, hs, _⟩ := h
  exact frozen_of_row w g j cur ty hg
theorem SPart.lt {α : Type} {sz : Nat} {R : Nat → World → List Value → α → Prop} {d : α} {ty : Nat} {w : World} {g n k : Nat} {xs : List α} (h : SPart sz R d ty w g n k xs) : g < w.heap.size := by
  obtain ⟨cur, hg, _⟩ := h
  exact (Array.getElem?_eq_some_iff.1 hg).1
theorem SPart.below {α : Type} {sz : Nat} {R : Nat → World → List Value → α → Prop} {d : α} {ty : Nat} (st : Stable R) {w w' : World} {g n k : Nat} {xs : List α} (h : SPart sz R d ty w g n k xs) (hb : Below w.heap.size w w') : SPart sz R d ty w' g n k xs := by
  obtain ⟨cur, hg, hs, hc⟩ := h
  refine ⟨cur, (hb.block g (Array.getElem?_eq_some_iff.1 hg).1).trans hg, hs, fun i hi => ?_⟩
  obtain ⟨cs, hl, hr, hj⟩ := hc i hi
  exact ⟨cs, hl, st.abv hr (Abv.below hb), hj⟩
theorem SPart.put {α : Type} {sz : Nat} {R : Nat → World → List Value → α → Prop} {d : α} {ty : Nat} (st : Stable R) {w : World} {g n k : Nat} {xs : List α} (h : SPart sz R d ty w g n k xs) (hk : k < n) {cs : List Value} (hl : cs.length = sz) (hr : R (g + 1) w cs (xs.getD k d)) :
    SPart sz R d ty (putC w g (k * sz) cs) g n (k + 1) xs := by
  obtain ⟨cur, hg, hs, hc⟩ := h
  have hroom : k * sz + cs.length ≤ cur.size := by
    rw [hl, hs, ← Nat.succ_mul]
    exact Nat.mul_le_mul_right _ hk
  obtain ⟨cur', h1, h2, h3, h4⟩ := putC_block cs (k * sz) w cur hg hroom
  have ha : Abv (g + 1) w (putC w g (k * sz) cs) := putC_abv (Nat.lt_succ_self _) _ _ _
  refine ⟨cur', h1, h2.trans hs, fun i hi => ?_⟩
  by_cases hik : i = k
  · subst hik
    exact ⟨cs, hl, st.abv hr ha, fun j hj => h4 j (by omega)⟩
  · obtain ⟨cs2, hl2, hr2, hj2⟩ := hc i (by omega)
    refine ⟨cs2, hl2, st.abv hr2 ha, fun j hj => ?_⟩
    rw [h3 _ (.inl ?_)]
    · exact hj2 j hj
    · have : (i + 1) * sz ≤ k * sz := Nat.mul_le_mul_right _ (by omega)
      rw [Nat.succ_mul] at this
      omega
theorem SPart.new {α : Type} {sz : Nat} {R : Nat → World → List Value → α → Prop} {d : α} {ty : Nat} {w : World} {g n : Nat} {xs : List α} {cur : Array Value} (hg : w.heap[g]? = some (.cells cur ty (0, 0))) (hs : cur.size = n * sz) : SPart sz R d ty w g n 0 xs := ⟨cur, hg, hs, fun i hi => by omega⟩


theorem below3 (w : World) (o o2 o3 : Obj) : Below w.heap.size w (((w.alloc o).alloc o2).alloc o3) := (below2 w o o2).alloc (by simp; omega) _

/-- A node. -/
structure Nd where
  k : Int
  wd : Int
  ht : Int
  dp : Int
  sh : Int
  fo : Int
  ch : Int
  nn : Int
  gs : Int
  gp : Int
  gpo : Int
  gm : Int
  gmo : Int
  tx : ByteArray
  kids : Int

def Nd.cells (x : Nd) : List Value := [.int .i64 x.k, .int .i64 x.wd, .int .i64 x.ht, .int .i64 x.dp, .int .i64 x.sh, .int .i64 x.fo, .int .i64 x.ch, .int .i64 x.nn, .int .i64 x.gs, .int .i64 x.gp, .int .i64 x.gpo, .int .i64 x.gm, .int .i64 x.gmo, .string x.tx, .int .i64 x.kids]
abbrev glueV (s p po m mo : Int) : Value := .agg #[.int .i64 s, .int .i64 p, .int .i64 po, .int .i64 m, .int .i64 mo]
abbrev ndV (x : Nd) : Value := .agg #[.int .i64 x.k, .int .i64 x.wd, .int .i64 x.ht, .int .i64 x.dp, .int .i64 x.sh, .int .i64 x.fo, .int .i64 x.ch, .int .i64 x.nn, .int .i64 x.gs, .int .i64 x.gp, .int .i64 x.gpo, .int .i64 x.gm, .int .i64 x.gmo, .string x.tx, .int .i64 x.kids]

end Go.Proofs.Ytbbehmcekbnkiaa
namespace Go.Proofs.Ytbbehmcekbnkiaa.Shr
open Go.RowKit
set_option linter.unusedVariables false
set_option linter.unusedSimpArgs false

def mxI (a b : Int) : Int := if b < a then a else b
theorem mostI_any (a b : Int) (w : World) : Calls Try.prog 40 #[.int .i64 a, .int .i64 b] w fun e w' => e = .returned (.int .i64 (mxI a b)) ∧ w' = w := by
  by_cases h : b < a
  · rw [show mxI a b = a by simp [mxI, h]]
    go_enter Try.func40, Try.ntmps40
    go_wp2
    go_ret
    exact ⟨rfl, rfl⟩
  · rw [show mxI a b = b by simp [mxI, h]]
    go_enter Try.func40, Try.ntmps40
    go_wp2
    go_ret
    exact ⟨rfl, rfl⟩

theorem all_at {zs : List Int} : zs.all fitsB = true ↔ ∀ j, j < zs.length → fitsB (zs.getD j 0) = true := by
  rw [List.all_eq_true]
  constructor
  · intro h j hj
    rw [List.getD_eq_getElem?_getD, List.getElem?_eq_getElem hj]
    exact h _ (List.getElem_mem hj)
  · intro h x hx
    obtain ⟨j, hj, rfl⟩ := List.getElem_of_mem hx
    have := h j hj
    rw [List.getD_eq_getElem?_getD, List.getElem?_eq_getElem hj] at this
    exact this

set_option maxRecDepth 20000 in
set_option maxHeartbeats 1600000 in
theorem fitsAll_any {v : Value} {zs : List Int} {w : World} (h : Row w v zs) (hn : zs.length ≤ 1048576) :
    Calls Try.prog 33 #[v] w fun e w' => e = .returned (.bool (zs.all fitsB)) ∧ w' = w := by
  obtain ⟨ao, n, cap, rfl, hl, hr⟩ := h
  rw [hl] at hn
  obtain ⟨R, hR⟩ : ∃ R, R = zs.all fitsB := ⟨_, rfl⟩
  rw [← hR]
  have HRR := hideP hR
  have HR : Hid (0 < n → ∃ b off, ao = some ⟨b, off, none⟩ ∧ b < w.heap.size ∧ ∀ i, i < n → w.cell? ⟨b, off + i, none⟩ = some (.int .i64 (zs.getD i 0))) := hr
  have HL : Hid (zs.length = n) := hl
  clear hr hl hR
  go_enter Try.func33, Try.ntmps33
  go_wp2
  go_loopw [3] (fun s wr => ∃ k : Nat, k ≤ n ∧ s = .int .i64 k ∧ (∀ j, j < k → fitsB (zs.getD j 0) = true) ∧ wr = w) (fun s _ => n - (intOf s).toNat)
  case atStart => exact ⟨0, by omega, rfl, fun j hj => by omega, rfl⟩
  case round =>
    obtain ⟨k, hk, rfl, hok, rfl⟩ := hrel
    have HK := hideP hok
    clear hok
    by_cases hkn : k < n
    · have hki : (k : Int) < (n : Int) := by omega
      obtain ⟨b, off, rfl, hb, hc⟩ := HR (by omega)
      have g0 := hc k hkn
      obtain ⟨z, hz⟩ : ∃ z, z = zs.getD k 0 := ⟨_, rfl⟩
      rw [← hz] at g0
      have HZ := hideP hz
      clear hc hz
      go_wp2_with fail
      refine (specFits_any z _).mono ?_
      rintro e w2 ⟨rfl, rfl⟩
      cases hf : fitsB z with
      | false =>
        have HE : Hid (R = false) := hideP (by
          rw [HRR.out, Bool.eq_false_iff]
          intro hall
          have h1 := all_at.1 hall k (by rw [show zs.length = n from HL]; exact hkn)
          rw [← HZ.out, hf] at h1
          cases h1)
        clear hf
        go_wp2
        go_ret
        exact ⟨retB HE.out.symm, rfl⟩
      | true =>
        have HF := hideP hf
        clear hf
        go_wp2
        go_roundw
        case rel =>
          refine ⟨k + 1, by omega, by go_num, fun j hj => ?_, trivial⟩
          by_cases hjk : j = k
          · subst hjk; rw [← HZ.out]; exact HF.out
          · exact HK.out j (by omega)
        case measure => simp [intOf]; omega
    · have hki : ¬ (k : Int) < (n : Int) := by omega
      have HE : Hid (R = true) := hideP (by rw [HRR.out, all_at]; intro j hj; exact HK.out j (by have := (show zs.length = n from HL); omega))
      clear HK
      go_wp2
      go_ret
      exact ⟨retB HE.out.symm, rfl⟩

/-- The length along that is wanted. -/
def alongI (all : Int) (gs : List Gl) (mode size : Int) : Int := if mode = 1 then size else if mode = 2 then all + siz gs + size else all + siz gs
theorem siz_in {gs : List Gl} (h : glsOk gs = true) : -10737418230000 ≤ siz gs ∧ siz gs ≤ 10737418230000 := by
  obtain ⟨h1, h2⟩ := glsOk_each h
  have h3 := siz_bound gs (fun k hk => by
    have := h2 k hk
    unfold Gl.ok okB at this
    simp only [fitsB, Bool.and_eq_true, decide_eq_true_eq] at this
    omega) gs.length (Nat.le_refl _)
  rw [List.take_length] at h3
  have h4 : (gs.length : Int) ≤ 10000 := by omega
  have h5 : (gs.length : Int) * 1073741823 ≤ 10000 * 1073741823 := by omega
  omega

set_option maxRecDepth 20000 in
set_option maxHeartbeats 1600000 in
theorem along_no {v : Value} {gs : List Gl} {w : World} (all mode size : Int) (h : GRow w v gs) (hn : gs.length ≤ 1048576) (hok : glsOk gs = false) :
    Calls Try.prog 30 #[.int .i64 all, v, .int .i64 mode, .int .i64 size] w fun e w' => e = .returned (.tuple #[.int .i64 0, .bool false]) ∧ Below w.heap.size w w' := by
  have HC := hideP (specSum_any h hn)
  have HOK := hideP hok
  clear h hok
  go_enter Try.func30, Try.ntmps30
  go_wp2_with fail
  refine HC.out.mono ?_
  rintro e w1 ⟨⟨v1, v2, rfl, hr1, hr2⟩, hb⟩
  have HB := hideP hb
  clear hb hr2 HC
  obtain ⟨ao1, n1, cap1, rfl, hl1, -⟩ := hr1
  have hz : n1 = 0 := by rw [← hl1]; simp [sumP, HOK.out]
  subst hz
  clear hl1
  go_wp2
  go_ret2
  exact ⟨rfl, HB.out⟩

set_option maxRecDepth 20000 in
set_option maxHeartbeats 1600000 in
theorem along_ok {v : Value} {gs : List Gl} {w : World} (all mode size : Int) (h : GRow w v gs) (hok : glsOk gs = true) (ha : -1152921504606846976 ≤ all ∧ all ≤ 1152921504606846976) (hs : fitsB size = true) :
    Calls Try.prog 30 #[.int .i64 all, v, .int .i64 mode, .int .i64 size] w fun e w' => e = .returned (.tuple #[.int .i64 (alongI all gs mode size), .bool (fitsB (alongI all gs mode size) && fitsB all)]) ∧ Below w.heap.size w w' := by
  have HC := hideP (specSum_any h (by have := (glsOk_each hok).1; omega))
  have hs2 : -1073741823 ≤ size ∧ size ≤ 1073741823 := of_decide_eq_true hs
  obtain ⟨hs3, hs4⟩ := hs2
  obtain ⟨ha1, ha2⟩ := ha
  obtain ⟨hq1, hq2⟩ := siz_in hok
  have HOK := hideP hok
  obtain ⟨tt, hto⟩ : ∃ tt, tt = alongI all gs mode size := ⟨_, rfl⟩
  rw [← hto]
  have HTO := hideP hto
  clear h hs hto hok
  go_enter Try.func30, Try.ntmps30
  go_wp2_with fail
  refine HC.out.mono ?_
  rintro e w1 ⟨⟨v1, v2, rfl, hr1, hr2⟩, hb⟩
  have HB := hideP hb
  clear hb hr2 HC
  obtain ⟨ao1, n1, cap1, rfl, hl1, -⟩ := hr1
  have hz : n1 = 4 := by rw [← hl1]; simp [sumP, HOK.out, tot_length]
  subst hz
  have hsz : sumN gs = siz gs := by simp [sumN, HOK.out]
  rw [hsz]
  obtain ⟨S, hS⟩ : ∃ S, S = siz gs := ⟨_, rfl⟩
  rw [← hS] at hq1 hq2
  rw [← hS]
  have HS := hideP hS
  clear hl1 hsz hS
  by_cases h1 : mode = 1
  · have he : tt = size := by rw [HTO.out]; unfold alongI; rw [if_pos h1]
    subst h1
    have HE := hideP he
    clear he
    go_wp2_with fail
    refine (specFits_any size _).mono ?_
    rintro e w2 ⟨rfl, rfl⟩
    cases hf : fitsB (size) with
    | false =>
      have HF := hideP hf
      clear hf
      go_wp2
      go_ret2
      exact ⟨by rw [HE.out, HF.out]; rfl, HB.out⟩
    | true =>
      have HF := hideP hf
      clear hf
      go_wp2_with fail
      refine (specFits_any all _).mono ?_
      rintro e w2 ⟨rfl, rfl⟩
      go_wp2
      go_ret2
      exact ⟨by rw [HE.out, HF.out]; rfl, HB.out⟩
  · by_cases h2 : mode = 2
    · have he : tt = all + S + size := by rw [HTO.out]; unfold alongI; rw [if_neg h1, if_pos h2, HS.out]
      subst h2
      have HE := hideP he
      clear he
      go_wp2_with fail
      refine (specFits_any (all + S + size) _).mono ?_
      rintro e w2 ⟨rfl, rfl⟩
      cases hf : fitsB (all + S + size) with
      | false =>
        have HF := hideP hf
        clear hf
        go_wp2
        go_ret2
        exact ⟨by rw [HE.out, HF.out]; rfl, HB.out⟩
      | true =>
        have HF := hideP hf
        clear hf
        go_wp2_with fail
        refine (specFits_any all _).mono ?_
        rintro e w2 ⟨rfl, rfl⟩
        go_wp2
        go_ret2
        exact ⟨by rw [HE.out, HF.out]; rfl, HB.out⟩
    · have he : tt = all + S := by rw [HTO.out]; unfold alongI; rw [if_neg h1, if_neg h2, HS.out]
      have HE := hideP he
      clear he
      go_wp2_with fail
      refine (specFits_any (all + S) _).mono ?_
      rintro e w2 ⟨rfl, rfl⟩
      cases hf : fitsB (all + S) with
      | false =>
        have HF := hideP hf
        clear hf
        go_wp2
        go_ret2
        exact ⟨by rw [HE.out, HF.out]; rfl, HB.out⟩
      | true =>
        have HF := hideP hf
        clear hf
        go_wp2_with fail
        refine (specFits_any all _).mono ?_
        rintro e w2 ⟨rfl, rfl⟩
        go_wp2
        go_ret2
        exact ⟨by rw [HE.out, HF.out]; rfl, HB.out⟩
end Go.Proofs.Ytbbehmcekbnkiaa.Shr
