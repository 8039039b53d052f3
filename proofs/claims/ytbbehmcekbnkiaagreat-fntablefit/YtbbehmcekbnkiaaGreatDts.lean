import Derived.Test.YtbbehmcekbnkiaaGreatDtc
import Derived.Test.YtbbehmcekbnkiaaGreatFng
namespace Go.Proofs.YtbbehmcekbnkiaaGreat
open Go.RowKit Go.Shelf
set_option linter.unusedVariables false
set_option linter.unusedSimpArgs false
abbrev tbO (co gs gp gpo gm gmo : Int) (v : Value) : Obj := .cells #[.int .i64 co, .int .i64 gs, .int .i64 gp, .int .i64 gpo, .int .i64 gm, .int .i64 gmo, v] 52 (0, 0)
def DTb (w w0 w' : World) (ao : Option Addr) (len cap : Nat) (e : Ending) : Prop := ∃ (co gs gp gpo gm gmo : Int) (u : Value) (rs : List DRow), e = .returned (.agg #[.int .i64 co, .int .i64 gs, .int .i64 gp, .int .i64 gpo, .int .i64 gm, .int .i64 gmo, u]) /\ OwnTab w0.heap.size w' u rs /\ Cur w w' ao len cap /\ Fram w w0 w'
theorem OwnTab.nil (B : Nat) (w : World) : OwnTab B w (.slice none 0 0) [] where
 own := World.ownsRow_nil _ _ _ _
 len := Nat.zero_le _
 row := fun r hr => absurd hr (by simp)
 apN := by simp [listsOf]
 apC := by simp
structure DTS (w w0 wi : World) (ao : Option Addr) (len cap T : Nat) (co gs gp : Int) (v : Value) (rs : List DRow) : Prop where
 cur : Cur w wi ao len cap
 fram : Fram w w0 wi
 res : wi.heap[w0.heap.size]? = some (tbO 0 0 0 0 0 0 (.slice none 0 0))
 tab : wi.heap[T]? = some (tbO co gs gp 0 0 0 v)
 own : OwnTab w0.heap.size wi v rs
theorem DTS.go {w w0 wi wj : World} {ao : Option Addr} {len cap T : Nat} {co gs gp : Int} {v : Value} {rs : List DRow} (h : DTS w w0 wi ao len cap T co gs gp v rs) (hw : w.heap.size < w0.heap.size) (hT : w0.heap.size < T) (hf : Fram w wi wj) (hc : Cur w wj ao len cap) : DTS w w0 wj ao len cap T co gs gp v rs :=
 ⟨hc, h.fram.trans hf, (hf.2 _ (glt h.res) (by omega)).trans h.res, (hf.2 _ (glt h.tab) (by omega)).trans h.tab, h.own.fram hw hf⟩
theorem DTS.oth {w w0 wi wj : World} {ao : Option Addr} {len cap T : Nat} {co gs gp : Int} {v : Value} {rs : List DRow} (h : DTS w w0 wi ao len cap T co gs gp v rs) (hw : w.heap.size < w0.heap.size) (hT : w0.heap.size < T) (ho : Other w wi wj) (hc : Cur w wj ao len cap) : DTS w w0 wj ao len cap T co gs gp v rs :=
 h.go hw hT ((Fram.refl w wi).other ho hc) hc
abbrev rwO (u : Value) (ru : Int) : Obj := .cells #[u, .int .i64 ru] 59 (0, 0)
abbrev clO (sp al : Int) (v : Value) : Obj := .cells #[.int .i64 sp, .int .i64 al, v] 61 (0, 0)
structure RSt (w s wi : World) (ao : Option Addr) (len cap : Nat) (cs : List C3) (u : Value) (ru : Int) : Prop where
 cur : Cur w wi ao len cap
 fram : Fram w s wi
 var : wi.heap[s.heap.size]? = some (rwO u ru)
 own : OwnRow s.heap.size wi ⟨cs, u, ru⟩
 ap : (cs.map (·.2.2)).Pairwise apart
theorem RSt.go {w s wi wj : World} {ao : Option Addr} {len cap : Nat} {cs : List C3} {u : Value} {ru : Int} (h : RSt w s wi ao len cap cs u ru) (hw : w.heap.size < s.heap.size) (hf : Fram w wi wj) (hc : Cur w wj ao len cap) : RSt w s wj ao len cap cs u ru :=
 ⟨hc, h.fram.trans hf, (hf.2 _ (glt h.var) (by omega)).trans h.var, h.own.fram hw hf, h.ap⟩
theorem RSt.oth {w s wi wj : World} {ao : Option Addr} {len cap : Nat} {cs : List C3} {u : Value} {ru : Int} (h : RSt w s wi ao len cap cs u ru) (hw : w.heap.size < s.heap.size) (ho : Other w wi wj) (hc : Cur w wj ao len cap) : RSt w s wj ao len cap cs u ru :=
 h.go hw ((Fram.refl w wi).other ho hc) hc
theorem OwnRow.nil (B : Nat) (w : World) (ru : Int) : OwnRow B w ⟨[], .slice none 0 0, ru⟩ where
 own := World.ownsRow_nil _ _ _ _
 len := Nat.zero_le _
 nds := fun c hc => absurd hc (by simp)
theorem RSt.start {w s : World} {ao : Option Addr} {len cap : Nat} (hc : Cur w s ao len cap) : RSt w s (s.alloc (rwO (.slice none 0 0) 0)) ao len cap [] (.slice none 0 0) 0 :=
 ⟨hc.alloc _, (Fram.refl w s).alloc _, heap_alloc_new s _, OwnRow.nil _ _ _, List.Pairwise.nil⟩
theorem Cur.grown {w wi wj : World} {ao : Option Addr} {len cap : Nat} {row : Option Nat} (h : Cur w wi ao len cap) (hg : wi.grownBy wj row) (hb : ∀ g, row = some g -> w.heap.size < g) : Cur w wj ao len cap := by
 obtain ⟨j, x, h1, h2, h3, h4⟩ := h
 have hl := (glt h3)
 exact ⟨j, x, h1, h2, (hg.block _ hl (fun e => by have := hb _ e.symm; omega)).trans h3, Below.grown h4 hg h4.size fun g hg' => by have := hb g hg'; omega⟩
theorem Fram.grown {w s wi wj : World} {row : Option Nat} (h : Fram w s wi) (hg : wi.grownBy wj row) (hb : ∀ g, row = some g -> s.heap.size <= g) : Fram w s wj :=
 ⟨Nat.le_trans h.1 hg.size, fun b hb' hne => (hg.block b (Nat.lt_of_lt_of_le hb' h.1) (fun e => by have := hb _ e.symm; omega)).trans (h.2 b hb' hne)⟩
theorem Fram.put {w s wi : World} {G : Nat} (h : Fram w s wi) (hG : s.heap.size <= G) (j : Nat) (x : Value) : Fram w s (wi.setCell ⟨G, j, none⟩ x) :=
 ⟨by simpa [World.setCell] using h.1, fun b hb hne => (Below.heap_setCell _ _ _ _ (show b ≠ G by omega)).trans (h.2 b hb hne)⟩
theorem RSt.putRu {w s wi : World} {ao : Option Addr} {len cap : Nat} {cs : List C3} {u : Value} {ru : Int} (h : RSt w s wi ao len cap cs u ru) (hw : w.heap.size < s.heap.size) (x : Int) : RSt w s (wi.setCell ⟨s.heap.size, 1, none⟩ (.int .i64 x)) ao len cap cs u x :=
 have ho := h.own.other (w' := wi.setCell ⟨s.heap.size, 1, none⟩ (.int .i64 x)) h.var (by decide) (by decide) (fun g hg => Below.heap_setCell _ _ _ _ hg)
 ⟨h.cur.set hw _ _, h.fram.put (Nat.le_refl _) _ _, heap_setCell_same _ _ 1 _ 59 _ h.var, ⟨ho.own, ho.len, ho.nds⟩, h.ap⟩
theorem RSt.lts {w s wi : World} {ao : Option Addr} {len cap : Nat} {cs : List C3} {u : Value} {ru : Int} (h : RSt w s wi ao len cap cs u ru) : ∀ c ∈ cs, ∀ g, c.2.2.ownBlock = some g -> g < wi.heap.size := fun c hc g hg => by
 obtain ⟨n, _, hn⟩ := h.own.nds c hc
 exact (hn.kind hg).2.1
theorem RSt.app {w s wi wj : World} {ao : Option Addr} {len cap b n : Nat} {cs : List C3} {u u' v : Value} {ru sp al : Int} (h : RSt w s wi ao len cap cs u ru) (hw : w.heap.size < s.heap.size) (hg : wi.grownBy wj u.ownBlock) (ho : wj.ownsRow s.heap.size 61 3 u' (cs.length + 1) (flatC (cs ++ [(sp, al, v)]))) (hv : OwnN wi b v n) (hn : n <= 20) (hl : cs.length + 1 <= 5) (hb : s.heap.size <= b) (hlt : ∀ c ∈ cs, ∀ g, c.2.2.ownBlock = some g -> g < b) :
 RSt w s (wj.setCell ⟨s.heap.size, 0, none⟩ u') ao len cap (cs ++ [(sp, al, v)]) u' ru := by
 have hub : ∀ g, u.ownBlock = some g -> s.heap.size <= g := fun g hgu => (h.own.own.lt g hgu).1
 have hvs : OwnN wi s.heap.size v n := by
  obtain ⟨xs, h1, h2⟩ := hv
  exact ⟨xs, h1, own_mon h2 hb⟩
 have hne : u.ownBlock ≠ some s.heap.size := fun e => by
  obtain ⟨c, hc⟩ := own_cells_block h.own.own e
  rw [h.var] at hc
  simp at hc
 have hvar : wj.heap[s.heap.size]? = some (rwO u ru) := (grownBy_at hg (glt h.var) hne).trans h.var
 have hown := (h.own.app hg ho hvs hn hl).other (w' := wj.setCell ⟨s.heap.size, 0, none⟩ u') hvar (by decide) (by decide) (fun g hg => Below.heap_setCell _ _ _ _ hg)
 refine ⟨(h.cur.grown hg (fun g hgu => by have := hub g hgu; omega)).set hw _ _, (h.fram.grown hg hub).put (Nat.le_refl _) _ _, heap_setCell_same _ _ 0 _ 59 _ hvar, hown, ?_⟩
 rw [List.map_append, List.pairwise_append]
 refine ⟨h.ap, by simp, fun x hx y hy g hgx hgy => ?_⟩
 obtain ⟨c, hc, rfl⟩ := List.mem_map.1 hx
 simp only [List.map_cons, List.map_nil, List.mem_cons, List.not_mem_nil, or_false] at hy
 subst hy
 have h1 := hlt c hc g hgx
 have h2 := (hv.kind hgy).1
 omega
theorem DTS.app {w w0 s wi wj : World} {ao : Option Addr} {len cap T : Nat} {co gs gp : Int} {v v' u : Value} {rs : List DRow} {cs : List C3} {ru : Int} (h : DTS w w0 s ao len cap T co gs gp v rs) (hr : RSt w s wi ao len cap cs u ru) (hw : w.heap.size < w0.heap.size) (hT : w0.heap.size < T) (hg : wi.grownBy wj v.ownBlock) (ho : wj.ownsRow w0.heap.size 59 2 v' (rs.length + 1) (flatR (rs ++ [⟨cs, u, ru⟩]))) (hl : rs.length + 1 <= 5) :
 DTS w w0 (wj.setCell ⟨T, 6, none⟩ v') ao len cap T co gs gp v' (rs ++ [⟨cs, u, ru⟩]) := by
 have hi := h.go hw hT hr.fram hr.cur
 have hvb : ∀ g, v.ownBlock = some g -> w0.heap.size <= g := fun g hgv => (h.own.own.lt g hgv).1
 have hne : ∀ (g : Nat) (c : Array Value), wi.heap[g]? = some (.cells c 52 (0, 0)) -> v.ownBlock ≠ some g := fun g c hc e => by
  obtain ⟨c', hc'⟩ := own_cells_block hi.own.own e
  rw [hc] at hc'
  simp at hc'
 have htab : wj.heap[T]? = some (tbO co gs gp 0 0 0 v) := (grownBy_at hg (glt hi.tab) (hne _ _ hi.tab)).trans hi.tab
 have hres : wj.heap[w0.heap.size]? = some (tbO 0 0 0 0 0 0 (.slice none 0 0)) := (grownBy_at hg (glt hi.res) (hne _ _ hi.res)).trans hi.res
 have hown := (h.own.app hi.own hr.own (Nat.le_refl _) h.fram.1 hr.ap hg ho hl).other (w' := wj.setCell ⟨T, 6, none⟩ v') htab (by decide) (by decide) (by decide) (fun g hg => Below.heap_setCell _ _ _ _ hg)
 exact ⟨(hi.cur.grown hg (fun g hgv => by have := hvb g hgv; omega)).set (by omega) _ _, (hi.fram.grown hg hvb).put (by omega) _ _, (Below.heap_setCell _ _ _ _ (show w0.heap.size ≠ T by omega)).trans hres, heap_setCell_same _ _ 6 _ 52 _ htab, hown⟩
theorem RSt.above {w s wj wi : World} {ao : Option Addr} {len cap K : Nat} {cs : List C3} {u : Value} {ru : Int} (h0 : RSt w s wj ao len cap cs u ru) (h : RSt w s wi ao len cap cs u ru) (hw : w.heap.size < s.heap.size) (hK : wj.heap.size <= K) (j : Nat) (x : Value) : RSt w s (wi.setCell ⟨K, j, none⟩ x) ao len cap cs u ru := by
 have hs : s.heap.size < wj.heap.size := (glt h0.var)
 refine ⟨h.cur.set (by omega) _ _, h.fram.put (by omega) _ _, (Below.heap_setCell _ _ _ _ (show s.heap.size ≠ K by omega)).trans h.var, h.own.same (fun g hg => Below.heap_setCell _ _ _ _ ?_) (fun c hc g hg => Below.heap_setCell _ _ _ _ ?_), h.ap⟩
 ·have := (h0.own.own.lt g hg).2
  show g ≠ K
  omega
 ·have := h0.lts c hc g hg
  show g ≠ K
  omega
theorem OwnN.otherT {B n T ty : Nat} {w : World} {v : Value} {c : Array Value} (h : OwnN w B v n) (hT : w.heap[T]? = some (.cells c ty (0, 0))) (h2 : ty ≠ 36) (j : Nat) (x : Value) : OwnN (w.setCell ⟨T, j, none⟩ x) B v n :=
 h.same fun g hg => Below.heap_setCell _ _ _ _ (fun e => by
  have e : g = T := e
  subst e
  obtain ⟨_, _, cs, hc⟩ := h.kind hg
  rw [hc] at hT
  simp at hT
  exact h2 hT.2.symm)
theorem OwnN.bel {B n : Nat} {w w' : World} {v : Value} (h : OwnN w B v n) (hb : Below w.heap.size w w') : OwnN w' B v n := h.same fun g hg => hb.block g (h.kind hg).2.1
theorem RSt.bel {w s wi wj : World} {ao : Option Addr} {len cap : Nat} {cs : List C3} {u : Value} {ru : Int} (h : RSt w s wi ao len cap cs u ru) (hw : w.heap.size < s.heap.size) (hb : Below wi.heap.size wi wj) : RSt w s wj ao len cap cs u ru :=
 h.go hw (Fram.ofBel hb) (h.cur.bel hb)
end Go.Proofs.YtbbehmcekbnkiaaGreat
namespace Go.Proofs.YtbbehmcekbnkiaaGreat
open Go.RowKit
set_option linter.unusedVariables false
set_option linter.unusedSimpArgs false
theorem set_map_same {α β : Type} (d : α) (f : α -> β) {l : List α} {i : Nat} {x : α} (hi : i < l.length) (h : f x = f (l.getD i d)) : (l.set i x).map f = l.map f := by
 refine List.ext_getElem (by simp) fun k h1 h2 => ?_
 simp only [List.getElem_map, List.getElem_set]
 split
 ·rename_i e
  subst e
  rw [h]
  simp [List.getD, List.getElem?_eq_getElem hi]
 ·rfl
theorem lists_map (rs : List DRow) : listsOf rs = (rs.map (fun r => r.cs.map (·.2.2))).flatten := by
 unfold listsOf
 rw [List.flatMap_def]
theorem getD_is {α : Type} (d : α) {l : List α} {i : Nat} (h : i < l.length) : l.getD i d = l[i] := by simp [List.getD, List.getElem?_eq_getElem h]
theorem OwnTab.two {B i k : Nat} {w : World} {v : Value} {rs : List DRow} (h : OwnTab B w v rs) (hi : i < rs.length) (hk : k < rs.length) (hne : k ≠ i) : apart (rs.getD k DRow.none).u (rs.getD i DRow.none).u := by
 have hp := List.pairwise_iff_getElem.1 h.apC
 rw [getD_is _ hi, getD_is _ hk]
 by_cases hlt : k < i
 ·have := hp k i (by simpa using hk) (by simpa using hi) hlt
  simpa using this
 ·have := hp i k (by simpa using hi) (by simpa using hk) (by omega)
  exact apart.symm (by simpa using this)
theorem mem_set_cases {α : Type} (d : α) {l : List α} {i : Nat} {x y : α} (h : y ∈ l.set i x) : (y = x /\ i < l.length) \/ ∃ k, k < l.length /\ k ≠ i /\ y = l.getD k d := by
 obtain ⟨k, hk, e⟩ := List.mem_iff_getElem.1 h
 rw [List.length_set] at hk
 rw [List.getElem_set] at e
 split at e
 ·rename_i e2
  exact .inl ⟨e.symm, by omega⟩
 ·rename_i e2
  exact .inr ⟨k, hk, fun h => e2 h.symm, by rw [getD_is _ hk]; exact e.symm⟩
theorem ownG_set {base e s g n cap : Nat} {w : World} {xs : List Value} (h : w.ownsRow base e s (.slice (some ⟨g, 0, none⟩) n cap) n xs) (j : Nat) (x : Value) : (w.setCell ⟨g, j, none⟩ x).ownsRow base e s (.slice (some ⟨g, 0, none⟩) n cap) n (xs.set j x) := by
 simpa using (World.ownsRow.stored h j x).1
theorem OwnTab.putRu {B g n c i : Nat} {w : World} {rs : List DRow} (h : OwnTab B w (.slice (some ⟨g, 0, none⟩) n c) rs) (hn : n = rs.length) (hi : i < rs.length) (x : Int) : OwnTab B (w.setCell ⟨g, i * 2 + 1, none⟩ (.int .i64 x)) (.slice (some ⟨g, 0, none⟩) n c) (rs.set i { rs.getD i DRow.none with ru := x }) := by
 subst hn
 obtain ⟨cur, hc⟩ := own_cells_block h.own (show (Value.slice (some ⟨g, 0, none⟩) rs.length c).ownBlock = some g from rfl)
 have hrow : ∀ r, OwnRow B w r -> OwnRow B (w.setCell ⟨g, i * 2 + 1, none⟩ (.int .i64 x)) r := fun r hr => hr.other hc (by decide) (by decide) (fun g' hg' => Below.heap_setCell _ _ _ _ hg')
 refine ⟨?_, by rw [List.length_set]; exact h.len, fun r hr => ?_, ?_, ?_⟩
 ·rw [List.length_set, <- flatR_ru _ _ _ hi]
  exact ownG_set h.own _ _
 ·rcases mem_set_cases DRow.none hr with ⟨rfl, _⟩ | ⟨k, hk, _, rfl⟩
  ·have := hrow _ (h.row _ (getD_mem DRow.none hi))
   exact ⟨this.own, this.len, this.nds⟩
  ·exact hrow _ (h.row _ (getD_mem DRow.none hk))
 ·rw [lists_map, set_map_same DRow.none _ hi, <- lists_map]
  ·exact h.apN
  ·rfl
 ·rw [set_map_same DRow.none _ hi]
  ·exact h.apC
  ·rfl
theorem OwnTab.putCell {B i g n c q : Nat} {w : World} {v x : Value} {rs : List DRow} {cs' : List C3} (h : OwnTab B w v rs) (hi : i < rs.length) (hu : (rs.getD i DRow.none).u = .slice (some ⟨g, 0, none⟩) n c) (hcs : (flatC (rs.getD i DRow.none).cs).set q x = flatC cs') (hl : cs'.map (·.2.2) = (rs.getD i DRow.none).cs.map (·.2.2)) : OwnTab B (w.setCell ⟨g, q, none⟩ x) v (rs.set i { rs.getD i DRow.none with cs := cs' }) := by
 have hr := h.row _ (getD_mem DRow.none hi)
 have hgb : (rs.getD i DRow.none).u.ownBlock = some g := by rw [hu]; rfl
 obtain ⟨cur, hc⟩ := own_cells_block hr.own hgb
 have hlen : cs'.length = (rs.getD i DRow.none).cs.length := by
  have := congrArg List.length hl
  simpa using this
 have hnd : ∀ (y : Value) (m : Nat), OwnN w B y m -> OwnN (w.setCell ⟨g, q, none⟩ x) B y m := fun y m hy => hy.otherT hc (by decide) _ _
 have hn : n = (rs.getD i DRow.none).cs.length := by
  have := hr.own
  rw [hu] at this
  obtain ⟨a, c2, e⟩ := ownG_shape this
  simp only [Value.slice.injEq] at e
  exact e.2.1
 refine ⟨?_, by rw [List.length_set]; exact h.len, fun r hr2 => ?_, ?_, ?_⟩
 ·rw [List.length_set, show flatR (rs.set i { rs.getD i DRow.none with cs := cs' }) = flatR rs by
   have hf : ∀ l : List DRow, flatR l = (l.map (fun r => [r.u, Value.int .i64 r.ru])).flatten := fun l => by
    induction l with
    | nil => rfl
    | cons a l ih => simp only [flatR, List.map_cons, List.flatten_cons, ih]; rfl
   rw [hf, hf, set_map_same DRow.none _ hi]
   rfl]
  exact ownG_same h.own fun g' hg' => Below.heap_setCell _ _ _ _ (fun e => by
   have e : g' = g := e
   subst e
   obtain ⟨c', hc'⟩ := own_cells_block h.own hg'
   rw [hc] at hc'
   simp at hc')
 ·rcases mem_set_cases DRow.none hr2 with ⟨rfl, _⟩ | ⟨k, hk, hki, rfl⟩
  ·refine ⟨?_, by simp only [hlen]; exact hr.len, fun y hy => ?_⟩
   ·show (w.setCell ⟨g, q, none⟩ x).ownsRow B 61 3 (rs.getD i DRow.none).u cs'.length (flatC cs')
    have ho := hr.own
    rw [hu, <- hn] at ho
    rw [hu, <- hcs, hlen, <- hn]
    exact ownG_set ho _ _
   ·have hy2 : y.2.2 ∈ (rs.getD i DRow.none).cs.map (·.2.2) := by rw [<- hl]; exact List.mem_map_of_mem hy
    obtain ⟨z, hz, e⟩ := List.mem_map.1 hy2
    obtain ⟨m, hm, ho⟩ := hr.nds z hz
    rw [e] at ho
    exact ⟨m, hm, hnd _ _ ho⟩
  ·have hrk := h.row _ (getD_mem DRow.none hk)
   refine ⟨ownG_same hrk.own fun g' hg' => Below.heap_setCell _ _ _ _ (fun e => ?_), hrk.len, fun y hy => ?_⟩
   ·have e : g' = g := e
    subst e
    exact h.two hi hk hki _ hg' hgb
   ·obtain ⟨m, hm, ho⟩ := hrk.nds y hy
    exact ⟨m, hm, hnd _ _ ho⟩
 ·rw [lists_map, set_map_same DRow.none _ hi, <- lists_map]
  ·exact h.apN
  ·exact hl
 ·rw [set_map_same DRow.none _ hi]
  ·exact h.apC
  ·rfl
theorem OwnTab.spoil {B i j n : Nat} {w w' : World} {v : Value} {rs : List DRow} (h : OwnTab B w v rs) (hi : i < rs.length) (hj : j < (rs.getD i DRow.none).cs.length) (hk : ∀ g, B <= g -> g < w.heap.size -> ((rs.getD i DRow.none).cs.getD j C3z).2.2.ownBlock ≠ some g -> w'.heap[g]? = w.heap[g]?) (ho : OwnN w' B ((rs.getD i DRow.none).cs.getD j C3z).2.2 n) (hn : n <= 20) : OwnTab B w' v rs := by
 have hr := h.row _ (getD_mem DRow.none hi)
 obtain ⟨m0, _, hv⟩ := hr.nds _ (getD_mem C3z hj)
 obtain ⟨x, hx⟩ := exq (((rs.getD i DRow.none).cs.getD j C3z).2.2)
 rw [<- hx] at hk ho hv
 have hmem : x ∈ listsOf rs := by
  unfold listsOf
  refine List.mem_flatMap.2 ⟨_, getD_mem DRow.none hi, List.mem_map.2 ⟨_, getD_mem C3z hj, hx.symm⟩⟩
 have hne : ∀ (g ty : Nat) (c : Array Value), w.heap[g]? = some (.cells c ty (0, 0)) -> ty ≠ 36 -> x.ownBlock ≠ some g := fun g ty c hc ht e => by
  obtain ⟨_, _, c', hc'⟩ := hv.kind e
  rw [hc] at hc'
  simp at hc'
  exact ht hc'.2
 have hall : ∀ y ∈ listsOf rs, ∀ z ∈ listsOf rs, y = z \/ apart y z :=
  fun y hy z hz => List.Pairwise.forall_of_forall_of_flip (R := fun y z => y = z \/ apart y z) (fun _ _ => .inl rfl) (h.apN.imp fun h => .inr h) (h.apN.imp fun h => .inr h.symm) hy hz
 refine ⟨ownG_same h.own fun g hg => ?_, h.len, fun r hr2 => ⟨ownG_same (h.row r hr2).own fun g hg => ?_, (h.row r hr2).len, fun y hy => ?_⟩, h.apN, h.apC⟩
 ·obtain ⟨c, hc⟩ := own_cells_block h.own hg
  exact hk g (h.own.lt g hg).1 (h.own.lt g hg).2 (hne g 59 c hc (by decide))
 ·obtain ⟨c, hc⟩ := own_cells_block (h.row r hr2).own hg
  exact hk g ((h.row r hr2).own.lt g hg).1 ((h.row r hr2).own.lt g hg).2 (hne g 61 c hc (by decide))
 ·obtain ⟨m, hm, hoy⟩ := (h.row r hr2).nds y hy
  have hym : y.2.2 ∈ listsOf rs := List.mem_flatMap.2 ⟨r, hr2, List.mem_map.2 ⟨y, hy, rfl⟩⟩
  rcases hall x hmem y.2.2 hym with e | ha
  ·rw [<- e]
   exact ⟨n, hn, ho⟩
  ·exact ⟨m, hm, hoy.same fun g hg => hk g (hoy.kind hg).1 (hoy.kind hg).2.1 (fun e => ha g e hg)⟩
structure DTQ (w w0 wi : World) (ao : Option Addr) (len cap T : Nat) (co gs gp gpo gm gmo : Int) (v : Value) (rs : List DRow) : Prop where
 cur : Cur w wi ao len cap
 fram : Fram w w0 wi
 res : wi.heap[w0.heap.size]? = some (tbO 0 0 0 0 0 0 (.slice none 0 0))
 tab : wi.heap[T]? = some (tbO co gs gp gpo gm gmo v)
 own : OwnTab w0.heap.size wi v rs
def DTE (w w0 wi : World) (ao : Option Addr) (len cap T : Nat) : Prop := ∃ co gs gp gpo gm gmo v rs, DTQ w w0 wi ao len cap T co gs gp gpo gm gmo v rs
section
variable {w w0 wi wj : World} {ao : Option Addr} {len cap T : Nat} {co gs gp gpo gm gmo : Int} {v : Value} {rs : List DRow}
theorem DTQ.go (h : DTQ w w0 wi ao len cap T co gs gp gpo gm gmo v rs) (hw : w.heap.size < w0.heap.size) (hT : w0.heap.size < T) (hf : Fram w wi wj) (hc : Cur w wj ao len cap) : DTQ w w0 wj ao len cap T co gs gp gpo gm gmo v rs :=
 ⟨hc, h.fram.trans hf, (hf.2 _ (glt h.res) (by omega)).trans h.res, (hf.2 _ (glt h.tab) (by omega)).trans h.tab, h.own.fram hw hf⟩
theorem DTQ.oth (h : DTQ w w0 wi ao len cap T co gs gp gpo gm gmo v rs) (hw : w.heap.size < w0.heap.size) (hT : w0.heap.size < T) (ho : Other w wi wj) (hc : Cur w wj ao len cap) : DTQ w w0 wj ao len cap T co gs gp gpo gm gmo v rs :=
 h.go hw hT ((Fram.refl w wi).other ho hc) hc
theorem DTQ.bel (h : DTQ w w0 wi ao len cap T co gs gp gpo gm gmo v rs) (hw : w.heap.size < w0.heap.size) (hT : w0.heap.size < T) (hb : Below wi.heap.size wi wj) : DTQ w w0 wj ao len cap T co gs gp gpo gm gmo v rs :=
 h.go hw hT (Fram.ofBel hb) (h.cur.bel hb)
theorem DTQ.var (h : DTQ w w0 wi ao len cap T co gs gp gpo gm gmo v rs) (hw : w.heap.size < w0.heap.size) (hT : w0.heap.size < T) (j : Nat) (x : Value) {co' gs' gp' gpo' gm' gmo' : Int} (ht : (wi.setCell ⟨T, j, none⟩ x).heap[T]? = some (tbO co' gs' gp' gpo' gm' gmo' v)) : DTQ w w0 (wi.setCell ⟨T, j, none⟩ x) ao len cap T co' gs' gp' gpo' gm' gmo' v rs :=
 ⟨h.cur.set (by omega) _ _, h.fram.put (by omega) _ _, (Below.heap_setCell _ _ _ _ (show w0.heap.size ≠ T by omega)).trans h.res, ht, h.own.other h.tab (by decide) (by decide) (by decide) (fun g hg => Below.heap_setCell _ _ _ _ hg)⟩
theorem DTQ.put (h : DTQ w w0 wi ao len cap T co gs gp gpo gm gmo v rs) (hw : w.heap.size < w0.heap.size) {G ty j : Nat} {c : Array Value} {x : Value} {rs' : List DRow} (hG : w0.heap.size <= G) (hc : wi.heap[G]? = some (.cells c ty (0, 0))) (ht : ty ≠ 52) (ho : OwnTab w0.heap.size (wi.setCell ⟨G, j, none⟩ x) v rs') : DTQ w w0 (wi.setCell ⟨G, j, none⟩ x) ao len cap T co gs gp gpo gm gmo v rs' := by
 have hne : ∀ (Z : Nat) (o : Obj) (c' : Array Value), o = .cells c' 52 (0, 0) -> wi.heap[Z]? = some o -> (wi.setCell ⟨G, j, none⟩ x).heap[Z]? = some o := fun Z o c' e hz => (Below.heap_setCell _ _ _ _ (fun e2 => by
  have e2 : Z = G := e2
  subst e2
  rw [hz, e] at hc
  simp at hc
  exact ht hc.2.symm)).trans hz
 exact ⟨h.cur.set (by omega) _ _, h.fram.put hG _ _, hne _ _ _ rfl h.res, hne _ _ _ rfl h.tab, ho⟩
end
end Go.Proofs.YtbbehmcekbnkiaaGreat
namespace Go.Proofs.YtbbehmcekbnkiaaGreat
open Go.RowKit Go.Shelf
set_option linter.unusedVariables false
set_option linter.unusedSimpArgs false
theorem DTQ.drew {w w0 wi : World} {ao : Option Addr} {len cap T : Nat} {co gs gp gpo gm gmo : Int} {v : Value} {rs : List DRow} (h : DTQ w w0 wi ao len cap T co gs gp gpo gm gmo v rs) (hw : w.heap.size < w0.heap.size) (hT : w0.heap.size < T) : DTQ w w0 wi.drew ao len cap T co gs gp gpo gm gmo v rs := h.bel hw hT (Below.drew (Below.refl _ _))
theorem ownG_some {w : World} {base e s n c : Nat} {a : Option Addr} {xs : List Value} (h : w.ownsRow base e s (.slice a n c) n xs) (hn : 0 < n) : ∃ g, a = some ⟨g, 0, none⟩ /\ base <= g /\ g < w.heap.size := by
 rcases h.2 with ⟨he, _⟩ | ⟨g, cap, cur, he, hg, hb, _⟩
 ·simp only [Value.slice.injEq] at he; omega
 ·simp only [Value.slice.injEq] at he
  exact ⟨g, he.1, hg, (glt hb)⟩
theorem lit4 {w : World} {G qn : Nat} {a b c d : Int} (h : w.heap[G]? = some (.cells #[.int .i64 a, .int .i64 b, .int .i64 c, .int .i64 d] 2 (0, 0))) (hq : qn < 4) : ∃ x : Int, w.cell? ⟨G, qn, none⟩ = some (.int .i64 x) := by
 rw [cell_of_row w G qn _ 2 (0, 0) h]
 rcases (show qn = 0 \/ qn = 1 \/ qn = 2 \/ qn = 3 by omega) with rfl | rfl | rfl | rfl
 ·exact ⟨a, rfl⟩
 ·exact ⟨b, rfl⟩
 ·exact ⟨c, rfl⟩
 ·exact ⟨d, rfl⟩
theorem lit2 {w : World} {G qn : Nat} {a b : Int} (h : w.heap[G]? = some (.cells #[.int .i64 a, .int .i64 b] 2 (0, 0))) (hq : qn < 2) : ∃ x : Int, w.cell? ⟨G, qn, none⟩ = some (.int .i64 x) := by
 rw [cell_of_row w G qn _ 2 (0, 0) h]
 rcases (show qn = 0 \/ qn = 1 by omega) with rfl | rfl
 ·exact ⟨a, rfl⟩
 ·exact ⟨b, rfl⟩
set_option maxRecDepth 20000 in
set_option maxHeartbeats 8000000 in
theorem spoilT_any (ao : Option Addr) (len cap T : Nat) (w w0 wr : World) (hB : Bytes w ao len cap) {co gs gp gpo gm gmo : Int} {v : Value} {rs : List DRow} (hw : w.heap.size < w0.heap.size) (hT : w0.heap.size < T) (h : DTQ w w0 wr ao len cap T co gs gp gpo gm gmo v rs) :
 Calls Tryz.prog 74 #[curP w, .pointer (some ⟨T, 0, none⟩)] wr fun e w' => Ret e /\ DTE w w0 w' ao len cap T := by
 have HB := hideD hB
 have D0 := hideP h
 clear hB h
 obtain ⟨va, vc, hve⟩ := ownG_shape D0.out.own.own
 subst hve
 obtain ⟨q, hq⟩ := exq (rs.length)
 have HQ := hideP hq
 rw [<- hq] at D0
 have hq5 : q <= 5 := by rw [hq]; exact D0.out.own.len
 clear hq
 go_enter Tryz.func74, Tryz.ntmps74
 go_wp2_with fail
 refine (belowN_any 4 ao len cap w _ HB.out D0.out.cur (by omega) (by omega)).mono ?_
 rintro e w1 ⟨x1, rfl, hx1, hx1', hc1, ho1⟩
 have D1 := hideP (D0.out.oth hw hT ho1 hc1)
 have hTz : T < w1.heap.size := (glt D1.out.tab)
 clear hc1 ho1 D0
 rcases (show x1 = 0 \/ x1 = 1 \/ x1 = 2 \/ x1 = 3 by omega) with rfl | rfl | hx23
 ·clear hx1 hx1'
  have DA := hideP (D1.out.bel hw hT (below1 w1 (.cells #[.int .i64 0, .int .i64 21, .int .i64 1, .int .i64 20] 2)))
  have HSL := hideP (heap_alloc_new w1 (.cells #[.int .i64 0, .int .i64 21, .int .i64 1, .int .i64 20] 2))
  go_wp2_with fail
  refine (belowN_any 4 ao len cap w _ HB.out DA.out.cur (by omega) (by omega)).mono ?_
  rintro e w2 ⟨x2, rfl, y0, y1, c2, o2⟩
  have D2 := hideP (DA.out.oth hw hT o2 c2)
  have hsl := (o2 w1.heap.size (by omega)).trans HSL.out
  obtain ⟨qn, rfl⟩ := Int.eq_ofNat_of_zero_le y0
  obtain ⟨x, hcx⟩ := lit4 (qn := qn) hsl (by omega)
  have t0 := cell_of_row w2 T 0 _ 52 _ D2.out.tab
  have fz : ∀ j, w2.frozen? ⟨T, j, none⟩ = false := fun j => frozen_of_row w2 _ j _ _ D2.out.tab
  have HF : Hid (DTE w w0 (w2.setCell ⟨T, 0, none⟩ (.int .i64 x)) ao len cap T) := hideP ⟨_, _, _, _, _, _, _, _, D2.out.var hw hT 0 (.int .i64 x) (heap_setCell_same _ _ 0 _ 52 _ D2.out.tab)⟩
  clear D1 DA c2 o2 HSL hsl D2
  go_wp2
  refine bodyPost_ret (results_none rfl _ _ _) rfl ?_
  exact ⟨⟨_, rfl⟩, HF.out⟩
 ·clear hx1 hx1'
  go_wp2_with fail
  refine (drawGlue_any ao len cap w _ HB.out D1.out.cur).mono ?_
  rintro e w2 ⟨a, b, c, d, f, rfl, c2, f2⟩
  have D2 := D1.out.go hw hT f2 c2
  have t1 := cell_of_row w2 T 1 _ 52 _ D2.tab
  have t2 := cell_of_row w2 T 2 _ 52 _ D2.tab
  have t3 := cell_of_row w2 T 3 _ 52 _ D2.tab
  have t4 := cell_of_row w2 T 4 _ 52 _ D2.tab
  have t5 := cell_of_row w2 T 5 _ 52 _ D2.tab
  have fz : ∀ j, w2.frozen? ⟨T, j, none⟩ = false := fun j => frozen_of_row w2 _ j _ _ D2.tab
  have H1 := D2.var hw hT 1 (.int .i64 a) (heap_setCell_same _ _ 1 _ 52 _ D2.tab)
  have H2 := H1.var hw hT 2 (.int .i64 b) (heap_setCell_same _ _ 2 _ 52 _ H1.tab)
  have H3 := H2.var hw hT 3 (.int .i64 c) (heap_setCell_same _ _ 3 _ 52 _ H2.tab)
  have H4 := H3.var hw hT 4 (.int .i64 d) (heap_setCell_same _ _ 4 _ 52 _ H3.tab)
  have H5 := H4.var hw hT 5 (.int .i64 f) (heap_setCell_same _ _ 5 _ 52 _ H4.tab)
  have HF := hideP H5
  clear D1 c2 f2 D2 H1 H2 H3 H4 H5
  go_wp2
  refine bodyPost_ret (results_none rfl _ _ _) rfl ?_
  exact ⟨⟨_, rfl⟩, ⟨_, _, _, _, _, _, _, _, HF.out⟩⟩
 ·have t6 := cell_of_row w1 T 6 _ 52 _ D1.out.tab
  have hxx : (x1 == 0) = false /\ (x1 == 1) = false /\ decide (x1 = 0) = false /\ decide (x1 = 1) = false /\ ¬ x1 = 0 /\ ¬ x1 = 1 := by
   rcases hx23 with rfl | rfl <;> simp
  obtain ⟨p1, p2, p3, p4, p5, p6⟩ := hxx
  clear hx23 hx1 hx1'
  by_cases hq0 : q = 0
  ·have hq0i : (q : Int) = 0 := by omega
   have hqd : decide ((q : Int) = 0) = true := by simp [hq0]
   have hqe : ((q : Int) == 0) = true := by simp [hq0]
   go_wp2
   refine bodyPost_ret (results_none rfl _ _ _) rfl ?_
   exact ⟨⟨_, rfl⟩, ⟨_, _, _, _, _, _, _, _, D1.out⟩⟩
  ·have hq0i : ¬ (q : Int) = 0 := by omega
   have hqd : decide ((q : Int) = 0) = false := by simp [hq0]
   have hqe : ((q : Int) == 0) = false := by simp [hq0]
   obtain ⟨g, hge, hgB, hgz⟩ := ownG_some (n := q) (xs := flatR rs) (by have h := D1.out.own.own; rw [<- HQ.out] at h; exact h) (by omega)
   subst hge
   go_upto_region 6 with fail
   have DA := hideP (D1.out.drew hw hT)
   have hS : w1.drew.cell? ⟨T, 6, none⟩ = some (.slice (some ⟨g, 0, none⟩) q vc) := cell_of_row w1.drew T 6 _ 52 _ DA.out.tab
   refine wp_region_held_drew (S := fun X => X.cell? ⟨T, 6, none⟩ = some (.slice (some ⟨g, 0, none⟩) q vc)) (by kernel_rfl) hS (fun hS => ?_)
   refine tkS (i := 0) (v := .pointer (some ⟨T, 0, none⟩)) rfl hS ?_
   try simp only [sput]
   refine tkS (i := 1) (v := .pointer (some ⟨T, 0, none⟩)) rfl hS ?_
   try simp only [sput]
   refine tkS (i := 2) (v := .pointer (some ⟨T, 6, none⟩)) rfl hS ?_
   try simp only [sput]
   refine tkS (i := 3) (v := (.slice (some ⟨g, 0, none⟩) q vc)) rfl hS ?_
   try simp only [sput]
   refine tkS (i := 4) (v := curP w) rfl hS ?_
   try simp only [sput]
   refine tkS (i := 5) (v := .pointer (some ⟨T, 0, none⟩)) rfl hS ?_
   try simp only [sput]
   refine tkS (i := 6) (v := .pointer (some ⟨T, 0, none⟩)) rfl hS ?_
   try simp only [sput]
   refine tkS (i := 7) (v := .pointer (some ⟨T, 6, none⟩)) rfl hS ?_
   try simp only [sput]
   refine tkS (i := 8) (v := (.slice (some ⟨g, 0, none⟩) q vc)) rfl hS ?_
   try simp only [sput]
   refine tkS (i := 9) (v := .int .i64 (q : Int)) rfl hS ?_
   try simp only [sput]
   refine rdS (i := 10) rfl (fun K hK => ?_)
   go_simp
   go_at_call 39
   refine (belowN_any (q : Int) ao len cap w _ HB.out DA.out.cur (by omega) (by omega)).mono ?_
   rintro e' w2 ⟨x2, rfl, y0, y1, c2, o2⟩
   have D2 := hideP (DA.out.oth hw hT o2 c2)
   have hS2 := cell_of_row w2 T 6 _ 52 _ D2.out.tab
   obtain ⟨i, rfl⟩ := Int.eq_ofNat_of_zero_le y0
   have hiq : i < q := by omega
   have hiqi : (i : Int) < (q : Int) := by omega
   clear DA D1 c2 o2 t6 hS y0
   refine hK.out _ _ hS2 (fun _ => ?_)
   try simp only [sput]
   clear hK K
   refine tkS (i := 11) (v := .pointer (some ⟨g, i * 2, none⟩)) rfl hS2 ?_
   try simp only [sput]
   refine tkS (i := 12) (v := .pointer (some ⟨g, i * 2, none⟩)) rfl hS2 ?_
   try simp only [sput]
   refine wpAnyH_done (by kernel_rfl) ?_ _
   clear hS2 y1
   go_upto_region 7 with fail
   have hir : i < rs.length := by rw [<- HQ.out]; exact hiq
   obtain ⟨r, hr⟩ := exq (rs.getD i DRow.none)
   have HRI := hideP hr
   have hro : OwnRow w0.heap.size w2 r := by rw [hr]; exact D2.out.own.row _ (getD_mem DRow.none hir)
   obtain ⟨ua, uc, hue⟩ := ownG_shape hro.own
   obtain ⟨m, hm⟩ := exq (r.cs.length)
   have HMM := hideP hm
   rw [<- hm] at hue
   have hm5 : m <= 5 := by rw [hm]; exact hro.len
   have HUE := hideP hue
   have CELLS : Hid (∀ X, DTQ w w0 X ao len cap T co gs gp gpo gm gmo (.slice (some ⟨g, 0, none⟩) q vc) rs -> X.cell? ⟨g, i * 2, none⟩ = some (.slice ua m uc) /\ X.cell? ⟨g, i * 2 + 1, none⟩ = some (.int .i64 r.ru) /\ (∀ j, X.frozen? ⟨g, j, none⟩ = false) /\ ∃ cur, X.heap[g]? = some (.cells cur 59 (0, 0))) := hideP (fun X hX => by
    have ho := hX.own.own
    rw [<- HQ.out] at ho
    obtain ⟨q1, q2⟩ := flatR_get rs i hir
    rw [<- HRI.out] at q1 q2
    rw [HUE.out] at q1
    obtain ⟨cur, hc⟩ := own_cells_block ho (show (Value.slice (some ⟨g, 0, none⟩) q vc).ownBlock = some g from rfl)
    have hl : ∀ (j : Nat) (y : Value), (flatR rs)[j]? = some y -> X.cell? ⟨g, j, none⟩ = some y := fun j y hj => by
     have hlt := (List.getElem?_eq_some_iff.1 hj).1
     rw [flatR_len, <- HQ.out] at hlt
     exact (ho.cellAt j hlt).trans hj
    exact ⟨hl _ _ q1, hl _ _ q2, fun j => frozen_of_row X _ j _ _ hc, cur, hc⟩)
   clear hr hro hue hm
   obtain ⟨c0, -, -, -⟩ := CELLS.out w2 D2.out
   go_cut [52] (fun s52 wc => (∃ t : Bool, s52 = .bool t /\ (t = false -> 0 < m)) /\ Hid (DTQ w w0 wc ao len cap T co gs gp gpo gm gmo (.slice (some ⟨g, 0, none⟩) q vc) rs))
   case first =>
    by_cases hm0 : m = 0
    ·have hm0i : (m : Int) = 0 := by omega
     have hmd : decide ((m : Int) = 0) = true := by simp [hm0]
     have hme : ((m : Int) == 0) = true := by simp [hm0]
     go_wp2
     go_meet
     case rel => exact ⟨⟨_, rfl, fun h => by cases h⟩, D2⟩
    ·have hm0i : ¬ (m : Int) = 0 := by omega
     have hmd : decide ((m : Int) = 0) = false := by simp [hm0]
     have hme : ((m : Int) == 0) = false := by simp [hm0]
     go_wp2_with fail
     refine (once_any 4 ao len cap w _ HB.out D2.out.cur (by omega) (by omega)).mono ?_
     rintro e w3 ⟨t3, rfl, c3, o3⟩
     have D3 := hideP (D2.out.oth hw hT o3 c3)
     clear c3 o3 D2 c0
     go_wp2
     go_meet
     case rel => exact ⟨⟨_, rfl, fun _ => by omega⟩, D3⟩
   case rest =>
    obtain ⟨⟨t, rfl, ht⟩, D3⟩ := hcut
    clear D2 c0
    cases t with
    | true =>
     clear ht
     have DA := hideP (D3.out.bel hw hT (below1 wc (.cells #[.int .i64 (-1), .int .i64 5, .int .i64 1073741823, .int .i64 1073741824] 2)))
     have HSL := hideP (heap_alloc_new wc (.cells #[.int .i64 (-1), .int .i64 5, .int .i64 1073741823, .int .i64 1073741824] 2))
     have hTw : w.heap.size < wc.heap.size := D3.out.cur.lt
     go_wp2_with fail
     refine (belowN_any 4 ao len cap w _ HB.out DA.out.cur (by omega) (by omega)).mono ?_
     rintro e w4 ⟨x4, rfl, y0, y1, c4, o4⟩
     have D4 := hideP (DA.out.oth hw hT o4 c4)
     have hsl := (o4 wc.heap.size (by omega)).trans HSL.out
     obtain ⟨qn, rfl⟩ := Int.eq_ofNat_of_zero_le y0
     obtain ⟨x, hcx⟩ := lit4 (qn := qn) hsl (by omega)
     obtain ⟨c0, c1, fz, cur, hcur⟩ := CELLS.out w4 D4.out
     have HF := hideP (D4.out.put hw hgB hcur (by decide) (D4.out.own.putRu HQ.out hir x))
     clear D3 DA c4 o4 HSL hsl D4 hcur c0 CELLS
     go_wp2
     refine bodyPost_ret (results_none rfl _ _ _) rfl ?_
     exact ⟨⟨_, rfl⟩, ⟨_, _, _, _, _, _, _, _, HF.out⟩⟩
    | false =>
     have hm0 := ht rfl
     clear ht
     have hrw : ∀ X, DTQ w w0 X ao len cap T co gs gp gpo gm gmo (.slice (some ⟨g, 0, none⟩) q vc) rs -> OwnRow w0.heap.size X r /\ X.ownsRow w0.heap.size 61 3 (.slice ua m uc) m (flatC r.cs) := fun X hX => by
      have h1 : OwnRow w0.heap.size X r := by rw [HRI.out]; exact hX.own.row _ (getD_mem DRow.none hir)
      have h2 := h1.own
      rw [HUE.out, <- HMM.out] at h2
      exact ⟨h1, h2⟩
     have HRW := hideP hrw
     clear hrw
     obtain ⟨gc, hgce, hgcB, -⟩ := ownG_some (HRW.out wc D3.out).2 hm0
     subst hgce
     go_upto_region 9 with fail
     have DA := hideP (D3.out.drew hw hT)
     have hS : wc.drew.cell? ⟨g, i * 2, none⟩ = some (.slice (some ⟨gc, 0, none⟩) m uc) := (CELLS.out _ DA.out).1
     refine wp_region_held_drew (S := fun X => X.cell? ⟨g, i * 2, none⟩ = some (.slice (some ⟨gc, 0, none⟩) m uc)) (by kernel_rfl) hS (fun hS => ?_)
     refine tkS (i := 0) (v := .pointer (some ⟨g, i * 2, none⟩)) rfl hS ?_
     try simp only [sput]
     refine tkS (i := 1) (v := .pointer (some ⟨g, i * 2, none⟩)) rfl hS ?_
     try simp only [sput]
     refine tkS (i := 2) (v := .pointer (some ⟨g, i * 2, none⟩)) rfl hS ?_
     try simp only [sput]
     refine tkS (i := 3) (v := (.slice (some ⟨gc, 0, none⟩) m uc)) rfl hS ?_
     try simp only [sput]
     refine tkS (i := 4) (v := curP w) rfl hS ?_
     try simp only [sput]
     refine tkS (i := 5) (v := .pointer (some ⟨g, i * 2, none⟩)) rfl hS ?_
     try simp only [sput]
     refine tkS (i := 6) (v := .pointer (some ⟨g, i * 2, none⟩)) rfl hS ?_
     try simp only [sput]
     refine tkS (i := 7) (v := .pointer (some ⟨g, i * 2, none⟩)) rfl hS ?_
     try simp only [sput]
     refine tkS (i := 8) (v := (.slice (some ⟨gc, 0, none⟩) m uc)) rfl hS ?_
     try simp only [sput]
     refine tkS (i := 9) (v := .int .i64 (m : Int)) rfl hS ?_
     try simp only [sput]
     refine rdS (i := 10) rfl (fun K hK => ?_)
     go_simp
     go_at_call 39
     refine (belowN_any (m : Int) ao len cap w _ HB.out DA.out.cur (by omega) (by omega)).mono ?_
     rintro e' w5 ⟨x5, rfl, y0, y1, c5, o5⟩
     have D5 := hideP (DA.out.oth hw hT o5 c5)
     have hS2 := (CELLS.out _ D5.out).1
     obtain ⟨j, rfl⟩ := Int.eq_ofNat_of_zero_le y0
     have hjm : j < m := by omega
     have hjmi : (j : Int) < (m : Int) := by omega
     clear DA D3 c5 o5 hS y0
     refine hK.out _ _ hS2 (fun _ => ?_)
     try simp only [sput]
     clear hK K
     refine tkS (i := 11) (v := .pointer (some ⟨gc, j * 3, none⟩)) rfl hS2 ?_
     try simp only [sput]
     refine tkS (i := 12) (v := .pointer (some ⟨gc, j * 3, none⟩)) rfl hS2 ?_
     try simp only [sput]
     refine wpAnyH_done (by kernel_rfl) ?_ _
     clear hS2 y1 CELLS
     have hjr : j < r.cs.length := by rw [<- HMM.out]; exact hjm
     go_wp2_with fail
     refine (belowN_any 3 ao len cap w _ HB.out D5.out.cur (by omega) (by omega)).mono ?_
     rintro e w6 ⟨x6, rfl, z0, z1, c6, o6⟩
     have D6 := hideP (D5.out.oth hw hT o6 c6)
     have hTw : w.heap.size < w6.heap.size := D6.out.cur.lt
     clear c6 o6 D5
     have CEL : Hid (∀ X, DTQ w w0 X ao len cap T co gs gp gpo gm gmo (.slice (some ⟨g, 0, none⟩) q vc) rs -> X.cell? ⟨gc, j * 3, none⟩ = some (.int .i64 (r.cs.getD j C3z).1) /\ X.cell? ⟨gc, j * 3 + 1, none⟩ = some (.int .i64 (r.cs.getD j C3z).2.1) /\ X.cell? ⟨gc, j * 3 + 2, none⟩ = some (r.cs.getD j C3z).2.2 /\ (∀ k, X.frozen? ⟨gc, k, none⟩ = false) /\ ∃ cur, X.heap[gc]? = some (.cells cur 61 (0, 0))) := hideP (fun X hX => by
      have ho := (HRW.out X hX).2
      obtain ⟨q1, q2, q3⟩ := flatC_get r.cs j hjr
      obtain ⟨cur, hc⟩ := own_cells_block ho (show (Value.slice (some ⟨gc, 0, none⟩) m uc).ownBlock = some gc from rfl)
      have hl : ∀ (k : Nat) (y : Value), (flatC r.cs)[k]? = some y -> X.cell? ⟨gc, k, none⟩ = some y := fun k y hk => by
       have hlt := (List.getElem?_eq_some_iff.1 hk).1
       rw [flatC_len, <- HMM.out] at hlt
       exact (ho.cellAt k hlt).trans hk
      exact ⟨hl _ _ q1, hl _ _ q2, hl _ _ q3, fun k => frozen_of_row X _ k _ _ hc, cur, hc⟩)
     have HU2 : Hid ((rs.getD i DRow.none).u = (.slice (some ⟨gc, 0, none⟩) m uc)) := hideP (by rw [<- HRI.out]; exact HUE.out)
     rcases (show x6 = 0 \/ x6 = 1 \/ x6 = 2 by omega) with rfl | rfl | rfl
     ·clear z0 z1
      have DA := hideP (D6.out.bel hw hT (below1 w6 (.cells #[.int .i64 0, .int .i64 6, .int .i64 (-1), .int .i64 4611686018427387904] 2)))
      have HSL := hideP (heap_alloc_new w6 (.cells #[.int .i64 0, .int .i64 6, .int .i64 (-1), .int .i64 4611686018427387904] 2))
      go_wp2_with fail
      refine (belowN_any 4 ao len cap w _ HB.out DA.out.cur (by omega) (by omega)).mono ?_
      rintro e w7 ⟨x7, rfl, y0, y1, c7, o7⟩
      have D7 := hideP (DA.out.oth hw hT o7 c7)
      have hsl := (o7 w6.heap.size (by omega)).trans HSL.out
      obtain ⟨qn, rfl⟩ := Int.eq_ofNat_of_zero_le y0
      obtain ⟨x, hcx⟩ := lit4 (qn := qn) hsl (by omega)
      obtain ⟨c0, c1, c2, fz, cur, hcur⟩ := CEL.out w7 D7.out
      have HF := hideP (D7.out.put hw hgcB hcur (by decide) (D7.out.own.putCell (q := j * 3) (x := .int .i64 x) hir HU2.out (by rw [<- HRI.out]; exact flatC_sp r.cs j x hjr) (by rw [<- HRI.out]; exact set_map_same C3z _ hjr rfl)))
      clear D6 DA c7 o7 HSL hsl D7 hcur CEL
      go_wp2
      refine bodyPost_end (results_none rfl _ _ _) rfl ?_
      exact ⟨⟨_, rfl⟩, ⟨_, _, _, _, _, _, _, _, HF.out⟩⟩
     ·clear z0 z1
      have DA := hideP (D6.out.bel hw hT (below1 w6 (.cells #[.int .i64 (-1), .int .i64 3] 2)))
      have HSL := hideP (heap_alloc_new w6 (.cells #[.int .i64 (-1), .int .i64 3] 2))
      go_wp2_with fail
      refine (belowN_any 2 ao len cap w _ HB.out DA.out.cur (by omega) (by omega)).mono ?_
      rintro e w7 ⟨x7, rfl, y0, y1, c7, o7⟩
      have D7 := hideP (DA.out.oth hw hT o7 c7)
      have hsl := (o7 w6.heap.size (by omega)).trans HSL.out
      obtain ⟨qn, rfl⟩ := Int.eq_ofNat_of_zero_le y0
      obtain ⟨x, hcx⟩ := lit2 (qn := qn) hsl (by omega)
      obtain ⟨c0, c1, c2, fz, cur, hcur⟩ := CEL.out w7 D7.out
      have HF := hideP (D7.out.put hw hgcB hcur (by decide) (D7.out.own.putCell (q := j * 3 + 1) (x := .int .i64 x) hir HU2.out (by rw [<- HRI.out]; exact flatC_al r.cs j x hjr) (by rw [<- HRI.out]; exact set_map_same C3z _ hjr rfl)))
      clear D6 DA c7 o7 HSL hsl D7 hcur CEL
      go_wp2
      refine bodyPost_end (results_none rfl _ _ _) rfl ?_
      exact ⟨⟨_, rfl⟩, ⟨_, _, _, _, _, _, _, _, HF.out⟩⟩
     ·clear z0 z1
      obtain ⟨c0, c1, c2, -, -, -⟩ := CEL.out w6 D6.out
      obtain ⟨nn, hn20, hon⟩ := (HRW.out w6 D6.out).1.nds _ (getD_mem C3z hjr)
      obtain ⟨la, lc, hle⟩ := hon.shape
      obtain ⟨lv, hlv⟩ := exq ((r.cs.getD j C3z).2.2)
      rw [<- hlv] at hle hon c2
      have HLV := hideP hlv
      clear hlv
      subst hle
      have HON := hideP hon
      have hwz6 : w0.heap.size <= w6.heap.size := D6.out.fram.1
      clear hon CEL
      go_wp2_with fail
      refine (spoil_any ao len cap w w6 HB.out D6.out.cur hw hwz6 HON.out (by omega)).mono ?_
      rintro e w7 ⟨⟨rr, rfl⟩, c7, f7, o7⟩
      have HF : Hid (DTQ w w0 w7 ao len cap T co gs gp gpo gm gmo (.slice (some ⟨g, 0, none⟩) q vc) rs) := hideP (by
       have key : ∀ (Z : Nat) (o : Obj) (c' : Array Value), o = .cells c' 52 (0, 0) -> w.heap.size < Z -> w6.heap[Z]? = some o -> w7.heap[Z]? = some o := fun Z o c' e hZ hz => (f7.2 Z (glt hz) (by omega) (fun e2 => by
        obtain ⟨_, _, c2, hc2⟩ := HON.out.kind e2
        rw [hz, e] at hc2
        simp at hc2)).trans hz
       refine ⟨c7, ⟨Nat.le_trans D6.out.fram.1 f7.1, fun b hb hne => (f7.2 b (Nat.lt_of_lt_of_le hb D6.out.fram.1) hne (fun e2 => by have := (HON.out.kind e2).1; omega)).trans (D6.out.fram.2 b hb hne)⟩, key _ _ _ rfl hw D6.out.res, key _ _ _ rfl (by omega) D6.out.tab, ?_⟩
       refine D6.out.own.spoil hir (j := j) (n := nn) (by rw [<- HRI.out]; exact hjr) (fun b hb1 hb2 hne => f7.2 b hb2 (by omega) (by rw [<- HRI.out, <- HLV.out] at hne; exact hne)) (by rw [<- HRI.out, <- HLV.out]; exact o7) hn20)
      clear D6 c7 f7 o7 HON
      go_wp2
      refine bodyPost_end (results_none rfl _ _ _) rfl ?_
      exact ⟨⟨_, rfl⟩, ⟨_, _, _, _, _, _, _, _, HF.out⟩⟩
end Go.Proofs.YtbbehmcekbnkiaaGreat
