import Derived.Test.YtojoehdmjkgnnaaGreatSdp
import Derived.Test.YtojoehdmjkgnnaaGreatHls
import Derived.Test.YtojoehdmjkgnnaaGreatGlue
import Derived.Deep.RegionHeld3
import Derived.Test.YtojoehdmjkgnnaaGreatTks
namespace Go.Proofs.YtojoehdmjkgnnaaGreat
open Go.RowKit
set_option linter.unusedVariables false
set_option linter.unusedSimpArgs false
theorem okK_more (d : Nat) (len : Int) : ∀ (xs : List Nd) (i : Int) (T : List Int), okK d len i T xs = true → okK (d + 1) len i T xs = true
 | [], _, _, _ => rfl
 | x :: xs, i, T, h => by
  simp only [okK, Bool.and_eq_true, Bool.or_eq_true, decide_eq_true_eq] at h ⊢
  obtain ⟨⟨h1, h2⟩, h3⟩ := h
  refine ⟨⟨h1, ?_⟩, okK_more d len xs _ _ h3⟩
  rcases h2 with h2 | h2
  ·exact .inl h2
  ·exact .inr (by omega)
theorem can_list {xs : List Nd} (h : canB xs = true) : listB xs = true := by
 unfold canB at h
 simp only [Bool.and_eq_true, decide_eq_true_eq] at h
 obtain ⟨⟨h1, h2⟩, h3⟩ := h
 unfold listB
 rw [okFrom_split, okK_more 39 _ _ _ _ h2, h3, decide_eq_true (by omega)]
 rfl
theorem can_in {xs : List Nd} (h : canB xs = true) : ∀ i, i < xs.length → NdIn (xs.getD i Nd.none) := by
 unfold canB at h
 simp only [Bool.and_eq_true, decide_eq_true_eq] at h
 exact fun i hi => good_in (all_getD.1 h.2 i hi)
def begins (xs : List Nd) : List Nat := starts xs (xs.length + 1) 0
def hpS (xs : List Nd) : RS := rowTo xs (begins xs)
def hpTo (xs : List Nd) (mode size : Int) : Int := Shr.alongI (hpS xs).w (hpS xs).gs mode size
def hpQ (xs : List Nd) (mode size : Int) : Int := hpTo xs mode size - (hpS xs).w - Shr.siz (hpS xs).gs
def hpL (xs : List Nd) (mode size : Int) : List Int := Shr.shareL (hpS xs).gs (hpQ xs mode size)
def hpOk (xs : List Nd) (mode size : Int) : Bool := packB xs mode size && Shr.glsOk (hpS xs).gs && (Shr.fitsB (hpTo xs mode size) && Shr.fitsB (hpS xs).w) && fitsB (hpS xs).h && fitsB (hpS xs).d && (hpL xs mode size).all Shr.fitsB
def hpN (xs : List Nd) (mode size : Int) : List Nd := boxN 6 (hpTo xs mode size) (hpS xs).h (hpS xs).d xs.length :: setL (gluesAt xs (begins xs)) (hpL xs mode size) xs
abbrev packV (u : Value) (s : Shr.Sett) : Value := .agg #[u, .int .i64 s.sign, .int .i64 s.order, .int .i64 s.want, .int .i64 s.have_, .int .i64 s.bad, .int .i64 s.over]
abbrev packO (u : Value) (a b c d e f : Int) : Obj := .cells #[u, .int .i64 a, .int .i64 b, .int .i64 c, .int .i64 d, .int .i64 e, .int .i64 f] 30 (0, 0)
theorem loadPack {w : World} {R : Nat} {u : Value} {a b c d e f : Int} (h : w.heap[R]? = some (packO u a b c d e f)) : (loadVar 30 ⟨R, 0, none⟩).run Tryz.prog w = .ok (packV u ⟨a, b, c, d, e, f⟩) w :=
 run_loadVar_row _ _ 30 30 _ (0, 0) _ h Tryz.underlying30 rfl (by kernel_rfl)
theorem results_one_cell {fn : Func} {p : Tmp} {ty : TypeId} (h : fn.results = #[.cell p ty]) (tmps : Array Value) (w : World) (g : Nat) (x : Value) {P : Program}
 (hp : tmps.getD p undef = .pointer (some ⟨g, 0, none⟩)) (hld : (loadVar ty ⟨g, 0, none⟩).run P w = .ok x w) :
 (results fn tmps).run P w = .ok x w := by
 have hp' : tmps[p]?.getD undef = .pointer (some ⟨g, 0, none⟩) := by simpa using hp
 simp [results, h, hp', asAddr, hld, Result.andThen]
theorem pack_cells {w : World} {R : Nat} {u : Value} {a b c d e f : Int} (h : w.heap[R]? = some (packO u a b c d e f)) : w.cell? ⟨R, 0, none⟩ = some u ∧ w.cell? ⟨R, 1, none⟩ = some (.int .i64 a) ∧ w.cell? ⟨R, 2, none⟩ = some (.int .i64 b) ∧ w.cell? ⟨R, 3, none⟩ = some (.int .i64 c) ∧ w.cell? ⟨R, 4, none⟩ = some (.int .i64 d) ∧ w.cell? ⟨R, 5, none⟩ = some (.int .i64 e) ∧ w.cell? ⟨R, 6, none⟩ = some (.int .i64 f) :=
 ⟨cell_of_row w R 0 _ 30 _ h, cell_of_row w R 1 _ 30 _ h, cell_of_row w R 2 _ 30 _ h, cell_of_row w R 3 _ 30 _ h, cell_of_row w R 4 _ 30 _ h, cell_of_row w R 5 _ 30 _ h, cell_of_row w R 6 _ 30 _ h⟩
abbrev sev (w : World) (R : Nat) (u : Value) (a b c d e f : Int) : World := ((((((w.setCell ⟨R, 0, none⟩ u).setCell ⟨R, 1, none⟩ (.int .i64 a)).setCell ⟨R, 2, none⟩ (.int .i64 b)).setCell ⟨R, 3, none⟩ (.int .i64 c)).setCell ⟨R, 4, none⟩ (.int .i64 d)).setCell ⟨R, 5, none⟩ (.int .i64 e)).setCell ⟨R, 6, none⟩ (.int .i64 f)
set_option maxHeartbeats 4000000 in
theorem sev_heap {w : World} {R : Nat} {u0 : Value} {a0 b0 c0 d0 e0 f0 : Int} (h : w.heap[R]? = some (packO u0 a0 b0 c0 d0 e0 f0)) (u : Value) (a b c d e f : Int) : (sev w R u a b c d e f).heap[R]? = some (packO u a b c d e f) :=
 heap_setCell_same _ R 6 _ 30 _ (heap_setCell_same _ R 5 _ 30 _ (heap_setCell_same _ R 4 _ 30 _ (heap_setCell_same _ R 3 _ 30 _ (heap_setCell_same _ R 2 _ 30 _ (heap_setCell_same _ R 1 _ 30 _ (heap_setCell_same _ R 0 _ 30 _ h))))))
theorem sev_below {B : Nat} {w W : World} {R : Nat} (h : Below B w W) (hR : B ≤ R) (u : Value) (a b c d e f : Int) : Below B w (sev W R u a b c d e f) :=
 ((((((h.setCell (p := ⟨R, 0, none⟩) hR _).setCell (p := ⟨R, 1, none⟩) hR _).setCell (p := ⟨R, 2, none⟩) hR _).setCell (p := ⟨R, 3, none⟩) hR _).setCell (p := ⟨R, 4, none⟩) hR _).setCell (p := ⟨R, 5, none⟩) hR _).setCell (p := ⟨R, 6, none⟩) hR _
structure PB (w W : World) : Prop where
 box : W.heap[w.heap.size]? = some (packO (.slice none 0 0) 0 0 0 0 0 0)
 bel : Below w.heap.size w W
theorem PB.start (w : World) : PB w (w.alloc (.cells #[.slice none 0 0, .int .i64 0, .int .i64 0, .int .i64 0, .int .i64 0, .int .i64 0, .int .i64 0] 30)) := ⟨heap_alloc_new w _, below1 _ _⟩
theorem PB.below {w W W' : World} (h : PB w W) (hb : Below W.heap.size W W') : PB w W' :=
 ⟨(hb.block _ (Array.getElem?_eq_some_iff.1 h.box).1).trans h.box, below_more h.bel hb h.bel.size⟩
set_option maxRecDepth 20000 in
set_option maxHeartbeats 8000000 in
theorem specHPack_no {v : Value} {xs : List Nd} {w : World} (mode size : Int) (h : NRow 0 w v xs) (hs : xs.length ≤ 1048576) (hno : hpOk xs mode size = false) :
 Calls Tryz.prog 104 #[v, .int .i64 mode, .int .i64 size] w fun e w' => e = .returned (packV (.slice none 0 0) ⟨0, 0, 0, 0, 0, 0⟩) ∧ Below w.heap.size w w' := by
 have HC : Hid (∀ W, Below w.heap.size w W → Calls Tryz.prog 127 #[v, .int .i64 mode, .int .i64 size] W fun e w' => e = .returned (.bool (packB xs mode size)) ∧ Below W.heap.size W w') := hideP (fun W hW => specCan_any mode size (h.below ndStable hW) hs)
 obtain ⟨ok, hok⟩ : ∃ ok, ok = packB xs mode size := ⟨_, rfl⟩
 rw [← hok] at HC
 have HOK := hideP hok
 have HN := hideP h
 have HNO := hideP hno
 obtain ⟨ao, n, cap, rfl, hl, -⟩ := h
 have HL := hideP hl
 clear hok hl hno
 go_enter Tryz.func104, Tryz.ntmps104
 go_wp2_with fail
 refine (HC.out _ (below1 _ _)).mono ?_
 rintro e w1 ⟨rfl, hb1⟩
 have HP1 : Hid (PB w w1) := hideP ((PB.start w).below hb1)
 clear hb1 HC
 cases ok with
 | false =>
  obtain ⟨r0, r1, r2, r3, r4, r5, r6⟩ := pack_cells HP1.out.box
  have fR : ∀ j, w1.frozen? ⟨w.heap.size, j, none⟩ = false := fun j => frozen_of_row w1 w.heap.size j _ _ HP1.out.box
  have HF : Hid ((sev w1 w.heap.size (.slice none 0 0) 0 0 0 0 0 0).heap[w.heap.size]? = some (packO (.slice none 0 0) 0 0 0 0 0 0) ∧ Below w.heap.size w (sev w1 w.heap.size (.slice none 0 0) 0 0 0 0 0 0)) := hideP ⟨sev_heap HP1.out.box _ _ _ _ _ _ _, sev_below HP1.out.bel (Nat.le_refl _) _ _ _ _ _ _ _⟩
  go_wp2
  exact bodyPost_ret (v := packV (.slice none 0 0) ⟨0, 0, 0, 0, 0, 0⟩) (results_one_cell rfl _ _ w.heap.size _ rfl (loadPack HF.out.1)) rfl ⟨rfl, HF.out.2⟩
 | true =>
  have hpk : packB xs mode size = true := HOK.out.symm
  have hcan : canB xs = true := by unfold packB at hpk; simp only [Bool.and_eq_true] at hpk; exact hpk.1.1
  have hfs : fitsB size = true := by unfold packB at hpk; simp only [Bool.and_eq_true] at hpk; exact hpk.2
  have HFS : Hid (Shr.fitsB size = true) := hideP hfs
  have hin : RIn (hpS xs) (begins xs).length := rowTo_in xs (can_in hcan) _ (fun p hp => starts_lt xs _ _ p hp)
  have hcnt : (begins xs).length ≤ 20000 := by
   have h1 := starts_count (xs := xs) (xs.length + 1) 0
   have h2 := (allOk (can_list hcan)).len
   unfold begins
   omega
  have HWB : Hid (-1152921504606846976 ≤ (hpS xs).w ∧ (hpS xs).w ≤ 1152921504606846976) := hideP ⟨by have := hin.w1; omega, by have := hin.w2; omega⟩
  have HGN : Hid ((hpS xs).gs.length ≤ 1048576) := hideP (by have := hin.n; omega)
  have HROW : Hid (∀ W, Below w.heap.size w W → Calls Tryz.prog 128 #[.slice ao n cap] W fun e w' => (∃ u, e = .returned (.tuple #[.int .i64 (hpS xs).w, u, .int .i64 (hpS xs).h, .int .i64 (hpS xs).d]) ∧ w'.ownsRow W.heap.size 34 5 u (hpS xs).gs.length (f5 (hpS xs).gs)) ∧ Below W.heap.size W w') := hideP (fun W hW => specRow_any (HN.out.below ndStable hW) (allOk (can_list hcan)) (can_in hcan))
  have HALL : Hid (hpOk xs mode size = (Shr.glsOk (hpS xs).gs && (Shr.fitsB (hpTo xs mode size) && Shr.fitsB (hpS xs).w) && fitsB (hpS xs).h && fitsB (hpS xs).d && (hpL xs mode size).all Shr.fitsB)) := hideP (by unfold hpOk; rw [hpk]; rfl)
  clear hpk hcan hfs hin hcnt
  go_wp2_with fail
  refine (HROW.out _ HP1.out.bel).mono ?_
  rintro e w2 ⟨⟨u, rfl, hown⟩, hb2⟩
  have HP2 : Hid (PB w w2) := hideP (HP1.out.below hb2)
  have HGR : Hid (Shr.GRow w2 u (hpS xs).gs) := hideP (own_GRow hown rfl)
  clear hown hb2 HROW HP1
  cases hgl : Shr.glsOk (hpS xs).gs with
  | false =>
   have HGL := hideP hgl
   clear hgl
   go_wp2_with fail
   refine (Shr.along_no _ mode size HGR.out HGN.out HGL.out).mono ?_
   rintro e w3 ⟨rfl, hb3⟩
   have HP3 : Hid (PB w w3) := hideP (HP2.out.below hb3)
   clear hb3 HP2
   obtain ⟨r0, r1, r2, r3, r4, r5, r6⟩ := pack_cells HP3.out.box
   have fR : ∀ j, w3.frozen? ⟨w.heap.size, j, none⟩ = false := fun j => frozen_of_row w3 w.heap.size j _ _ HP3.out.box
   have HF : Hid ((sev w3 w.heap.size (.slice none 0 0) 0 0 0 0 0 0).heap[w.heap.size]? = some (packO (.slice none 0 0) 0 0 0 0 0 0) ∧ Below w.heap.size w (sev w3 w.heap.size (.slice none 0 0) 0 0 0 0 0 0)) := hideP ⟨sev_heap HP3.out.box _ _ _ _ _ _ _, sev_below HP3.out.bel (Nat.le_refl _) _ _ _ _ _ _ _⟩
   go_wp2
   exact bodyPost_ret (v := packV (.slice none 0 0) ⟨0, 0, 0, 0, 0, 0⟩) (results_one_cell rfl _ _ w.heap.size _ rfl (loadPack HF.out.1)) rfl ⟨rfl, HF.out.2⟩
  | true =>
   have HGL := hideP hgl
   clear hgl
   go_wp2_with fail
   refine (Shr.along_ok _ mode size HGR.out HGL.out HWB.out HFS.out).mono ?_
   rintro e w3 ⟨rfl, hb3⟩
   have HP3 : Hid (PB w w3) := hideP (HP2.out.below hb3)
   have HGR3 : Hid (Shr.GRow w3 u (hpS xs).gs) := hideP (HGR.out.below hb3)
   clear hb3 HP2 HGR
   rw [show Shr.alongI (hpS xs).w (hpS xs).gs mode size = hpTo xs mode size from rfl]
   obtain ⟨tt, htt⟩ : ∃ tt, tt = hpTo xs mode size := ⟨_, rfl⟩
   rw [← htt]
   have HTT := hideP htt
   clear htt
   obtain ⟨fo, hfo⟩ : ∃ fo, fo = (Shr.fitsB tt && Shr.fitsB (hpS xs).w) := ⟨_, rfl⟩
   rw [← hfo]
   have HFO := hideP hfo
   clear hfo
   cases fo with
   | false =>
    obtain ⟨r0, r1, r2, r3, r4, r5, r6⟩ := pack_cells HP3.out.box
    have fR : ∀ j, w3.frozen? ⟨w.heap.size, j, none⟩ = false := fun j => frozen_of_row w3 w.heap.size j _ _ HP3.out.box
    have HF : Hid ((sev w3 w.heap.size (.slice none 0 0) 0 0 0 0 0 0).heap[w.heap.size]? = some (packO (.slice none 0 0) 0 0 0 0 0 0) ∧ Below w.heap.size w (sev w3 w.heap.size (.slice none 0 0) 0 0 0 0 0 0)) := hideP ⟨sev_heap HP3.out.box _ _ _ _ _ _ _, sev_below HP3.out.bel (Nat.le_refl _) _ _ _ _ _ _ _⟩
    go_wp2
    exact bodyPost_ret (v := packV (.slice none 0 0) ⟨0, 0, 0, 0, 0, 0⟩) (results_one_cell rfl _ _ w.heap.size _ rfl (loadPack HF.out.1)) rfl ⟨rfl, HF.out.2⟩
   | true =>
    go_wp2_with fail
    refine (specFits_any (hpS xs).h _).mono ?_
    rintro e w4 ⟨rfl, rfl⟩
    obtain ⟨fh, hfh⟩ : ∃ fh, fh = fitsB (hpS xs).h := ⟨_, rfl⟩
    rw [← hfh]
    have HFH := hideP hfh
    clear hfh
    cases fh with
    | false =>
     obtain ⟨r0, r1, r2, r3, r4, r5, r6⟩ := pack_cells HP3.out.box
     have fR : ∀ j, w4.frozen? ⟨w.heap.size, j, none⟩ = false := fun j => frozen_of_row w4 w.heap.size j _ _ HP3.out.box
     have HF : Hid ((sev w4 w.heap.size (.slice none 0 0) 0 0 0 0 0 0).heap[w.heap.size]? = some (packO (.slice none 0 0) 0 0 0 0 0 0) ∧ Below w.heap.size w (sev w4 w.heap.size (.slice none 0 0) 0 0 0 0 0 0)) := hideP ⟨sev_heap HP3.out.box _ _ _ _ _ _ _, sev_below HP3.out.bel (Nat.le_refl _) _ _ _ _ _ _ _⟩
     go_wp2
     exact bodyPost_ret (v := packV (.slice none 0 0) ⟨0, 0, 0, 0, 0, 0⟩) (results_one_cell rfl _ _ w.heap.size _ rfl (loadPack HF.out.1)) rfl ⟨rfl, HF.out.2⟩
    | true =>
     go_wp2_with fail
     refine (specFits_any (hpS xs).d _).mono ?_
     rintro e w5 ⟨rfl, rfl⟩
     obtain ⟨fd, hfd⟩ : ∃ fd, fd = fitsB (hpS xs).d := ⟨_, rfl⟩
     rw [← hfd]
     have HFD := hideP hfd
     clear hfd
     cases fd with
     | false =>
      obtain ⟨r0, r1, r2, r3, r4, r5, r6⟩ := pack_cells HP3.out.box
      have fR : ∀ j, w5.frozen? ⟨w.heap.size, j, none⟩ = false := fun j => frozen_of_row w5 w.heap.size j _ _ HP3.out.box
      have HF : Hid ((sev w5 w.heap.size (.slice none 0 0) 0 0 0 0 0 0).heap[w.heap.size]? = some (packO (.slice none 0 0) 0 0 0 0 0 0) ∧ Below w.heap.size w (sev w5 w.heap.size (.slice none 0 0) 0 0 0 0 0 0)) := hideP ⟨sev_heap HP3.out.box _ _ _ _ _ _ _, sev_below HP3.out.bel (Nat.le_refl _) _ _ _ _ _ _ _⟩
      go_wp2
      exact bodyPost_ret (v := packV (.slice none 0 0) ⟨0, 0, 0, 0, 0, 0⟩) (results_one_cell rfl _ _ w.heap.size _ rfl (loadPack HF.out.1)) rfl ⟨rfl, HF.out.2⟩
     | true =>
      have HFW : Hid (Shr.fitsB tt = true ∧ Shr.fitsB (hpS xs).w = true) := hideP (by have h := HFO.out.symm; simpa only [Bool.and_eq_true] using h)
      go_wp2_with fail
      refine (Shr.specShare_ok (hpS xs).w tt (hpQ xs mode size) HGR3.out HGL.out HFW.out.2 HFW.out.1 (by unfold hpQ; rw [← HTT.out])).mono ?_
      rintro e w6 ⟨⟨vl, rfl, hrow⟩, hb6⟩
      have HP6 : Hid (PB w w6) := hideP (HP3.out.below hb6)
      have HRL : Hid (Shr.Row w6 vl (hpL xs mode size)) := hideP hrow
      have HLN : Hid ((hpL xs mode size).length ≤ 1048576) := hideP (by unfold hpL; rw [Shr.shareL_length]; exact HGN.out)
      clear hb6 hrow HP3
      go_wp2_with fail
      refine (Shr.fitsAll_any (HRL.out.below (below1 _ _)) HLN.out).mono ?_
      rintro e w7 ⟨rfl, hw7⟩
      have HP7 : Hid (PB w w7) := hideP (by rw [hw7]; exact HP6.out.below (below1 _ _))
      clear hw7 HP6
      obtain ⟨fl, hfl⟩ : ∃ fl, fl = (hpL xs mode size).all Shr.fitsB := ⟨_, rfl⟩
      rw [← hfl]
      have HFL := hideP hfl
      clear hfl
      cases fl with
      | false =>
       obtain ⟨r0, r1, r2, r3, r4, r5, r6⟩ := pack_cells HP7.out.box
       have fR : ∀ j, w7.frozen? ⟨w.heap.size, j, none⟩ = false := fun j => frozen_of_row w7 w.heap.size j _ _ HP7.out.box
       have HF : Hid ((sev w7 w.heap.size (.slice none 0 0) 0 0 0 0 0 0).heap[w.heap.size]? = some (packO (.slice none 0 0) 0 0 0 0 0 0) ∧ Below w.heap.size w (sev w7 w.heap.size (.slice none 0 0) 0 0 0 0 0 0)) := hideP ⟨sev_heap HP7.out.box _ _ _ _ _ _ _, sev_below HP7.out.bel (Nat.le_refl _) _ _ _ _ _ _ _⟩
       go_wp2
       exact bodyPost_ret (v := packV (.slice none 0 0) ⟨0, 0, 0, 0, 0, 0⟩) (results_one_cell rfl _ _ w.heap.size _ rfl (loadPack HF.out.1)) rfl ⟨rfl, HF.out.2⟩
      | true =>
       exfalso
       have h1 := HNO.out
       rw [HALL.out, HGL.out, ← HTT.out, ← HFO.out, ← HFH.out, ← HFD.out, ← HFL.out] at h1
       exact absurd h1 (by decide)
abbrev bunO (k wd h d len : Int) (g p : Value) : Obj := .cells #[.int .i64 k, .int .i64 wd, .int .i64 h, .int .i64 d, .int .i64 0, .int .i64 0, .int .i64 len, g, p] 144 (0, 0)
structure Bun (W : World) (R : Nat) (k wd h d len : Int) (g p : Value) : Prop where
 box : W.heap[R]? = some (bunO k wd h d len g p)
theorem Bun.cells {W : World} {R : Nat} {k wd h d len : Int} {g p : Value} (B : Bun W R k wd h d len g p) : W.cell? ⟨R, 0, none⟩ = some (.int .i64 k) ∧ W.cell? ⟨R, 1, none⟩ = some (.int .i64 wd) ∧ W.cell? ⟨R, 2, none⟩ = some (.int .i64 h) ∧ W.cell? ⟨R, 3, none⟩ = some (.int .i64 d) ∧ W.cell? ⟨R, 4, none⟩ = some (.int .i64 0) ∧ W.cell? ⟨R, 5, none⟩ = some (.int .i64 0) ∧ W.cell? ⟨R, 6, none⟩ = some (.int .i64 len) ∧ W.cell? ⟨R, 7, none⟩ = some g ∧ W.cell? ⟨R, 8, none⟩ = some p :=
 ⟨cell_of_row W R 0 _ 144 _ B.box, cell_of_row W R 1 _ 144 _ B.box, cell_of_row W R 2 _ 144 _ B.box, cell_of_row W R 3 _ 144 _ B.box, cell_of_row W R 4 _ 144 _ B.box, cell_of_row W R 5 _ 144 _ B.box, cell_of_row W R 6 _ 144 _ B.box, cell_of_row W R 7 _ 144 _ B.box, cell_of_row W R 8 _ 144 _ B.box⟩
theorem Bun.free {W : World} {R : Nat} {k wd h d len : Int} {g p : Value} (B : Bun W R k wd h d len g p) : ∀ j, W.frozen? ⟨R, j, none⟩ = false := fun j => frozen_of_row W R j _ _ B.box
theorem Bun.lt {W : World} {R : Nat} {k wd h d len : Int} {g p : Value} (B : Bun W R k wd h d len g p) : R < W.heap.size := (Array.getElem?_eq_some_iff.1 B.box).1
theorem Bun.same {W W' : World} {R : Nat} {k wd h d len : Int} {g p : Value} (B : Bun W R k wd h d len g p) (hq : W'.heap[R]? = W.heap[R]?) : Bun W' R k wd h d len g p := ⟨hq.trans B.box⟩
theorem Bun.below {W W' : World} {R : Nat} {k wd h d len : Int} {g p : Value} (B : Bun W R k wd h d len g p) (hb : Below W.heap.size W W') : Bun W' R k wd h d len g p := B.same (hb.block _ B.lt)
theorem Bun.drew {W : World} {R : Nat} {k wd h d len : Int} {g p : Value} (B : Bun W R k wd h d len g p) : Bun W.drew R k wd h d len g p := ⟨B.box⟩
theorem Bun.alloc {W : World} {R : Nat} {k wd h d len : Int} {g p : Value} (B : Bun W R k wd h d len g p) (o : Obj) : Bun (W.alloc o) R k wd h d len g p := B.below (below1 _ _)
theorem Bun.setH {W : World} {R : Nat} {k wd h d len : Int} {g p : Value} (B : Bun W R k wd h d len g p) (x : Int) : Bun (W.setCell ⟨R, 2, none⟩ (.int .i64 x)) R k wd x d len g p := ⟨heap_setCell_same _ R 2 _ 144 _ B.box⟩
theorem Bun.setD {W : World} {R : Nat} {k wd h d len : Int} {g p : Value} (B : Bun W R k wd h d len g p) (x : Int) : Bun (W.setCell ⟨R, 3, none⟩ (.int .i64 x)) R k wd h x len g p := ⟨heap_setCell_same _ R 3 _ 144 _ B.box⟩
theorem Bun.setL {W : World} {R : Nat} {k wd h d len : Int} {g p : Value} (B : Bun W R k wd h d len g p) (x : Int) : Bun (W.setCell ⟨R, 6, none⟩ (.int .i64 x)) R k wd h d x g p := ⟨heap_setCell_same _ R 6 _ 144 _ B.box⟩
theorem Bun.setG {W : World} {R : Nat} {k wd h d len : Int} {g p : Value} (B : Bun W R k wd h d len g p) (x : Value) : Bun (W.setCell ⟨R, 7, none⟩ x) R k wd h d len x p := ⟨heap_setCell_same _ R 7 _ 144 _ B.box⟩
theorem Bun.setP {W : World} {R : Nat} {k wd h d len : Int} {g p : Value} (B : Bun W R k wd h d len g p) (x : Value) : Bun (W.setCell ⟨R, 8, none⟩ x) R k wd h d len g x := ⟨heap_setCell_same _ R 8 _ 144 _ B.box⟩
theorem frDrew {L : Nat} {w a : World} (h : Shr.Fr L w a) : Shr.Fr L w a.drew := h
theorem mx_max (a b : Int) : Shr.mxI a b = max a b := by
 unfold Shr.mxI
 split <;> omega
set_option maxRecDepth 20000 in
set_option maxHeartbeats 4000000 in
theorem beside_any {w : World} {R : Nat} {k wd h d len : Int} {g p : Value} (a b c s : Int) (B : Bun w R k wd h d len g p)
 (hl : -1152921504606846976 ≤ len ∧ len ≤ 1152921504606846976) (ha : -1073741823 ≤ a ∧ a ≤ 1073741823) (hb : -1073741823 ≤ b ∧ b ≤ 1073741823) (hc : -1073741823 ≤ c ∧ c ≤ 1073741823) (hs : -1073741823 ≤ s ∧ s ≤ 1073741823) :
 Calls Tryz.prog 79 #[.pointer (some ⟨R, 0, none⟩), .agg #[.int .i64 a, .int .i64 b, .int .i64 c], .int .i64 s] w fun e w' => (∃ v, e = .returned v) ∧ Bun w' R k wd (Shr.mxI h (b - s)) (Shr.mxI d (c + s)) (len + a) g p ∧ Shr.Fr R w w' := by
 obtain ⟨b0, b1, b2, b3, b4, b5, b6, b7, b8⟩ := B.cells
 have fz := B.free
 have hR := B.lt
 have HB := hideP B
 have w1 : IntKind.i64.wrap (len + a) = len + a := by rw [IntKind.wrap_i64]; omega
 have w2 : IntKind.i64.wrap (b - s) = b - s := by rw [IntKind.wrap_i64]; omega
 have w3 : IntKind.i64.wrap (c + s) = c + s := by rw [IntKind.wrap_i64]; omega
 clear hl ha hb hc hs B
 go_enter Tryz.func79, Tryz.ntmps79
 go_wp2
 go_region
 go_wp2
 go_region
 go_wp2
 go_region
 go_wp2
 go_end0
 rw [mx_max, mx_max]
 refine ⟨⟨_, rfl⟩, ?_, ?_⟩
 ·exact (((((HB.out.setL _).setH _).setD _).alloc _).drew).drew.drew
 ·exact frDrew (frDrew (frDrew (Shr.Fr.alloc (Shr.Fr.set (Shr.Fr.set (Shr.Fr.set (Shr.Fr.refl R w) (.inl rfl) _) (.inl rfl) _) (.inl rfl) _) _)))
structure Frs (S : Nat → Prop) (w w' : World) : Prop where
 os : w'.os = w.os
 tape : w'.tape = w.tape
 out : w'.output = w.output
 size : w.heap.size ≤ w'.heap.size
 block : ∀ b, b < w.heap.size → ¬ S b → w'.heap[b]? = w.heap[b]?
theorem Frs.refl (S : Nat → Prop) (w : World) : Frs S w w := ⟨rfl, rfl, rfl, Nat.le_refl _, fun _ _ _ => rfl⟩
theorem Frs.below {S : Nat → Prop} {w a b : World} (h : Frs S w a) (hb : Below a.heap.size a b) : Frs S w b :=
 ⟨hb.os.trans h.os, hb.tape.trans h.tape, hb.output.trans h.out, Nat.le_trans h.size hb.size, fun x hx hn => (hb.block x (Nat.lt_of_lt_of_le hx h.size)).trans (h.block x hx hn)⟩
theorem Frs.grown {S : Nat → Prop} {w a b : World} {r : Option Nat} (h : Frs S w a) (hg : a.grownBy b r) (hr : ∀ j, r = some j → S j ∨ w.heap.size ≤ j) : Frs S w b :=
 ⟨hg.os.trans h.os, hg.tape.trans h.tape, hg.output.trans h.out, Nat.le_trans h.size hg.size, fun x hx hn => (hg.block x (Nat.lt_of_lt_of_le hx h.size) (fun e => by rcases hr x e.symm with h1 | h1; exact hn h1; omega)).trans (h.block x hx hn)⟩
theorem Frs.set {S : Nat → Prop} {w a : World} (h : Frs S w a) {p : Addr} (hp : S p.block) (v : Value) : Frs S w (a.setCell p v) :=
 ⟨h.os, h.tape, h.out, by simpa [World.setCell] using h.size, fun x hx hn => (Below.heap_setCell _ _ _ _ (fun e => hn (by rw [e]; exact hp))).trans (h.block x hx hn)⟩
theorem Frs.toBelow {S : Nat → Prop} {B : Nat} {w0 w a : World} (h0 : Below B w0 w) (h : Frs S w a) (hS : ∀ b, S b → B ≤ b) (hB : B ≤ w.heap.size) : Below B w0 a :=
 ⟨h.os.trans h0.os, h.tape.trans h0.tape, h.out.trans h0.output, Nat.le_trans h0.size h.size, fun k hk => (h.block k (Nat.lt_of_lt_of_le hk hB) (fun hs => by have := hS k hs; omega)).trans (h0.block k hk)⟩
theorem own_neR {W : World} {B0 R e s n : Nat} {k wd h d len : Int} {g p v : Value} {xs : List Value} (B : Bun W R k wd h d len g p) (o : W.ownsRow B0 e s v n xs) (he : e ≠ 144) : v.ownBlock ≠ some R := by
 rcases o.2 with ⟨rfl, _⟩ | ⟨g', cap, cur, rfl, _, hh, _⟩
 ·intro e; cases e
 ·intro e
  simp only [Value.ownBlock, Option.some.injEq] at e
  subst e
  rw [B.box] at hh
  cases hh
  exact he rfl
theorem own_setR {W : World} {B0 R e s n : Nat} {v : Value} {xs : List Value} (o : W.ownsRow B0 e s v n xs) (hne : v.ownBlock ≠ some R) (j : Nat) (u : Value) : (W.setCell ⟨R, j, none⟩ u).ownsRow B0 e s v n xs :=
 ownG_same o (fun g hg => Below.heap_setCell _ _ _ _ (fun e => hne (by rw [hg]; exact congrArg some e)))
set_option maxRecDepth 20000 in
set_option maxHeartbeats 8000000 in
theorem addGlue_any {w : World} {R B0 n m : Nat} {k wd h d len : Int} {g p : Value} {gs : List Shr.Gl} {ps : List Value} (at_ : Int) (y : Shr.Gl) (B : Bun w R k wd h d len g p) (og : w.ownsRow B0 34 5 g n (f5 gs)) (op : w.ownsRow B0 3 1 p m ps) (hB0 : B0 ≤ R) (hn : n ≤ 20001) (hm : m ≤ 20001) :
 Calls Tryz.prog 80 #[.pointer (some ⟨R, 0, none⟩), .int .i64 at_, .agg #[.int .i64 y.s, .int .i64 y.p, .int .i64 y.po, .int .i64 y.m, .int .i64 y.mo]] w fun e w' => (∃ v, e = .returned v) ∧ (∃ g' p', Bun w' R k wd h d len g' p' ∧ w'.ownsRow B0 34 5 g' (n + 1) (f5 (gs ++ [y])) ∧ w'.ownsRow B0 3 1 p' (m + 1) (ps ++ [.int .i64 at_])) ∧ Frs (fun b => b = R ∨ g.ownBlock = some b ∨ p.ownBlock = some b) w w' := by
 obtain ⟨i0, hi0, hy0, hy1, hy2⟩ := info_parts Shr.Tryz.info34
 obtain ⟨i1, hi1, hz0, hz1, hz2⟩ := info_parts Tryz.info3
 have hRw := B.lt
 have hBw : B0 ≤ w.heap.size := Nat.le_trans hB0 (Nat.le_of_lt hRw)
 obtain ⟨ga, gc, rfl⟩ := ownG_shape og
 obtain ⟨pa, pc, rfl⟩ := ownG_shape op
 have HY : Hid (f5 (gs ++ [y]) = f5 gs ++ [.int .i64 y.s, .int .i64 y.p, .int .i64 y.po, .int .i64 y.m, .int .i64 y.mo]) := hideP (f5_snoc gs y)
 obtain ⟨L, hL⟩ : ∃ L, L = f5 gs := ⟨_, rfl⟩
 rw [← hL] at og HY
 clear hL
 have HB := hideP B
 have OG := hideP og
 have OP := hideP op
 have HGP : Hid ((Value.slice pa m pc).ownBlock = none ∨ (Value.slice pa m pc).ownBlock ≠ (Value.slice ga n gc).ownBlock) := hideP (ownG_ne op og (by decide))
 have HGR : Hid ((Value.slice ga n gc).ownBlock ≠ some R) := hideP (own_neR B og (by decide))
 obtain ⟨b0, b1, b2, b3, b4, b5, b6, b7, b8⟩ := B.cells
 have fz := B.free
 clear og op B
 obtain ⟨y0, y1, y2, y3, y4⟩ := y
 go_enter Tryz.func80, Tryz.ntmps80
 go_wp2_with fail
 obtain ⟨WA, hWA⟩ : ∃ WA, WA = w.alloc (.cells #[.int .i64 y0, .int .i64 y1, .int .i64 y2, .int .i64 y3, .int .i64 y4] 34) := ⟨_, rfl⟩
 rw [← hWA]
 have BA : Hid (Bun WA R k wd h d len (.slice ga n gc) (.slice pa m pc)) := hideP (by rw [hWA]; exact HB.out.alloc _)
 have hsA : WA.heap.size = w.heap.size + 1 := by rw [hWA]; simp
 have HSX : Hid (∀ X : World, X.heap[w.heap.size]? = WA.heap[w.heap.size]? → X.cell? ⟨w.heap.size, 0, none⟩ = some (.int .i64 y0) ∧ X.cell? ⟨w.heap.size, 1, none⟩ = some (.int .i64 y1) ∧ X.cell? ⟨w.heap.size, 2, none⟩ = some (.int .i64 y2) ∧ X.cell? ⟨w.heap.size, 3, none⟩ = some (.int .i64 y3) ∧ X.cell? ⟨w.heap.size, 4, none⟩ = some (.int .i64 y4)) := hideP (fun X hX => by
  have k1 : X.heap[w.heap.size]? = some (.cells #[.int .i64 y0, .int .i64 y1, .int .i64 y2, .int .i64 y3, .int .i64 y4] 34 (0, 0)) := by rw [hX, hWA]; exact heap_alloc_new w _
  exact ⟨cell_of_row X _ 0 _ 34 _ k1, cell_of_row X _ 1 _ 34 _ k1, cell_of_row X _ 2 _ 34 _ k1, cell_of_row X _ 3 _ 34 _ k1, cell_of_row X _ 4 _ 34 _ k1⟩)
 have OGA : Hid (WA.ownsRow B0 34 5 (.slice ga n gc) n L) := hideP (by rw [hWA]; exact OG.out.alloc _)
 have OPA : Hid (WA.ownsRow B0 3 1 (.slice pa m pc) m ps) := hideP (by rw [hWA]; exact OP.out.alloc _)
 have FA : Hid (Frs (fun b => b = R ∨ (Value.slice ga n gc).ownBlock = some b ∨ (Value.slice pa m pc).ownBlock = some b) w WA) := hideP (by rw [hWA]; exact (Frs.refl _ _).below (below1 _ _))
 have HGT : Hid ((Value.slice ga n gc).ownBlock ≠ some w.heap.size) := hideP (fun e => by have := (World.ownsRow.lt OG.out _ e).2; omega)
 obtain ⟨a0, a1, a2, a3, a4, a5, a6, a7, a8⟩ := BA.out.cells
 have fzA := BA.out.free
 have hRA := BA.out.lt
 clear hWA b0 b1 b2 b3 b4 b5 b6 b7 b8 fz
 refine wp_region_held_drew (S := fun x => x.cell? ⟨w.heap.size, 0, none⟩ = some (.int .i64 y0) ∧ x.cell? ⟨w.heap.size, 1, none⟩ = some (.int .i64 y1) ∧ x.cell? ⟨w.heap.size, 2, none⟩ = some (.int .i64 y2) ∧ x.cell? ⟨w.heap.size, 3, none⟩ = some (.int .i64 y3) ∧ x.cell? ⟨w.heap.size, 4, none⟩ = some (.int .i64 y4)) (by kernel_rfl) (HSX.out WA.drew rfl) (fun hS => ?_)
 refine tkS (i := 0) (v := .pointer (some ⟨R, 0, none⟩)) rfl (by kernel_rfl) (by first | rfl | go_simp) (fun wx hx => by obtain ⟨hx0, hx1, hx2, hx3, hx4⟩ := hx; go_simp) hS ?_
 try simp only [sput]
 refine tkS (i := 1) (v := .pointer (some ⟨R, 0, none⟩)) rfl (by kernel_rfl) (by first | rfl | go_simp) (fun wx hx => by obtain ⟨hx0, hx1, hx2, hx3, hx4⟩ := hx; go_simp) hS ?_
 try simp only [sput]
 refine tkS (i := 2) (v := .pointer (some ⟨R, 0, none⟩)) rfl (by kernel_rfl) (by first | rfl | go_simp) (fun wx hx => by obtain ⟨hx0, hx1, hx2, hx3, hx4⟩ := hx; go_simp) hS ?_
 try simp only [sput]
 refine tkS (i := 3) (v := .pointer (some ⟨R, 7, none⟩)) rfl (by kernel_rfl) (by first | rfl | go_simp) (fun wx hx => by obtain ⟨hx0, hx1, hx2, hx3, hx4⟩ := hx; go_simp) hS ?_
 try simp only [sput]
 refine tkS (i := 5) (v := .agg #[.int .i64 y0, .int .i64 y1, .int .i64 y2, .int .i64 y3, .int .i64 y4]) rfl (by kernel_rfl) (by first | rfl | go_simp) (fun wx hx => by obtain ⟨hx0, hx1, hx2, hx3, hx4⟩ := hx; go_simp) hS ?_
 try simp only [sput]
 obtain ⟨WB, hWB⟩ : ∃ WB, WB = (WA.alloc (.cells #[.int .i64 y0, .int .i64 y1, .int .i64 y2, .int .i64 y3, .int .i64 y4] 34)).drew := ⟨_, rfl⟩
 have BB : Hid (Bun WB R k wd h d len (.slice ga n gc) (.slice pa m pc)) := hideP (by rw [hWB]; exact (BA.out.alloc _).drew)
 have OGB : Hid (WB.ownsRow B0 34 5 (.slice ga n gc) n L) := hideP (by rw [hWB]; exact ownG_below OGA.out ((Below.alloc (Below.refl _ _) (Nat.le_refl _) _).drew))
 have OPB : Hid (WB.ownsRow B0 3 1 (.slice pa m pc) m ps) := hideP (by rw [hWB]; exact ownG_below OPA.out ((Below.alloc (Below.refl _ _) (Nat.le_refl _) _).drew))
 have FB : Hid (Frs (fun b => b = R ∨ (Value.slice ga n gc).ownBlock = some b ∨ (Value.slice pa m pc).ownBlock = some b) w WB) := hideP (by rw [hWB]; exact FA.out.below ((Below.alloc (Below.refl _ _) (Nat.le_refl _) _).drew))
 have hsB : WB.heap.size = w.heap.size + 1 + 1 := by rw [hWB]; show (WA.alloc _).heap.size = _; rw [World.size_alloc, hsA]
 have HSB : Hid (WB.cell? ⟨w.heap.size, 0, none⟩ = some (.int .i64 y0) ∧ WB.cell? ⟨w.heap.size, 1, none⟩ = some (.int .i64 y1) ∧ WB.cell? ⟨w.heap.size, 2, none⟩ = some (.int .i64 y2) ∧ WB.cell? ⟨w.heap.size, 3, none⟩ = some (.int .i64 y3) ∧ WB.cell? ⟨w.heap.size, 4, none⟩ = some (.int .i64 y4)) := hideP (HSX.out WB (by rw [hWB]; exact Below.heap_alloc WA _ _ (by omega)))
 have NB : Hid (∀ j u, [.int .i64 y0, .int .i64 y1, .int .i64 y2, .int .i64 y3, .int .i64 y4][j]? = some u → WB.cell? ((⟨w.heap.size + 1, 0, none⟩ : Addr).add j) = some u) := hideP (by rw [hWB, ← hsA]; exact new5 WA _ _ _ _ _ 34)
 have c7B := BB.out.cells.2.2.2.2.2.2.2.1
 refine wpAnyH_ready (rs := [4, 6]) (by kernel_rfl) (by simp) ?_
 refine AllReadyH.cons rfl (fun K hK => ?_) (AllReadyH.cons rfl (fun K hK => ?_) AllReadyH.nil)
 ·rw [if_pos (by first | rfl | go_simp)]
  go_simp
  refine hK.out _ _ (HSX.out WA.drew rfl) (fun hS => ?_)
  try simp only [sput]
  clear hK K
  refine wpAnyH_ready (rs := [6]) (by kernel_rfl) (by simp) ?_
  refine AllReadyH.cons rfl (fun K hK => ?_) AllReadyH.nil
  rw [if_pos (by first | rfl | go_simp)]
  go_simp
  refine hK.out _ _ (by rw [← hWB]; exact HSB.out) (fun hS => ?_)
  try simp only [sput]
  clear hK K
  refine wpAnyH_ready (rs := [7]) (by kernel_rfl) (by simp) ?_
  refine AllReadyH.cons rfl (fun K hK => ?_) AllReadyH.nil
  rw [if_pos (by first | rfl | go_simp)]
  rw [← hWB]
  refine wp_append_own _ _ _ 141 rfl B0 34 i0 (.agg #[.int .i64 0, .int .i64 0, .int .i64 0, .int .i64 0, .int .i64 0]) 5 40 Tryz.underlying141 hi0 hy0 hy1 hy2 rfl (by decide) (.slice ga n gc) n L rfl OGB.out ⟨w.heap.size + 1, 0, none⟩ 1 1 [.int .i64 y0, .int .i64 y1, .int .i64 y2, .int .i64 y3, .int .i64 y4] rfl rfl NB.out (one5 _ _ _ _ _) (by unfold maxLen; omega) (by omega) (by omega) ?_
  intro v6 w6 ho6 hg6 hn6
  obtain ⟨u6, d6, rfl⟩ := ownG_shape ho6
  have B6 : Hid (Bun w6 R k wd h d len (.slice ga n gc) (.slice pa m pc)) := hideP (BB.out.same (hg6.block R BB.out.lt (fun e => HGR.out e.symm)))
  have O6 := hideP ho6
  have P6 : Hid (w6.ownsRow B0 3 1 (.slice pa m pc) m ps) := hideP (World.ownsRow.kept OPB.out hg6 HGP.out)
  have F6 : Hid (Frs (fun b => b = R ∨ (Value.slice ga n gc).ownBlock = some b ∨ (Value.slice pa m pc).ownBlock = some b) w w6) := hideP (FB.out.grown hg6 (fun j hj => .inl (.inr (.inl hj))))
  have T6 := hideP (HSX.out w6 ((hg6.block _ (by omega) (fun e => HGT.out e.symm)).trans (by rw [hWB]; exact Below.heap_alloc WA _ _ (by omega))))
  have c76 := B6.out.cells.2.2.2.2.2.2.2.1
  have fz6 := B6.out.free
  have hR6 := B6.out.lt
  have T7 := hideP (HSX.out (w6.setCell ⟨R, 7, none⟩ (.slice u6 (n + 1) d6)) ((Below.heap_setCell _ _ _ _ (by simp; omega)).trans ((hg6.block _ (by omega) (fun e => HGT.out e.symm)).trans (by rw [hWB]; exact Below.heap_alloc WA _ _ (by omega)))))
  clear ho6 hg6 hn6
  refine hK.out _ _ T6.out (fun hS => ?_)
  try simp only [sput]
  clear hK K
  refine tkS (i := 8) (v := .pointer (some ⟨R, 0, none⟩)) rfl (by kernel_rfl) (by first | rfl | go_simp) (fun wx hx => by obtain ⟨hx0, hx1, hx2, hx3, hx4⟩ := hx; go_simp) hS ?_
  try simp only [sput]
  refine tkS (i := 9) (v := .pointer (some ⟨R, 7, none⟩)) rfl (by kernel_rfl) (by first | rfl | go_simp) (fun wx hx => by obtain ⟨hx0, hx1, hx2, hx3, hx4⟩ := hx; go_simp) hS ?_
  try simp only [sput]
  refine wpAnyH_ready (rs := [10]) (by kernel_rfl) (by simp) ?_
  refine AllReadyH.cons rfl (fun K hK => ?_) AllReadyH.nil
  rw [if_pos (by first | rfl | go_simp)]
  go_simp
  refine hK.out _ _ T7.out (fun hS => ?_)
  try simp only [sput]
  clear hK K
  refine wpAnyH_done (by kernel_rfl) ?_ _
  obtain ⟨W7, hW7⟩ : ∃ W7, W7 = w6.setCell ⟨R, 7, none⟩ (.slice u6 (n + 1) d6) := ⟨_, rfl⟩
  rw [← hW7]
  have NR6 := hideP (own_neR B6.out O6.out (by decide))
  have PR6 := hideP (own_neR B6.out P6.out (by decide))
  have B7 : Hid (Bun W7 R k wd h d len (.slice u6 (n + 1) d6) (.slice pa m pc)) := hideP (by rw [hW7]; exact B6.out.setG _)
  have O7 : Hid (W7.ownsRow B0 34 5 (.slice u6 (n + 1) d6) (n + 1) (L ++ [.int .i64 y0, .int .i64 y1, .int .i64 y2, .int .i64 y3, .int .i64 y4])) := hideP (by rw [hW7]; exact own_setR O6.out NR6.out 7 _)
  have P7 : Hid (W7.ownsRow B0 3 1 (.slice pa m pc) m ps) := hideP (by rw [hW7]; exact own_setR P6.out PR6.out 7 _)
  have F7 : Hid (Frs (fun b => b = R ∨ (Value.slice ga n gc).ownBlock = some b ∨ (Value.slice pa m pc).ownBlock = some b) w W7) := hideP (by rw [hW7]; exact F6.out.set (.inl rfl) _)
  have c8 := B7.out.cells.2.2.2.2.2.2.2.2
  have fz7 := B7.out.free
  have hR7 := B7.out.lt
  have hB7 : B0 ≤ W7.heap.size := Nat.le_trans hB0 (Nat.le_of_lt hR7)
  clear hW7 hS c76 fz6 hR6 a0 a1 a2 a3 a4 a5 a6 a7 a8 fzA hRA hsA hsB hWB c7B
  go_wp2_with (at_builtin; refine wpList_append_own _ rfl _ _ 142 rfl B0 3 i1 (.int .i64 0) 1 8 Tryz.underlying142 hi1 hz0 hz1 hz2 rfl (by decide) (.slice pa m pc) m ps rfl (P7.out.alloc _) ⟨W7.heap.size, 0, none⟩ 1 1 [.int .i64 at_] rfl rfl (cell_one_new _ _ _) (by intro u hu; simp at hu; subst hu; rfl) (by unfold maxLen; omega) (by omega) (by simp; omega) ?_; intro v8 w8 ho8 hg8 hn8; obtain ⟨u8, d8, rfl⟩ := ownG_shape ho8; have B8 : Hid (Bun w8 R k wd h d len (.slice u6 (n + 1) d6) (.slice pa m pc)) := hideP ((B7.out.alloc _).same (hg8.block R (by simp; omega) (fun e => own_neR B7.out P7.out (by decide) e.symm))); have O8 := hideP ho8; have G8 : Hid (w8.ownsRow B0 34 5 (.slice u6 (n + 1) d6) (n + 1) (L ++ [.int .i64 y0, .int .i64 y1, .int .i64 y2, .int .i64 y3, .int .i64 y4])) := hideP (World.ownsRow.kept (O7.out.alloc _) hg8 (ownG_ne O7.out P7.out (by decide))); have F8 : Hid (Frs (fun b => b = R ∨ (Value.slice ga n gc).ownBlock = some b ∨ (Value.slice pa m pc).ownBlock = some b) w w8) := hideP ((F7.out.below (below1 _ _)).grown hg8 (fun j hj => .inl (.inr (.inr hj)))); have c88 := B8.out.cells.2.2.2.2.2.2.2.2; have fz8 := B8.out.free; have hR8 := B8.out.lt; clear ho8 hg8 hn8 c8 fz7)
  go_end0
  refine ⟨⟨_, rfl⟩, ⟨_, _, B8.out.setP _, ?_, own_setR O8.out (own_neR B8.out O8.out (by decide)) 8 _⟩, F8.out.set (.inl rfl) _⟩
  rw [HY.out]
  exact own_setR G8.out (own_neR B8.out G8.out (by decide)) 8 _
 ·rw [if_pos (by first | rfl | go_simp)]
  go_simp
  refine hK.out _ _ (by rw [← hWB]; exact HSB.out) (fun hS => ?_)
  try simp only [sput]
  clear hK K
  refine wpAnyH_ready (rs := [4]) (by kernel_rfl) (by simp) ?_
  refine AllReadyH.cons rfl (fun K hK => ?_) AllReadyH.nil
  rw [if_pos (by first | rfl | go_simp)]
  go_simp
  refine hK.out _ _ (by rw [← hWB]; exact HSB.out) (fun hS => ?_)
  try simp only [sput]
  clear hK K
  refine wpAnyH_ready (rs := [7]) (by kernel_rfl) (by simp) ?_
  refine AllReadyH.cons rfl (fun K hK => ?_) AllReadyH.nil
  rw [if_pos (by first | rfl | go_simp)]
  rw [← hWB]
  refine wp_append_own _ _ _ 141 rfl B0 34 i0 (.agg #[.int .i64 0, .int .i64 0, .int .i64 0, .int .i64 0, .int .i64 0]) 5 40 Tryz.underlying141 hi0 hy0 hy1 hy2 rfl (by decide) (.slice ga n gc) n L rfl OGB.out ⟨w.heap.size + 1, 0, none⟩ 1 1 [.int .i64 y0, .int .i64 y1, .int .i64 y2, .int .i64 y3, .int .i64 y4] rfl rfl NB.out (one5 _ _ _ _ _) (by unfold maxLen; omega) (by omega) (by omega) ?_
  intro v6 w6 ho6 hg6 hn6
  obtain ⟨u6, d6, rfl⟩ := ownG_shape ho6
  have B6 : Hid (Bun w6 R k wd h d len (.slice ga n gc) (.slice pa m pc)) := hideP (BB.out.same (hg6.block R BB.out.lt (fun e => HGR.out e.symm)))
  have O6 := hideP ho6
  have P6 : Hid (w6.ownsRow B0 3 1 (.slice pa m pc) m ps) := hideP (World.ownsRow.kept OPB.out hg6 HGP.out)
  have F6 : Hid (Frs (fun b => b = R ∨ (Value.slice ga n gc).ownBlock = some b ∨ (Value.slice pa m pc).ownBlock = some b) w w6) := hideP (FB.out.grown hg6 (fun j hj => .inl (.inr (.inl hj))))
  have T6 := hideP (HSX.out w6 ((hg6.block _ (by omega) (fun e => HGT.out e.symm)).trans (by rw [hWB]; exact Below.heap_alloc WA _ _ (by omega))))
  have c76 := B6.out.cells.2.2.2.2.2.2.2.1
  have fz6 := B6.out.free
  have hR6 := B6.out.lt
  have T7 := hideP (HSX.out (w6.setCell ⟨R, 7, none⟩ (.slice u6 (n + 1) d6)) ((Below.heap_setCell _ _ _ _ (by simp; omega)).trans ((hg6.block _ (by omega) (fun e => HGT.out e.symm)).trans (by rw [hWB]; exact Below.heap_alloc WA _ _ (by omega)))))
  clear ho6 hg6 hn6
  refine hK.out _ _ T6.out (fun hS => ?_)
  try simp only [sput]
  clear hK K
  refine tkS (i := 8) (v := .pointer (some ⟨R, 0, none⟩)) rfl (by kernel_rfl) (by first | rfl | go_simp) (fun wx hx => by obtain ⟨hx0, hx1, hx2, hx3, hx4⟩ := hx; go_simp) hS ?_
  try simp only [sput]
  refine tkS (i := 9) (v := .pointer (some ⟨R, 7, none⟩)) rfl (by kernel_rfl) (by first | rfl | go_simp) (fun wx hx => by obtain ⟨hx0, hx1, hx2, hx3, hx4⟩ := hx; go_simp) hS ?_
  try simp only [sput]
  refine wpAnyH_ready (rs := [10]) (by kernel_rfl) (by simp) ?_
  refine AllReadyH.cons rfl (fun K hK => ?_) AllReadyH.nil
  rw [if_pos (by first | rfl | go_simp)]
  go_simp
  refine hK.out _ _ T7.out (fun hS => ?_)
  try simp only [sput]
  clear hK K
  refine wpAnyH_done (by kernel_rfl) ?_ _
  obtain ⟨W7, hW7⟩ : ∃ W7, W7 = w6.setCell ⟨R, 7, none⟩ (.slice u6 (n + 1) d6) := ⟨_, rfl⟩
  rw [← hW7]
  have NR6 := hideP (own_neR B6.out O6.out (by decide))
  have PR6 := hideP (own_neR B6.out P6.out (by decide))
  have B7 : Hid (Bun W7 R k wd h d len (.slice u6 (n + 1) d6) (.slice pa m pc)) := hideP (by rw [hW7]; exact B6.out.setG _)
  have O7 : Hid (W7.ownsRow B0 34 5 (.slice u6 (n + 1) d6) (n + 1) (L ++ [.int .i64 y0, .int .i64 y1, .int .i64 y2, .int .i64 y3, .int .i64 y4])) := hideP (by rw [hW7]; exact own_setR O6.out NR6.out 7 _)
  have P7 : Hid (W7.ownsRow B0 3 1 (.slice pa m pc) m ps) := hideP (by rw [hW7]; exact own_setR P6.out PR6.out 7 _)
  have F7 : Hid (Frs (fun b => b = R ∨ (Value.slice ga n gc).ownBlock = some b ∨ (Value.slice pa m pc).ownBlock = some b) w W7) := hideP (by rw [hW7]; exact F6.out.set (.inl rfl) _)
  have c8 := B7.out.cells.2.2.2.2.2.2.2.2
  have fz7 := B7.out.free
  have hR7 := B7.out.lt
  have hB7 : B0 ≤ W7.heap.size := Nat.le_trans hB0 (Nat.le_of_lt hR7)
  clear hW7 hS c76 fz6 hR6 a0 a1 a2 a3 a4 a5 a6 a7 a8 fzA hRA hsA hsB hWB c7B
  go_wp2_with (at_builtin; refine wpList_append_own _ rfl _ _ 142 rfl B0 3 i1 (.int .i64 0) 1 8 Tryz.underlying142 hi1 hz0 hz1 hz2 rfl (by decide) (.slice pa m pc) m ps rfl (P7.out.alloc _) ⟨W7.heap.size, 0, none⟩ 1 1 [.int .i64 at_] rfl rfl (cell_one_new _ _ _) (by intro u hu; simp at hu; subst hu; rfl) (by unfold maxLen; omega) (by omega) (by simp; omega) ?_; intro v8 w8 ho8 hg8 hn8; obtain ⟨u8, d8, rfl⟩ := ownG_shape ho8; have B8 : Hid (Bun w8 R k wd h d len (.slice u6 (n + 1) d6) (.slice pa m pc)) := hideP ((B7.out.alloc _).same (hg8.block R (by simp; omega) (fun e => own_neR B7.out P7.out (by decide) e.symm))); have O8 := hideP ho8; have G8 : Hid (w8.ownsRow B0 34 5 (.slice u6 (n + 1) d6) (n + 1) (L ++ [.int .i64 y0, .int .i64 y1, .int .i64 y2, .int .i64 y3, .int .i64 y4])) := hideP (World.ownsRow.kept (O7.out.alloc _) hg8 (ownG_ne O7.out P7.out (by decide))); have F8 : Hid (Frs (fun b => b = R ∨ (Value.slice ga n gc).ownBlock = some b ∨ (Value.slice pa m pc).ownBlock = some b) w w8) := hideP ((F7.out.below (below1 _ _)).grown hg8 (fun j hj => .inl (.inr (.inr hj)))); have c88 := B8.out.cells.2.2.2.2.2.2.2.2; have fz8 := B8.out.free; have hR8 := B8.out.lt; clear ho8 hg8 hn8 c8 fz7)
  go_end0
  refine ⟨⟨_, rfl⟩, ⟨_, _, B8.out.setP _, ?_, own_setR O8.out (own_neR B8.out O8.out (by decide)) 8 _⟩, F8.out.set (.inl rfl) _⟩
  rw [HY.out]
  exact own_setR G8.out (own_neR B8.out G8.out (by decide)) 8 _
end Go.Proofs.YtojoehdmjkgnnaaGreat
