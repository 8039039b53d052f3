/-
  The program's lists for the slots of a pattern.
-/
import Derived.Test.YtbceblgnjicdcaaXl
import Derived.Test.YtbceblgnjicdcaaArg
import Derived.Deep.RegionHeld3
namespace Go.Proofs.Ytbceblgnjicdcaa
open Go.RowKit
set_option linter.unusedVariables false
set_option linter.unusedSimpArgs false

theorem lead_tw (q : List Tk) : (q.takeWhile noSlot).length = lead q :=
  tw_len q (lead q) (lead_le q) (fun j hj => by unfold noSlot; exact decide_eq_true (lead_on q j hj)) (fun h => by unfold noSlot; exact decide_eq_false (fun h2 => h2 (lead_at q h)))

/-- Values one by one are lists that stand below x, or are one's own from base on. -/
def LOf (x base : Nat) (w : World) : List Value → List (List Tk) → Prop
  | [], [] => True
  | v :: vs, r :: rs => TAt w x base v r ∧ LOf x base w vs rs
  | [], _ :: _ => False
  | _ :: _, [] => False
theorem TAt.keep {w w' : World} {x base : Nat} {v : Value} {ts : List Tk} (h : TAt w x base v ts) (hb : Below x w w') (hk : ∀ (g : Nat) (cur : Array Value), base ≤ g → w.heap[g]? = some (.cells cur 31) → w'.heap[g]? = w.heap[g]?) : TAt w' x base v ts := by
  rcases h with h | ⟨h, hne⟩
  · exact .inl (h.bel hb)
  · refine .inr ⟨?_, hne⟩
    obtain ⟨hl, h' | ⟨g, cap, cur, rfl, hg, hb, hr⟩⟩ := h
    · exact ⟨hl, .inl h'⟩
    · exact ⟨hl, .inr ⟨g, cap, cur, rfl, hg, (hk g cur hg hb).trans hb, hr⟩⟩
theorem TAt.mono {w : World} {x base base' : Nat} {v : Value} {ts : List Tk} (h : TAt w x base v ts) (hb : base' ≤ base) : TAt w x base' v ts := by
  rcases h with h | ⟨h, hne⟩
  · exact .inl h
  · exact .inr ⟨own_mono h hb, hne⟩
theorem TAt.shape {w : World} {x base : Nat} {v : Value} {ts : List Tk} (h : TAt w x base v ts) : ∃ a n c, v = .slice a n c := by
  rcases h with (⟨rfl, _⟩ | ⟨b, off, n, cap, rfl, _⟩) | ⟨h, _⟩
  · exact ⟨_, _, _, rfl⟩
  · exact ⟨_, _, _, rfl⟩
  · obtain ⟨a, c, rfl, _⟩ := own_shape h
    exact ⟨_, _, _, rfl⟩
theorem LOf.keep {w w' : World} {x base : Nat} (hb : Below x w w') (hk : ∀ (g : Nat) (cur : Array Value), base ≤ g → w.heap[g]? = some (.cells cur 31) → w'.heap[g]? = w.heap[g]?) : ∀ (vs : List Value) (rs : List (List Tk)), LOf x base w vs rs → LOf x base w' vs rs
  | [], [], _ => trivial
  | v :: vs, r :: rs, h => ⟨h.1.keep hb hk, LOf.keep hb hk vs rs h.2⟩
  | [], _ :: _, h => h
  | _ :: _, [], h => h
theorem LOf.snoc {w : World} {x base : Nat} {v : Value} {y : List Tk} (hx : TAt w x base v y) : ∀ (vs : List Value) (rs : List (List Tk)), LOf x base w vs rs → LOf x base w (vs ++ [v]) (rs ++ [y])
  | [], [], _ => ⟨hx, trivial⟩
  | v :: vs, r :: rs, h => ⟨h.1, LOf.snoc hx vs rs h.2⟩
  | [], _ :: _, h => h.elim
  | _ :: _, [], h => h.elim
theorem LOf.len {w : World} {x base : Nat} : ∀ (vs : List Value) (rs : List (List Tk)), LOf x base w vs rs → vs.length = rs.length
  | [], [], _ => rfl
  | v :: vs, r :: rs, h => by simp only [List.length_cons, LOf.len vs rs h.2]
  | [], _ :: _, h => h.elim
  | _ :: _, [], h => h.elim

/-- What comes of matching. -/
def MatR (w w' : World) (x : Nat) (M : Int × List (List Tk) × List Tk) (e : Ending) : Prop :=
  Fr x w w' ∧ ((M.1 = 0 ∧ ∃ v n vs, e = .returned v ∧ w'.ownsRow w.heap.size 32 1 v n vs ∧ LOf x w.heap.size w' vs M.2.1 ∧ Xs w' x M.2.2) ∨ (M.1 ≠ 0 ∧ e = up M.1))

/-- While slots are gone through: fl is left of the pattern, acc is what has come. -/
def SInv (w0 w : World) (x : Nat) (M : Int × List (List Tk) × List Tk) (args fr : Value) (wr : World) : Prop :=
  ∃ (fl : List Tk) (n : Nat) (vs : List Value) (acc : List (List Tk)) (r : List Tk), TN 0 w0 fr fl ∧ wr.ownsRow w.heap.size 32 1 args n vs ∧ LOf x w.heap.size wr vs acc ∧ Xs wr x r ∧ Fr x w wr ∧ r.length ≤ 20000 ∧ SlotFirst fl ∧ (∀ t ∈ fl, dl t = 0) ∧ M = mat (fl.length + 1) fl r acc ∧ n + fl.length ≤ 1000
theorem mat_nil {r : List Tk} {acc : List (List Tk)} : mat 1 [] r acc = (0, acc, r) := by rw [mat]
theorem LOf.grow {w w5 : World} {x base n : Nat} {v : Value} {vs vs0 : List Value} {o : Obj} {rs : List (List Tk)} (hown : w.ownsRow base 32 1 v n vs0) (hx : x ≤ base) (hb : base ≤ w.heap.size) (hgrow : (w.alloc o).grownBy w5 v.ownBlock) (h : LOf x base w vs rs) : LOf x base w5 vs rs :=
  LOf.keep ((((Below.refl _ _).alloc hb _).grown hgrow (by simp; omega) (fun r hr => (World.ownsRow.lt hown r hr).1)).mono hx) (fun g cur _ hg => grown_keep hown hgrow g cur hg) _ _ h

set_option maxRecDepth 100000 in
set_option maxHeartbeats 8000000 in
theorem match_any {w0 w : World} {x pb poff m pcap : Nat} {rest p : List Tk} (hx : w0.heap.size = x) (hw : Below w0.heap.size w0 w) (h : Xs w x rest) (hl : rest.length ≤ 20000) (hp : TOn 0 w0 (.slice (some ⟨pb, poff, none⟩) m pcap) p) (lm : m ≤ 1000) (hdl : ∀ t ∈ p, dl t = 0) :
    Calls Try.prog 71 #[ptr x, .slice (some ⟨pb, poff, none⟩) m pcap] w fun e w' => MatR w w' x (mat (m + 1) p rest []) e := by
  obtain ⟨i0, hi, hz0, hz1, hz2⟩ := info_parts Try.info32
  have H : Hid (Xs w x rest) := h
  have hsz := h.lt
  have HP : Hid (TOn 0 w0 (.slice (some ⟨pb, poff, none⟩) m pcap) p) := hp
  have HPL : Hid (m = p.length) := by obtain ⟨_, _, _, e, _⟩ := hp; simp at e; exact e.2.1
  have HDL0 : Hid (∀ t ∈ p, dl t = 0) := hdl
  have HW : Hid (Below w0.heap.size w0 w) := hw
  obtain ⟨M, hM⟩ : ∃ M, M = mat (m + 1) p rest [] := ⟨_, rfl⟩
  rw [← hM]
  have HM : Hid (M = mat (m + 1) p rest []) := hM
  have HXX : Hid (w0.heap.size = x) := hx
  clear h hp hdl hw hM hx
  go_enter Try.func71, Try.ntmps71
  go_wp2_with fail
  refine (cut_any HP HW (by omega)).mono ?_
  rintro e w1 ⟨v1, v2, rfl, hv1, hv2, hb1⟩
  obtain ⟨lb, lo, ln, lc, rfl⟩ := hv1.shape
  have HV1 : Hid (TOn 0 w0 (.slice (some ⟨lb, lo, none⟩) ln lc) (p.take (lead p))) := hv1
  have HV2 : Hid (TN 0 w0 v2 (p.drop (lead p))) := hv2
  have B1 : Hid (Below w.heap.size w w1) := hb1
  have hln : ln = lead p := by obtain ⟨_, _, _, e, _⟩ := hv1; simp at e; rw [e.2.1]; have := lead_le p; omega
  have HLN : Hid (ln = lead p) := hln
  have hlm : ln ≤ 1000 := by have := lead_le p; have := show m = p.length from HPL; omega
  have hlb : lb < x := by obtain ⟨_, _, _, e, _, _, hb, _⟩ := hv1; simp at e; rw [← show w0.heap.size = x from HXX, e.1.1]; exact hb
  clear hv1 hv2 hb1 hln
  go_wp2_with fail
  have START : Hid (Xs w1 x rest ∧ Fr x w w1) := ⟨Xs.fr H B1, Fr.below B1 (by omega)⟩
  go_loopw [18] (fun iv wr => ∃ (i : Nat) (r : List Tk), iv = .int .i64 (i : Int) ∧ i ≤ ln ∧ r.length ≤ 20000 ∧ Hid (Xs wr x r ∧ Fr x w wr ∧ M = mat (m + 1 - i) (p.drop i) r [])) (fun iv _ => ln - (intOf iv).toNat)
  case atStart => exact ⟨0, rest, rfl, Nat.zero_le _, hl, START.1, START.2, HM⟩
  case round =>
    obtain ⟨i, r, rfl, hil, hrl, HI⟩ := hrel
    clear START
    have hzr : w.heap.size ≤ wr.heap.size := HI.2.1.size
    have hxr : x < wr.heap.size := by omega
    by_cases hin : i < ln
    · have hii : (i : Int) < (ln : Int) := by omega
      have hip : i < p.length := by have := lead_le p; have := show ln = lead p from HLN; omega
      obtain ⟨t, ht⟩ : ∃ t, t = p.getD i Tk.none := ⟨_, rfl⟩
      have HNS : Hid (t.c ≠ 16) := by show t.c ≠ 16; rw [ht]; exact lead_on p i (by have := show ln = lead p from HLN; omega)
      have HDR : Hid (p.drop i = t :: p.drop (i + 1)) := by show _ = _; rw [ht, List.drop_eq_getElem_cons hip]; simp [List.getD, List.getElem?_eq_getElem hip]
      have hcc : wr.cell? ⟨lb, lo + i * 3, none⟩ = some (.int .i64 t.c) ∧ wr.cell? ⟨lb, lo + i * 3 + 1, none⟩ = some (.int .i64 t.h) ∧ wr.cell? ⟨lb, lo + i * 3 + 2, none⟩ = some (.string t.s) := by
        have hx0 : Below w0.heap.size w0 wr := Below.trans HW (by rw [show w0.heap.size = x from HXX]; exact HI.2.1.1)
        have h1 := TOn.below HV1 hx0
        obtain ⟨b2, off2, cap2, e, _, _, _, hc⟩ := h1
        simp only [Value.slice.injEq, Option.some.injEq, Addr.mk.injEq] at e
        obtain ⟨⟨rfl, rfl, _⟩, _, rfl⟩ := e
        have f := flat_get (p.take (lead p)) i (by rw [List.length_take]; have := show ln = lead p from HLN; omega)
        have eg : (p.take (lead p)).getD i Tk.none = t := by rw [ht]; have := show ln = lead p from HLN; simp [List.getD, List.getElem?_take, show i < lead p by omega]
        rw [eg] at f
        exact ⟨hc _ _ f.1, hc _ _ f.2.1, hc _ _ f.2.2⟩
      obtain ⟨k0, k1, k2⟩ := hcc
      have hlbr : lb < wr.heap.size := by omega
      clear ht
      obtain ⟨tc, th, ts⟩ := t
      dsimp only at k0 k1 k2
      have HGT : Hid (M = mat (m - i + 1) (⟨tc, th, ts⟩ :: p.drop (i + 1)) r []) := by show M = _; have := show m = p.length from HPL; rw [HI.2.2, show p.drop i = _ from HDR, show m + 1 - i = m - i + 1 by omega]
      go_wp2_with fail
      obtain ⟨WA, hWA⟩ : ∃ W, W = wr.alloc (.cells #[.int .i64 tc, .int .i64 th, .string ts] 31) := ⟨_, rfl⟩
      rw [← hWA]
      obtain ⟨T, hT⟩ : ∃ T, T = wr.heap.size := ⟨_, rfl⟩
      have qA : WA.heap[T]? = some (.cells #[.int .i64 tc, .int .i64 th, .string ts] 31) := by rw [hWA, hT]; exact Array.getElem?_push_size
      have QA : Hid (WA.heap[T]? = some (.cells #[.int .i64 tc, .int .i64 th, .string ts] 31)) := qA
      have c0 : WA.cell? ⟨T, 0, none⟩ = some (.int .i64 tc) := by rw [cell_of_row WA _ _ _ 31 _ qA]; rfl
      have c1 : WA.cell? ⟨T, 1, none⟩ = some (.int .i64 th) := by rw [cell_of_row WA _ _ _ 31 _ qA]; rfl
      have c2 : WA.cell? ⟨T, 2, none⟩ = some (.string ts) := by rw [cell_of_row WA _ _ _ 31 _ qA]; rfl
      have hTA : T < WA.heap.size := (Array.getElem?_eq_some_iff.1 qA).1
      have hxT : x < T := by omega
      have PA : Hid (Xs WA x r ∧ Fr x w WA) := by rw [hWA]; exact ⟨Xs.fr HI.1 (below1 _ _), Fr.more HI.2.1 ((below1 _ _).mono hzr) (by omega)⟩
      rw [← hT]
      have hzA : w.heap.size ≤ WA.heap.size := PA.2.size
      have QT : Hid (∀ y : World, Fr x WA y → y.cell? ⟨T, 0, none⟩ = some (.int .i64 tc) ∧ y.cell? ⟨T, 1, none⟩ = some (.int .i64 th) ∧ y.cell? ⟨T, 2, none⟩ = some (.string ts)) := by
        intro y hy
        have q := (hy.2.block T (by omega) hTA).trans qA
        exact ⟨by rw [cell_of_row y _ _ _ 31 _ q]; rfl, by rw [cell_of_row y _ _ _ 31 _ q]; rfl, by rw [cell_of_row y _ _ _ 31 _ q]; rfl⟩
      clear hWA hT qA HI k0 k1 k2 c0 c1 c2
      have hrc : r = [] ∨ ∃ u r', r = u :: r' := by
        cases r with
        | nil => exact .inl rfl
        | cons u r' => exact .inr ⟨u, r', rfl⟩
      rcases hrc with rfl | ⟨u, r', rfl⟩
      · have HMM : Hid (M.1 = 1) := by show M.1 = 1; rw [show M = _ from HGT, mat_end (by exact HNS)]
        have HTK : Hid (∀ W, Below WA.heap.size WA W → Calls Try.prog 110 #[ptr x] W fun e w' => e = up 1 ∧ Fr x w w') := fun W hW => (take_none (Xs.fr PA.1 hW)).mono (fun e w' h => ⟨h.1, Fr.more (Fr.more PA.2 (hW.mono hzA) (by omega)) (h.2.mono (by have := hW.size; omega)) (by omega)⟩)
        refine wp_region_held_drew (S := fun y => y.cell? ⟨T, 0, none⟩ = some (.int .i64 tc) ∧ y.cell? ⟨T, 1, none⟩ = some (.int .i64 th) ∧ y.cell? ⟨T, 2, none⟩ = some (.string ts)) (by kernel_rfl) (QT _ (Fr.below (Below.refl _ _).drew (by omega))) (fun hS => ?_)
        refine wpAnyH_take (i := 0) (v := ptr x) rfl (by kernel_rfl) (by kernel_rfl) (by kernel_rfl) (fun _ _ _ h => h) (Or.inl ⟨by rfl, fun wx hx => by go_simp⟩) hS ?_
        try simp only [Act.put, List.setIfInBounds_toArray, List.set_cons_zero, List.set_cons_succ]
        refine wpAnyH_take (i := 2) (v := tokV tc th ts) rfl (by kernel_rfl) (by kernel_rfl) (by kernel_rfl) (fun _ _ _ h => h) (Or.inl ⟨by rfl, fun wx hx => by obtain ⟨e0, e1, e2⟩ := hx; go_simp⟩) hS ?_
        try simp only [Act.put, List.setIfInBounds_toArray, List.set_cons_zero, List.set_cons_succ]
        refine wpAnyH_ready (rs := [1]) (by kernel_rfl) (by simp) ?_
        refine AllReadyH.cons rfl (fun K hK => ?_) AllReadyH.nil
        rw [if_pos (by go_simp)]
        go_wp2_with (go_at_call 110; refine (HTK _ (Below.refl _ _).drew).mono ?_; rintro e w3 ⟨rfl, hf3⟩)
        exact ⟨rfl, hf3, .inr ⟨by rw [show M.1 = 1 from HMM]; decide, by rw [show M.1 = 1 from HMM]⟩⟩
      · have HTK : Hid (∀ W, Below WA.heap.size WA W → Calls Try.prog 110 #[ptr x] W fun e w' => e = .returned u.v ∧ Xs w' x r' ∧ Fr x WA w') := fun W hW => (take_some (Xs.fr PA.1 hW) (by simp at hrl; omega)).mono (fun e w' h => ⟨h.1, h.2.1, (Fr.below hW (by omega)).trans h.2.2⟩)
        obtain ⟨uc, uh, us⟩ := u
        rw [show (⟨uc, uh, us⟩ : Tk).v = tokV uc uh us from rfl] at HTK
        refine wp_region_held_drew (S := fun y => y.cell? ⟨T, 0, none⟩ = some (.int .i64 tc) ∧ y.cell? ⟨T, 1, none⟩ = some (.int .i64 th) ∧ y.cell? ⟨T, 2, none⟩ = some (.string ts)) (by kernel_rfl) (QT _ (Fr.below (Below.refl _ _).drew (by omega))) (fun hS => ?_)
        refine wpAnyH_take (i := 0) (v := ptr x) rfl (by kernel_rfl) (by kernel_rfl) (by kernel_rfl) (fun _ _ _ h => h) (Or.inl ⟨by rfl, fun wx hx => by go_simp⟩) hS ?_
        try simp only [Act.put, List.setIfInBounds_toArray, List.set_cons_zero, List.set_cons_succ]
        refine wpAnyH_take (i := 2) (v := tokV tc th ts) rfl (by kernel_rfl) (by kernel_rfl) (by kernel_rfl) (fun _ _ _ h => h) (Or.inl ⟨by rfl, fun wx hx => by obtain ⟨e0, e1, e2⟩ := hx; go_simp⟩) hS ?_
        try simp only [Act.put, List.setIfInBounds_toArray, List.set_cons_zero, List.set_cons_succ]
        refine wpAnyH_ready (rs := [1]) (by kernel_rfl) (by simp) ?_
        refine AllReadyH.cons rfl (fun K hK => ?_) AllReadyH.nil
        rw [if_pos (by go_simp)]
        go_wp2_with (go_at_call 110; refine (HTK _ (Below.refl _ _).drew).mono ?_; rintro e w3 ⟨rfl, hx3, hf3⟩; have P3 : Hid (Xs w3 x r' ∧ Fr x WA w3) := ⟨hx3, hf3⟩; clear hx3 hf3)
        refine hK.out _ _ (QT _ P3.2) (fun hS3 => ?_)
        try simp only [Act.put, List.setIfInBounds_toArray, List.set_cons_zero, List.set_cons_succ]
        obtain ⟨ne, hne⟩ : ∃ ne, ne = !tkEq ⟨uc, uh, us⟩ ⟨tc, th, ts⟩ := ⟨_, rfl⟩
        have HNE : Hid (ne = !tkEq ⟨uc, uh, us⟩ ⟨tc, th, ts⟩) := hne
        refine wpAnyH_take (i := 3) (v := .bool ne) rfl (by kernel_rfl) (by kernel_rfl) (by kernel_rfl) (fun _ _ _ h => h) (Or.inl ⟨by rfl, fun wx hx => ?_⟩) hS3 ?_
        · rw [hne]
          clear hne HNE
          by_cases e0 : uc = tc
          · by_cases e1 : uh = th
            · by_cases e2 : us.toList = ts.toList
              · go_simp
                simp [tkEq, e2]
              · go_simp
                simp [tkEq, e2]
            · go_simp
              simp [tkEq, e1]
          · go_simp
            simp [tkEq, e0]
        try simp only [Act.put, List.setIfInBounds_toArray, List.set_cons_zero, List.set_cons_succ]
        refine wpAnyH_done (by kernel_rfl) ?_ _
        clear hS hS3 hK hne
        cases ne
        · have NEXT : Hid (Xs w3 x r' ∧ Fr x w w3 ∧ M = mat (m + 1 - (i + 1)) (p.drop (i + 1)) r' []) := ⟨P3.1, PA.2.trans P3.2, by rw [show M = _ from HGT, mat_on (by exact HNS) (by have := show false = _ from HNE; simpa using this.symm), show m + 1 - (i + 1) = m - i by omega]⟩
          go_wp2
          go_roundw
          case rel => exact ⟨i + 1, r', by go_num, by omega, by simp at hrl; omega, NEXT⟩
          case measure => simp [intOf]; omega
        · have HMM : Hid (M.1 = 2) := by show M.1 = 2; rw [show M = _ from HGT, mat_no (by exact HNS) (by have := show true = _ from HNE; simpa using this.symm)]
          have F3 : Hid (Fr x w w3) := PA.2.trans P3.2
          go_wp2
          exact ⟨rfl, F3, .inr ⟨by rw [show M.1 = 2 from HMM]; decide, by rw [show M.1 = 2 from HMM]⟩⟩
    · have hii : ¬ (i : Int) < (ln : Int) := by omega
      obtain rfl : i = ln := by omega
      have START : Hid (SInv w0 w x M (.slice none 0 0) v2 wr) := by
        have hpl := show m = p.length from HPL
        have hll := show i = lead p from HLN
        refine ⟨p.drop (lead p), 0, [], [], r, HV2, ⟨rfl, .inl ⟨rfl, rfl⟩⟩, trivial, HI.1, HI.2.1, hrl, drop_first p, fun t ht => HDL0 t (List.mem_of_mem_drop ht), ?_, by rw [List.length_drop]; omega⟩
        rw [HI.2.2, hll]
        have hle := lead_le p
        exact mat_fuel _ _ _ _ _ (by rw [List.length_drop]; omega) (by omega)
      clear HI HV2
      go_wp2_with fail
      go_loopw [5, 7] (fun args fr wr => Hid (SInv w0 w x M args fr wr)) (fun _ fr _ => lenV fr)
      case atStart => exact START
      case round =>
        clear START
        obtain ⟨fl, nf, vs, acc, r, hfr0, hown, hlo, hxs, hfr, hrl, hsf, hdf, hmm, hnl⟩ := hrel
        obtain ⟨ao, ocap, rfl⟩ := own1_shape hown
        have HOWN : Hid (wr.ownsRow w.heap.size 32 1 (.slice ao nf ocap) nf vs) := hown
        have HLO : Hid (LOf x w.heap.size wr vs acc) := hlo
        have HXS : Hid (Xs wr x r) := hxs
        have HFR : Hid (Fr x w wr) := hfr
        have HSF : Hid (SlotFirst fl) := hsf
        have HDF : Hid (∀ t ∈ fl, dl t = 0) := hdf
        have HMM : Hid (M = mat (fl.length + 1) fl r acc) := hmm
        have hzr : w.heap.size ≤ wr.heap.size := hfr.size
        clear hown hlo hxs hfr hsf hdf hmm
        have DONE : Hid (fl = [] → MatR w wr x M (.returned (.slice ao nf ocap))) := by
          intro h0
          have hM : M = (0, acc, r) := by rw [show M = _ from HMM, h0]; exact mat_nil
          rw [hM]
          exact ⟨HFR, .inl ⟨rfl, _, _, _, rfl, HOWN, HLO, HXS⟩⟩
        rcases hfr0 with ⟨rfl, rfl⟩ | hon
        · have HD := DONE rfl
          have HD2 : Hid (MatR w wr x M (.returned (.slice ao nf ocap))) := HD
          clear HD DONE
          go_wp2
          go_ret
          exact HD2
        · obtain ⟨fb, fo, fn, fc, rfl⟩ := hon.shape
          have hfn : fn = fl.length := by obtain ⟨_, _, _, e, _⟩ := hon; simp at e; exact e.2.1
          have hfc : fn ≤ fc := by obtain ⟨_, _, _, e, hc, _⟩ := hon; simp at e; rw [← hfn, ← e.2.2] at hc; exact hc
          have HON : Hid (TOn 0 w0 (.slice (some ⟨fb, fo, none⟩) fn fc) fl) := hon
          have HFN : Hid (fn = fl.length) := hfn
          by_cases h0 : fn = 0
          · subst h0
            have HD := DONE (List.eq_nil_of_length_eq_zero hfn.symm)
            have HD2 : Hid (MatR w wr x M (.returned (.slice ao nf ocap))) := HD
            clear HD DONE hfn hon
            go_wp2
            go_ret
            exact HD2
          · obtain ⟨s, q, hfl⟩ : ∃ s q, fl = s :: q := by
              cases fl with
              | nil => exact absurd hfn h0
              | cons s q => exact ⟨s, q, rfl⟩
            have HFL : Hid (fl = s :: q) := hfl
            have HS16 : Hid (s.c = 16) := by
              show s.c = 16
              rcases HSF with h | h
              · rw [hfl] at h; simp at h
              · rw [hfl] at h; simpa using h
            have hq1 : q.length + 1 = fn := by rw [hfn, hfl]; rfl
            have HREST0 : Hid (TOn 0 w0 (.slice (some ⟨fb, fo + 3, none⟩) (fn - 1) (fc - 1)) q) := by
              have := TOn.drop hon (k := 1) (by omega)
              rw [hfl] at this
              show TOn _ _ _ _
              simpa using this
            have hfb : fb < w0.heap.size := by obtain ⟨_, _, _, e, hc, _, hb2, _⟩ := hon; simp at e; rw [e.1.1]; exact hb2
            have hpos : (0 : Int) < (fn : Int) := by omega
            have h1n : (1 : Int) ≤ (fn : Int) := by omega
            have h1c : (1 : Int) ≤ (fc : Int) := by omega
            have hqn : nf + fn ≤ 1000 := by omega
            clear hon hfl DONE hfn hnl
            by_cases hfc1 : fc = 1
            · obtain rfl : fn = 1 := by omega
              subst hfc1
              have HREST : Hid (TOn 0 w0 (.slice (some ⟨fb, fo, none⟩) 0 0) q) := by
                have : q = [] := List.eq_nil_of_length_eq_zero (by omega)
                rw [this]
                exact ⟨fb, fo, 0, rfl, Nat.le_refl _, Nat.zero_le _, hfb, fun j u hj => by simp [flat] at hj⟩
              have X0 : Hid (Below w0.heap.size w0 wr) := Below.trans HW (by rw [show w0.heap.size = x from HXX]; exact HFR.1)
              go_wp2_with fail
              refine (cut_any HREST X0 (by omega)).mono ?_
              rintro e w2 ⟨y1, y2, rfl, hy1, hy2, hb2⟩
              obtain ⟨yb, yo, yn, yc, rfl⟩ := hy1.shape
              have hyn : yn = lead q := by obtain ⟨_, _, _, e, _⟩ := hy1; simp at e; rw [e.2.1]; have := lead_le q; omega
              have hyb : yb < x := by obtain ⟨_, _, _, e, _, _, hb, _⟩ := hy1; simp at e; rw [← show w0.heap.size = x from HXX, e.1.1]; exact hb
              have HY : Hid (TOn 0 w0 (.slice (some ⟨yb, yo, none⟩) yn yc) (q.take (lead q)) ∧ TN 0 w0 y2 (q.drop (lead q))) := ⟨hy1, hy2⟩
              have z2 : wr.heap.size ≤ w2.heap.size := hb2.size
              have P2 : Hid (Xs w2 x r ∧ Fr x w w2 ∧ w2.ownsRow w.heap.size 32 1 (.slice ao nf ocap) nf vs ∧ LOf x w.heap.size w2 vs acc ∧ Below w0.heap.size w0 w2) := ⟨Xs.fr HXS hb2, Fr.more HFR (hb2.mono hzr) (by omega), own1_below HOWN hb2, LOf.keep (hb2.mono (by omega)) (fun g cur _ hg => hb2.block g (Array.getElem?_eq_some_iff.1 hg).1) _ _ HLO, below_more X0 hb2 (by have := show w0.heap.size = x from HXX; omega)⟩
              have HYN : Hid (yn = lead q) := hyn
              have hyq : yn ≤ 1000 := by have := lead_le q; omega
              have hzw2 : w.heap.size ≤ w2.heap.size := by omega
              have HQL : Hid (fl.length = q.length + 1) := by show _ = _; rw [show fl = _ from HFL]; rfl
              have HQD : Hid (∀ t ∈ q, dl t = 0) := fun t ht => HDF t (by rw [show fl = _ from HFL]; exact List.mem_cons_of_mem _ ht)
              clear hy1 hy2 hb2 hyn X0 HREST
              by_cases hy0 : yn = 0
              · subst hy0
                have HMP : Hid (M = if (plain r).1 = 0 then mat (q.length + 1) q (plain r).2.2 (acc ++ [(plain r).2.1]) else ((plain r).1, acc, (plain r).2.2)) := by
                  show M = _
                  rw [show M = _ from HMM, show fl = _ from HFL]
                  exact mat_plain HS16 (by rw [lead_tw, ← show 0 = lead q from HYN])
                go_wp2_with fail
                refine (bare_any P2.1 hrl).mono ?_
                rintro e w3 ⟨hf3, ⟨hc, v, rfl, hat, hx3⟩ | ⟨hc, rfl⟩⟩
                · obtain ⟨va, vn, vc, rfl⟩ := hat.shape
                  have z3 : w2.heap.size ≤ w3.heap.size := hf3.size
                  have P3 : Hid (Xs w3 x (plain r).2.2 ∧ Fr x w w3 ∧ w3.ownsRow w.heap.size 32 1 (.slice ao nf ocap) nf vs ∧ LOf x w.heap.size w3 vs acc ∧ TAt w3 x w.heap.size (.slice va vn vc) (plain r).2.1 ∧ M = mat (q.length + 1) q (plain r).2.2 (acc ++ [(plain r).2.1])) := ⟨hx3, P2.2.1.trans hf3, own1_fr P2.2.2.1 hf3 (by omega), LOf.keep hf3.1 (fun g cur hg hh => hf3.2.block g (by omega) (Array.getElem?_eq_some_iff.1 hh).1) _ _ P2.2.2.2.1, hat.mono hzw2, by rw [show M = _ from HMP, if_pos hc]⟩
                  clear hf3 hc hat hx3 HMP
                  go_wp2_with (at_builtin; refine wpList_append_own _ rfl _ _ 57 rfl w.heap.size 32 i0 _ 1 24 Try.underlying57 hi hz0 hz1 hz2 rfl (by decide) _ _ _ rfl (World.ownsRow.alloc P3.2.2.1 _) ⟨w3.heap.size, 0, none⟩ 1 1 [.slice va vn vc] rfl ?xa1 ?xa2 ?xa3 ?xa4 ?xa5 ?xa6 ?_)
                  case xa1 => rfl
                  case xa2 =>
                    intro j u hj
                    match j, hj with
                    | 0, hj => simp at hj; subst hj; simp [Addr.add]
                  case xa3 => intro u hu; simp at hu; subst hu; rfl
                  case xa4 => unfold maxLen; omega
                  case xa5 => omega
                  case xa6 => simp; omega
                  intro v' w5 hown' hgrow hnil'
                  have NEXT : Hid (SInv w0 w x M v' y2 w5) := by
                    have B5 : Below w.heap.size w3 w5 := ((Below.refl _ _).alloc (by omega) _).grown hgrow (by simp; omega) (fun r hr => (World.ownsRow.lt P3.2.2.1 r hr).1)
                    have hq0 : lead q = 0 := (show 0 = lead q from HYN).symm
                    have hqd : q.drop (lead q) = q := by rw [hq0]; rfl
                    refine ⟨q, nf + 1, _, acc ++ [(plain r).2.1], (plain r).2.2, by rw [← hqd]; exact HY.2, hown', ?_, Xs.bel P3.1 (B5.mono (by omega)), Fr.more P3.2.1 B5 (by omega), Nat.le_trans (plain_len r) hrl, by rw [← hqd]; exact drop_first q, HQD, P3.2.2.2.2.2, by have := show fl.length = _ from HQL; omega⟩
                    exact LOf.snoc (TAt.keep P3.2.2.2.2.1 (B5.mono (by omega)) (fun g cur _ hh => grown_keep P3.2.2.1 hgrow g cur hh)) _ _ (LOf.grow P3.2.2.1 (by omega) (by omega) hgrow P3.2.2.2.1)
                  obtain ⟨ra2, rcap2, rfl⟩ := own1_shape hown'
                  have hms : lenV y2 < 1 := by
                    have := TN_len HY.2
                    rw [List.length_drop] at this
                    have h9 := show fl.length = _ from HQL
                    omega
                  clear hown' hgrow hnil'
                  go_wp2
                  go_roundw
                  case rel => exact NEXT
                  case measure => exact hms
                · have P3 : Hid (Fr x w w3) := P2.2.1.trans hf3
                  have HM1 : Hid (M.1 = (plain r).1 ∧ (plain r).1 ≠ 0) := ⟨by rw [show M = _ from HMP, if_neg hc], hc⟩
                  clear hf3 hc HMP
                  go_wp2
                  exact ⟨rfl, P3, .inr ⟨by rw [HM1.1]; exact HM1.2, by rw [HM1.1]⟩⟩
              · have hyp : (0 : Int) < (yn : Int) := by omega
                obtain ⟨row, hrow⟩ : ∃ row, row = q.take (lead q) := ⟨_, rfl⟩
                have HROWQ : Hid (row = q.take (lead q)) := hrow
                have HMP : Hid (M = if (unt row 0 [] r).1 = 0 then mat (q.length + 1) (q.drop (lead q)) (unt row 0 [] r).2.2 (acc ++ [(unt row 0 [] r).2.1]) else ((unt row 0 [] r).1, acc, (unt row 0 [] r).2.2)) := by
                  show M = _
                  rw [show M = _ from HMM, show fl = _ from HFL, hrow]
                  exact mat_until HS16 (lead_tw q) (by rw [← show yn = lead q from HYN]; exact hy0)
                have HYR : Hid (TOn 0 w2 (.slice (some ⟨yb, yo, none⟩) yn yc) row) := by rw [hrow]; exact TOn.below HY.1 P2.2.2.2.2
                have HRD : Hid (∀ t ∈ row, dl t = 0) := fun t ht => HQD t (by rw [hrow] at ht; exact List.mem_of_mem_take ht)
                clear hrow
                go_wp2_with fail
                refine (upto_any P2.1 hrl HYR hyb (by omega) hyq HRD).mono ?_
                rintro e w3 ⟨hf3, ⟨hc, v, rfl, hat, hx3⟩ | ⟨hc, rfl⟩⟩
                · have hat' : TAt w3 x w.heap.size v (unt row 0 [] r).2.1 := .inl hat
                  obtain ⟨va, vn, vc, rfl⟩ := hat'.shape
                  have z3 : w2.heap.size ≤ w3.heap.size := hf3.size
                  have P3 : Hid (Xs w3 x (unt row 0 [] r).2.2 ∧ Fr x w w3 ∧ w3.ownsRow w.heap.size 32 1 (.slice ao nf ocap) nf vs ∧ LOf x w.heap.size w3 vs acc ∧ TAt w3 x w.heap.size (.slice va vn vc) (unt row 0 [] r).2.1 ∧ M = mat (q.length + 1) (q.drop (lead q)) (unt row 0 [] r).2.2 (acc ++ [(unt row 0 [] r).2.1])) := ⟨hx3, P2.2.1.trans hf3, own1_fr P2.2.2.1 hf3 (by omega), LOf.keep hf3.1 (fun g cur hg hh => hf3.2.block g (by omega) (Array.getElem?_eq_some_iff.1 hh).1) _ _ P2.2.2.2.1, hat', by rw [show M = _ from HMP, if_pos hc]⟩
                  clear hf3 hc hat hx3 HMP hat' HYR
                  go_wp2_with (at_builtin; refine wpList_append_own _ rfl _ _ 57 rfl w.heap.size 32 i0 _ 1 24 Try.underlying57 hi hz0 hz1 hz2 rfl (by decide) _ _ _ rfl (World.ownsRow.alloc P3.2.2.1 _) ⟨w3.heap.size, 0, none⟩ 1 1 [.slice va vn vc] rfl ?xb1 ?xb2 ?xb3 ?xb4 ?xb5 ?xb6 ?_)
                  case xb1 => rfl
                  case xb2 =>
                    intro j u hj
                    match j, hj with
                    | 0, hj => simp at hj; subst hj; simp [Addr.add]
                  case xb3 => intro u hu; simp at hu; subst hu; rfl
                  case xb4 => unfold maxLen; omega
                  case xb5 => omega
                  case xb6 => simp; omega
                  intro v' w5 hown' hgrow hnil'
                  have NEXT : Hid (SInv w0 w x M v' y2 w5) := by
                    have B5 : Below w.heap.size w3 w5 := ((Below.refl _ _).alloc (by omega) _).grown hgrow (by simp; omega) (fun r hr => (World.ownsRow.lt P3.2.2.1 r hr).1)
                    refine ⟨q.drop (lead q), nf + 1, _, acc ++ [(unt row 0 [] r).2.1], (unt row 0 [] r).2.2, HY.2, hown', ?_, Xs.bel P3.1 (B5.mono (by omega)), Fr.more P3.2.1 B5 (by omega), Nat.le_trans (unt_len _ _ _ _) hrl, drop_first q, fun t ht => HQD t (List.mem_of_mem_drop ht), by rw [P3.2.2.2.2.2]; exact mat_fuel _ _ _ _ _ (by rw [List.length_drop]; omega) (by omega), by rw [List.length_drop]; have := show fl.length = _ from HQL; omega⟩
                    exact LOf.snoc (TAt.keep P3.2.2.2.2.1 (B5.mono (by omega)) (fun g cur _ hh => grown_keep P3.2.2.1 hgrow g cur hh)) _ _ (LOf.grow P3.2.2.1 (by omega) (by omega) hgrow P3.2.2.2.1)
                  obtain ⟨ra2, rcap2, rfl⟩ := own1_shape hown'
                  have hms : lenV y2 < 1 := by
                    have := TN_len HY.2
                    rw [List.length_drop] at this
                    have h9 := show fl.length = _ from HQL
                    omega
                  clear hown' hgrow hnil'
                  go_wp2
                  go_roundw
                  case rel => exact NEXT
                  case measure => exact hms
                · have P3 : Hid (Fr x w w3) := P2.2.1.trans hf3
                  have HM1 : Hid (M.1 = (unt row 0 [] r).1 ∧ (unt row 0 [] r).1 ≠ 0) := ⟨by rw [show M = _ from HMP, if_neg hc], hc⟩
                  clear hf3 hc HMP HYR
                  go_wp2
                  exact ⟨rfl, P3, .inr ⟨by rw [HM1.1]; exact HM1.2, by rw [HM1.1]⟩⟩
            · have hfc2 : ¬ fc - 1 = 0 := by omega
              have hfc3 : 1 < fc := by omega
              have HREST : Hid (TOn 0 w0 (.slice (some ⟨fb, fo + 3, none⟩) (fn - 1) (fc - 1)) q) := HREST0
              have X0 : Hid (Below w0.heap.size w0 wr) := Below.trans HW (by rw [show w0.heap.size = x from HXX]; exact HFR.1)
              go_wp2_with fail
              refine (cut_any HREST X0 (by omega)).mono ?_
              rintro e w2 ⟨y1, y2, rfl, hy1, hy2, hb2⟩
              obtain ⟨yb, yo, yn, yc, rfl⟩ := hy1.shape
              have hyn : yn = lead q := by obtain ⟨_, _, _, e, _⟩ := hy1; simp at e; rw [e.2.1]; have := lead_le q; omega
              have hyb : yb < x := by obtain ⟨_, _, _, e, _, _, hb, _⟩ := hy1; simp at e; rw [← show w0.heap.size = x from HXX, e.1.1]; exact hb
              have HY : Hid (TOn 0 w0 (.slice (some ⟨yb, yo, none⟩) yn yc) (q.take (lead q)) ∧ TN 0 w0 y2 (q.drop (lead q))) := ⟨hy1, hy2⟩
              have z2 : wr.heap.size ≤ w2.heap.size := hb2.size
              have P2 : Hid (Xs w2 x r ∧ Fr x w w2 ∧ w2.ownsRow w.heap.size 32 1 (.slice ao nf ocap) nf vs ∧ LOf x w.heap.size w2 vs acc ∧ Below w0.heap.size w0 w2) := ⟨Xs.fr HXS hb2, Fr.more HFR (hb2.mono hzr) (by omega), own1_below HOWN hb2, LOf.keep (hb2.mono (by omega)) (fun g cur _ hg => hb2.block g (Array.getElem?_eq_some_iff.1 hg).1) _ _ HLO, below_more X0 hb2 (by have := show w0.heap.size = x from HXX; omega)⟩
              have HYN : Hid (yn = lead q) := hyn
              have hyq : yn ≤ 1000 := by have := lead_le q; omega
              have hzw2 : w.heap.size ≤ w2.heap.size := by omega
              have HQL : Hid (fl.length = q.length + 1) := by show _ = _; rw [show fl = _ from HFL]; rfl
              have HQD : Hid (∀ t ∈ q, dl t = 0) := fun t ht => HDF t (by rw [show fl = _ from HFL]; exact List.mem_cons_of_mem _ ht)
              clear hy1 hy2 hb2 hyn X0 HREST
              by_cases hy0 : yn = 0
              · subst hy0
                have HMP : Hid (M = if (plain r).1 = 0 then mat (q.length + 1) q (plain r).2.2 (acc ++ [(plain r).2.1]) else ((plain r).1, acc, (plain r).2.2)) := by
                  show M = _
                  rw [show M = _ from HMM, show fl = _ from HFL]
                  exact mat_plain HS16 (by rw [lead_tw, ← show 0 = lead q from HYN])
                go_wp2_with fail
                refine (bare_any P2.1 hrl).mono ?_
                rintro e w3 ⟨hf3, ⟨hc, v, rfl, hat, hx3⟩ | ⟨hc, rfl⟩⟩
                · obtain ⟨va, vn, vc, rfl⟩ := hat.shape
                  have z3 : w2.heap.size ≤ w3.heap.size := hf3.size
                  have P3 : Hid (Xs w3 x (plain r).2.2 ∧ Fr x w w3 ∧ w3.ownsRow w.heap.size 32 1 (.slice ao nf ocap) nf vs ∧ LOf x w.heap.size w3 vs acc ∧ TAt w3 x w.heap.size (.slice va vn vc) (plain r).2.1 ∧ M = mat (q.length + 1) q (plain r).2.2 (acc ++ [(plain r).2.1])) := ⟨hx3, P2.2.1.trans hf3, own1_fr P2.2.2.1 hf3 (by omega), LOf.keep hf3.1 (fun g cur hg hh => hf3.2.block g (by omega) (Array.getElem?_eq_some_iff.1 hh).1) _ _ P2.2.2.2.1, hat.mono hzw2, by rw [show M = _ from HMP, if_pos hc]⟩
                  clear hf3 hc hat hx3 HMP
                  go_wp2_with (at_builtin; refine wpList_append_own _ rfl _ _ 57 rfl w.heap.size 32 i0 _ 1 24 Try.underlying57 hi hz0 hz1 hz2 rfl (by decide) _ _ _ rfl (World.ownsRow.alloc P3.2.2.1 _) ⟨w3.heap.size, 0, none⟩ 1 1 [.slice va vn vc] rfl ?ya1 ?ya2 ?ya3 ?ya4 ?ya5 ?ya6 ?_)
                  case ya1 => rfl
                  case ya2 =>
                    intro j u hj
                    match j, hj with
                    | 0, hj => simp at hj; subst hj; simp [Addr.add]
                  case ya3 => intro u hu; simp at hu; subst hu; rfl
                  case ya4 => unfold maxLen; omega
                  case ya5 => omega
                  case ya6 => simp; omega
                  intro v' w5 hown' hgrow hnil'
                  have NEXT : Hid (SInv w0 w x M v' y2 w5) := by
                    have B5 : Below w.heap.size w3 w5 := ((Below.refl _ _).alloc (by omega) _).grown hgrow (by simp; omega) (fun r hr => (World.ownsRow.lt P3.2.2.1 r hr).1)
                    have hq0 : lead q = 0 := (show 0 = lead q from HYN).symm
                    have hqd : q.drop (lead q) = q := by rw [hq0]; rfl
                    refine ⟨q, nf + 1, _, acc ++ [(plain r).2.1], (plain r).2.2, by rw [← hqd]; exact HY.2, hown', ?_, Xs.bel P3.1 (B5.mono (by omega)), Fr.more P3.2.1 B5 (by omega), Nat.le_trans (plain_len r) hrl, by rw [← hqd]; exact drop_first q, HQD, P3.2.2.2.2.2, by have := show fl.length = _ from HQL; omega⟩
                    exact LOf.snoc (TAt.keep P3.2.2.2.2.1 (B5.mono (by omega)) (fun g cur _ hh => grown_keep P3.2.2.1 hgrow g cur hh)) _ _ (LOf.grow P3.2.2.1 (by omega) (by omega) hgrow P3.2.2.2.1)
                  obtain ⟨ra2, rcap2, rfl⟩ := own1_shape hown'
                  have hms : lenV y2 < fn := by
                    have := TN_len HY.2
                    rw [List.length_drop] at this
                    have h9 := show fl.length = _ from HQL
                    omega
                  clear hown' hgrow hnil'
                  go_wp2
                  go_roundw
                  case rel => exact NEXT
                  case measure => exact hms
                · have P3 : Hid (Fr x w w3) := P2.2.1.trans hf3
                  have HM1 : Hid (M.1 = (plain r).1 ∧ (plain r).1 ≠ 0) := ⟨by rw [show M = _ from HMP, if_neg hc], hc⟩
                  clear hf3 hc HMP
                  go_wp2
                  exact ⟨rfl, P3, .inr ⟨by rw [HM1.1]; exact HM1.2, by rw [HM1.1]⟩⟩
              · have hyp : (0 : Int) < (yn : Int) := by omega
                obtain ⟨row, hrow⟩ : ∃ row, row = q.take (lead q) := ⟨_, rfl⟩
                have HROWQ : Hid (row = q.take (lead q)) := hrow
                have HMP : Hid (M = if (unt row 0 [] r).1 = 0 then mat (q.length + 1) (q.drop (lead q)) (unt row 0 [] r).2.2 (acc ++ [(unt row 0 [] r).2.1]) else ((unt row 0 [] r).1, acc, (unt row 0 [] r).2.2)) := by
                  show M = _
                  rw [show M = _ from HMM, show fl = _ from HFL, hrow]
                  exact mat_until HS16 (lead_tw q) (by rw [← show yn = lead q from HYN]; exact hy0)
                have HYR : Hid (TOn 0 w2 (.slice (some ⟨yb, yo, none⟩) yn yc) row) := by rw [hrow]; exact TOn.below HY.1 P2.2.2.2.2
                have HRD : Hid (∀ t ∈ row, dl t = 0) := fun t ht => HQD t (by rw [hrow] at ht; exact List.mem_of_mem_take ht)
                clear hrow
                go_wp2_with fail
                refine (upto_any P2.1 hrl HYR hyb (by omega) hyq HRD).mono ?_
                rintro e w3 ⟨hf3, ⟨hc, v, rfl, hat, hx3⟩ | ⟨hc, rfl⟩⟩
                · have hat' : TAt w3 x w.heap.size v (unt row 0 [] r).2.1 := .inl hat
                  obtain ⟨va, vn, vc, rfl⟩ := hat'.shape
                  have z3 : w2.heap.size ≤ w3.heap.size := hf3.size
                  have P3 : Hid (Xs w3 x (unt row 0 [] r).2.2 ∧ Fr x w w3 ∧ w3.ownsRow w.heap.size 32 1 (.slice ao nf ocap) nf vs ∧ LOf x w.heap.size w3 vs acc ∧ TAt w3 x w.heap.size (.slice va vn vc) (unt row 0 [] r).2.1 ∧ M = mat (q.length + 1) (q.drop (lead q)) (unt row 0 [] r).2.2 (acc ++ [(unt row 0 [] r).2.1])) := ⟨hx3, P2.2.1.trans hf3, own1_fr P2.2.2.1 hf3 (by omega), LOf.keep hf3.1 (fun g cur hg hh => hf3.2.block g (by omega) (Array.getElem?_eq_some_iff.1 hh).1) _ _ P2.2.2.2.1, hat', by rw [show M = _ from HMP, if_pos hc]⟩
                  clear hf3 hc hat hx3 HMP hat' HYR
                  go_wp2_with (at_builtin; refine wpList_append_own _ rfl _ _ 57 rfl w.heap.size 32 i0 _ 1 24 Try.underlying57 hi hz0 hz1 hz2 rfl (by decide) _ _ _ rfl (World.ownsRow.alloc P3.2.2.1 _) ⟨w3.heap.size, 0, none⟩ 1 1 [.slice va vn vc] rfl ?yb1 ?yb2 ?yb3 ?yb4 ?yb5 ?yb6 ?_)
                  case yb1 => rfl
                  case yb2 =>
                    intro j u hj
                    match j, hj with
                    | 0, hj => simp at hj; subst hj; simp [Addr.add]
                  case yb3 => intro u hu; simp at hu; subst hu; rfl
                  case yb4 => unfold maxLen; omega
                  case yb5 => omega
                  case yb6 => simp; omega
                  intro v' w5 hown' hgrow hnil'
                  have NEXT : Hid (SInv w0 w x M v' y2 w5) := by
                    have B5 : Below w.heap.size w3 w5 := ((Below.refl _ _).alloc (by omega) _).grown hgrow (by simp; omega) (fun r hr => (World.ownsRow.lt P3.2.2.1 r hr).1)
                    refine ⟨q.drop (lead q), nf + 1, _, acc ++ [(unt row 0 [] r).2.1], (unt row 0 [] r).2.2, HY.2, hown', ?_, Xs.bel P3.1 (B5.mono (by omega)), Fr.more P3.2.1 B5 (by omega), Nat.le_trans (unt_len _ _ _ _) hrl, drop_first q, fun t ht => HQD t (List.mem_of_mem_drop ht), by rw [P3.2.2.2.2.2]; exact mat_fuel _ _ _ _ _ (by rw [List.length_drop]; omega) (by omega), by rw [List.length_drop]; have := show fl.length = _ from HQL; omega⟩
                    exact LOf.snoc (TAt.keep P3.2.2.2.2.1 (B5.mono (by omega)) (fun g cur _ hh => grown_keep P3.2.2.1 hgrow g cur hh)) _ _ (LOf.grow P3.2.2.1 (by omega) (by omega) hgrow P3.2.2.2.1)
                  obtain ⟨ra2, rcap2, rfl⟩ := own1_shape hown'
                  have hms : lenV y2 < fn := by
                    have := TN_len HY.2
                    rw [List.length_drop] at this
                    have h9 := show fl.length = _ from HQL
                    omega
                  clear hown' hgrow hnil'
                  go_wp2
                  go_roundw
                  case rel => exact NEXT
                  case measure => exact hms
                · have P3 : Hid (Fr x w w3) := P2.2.1.trans hf3
                  have HM1 : Hid (M.1 = (unt row 0 [] r).1 ∧ (unt row 0 [] r).1 ≠ 0) := ⟨by rw [show M = _ from HMP, if_neg hc], hc⟩
                  clear hf3 hc HMP HYR
                  go_wp2
                  exact ⟨rfl, P3, .inr ⟨by rw [HM1.1]; exact HM1.2, by rw [HM1.1]⟩⟩
end Go.Proofs.Ytbceblgnjicdcaa
