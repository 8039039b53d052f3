/-
  The rows that a body with its lists is made of.
-/
import Derived.Test.YtbceblgnjicdcaaCut
namespace Go.Proofs.Ytbceblgnjicdcaa
open Go.RowKit
set_option linter.unusedVariables false
set_option linter.unusedSimpArgs false

/-- Values one by one are rows of tokens. -/
def RowsOf (w : World) : List Value → List (List Tk) → Prop
  | [], [] => True
  | v :: vs, r :: rs => TOn 0 w v r ∧ RowsOf w vs rs
  | [], _ :: _ => False
  | _ :: _, [] => False
theorem RowsOf.below {w w' : World} (hb : Below w.heap.size w w') : ∀ (vs : List Value) (rs : List (List Tk)), RowsOf w vs rs → RowsOf w' vs rs
  | [], [], _ => trivial
  | v :: vs, r :: rs, h => ⟨h.1.below hb, RowsOf.below hb vs rs h.2⟩
  | [], _ :: _, h => h
  | _ :: _, [], h => h
theorem RowsOf.snoc {w : World} {x : Value} {y : List Tk} (hx : TOn 0 w x y) : ∀ (vs : List Value) (rs : List (List Tk)), RowsOf w vs rs → RowsOf w (vs ++ [x]) (rs ++ [y])
  | [], [], _ => ⟨hx, trivial⟩
  | v :: vs, r :: rs, h => ⟨h.1, RowsOf.snoc hx vs rs h.2⟩
  | [], _ :: _, h => h.elim
  | _ :: _, [], h => h.elim
theorem RowsOf.len {w : World} : ∀ (vs : List Value) (rs : List (List Tk)), RowsOf w vs rs → vs.length = rs.length
  | [], [], _ => rfl
  | v :: vs, r :: rs, h => by simp only [List.length_cons, RowsOf.len vs rs h.2]
  | [], _ :: _, h => h.elim
  | _ :: _, [], h => h.elim
theorem RowsOf.get {w : World} : ∀ (vs : List Value) (rs : List (List Tk)) (i : Nat), RowsOf w vs rs → i < rs.length → ∃ v, vs[i]? = some v ∧ TOn 0 w v (rs.getD i [])
  | [], [], i, _, h => by simp at h
  | v :: vs, r :: rs, 0, h, _ => ⟨v, rfl, h.1⟩
  | v :: vs, r :: rs, i + 1, h, hi => by
    obtain ⟨u, h1, h2⟩ := RowsOf.get vs rs i h.2 (by simpa using hi)
    exact ⟨u, by simpa using h1, by simpa using h2⟩
  | [], _ :: _, i, h, _ => h.elim
  | _ :: _, [], i, h, _ => h.elim
theorem RowsOf.row {base n : Nat} {w : World} {v : Value} {vs : List Value} {rs : List (List Tk)} (h : w.ownsRow base 32 1 v n vs) (hr : RowsOf w vs rs) : ARow 0 w v rs := by
  have hlen := RowsOf.len vs rs hr
  obtain ⟨hl, ⟨rfl, rfl⟩ | ⟨g, cap, cur, rfl, hg, hb, hn, hm, hs, hx⟩⟩ := h
  · exact ⟨_, _, _, rfl, by omega, fun h => absurd h (Nat.lt_irrefl 0)⟩
  · refine ⟨_, _, _, rfl, by omega, fun _ => ⟨g, 0, rfl, Nat.zero_le _, (Array.getElem?_eq_some_iff.1 hb).1, fun i hi => ?_⟩⟩
    obtain ⟨u, h1, h2⟩ := RowsOf.get vs rs i hr (by omega)
    refine ⟨[u], rfl, ⟨u, rfl, h2⟩, fun j hj => ?_⟩
    obtain rfl : j = 0 := by omega
    rw [Nat.zero_add, Nat.mul_one, Nat.add_zero, cell_of_row w g _ cur 32 _ hb, ← Array.getElem?_toList]
    rw [← hx, List.getElem?_take] at h1
    split at h1
    · exact h1
    · simp at h1

theorem TOn.shape {lo : Nat} {w : World} {v : Value} {ts : List Tk} (h : TOn lo w v ts) : ∃ b off n cap, v = .slice (some ⟨b, off, none⟩) n cap := by
  obtain ⟨b, off, cap, rfl, _⟩ := h
  exact ⟨_, _, _, _, rfl⟩
def lenV : Value → Nat
  | .slice _ n _ => n
  | _ => 0
theorem TN_len {lo : Nat} {w : World} {v : Value} {ts : List Tk} (h : TN lo w v ts) : lenV v = ts.length := by
  rcases h with ⟨rfl, rfl⟩ | ⟨b, off, cap, rfl, _⟩
  · rfl
  · rfl

theorem fill_lead {args : List (List Tk)} (ts : List Tk) : fill args ts = ts.take (lead ts) ++ fill args (ts.drop (lead ts)) := by
  conv => lhs; rw [← List.take_append_drop (lead ts) ts, fill_app]
  rw [fill_plain (ts.take (lead ts))]
  intro t ht
  obtain ⟨i, hi, rfl⟩ := List.getElem_of_mem ht
  rw [List.length_take] at hi
  have := lead_on ts i (by omega)
  simpa [List.getD, List.getElem?_eq_getElem (show i < ts.length by omega)] using this

theorem own1_shape {base n : Nat} {w : World} {v : Value} {xs : List Value} (h : w.ownsRow base 32 1 v n xs) : ∃ ao cap, v = .slice ao n cap := by
  obtain ⟨hl, ⟨rfl, rfl⟩ | ⟨g, cap, cur, rfl, hg, hb, _⟩⟩ := h
  · exact ⟨_, _, rfl⟩
  · exact ⟨_, _, rfl⟩

theorem own1_below {base n : Nat} {w w' : World} {v : Value} {xs : List Value} (h : w.ownsRow base 32 1 v n xs) (hb : Below w.heap.size w w') : w'.ownsRow base 32 1 v n xs := by
  obtain ⟨hl, h | ⟨g, cap, cur, rfl, hg, hbk, hr⟩⟩ := h
  · exact ⟨hl, .inl h⟩
  · exact ⟨hl, .inr ⟨g, cap, cur, rfl, hg, (hb.block g (Array.getElem?_eq_some_iff.1 hbk).1).trans hbk, hr⟩⟩

/-- The tokens from the next slot on. -/
def SlotFirst (ts : List Tk) : Prop := ts = [] ∨ (ts.getD 0 Tk.none).c = 16
theorem drop_first (ts : List Tk) : SlotFirst (ts.drop (lead ts)) := by
  rcases Nat.lt_or_ge (lead ts) ts.length with h | h
  · right
    have := lead_at ts h
    simpa [List.getD] using this
  · left
    exact List.drop_eq_nil_of_le h
theorem SlotsIn.drop {n : Nat} {b : List Tk} (h : SlotsIn n b) (k : Nat) : SlotsIn n (b.drop k) := by
  intro i hi hc
  rw [List.length_drop] at hi
  have e : (b.drop k).getD i Tk.none = b.getD (k + i) Tk.none := by simp [List.getD]
  rw [e] at hc ⊢
  exact h (k + i) (by omega) hc

set_option maxRecDepth 100000 in
set_option maxHeartbeats 4000000 in
theorem filled_any {va : Value} {bb boff bn bcap : Nat} {b : List Tk} {args : List (List Tk)} {w : World} (hb : TOn 0 w (.slice (some ⟨bb, boff, none⟩) bn bcap) b) (ha : ARow 0 w va args) (lb : b.length ≤ 2000) (la : args.length ≤ 9) (hsl : SlotsIn args.length b) :
    Calls Try.prog 77 #[.slice (some ⟨bb, boff, none⟩) bn bcap, va] w fun e w' => ∃ v' rs, e = .returned v' ∧ ARow 0 w' v' rs ∧ rs.length ≤ 4001 ∧ rs.flatten = fill args b ∧ Below w.heap.size w w' := by
  obtain ⟨i0, hi, hz0, hz1, hz2⟩ := info_parts Try.info32
  have hbl : bn = b.length := by obtain ⟨b2, off2, cap2, e, _⟩ := hb; simp at e; exact e.2.1
  have HB : Hid (TOn 0 w (.slice (some ⟨bb, boff, none⟩) bn bcap) b) := hb
  obtain ⟨aa, an, acap, rfl, hal, har⟩ := ha
  have HA : Hid (0 < an → ∃ b off, aa = some ⟨b, off, none⟩ ∧ 0 ≤ b ∧ b < w.heap.size ∧ ∀ i, i < an → ∃ cs : List Value, cs.length = 1 ∧ TsS 0 w cs (args.getD i []) ∧ ∀ j, j < 1 → w.cell? ⟨b, off + i * 1 + j, none⟩ = cs[j]?) := har
  have HAL : Hid (args.length = an) := hal
  have HSL : Hid (SlotsIn args.length b) := hsl
  have HBL : Hid (bn = b.length) := hbl
  have hbn : bn ≤ 2000 := by omega
  rw [hal] at la
  clear hb har hal hsl hbl lb
  go_enter Try.func77, Try.ntmps77
  go_wp2_with (go_at_call 109; refine (cut_any HB (Below.refl _ _) (by omega)).mono ?_; rintro e w1 ⟨v1, v2, rfl, hv1, hv2, hb1⟩; have hs1 := hv1.shape; obtain ⟨xb, xo, xn, xc, rfl⟩ := hs1; have HV : Hid (TOn 0 w (.slice (some ⟨xb, xo, none⟩) xn xc) (b.take (lead b)) ∧ TN 0 w v2 (b.drop (lead b)) ∧ Below w.heap.size w w1) := ⟨hv1, hv2, hb1⟩; clear hv1 hv2 hb1)
  have hsz1 : w.heap.size ≤ w1.heap.size := Below.size HV.2.2
  go_loopw [6, 7] (fun fr rows wr => ∃ (fl : List Tk) (n : Nat) (vs : List Value) (rs : List (List Tk)), TN 0 w fr fl ∧ wr.ownsRow w.heap.size 32 1 rows n vs ∧ RowsOf w vs rs ∧ rs.flatten ++ fill args fl = fill args b ∧ SlotFirst fl ∧ SlotsIn args.length fl ∧ fl.length ≤ 2000 ∧ rs.length + 2 * fl.length ≤ 4001 ∧ Below w.heap.size w wr) (fun fr _ _ => lenV fr)
  case atStart =>
    refine ⟨b.drop (lead b), 1, [.slice (some ⟨xb, xo, none⟩) xn xc], [b.take (lead b)], HV.2.1, ?_, ⟨HV.1, trivial⟩, ?_, drop_first b, SlotsIn.drop HSL _, ?_, ?_, Below.alloc HV.2.2 hsz1 _⟩
    · exact World.ownsRow_lit w1 #[.slice (some ⟨xb, xo, none⟩) xn xc] 1 hsz1 (by decide) rfl
    · rw [fill_lead b]; simp
    · rw [List.length_drop, ← show bn = b.length from HBL]; omega
    · rw [List.length_drop, ← show bn = b.length from HBL]; simp; omega
  case round =>
    obtain ⟨fl, n, vs, rs, hfr, hown, hrs, hfl, hsf, hsi, hl2, hl4, hbel⟩ := hrel
    obtain ⟨ra, rcap, rfl⟩ := own1_shape hown
    have HX : Hid (RowsOf w vs rs ∧ rs.flatten ++ fill args fl = fill args b ∧ SlotFirst fl ∧ SlotsIn args.length fl) := ⟨hrs, hfl, hsf, hsi⟩
    have HOWN : Hid (wr.ownsRow w.heap.size 32 1 (.slice ra n rcap) n vs) := hown
    have HBEL : Hid (Below w.heap.size w wr) := hbel
    have hln : n = rs.length := by have := hown.1; rw [RowsOf.len _ _ hrs] at this; omega
    have HLN : Hid (n = rs.length) := hln
    have HL4 : Hid (rs.length + 2 * fl.length ≤ 4001 ∧ fl.length ≤ 2000) := ⟨hl4, hl2⟩
    have hn4 : n ≤ 4001 := by omega
    clear hrs hfl hsf hsi hown hbel hln hl4 hl2
    rcases hfr with ⟨rfl, rfl⟩ | hon
    · have HF : Hid (rs.flatten = fill args b) := by show rs.flatten = _; have := HX.2.1; simpa [fill] using this
      go_wp2
      go_ret
      exact ⟨_, rs, rfl, RowsOf.row HOWN (RowsOf.below HBEL _ _ HX.1), by have := HL4.1; omega, HF, HBEL⟩
    · obtain ⟨fb, fo, fn, fc, rfl⟩ := hon.shape
      have hfn : fn = fl.length := by obtain ⟨b2, off2, cap2, e, _⟩ := hon; simp at e; exact e.2.1
      have hfc : fn ≤ fc := by obtain ⟨b2, off2, cap2, e, hc, _⟩ := hon; simp at e; rw [← hfn, ← e.2.2] at hc; exact hc
      have HON : Hid (TOn 0 w (.slice (some ⟨fb, fo, none⟩) fn fc) fl) := hon
      by_cases h0 : fn = 0
      · subst h0
        have hnil : fl = [] := List.eq_nil_of_length_eq_zero hfn.symm
        have HF : Hid (rs.flatten = fill args b) := by show rs.flatten = _; have := HX.2.1; rw [hnil] at this; simpa [fill] using this
        clear hnil hfn hon
        go_wp2
        go_ret
        exact ⟨_, rs, rfl, RowsOf.row HOWN (RowsOf.below HBEL _ _ HX.1), by have := HL4.1; omega, HF, HBEL⟩
      · have hpos : (0 : Int) < (fn : Int) := by omega
        have hne : fl ≠ [] := fun h => by rw [h] at hfn; exact h0 hfn
        have hc16 : (fl.getD 0 Tk.none).c = 16 := HX.2.2.1.resolve_left hne
        obtain ⟨x, hxn, hxh⟩ := HX.2.2.2 0 (by omega) hc16
        rw [show args.length = an from HAL] at hxn
        obtain ⟨f0, f1, f2⟩ := flat_get fl 0 (by omega)
        rw [hxh] at f1
        have hfb : fb < w.heap.size := by obtain ⟨b2, off2, cap2, e, hc, _, hb2, _⟩ := hon; simp at e; rw [e.1.1]; exact hb2
        have g1 : wr.cell? ⟨fb, fo + 1, none⟩ = some (.int .i64 ((x : Int) + 1)) := by
          obtain ⟨b2, off2, cap2, e, hc, _, hb2, hcc⟩ := hon
          simp at e
          obtain ⟨⟨rfl, rfl⟩, _, _⟩ := e
          have := (Below.cell HBEL (p := ⟨fb, fo + (0 * 3 + 1), none⟩) hfb).trans (hcc _ _ f1)
          simpa using this
        obtain ⟨ab, aoff, rfl, _, hab, hcell⟩ := HA (by omega)
        obtain ⟨cs, hcs, ⟨u, rfl, hu⟩, hcj⟩ := hcell x hxn
        obtain ⟨ux, hux⟩ : ∃ ux, ux = args.getD x [] := ⟨_, rfl⟩
        rw [← hux] at hu
        obtain ⟨ub, uoff, um, ucap, rfl⟩ := hu.shape
        have ha0 : wr.cell? ⟨ab, aoff + x, none⟩ = some (.slice (some ⟨ub, uoff, none⟩) um ucap) := by have h := (Below.cell HBEL (p := ⟨ab, aoff + x * 1 + 0, none⟩) hab).trans (hcj 0 (by omega)); simpa using h
        have haw : ab < wr.heap.size := Nat.lt_of_lt_of_le hab (Below.size HBEL)
        have hfw : fb < wr.heap.size := Nat.lt_of_lt_of_le hfb (Below.size HBEL)
        have HU : Hid (TOn 0 w (.slice (some ⟨ub, uoff, none⟩) um ucap) ux) := hu
        -- what is left behind the slot
        obtain ⟨rest, hrest⟩ : ∃ r, r = fl.drop 1 := ⟨_, rfl⟩
        have HREST : Hid (TOn 0 w (.slice (some ⟨fb, fo + 3, none⟩) (fn - 1) (fc - 1)) rest) := by
          have := TOn.drop hon (k := 1) (by omega)
          rw [← hrest] at this
          show TOn _ _ _ _
          simpa using this
        have HFILL : Hid (fill args fl = ux ++ (rest.take (lead rest) ++ fill args (rest.drop (lead rest)))) := by
          show fill args fl = _
          rw [← fill_lead rest]
          cases fl with
          | nil => exact absurd rfl hne
          | cons t r =>
            simp only [List.drop_succ_cons, List.drop_zero] at hrest
            simp only [List.getD_cons_zero] at hc16 hxh
            rw [hrest]
            simp only [fill, part, if_pos hc16, hxh, hux]
            simp
        have HRL : Hid (rest.length = fl.length - 1 ∧ SlotsIn args.length rest) := ⟨by rw [hrest, List.length_drop], by rw [hrest]; exact SlotsIn.drop HX.2.2.2 1⟩
        have hx1 : (x : Int) + 1 - 1 = (x : Int) := by omega
        have hxa : (x : Int) < (an : Int) := by omega
        have h1n : (1 : Int) ≤ (fn : Int) := by omega
        have h1c : (1 : Int) ≤ (fc : Int) := by omega
        have HFN : Hid (fn = fl.length) := hfn
        have hf2 : fn ≤ 2000 := by have := HL4.2; omega
        clear hcell hcs hcj hux hu hon hne hc16 hxh f0 f1 f2 hrest hfn
        by_cases hfc1 : fc = 1
        · obtain rfl : fn = 1 := by omega
          subst hfc1
          have HREST1 : Hid (TOn 0 w (.slice (some ⟨fb, fo, none⟩) 0 0) rest) := by
            have : rest = [] := List.eq_nil_of_length_eq_zero (by rw [HRL.1, ← show 1 = fl.length from HFN])
            rw [this]
            exact ⟨fb, fo, 0, rfl, Nat.le_refl _, Nat.zero_le _, hfb, fun j u hj => by simp [flat] at hj⟩
          go_wp2_with (at_builtin; refine wpList_append_own _ rfl _ _ 57 rfl w.heap.size 32 i0 _ 1 24 Try.underlying57 hi hz0 hz1 hz2 rfl (by decide) _ _ _ rfl (World.ownsRow.alloc HOWN _) ⟨wr.heap.size, 0, none⟩ 1 1 [.slice (some ⟨ub, uoff, none⟩) um ucap] rfl ?xc1 ?xc2 ?xc3 ?xc4 ?xc5 ?xc6 ?_)
          case xc1 => rfl
          case xc2 =>
            intro j u hj
            match j, hj with
            | 0, hj => simp at hj; subst hj; simp [Addr.add]
          case xc3 => intro u hu; simp at hu; subst hu; rfl
          case xc4 => unfold maxLen; omega
          case xc5 => omega
          case xc6 => simp; have := Below.size HBEL; omega
          intro v' w2 hown' hgrow hnil'
          have HB2 : Hid (Below w.heap.size w w2) := (Below.alloc HBEL (Below.size HBEL) _).grown hgrow (by simp; have := Below.size HBEL; omega) (fun r hr => (World.ownsRow.lt HOWN r hr).1)
          obtain ⟨ra2, rcap2, rfl⟩ := own1_shape hown'
          have HO2 : Hid (w2.ownsRow w.heap.size 32 1 (.slice ra2 (n + 1) rcap2) (n + 1) (vs ++ [.slice (some ⟨ub, uoff, none⟩) um ucap])) := hown'
          clear hown' hgrow hnil'
          go_wp2_with (first
            | (go_at_call 109; refine (cut_any HREST1 HB2 (by omega)).mono ?_; rintro e w3 ⟨y1, y2, rfl, hy1, hy2, hb3⟩; have hs1 := hy1.shape; obtain ⟨yb, yo, yn, yc, rfl⟩ := hs1; have HV3 : Hid (TOn 0 w (.slice (some ⟨yb, yo, none⟩) yn yc) (rest.take (lead rest)) ∧ TN 0 w y2 (rest.drop (lead rest)) ∧ w3.ownsRow w.heap.size 32 1 (.slice ra2 (n + 1) rcap2) (n + 1) (vs ++ [.slice (some ⟨ub, uoff, none⟩) um ucap]) ∧ Below w.heap.size w w3) := ⟨hy1, hy2, own1_below HO2 hb3, below_more HB2 hb3 (Below.size HB2)⟩; clear hy1 hy2 hb3)
            | (at_builtin; refine wpList_append_own _ rfl _ _ 57 rfl w.heap.size 32 i0 _ 1 24 Try.underlying57 hi hz0 hz1 hz2 rfl (by decide) _ _ _ rfl (World.ownsRow.alloc HV3.2.2.1 _) ⟨w3.heap.size, 0, none⟩ 1 1 [.slice (some ⟨yb, yo, none⟩) yn yc] rfl ?xd1 ?xd2 ?xd3 ?xd4 ?xd5 ?xd6 ?_))
          case xd1 => rfl
          case xd2 =>
            intro j u hj
            match j, hj with
            | 0, hj => simp at hj; subst hj; simp [Addr.add]
          case xd3 => intro u hu; simp at hu; subst hu; rfl
          case xd4 => unfold maxLen; omega
          case xd5 => omega
          case xd6 => simp; have := Below.size HV3.2.2.2; omega
          intro v' w4 hown' hgrow hnil'
          have HB4 : Hid (Below w.heap.size w w4) := (Below.alloc HV3.2.2.2 (Below.size HV3.2.2.2) _).grown hgrow (by simp; have := Below.size HV3.2.2.2; omega) (fun r hr => (World.ownsRow.lt HV3.2.2.1 r hr).1)
          obtain ⟨ra4, rcap4, rfl⟩ := own1_shape hown'
          have HO4 : Hid (w4.ownsRow w.heap.size 32 1 (.slice ra4 (n + 1 + 1) rcap4) (n + 1 + 1) (vs ++ [.slice (some ⟨ub, uoff, none⟩) um ucap] ++ [.slice (some ⟨yb, yo, none⟩) yn yc])) := by show World.ownsRow _ _ _ _ _ _ _; simpa using hown'
          clear hown' hgrow hnil'
          have hyl : lenV y2 ≤ rest.length := by
            have := TN_len HV3.2.1
            rw [List.length_drop] at this
            omega
          go_wp2
          go_roundw
          case rel =>
            refine ⟨rest.drop (lead rest), n + 1 + 1, _, rs ++ [ux] ++ [rest.take (lead rest)], HV3.2.1, HO4, RowsOf.snoc HV3.1 _ _ (RowsOf.snoc HU _ _ HX.1), ?_, drop_first rest, SlotsIn.drop HRL.2 _, ?_, ?_, HB4⟩
            · have := HX.2.1
              rw [show fill args fl = _ from HFILL] at this
              simpa using this
            · rw [List.length_drop, HRL.1]; have := HL4.2; omega
            · rw [List.length_drop, HRL.1, List.length_append, List.length_append]; have := HL4.1; have := HL4.2; have h9 := show _ = fl.length from HFN; simp; omega
          case measure =>
            rw [HRL.1] at hyl
            have h9 := show _ = fl.length from HFN
            show lenV y2 < lenV (Value.slice _ _ _)
            rw [show ∀ a n c, lenV (Value.slice a n c) = n from fun _ _ _ => rfl]
            omega
        · have hfc2 : ¬ fc - 1 = 0 := by omega
          have hfc3 : 1 < fc := by omega
          go_wp2_with (at_builtin; refine wpList_append_own _ rfl _ _ 57 rfl w.heap.size 32 i0 _ 1 24 Try.underlying57 hi hz0 hz1 hz2 rfl (by decide) _ _ _ rfl (World.ownsRow.alloc HOWN _) ⟨wr.heap.size, 0, none⟩ 1 1 [.slice (some ⟨ub, uoff, none⟩) um ucap] rfl ?yc1 ?yc2 ?yc3 ?yc4 ?yc5 ?yc6 ?_)
          case yc1 => rfl
          case yc2 =>
            intro j u hj
            match j, hj with
            | 0, hj => simp at hj; subst hj; simp [Addr.add]
          case yc3 => intro u hu; simp at hu; subst hu; rfl
          case yc4 => unfold maxLen; omega
          case yc5 => omega
          case yc6 => simp; have := Below.size HBEL; omega
          intro v' w2 hown' hgrow hnil'
          have HB2 : Hid (Below w.heap.size w w2) := (Below.alloc HBEL (Below.size HBEL) _).grown hgrow (by simp; have := Below.size HBEL; omega) (fun r hr => (World.ownsRow.lt HOWN r hr).1)
          obtain ⟨ra2, rcap2, rfl⟩ := own1_shape hown'
          have HO2 : Hid (w2.ownsRow w.heap.size 32 1 (.slice ra2 (n + 1) rcap2) (n + 1) (vs ++ [.slice (some ⟨ub, uoff, none⟩) um ucap])) := hown'
          clear hown' hgrow hnil'
          go_wp2_with (first
            | (go_at_call 109; refine (cut_any HREST HB2 (by omega)).mono ?_; rintro e w3 ⟨y1, y2, rfl, hy1, hy2, hb3⟩; have hs1 := hy1.shape; obtain ⟨yb, yo, yn, yc, rfl⟩ := hs1; have HV3 : Hid (TOn 0 w (.slice (some ⟨yb, yo, none⟩) yn yc) (rest.take (lead rest)) ∧ TN 0 w y2 (rest.drop (lead rest)) ∧ w3.ownsRow w.heap.size 32 1 (.slice ra2 (n + 1) rcap2) (n + 1) (vs ++ [.slice (some ⟨ub, uoff, none⟩) um ucap]) ∧ Below w.heap.size w w3) := ⟨hy1, hy2, own1_below HO2 hb3, below_more HB2 hb3 (Below.size HB2)⟩; clear hy1 hy2 hb3)
            | (at_builtin; refine wpList_append_own _ rfl _ _ 57 rfl w.heap.size 32 i0 _ 1 24 Try.underlying57 hi hz0 hz1 hz2 rfl (by decide) _ _ _ rfl (World.ownsRow.alloc HV3.2.2.1 _) ⟨w3.heap.size, 0, none⟩ 1 1 [.slice (some ⟨yb, yo, none⟩) yn yc] rfl ?yd1 ?yd2 ?yd3 ?yd4 ?yd5 ?yd6 ?_))
          case yd1 => rfl
          case yd2 =>
            intro j u hj
            match j, hj with
            | 0, hj => simp at hj; subst hj; simp [Addr.add]
          case yd3 => intro u hu; simp at hu; subst hu; rfl
          case yd4 => unfold maxLen; omega
          case yd5 => omega
          case yd6 => simp; have := Below.size HV3.2.2.2; omega
          intro v' w4 hown' hgrow hnil'
          have HB4 : Hid (Below w.heap.size w w4) := (Below.alloc HV3.2.2.2 (Below.size HV3.2.2.2) _).grown hgrow (by simp; have := Below.size HV3.2.2.2; omega) (fun r hr => (World.ownsRow.lt HV3.2.2.1 r hr).1)
          obtain ⟨ra4, rcap4, rfl⟩ := own1_shape hown'
          have HO4 : Hid (w4.ownsRow w.heap.size 32 1 (.slice ra4 (n + 1 + 1) rcap4) (n + 1 + 1) (vs ++ [.slice (some ⟨ub, uoff, none⟩) um ucap] ++ [.slice (some ⟨yb, yo, none⟩) yn yc])) := by show World.ownsRow _ _ _ _ _ _ _; simpa using hown'
          clear hown' hgrow hnil'
          have hyl : lenV y2 ≤ rest.length := by
            have := TN_len HV3.2.1
            rw [List.length_drop] at this
            omega
          go_wp2
          go_roundw
          case rel =>
            refine ⟨rest.drop (lead rest), n + 1 + 1, _, rs ++ [ux] ++ [rest.take (lead rest)], HV3.2.1, HO4, RowsOf.snoc HV3.1 _ _ (RowsOf.snoc HU _ _ HX.1), ?_, drop_first rest, SlotsIn.drop HRL.2 _, ?_, ?_, HB4⟩
            · have := HX.2.1
              rw [show fill args fl = _ from HFILL] at this
              simpa using this
            · rw [List.length_drop, HRL.1]; have := HL4.2; omega
            · rw [List.length_drop, HRL.1, List.length_append, List.length_append]; have := HL4.1; have := HL4.2; have h9 := show _ = fl.length from HFN; simp; omega
          case measure =>
            rw [HRL.1] at hyl
            have h9 := show _ = fl.length from HFN
            show lenV y2 < lenV (Value.slice _ _ _)
            rw [show ∀ a n c, lenV (Value.slice a n c) = n from fun _ _ _ => rfl]
            omega
end Go.Proofs.Ytbceblgnjicdcaa
