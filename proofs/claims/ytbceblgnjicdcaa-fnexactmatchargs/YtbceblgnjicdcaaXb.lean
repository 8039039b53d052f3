/-
  The program's list that no delimiter ends.
-/
import Derived.Test.YtbceblgnjicdcaaXr
namespace Go.Proofs.Ytbceblgnjicdcaa
open Go.RowKit
set_option linter.unusedVariables false
set_option linter.unusedSimpArgs false

/-- A list that stands below x, or is one's own from base on. -/
def TAt (w : World) (x base : Nat) (v : Value) (ts : List Tk) : Prop := TNb w x v ts ∨ (w.ownsRow base 31 3 v ts.length (flat ts) ∧ v ≠ .slice none 0 0)

def xM (w : World) (x : Nat) : Nat := match w.cell? ⟨x, 2, none⟩ with | some (.int .i64 k) => k.toNat | _ => 0
theorem Xs.m {w : World} {x : Nat} {rest : List Tk} (h : Xs w x rest) : xM w x = rest.length := by
  obtain ⟨fv, h, _⟩ := h
  unfold xM
  rw [h.cells.2.2.1]
  simp
/-- Spaces are passed: t is the last one taken. -/
def BInv (w : World) (x T : Nat) (rest : List Tk) (wr : World) : Prop :=
  ∃ (t : Tk) (r : List Tk), tkRow wr T t ∧ Xs wr x r ∧ Fr x w wr ∧ rest.dropWhile isSp = (t :: r).dropWhile isSp ∧ r.length < rest.length

set_option maxRecDepth 100000 in
set_option maxHeartbeats 4000000 in
theorem bare_any {w : World} {x : Nat} {rest : List Tk} (h : Xs w x rest) (hl : rest.length ≤ 20000) :
    Calls Try.prog 112 #[ptr x] w fun e w' => Fr x w w' ∧ (((plain rest).1 = 0 ∧ ∃ v, e = .returned v ∧ TAt w' x w.heap.size v (plain rest).2.1 ∧ Xs w' x (plain rest).2.2) ∨ ((plain rest).1 ≠ 0 ∧ e = up (plain rest).1)) := by
  have H : Hid (Xs w x rest) := h
  have hsz := h.lt
  clear h
  match rest, H with
  | [], H =>
    go_enter Try.func112, Try.ntmps112
    go_wp2_with fail
    refine (take_none H).mono ?_
    rintro e w3 ⟨rfl, hb3⟩
    have FIN : Hid (Fr x w w3) := Fr.below hb3 (by omega)
    clear hb3
    go_wp2
    exact ⟨rfl, FIN, .inr ⟨by simp [plain], rfl⟩⟩
  | t :: r, H =>
    obtain ⟨rest, hrest⟩ : ∃ rest, rest = t :: r := ⟨_, rfl⟩
    have HRE : Hid (rest = t :: r) := hrest
    rw [← hrest]
    clear hrest
    go_enter Try.func112, Try.ntmps112
    go_wp2_with fail
    refine (take_some H (by simp at hl; omega)).mono ?_
    rintro e w1 ⟨rfl, hx1, hf1⟩
    have P1 : Hid (Xs w1 x r ∧ Fr x w w1) := ⟨hx1, hf1⟩
    have z1 : w.heap.size ≤ w1.heap.size := hf1.size
    clear hx1 hf1
    obtain ⟨tc, th, ts⟩ := t
    rw [show (⟨tc, th, ts⟩ : Tk).v = tokV tc th ts from rfl]
    go_wp2_with fail
    obtain ⟨T, hT⟩ : ∃ T, T = w1.heap.size := ⟨_, rfl⟩
    rw [← hT]
    have hTz : w.heap.size ≤ T := by omega
    have START : Hid (BInv w x T (⟨tc, th, ts⟩ :: r) (w1.alloc (.cells #[.int .i64 tc, .int .i64 th, .string ts] 31))) :=
      ⟨⟨tc, th, ts⟩, r, by rw [hT]; exact Array.getElem?_push_size, Xs.fr P1.1 (below1 _ _), Fr.more P1.2 ((below1 _ _).mono z1) (by omega), rfl, by simp⟩
    rw [← show rest = _ from HRE] at START hl
    clear hT P1 H HRE z1
    go_loopw [] (fun wr => Hid (BInv w x T rest wr)) (fun wr => xM wr x)
    case atStart => exact START
    case round =>
      clear START
      obtain ⟨t', r', hrow, hxs, hfr, hdw, hlen⟩ := hrel
      obtain ⟨g0, g1, g2, hTr, gf⟩ := hrow.cells
      have HROW : Hid (tkRow wr T t') := hrow
      have HX : Hid (Xs wr x r') := hxs
      have HFR : Hid (Fr x w wr) := hfr
      have hwz : w.heap.size ≤ wr.heap.size := hfr.size
      have hxr : x < wr.heap.size := hxs.lt
      have hxT : x < T := by omega
      obtain ⟨c', h', s'⟩ := t'
      dsimp only at g0 g1 g2
      clear hrow hxs hfr
      by_cases h3 : c' = 3
      · have HD : Hid (rest.dropWhile isSp = r'.dropWhile isSp) := by show _ = _; rw [hdw, drop_sp h3]
        subst h3
        clear hdw
        match r', HX, HD with
        | [], HX, HD =>
          have HP : Hid (plain rest = (1, [], [])) := plain_none HD
          go_wp2_with fail
          refine (take_none HX).mono ?_
          rintro e w3 ⟨rfl, hb3⟩
          have FIN : Hid (Fr x w w3) := Fr.more HFR (hb3.mono hwz) (by omega)
          clear hb3
          go_wp2
          exact ⟨rfl, FIN, .inr ⟨by rw [show plain rest = _ from HP]; decide, by rw [show plain rest = _ from HP]⟩⟩
        | u :: r2, HX, HD =>
          have hl2 : r2.length + 1 < rest.length := hlen
          go_wp2_with fail
          refine (take_some HX (by omega)).mono ?_
          rintro e w3 ⟨rfl, hx3, hf3⟩
          have row3 : tkRow w3 T ⟨3, h', s'⟩ := by unfold tkRow; rw [hf3.2.block T (by omega) hTr]; exact HROW
          obtain ⟨k0, k1, k2, kT, kf⟩ := row3.cells
          have HR3 : Hid (tkRow w3 T ⟨3, h', s'⟩) := row3
          have P3 : Hid (Xs w3 x r2 ∧ Fr x w w3) := ⟨hx3, HFR.trans hf3⟩
          clear hx3 hf3 row3
          obtain ⟨uc, uh, us⟩ := u
          rw [show (⟨uc, uh, us⟩ : Tk).v = tokV uc uh us from rfl]
          dsimp only at k0 k1 k2
          have NEXT : Hid (BInv w x T rest (((w3.setCell ⟨T, 0, none⟩ (.int .i64 uc)).setCell ⟨T, 1, none⟩ (.int .i64 uh)).setCell ⟨T, 2, none⟩ (.string us)) ∧ xM (((w3.setCell ⟨T, 0, none⟩ (.int .i64 uc)).setCell ⟨T, 1, none⟩ (.int .i64 uh)).setCell ⟨T, 2, none⟩ (.string us)) x < xM wr x) := by
            have b3 : Below w.heap.size w3 (((w3.setCell ⟨T, 0, none⟩ (.int .i64 uc)).setCell ⟨T, 1, none⟩ (.int .i64 uh)).setCell ⟨T, 2, none⟩ (.string us)) := (((Below.refl _ _).setCell (p := ⟨T, 0, none⟩) hTz _).setCell (p := ⟨T, 1, none⟩) hTz _).setCell (p := ⟨T, 2, none⟩) hTz _
            have x3 := Xs.bel P3.1 (b3.mono hsz)
            refine ⟨⟨⟨uc, uh, us⟩, r2, tkRow.set HR3 ⟨uc, uh, us⟩, x3, Fr.more P3.2 b3 hsz, HD, by omega⟩, ?_⟩
            rw [Xs.m x3, Xs.m HX]
            simp
          go_wp2
          go_roundw
          case rel => exact NEXT.1
          case measure => exact NEXT.2
      · have HD : Hid (rest.dropWhile isSp = ⟨c', h', s'⟩ :: r') := by show _ = _; rw [hdw, drop_no h3]
        have e3 : (c' == 3) = false := beq_eq_false_iff_ne.2 h3
        clear hdw
        by_cases h2 : c' = 2
        · have HP : Hid (plain rest = (3, [], r')) := plain_close HD h2
          subst h2
          go_wp2
          exact ⟨rfl, HFR, .inr ⟨by rw [show plain rest = _ from HP]; exact (by decide : (3 : Int) ≠ 0), by rw [show plain rest = _ from HP]⟩⟩
        · have e2 : (c' == 2) = false := beq_eq_false_iff_ne.2 h2
          by_cases h1 : c' = 1
          · subst h1
            go_wp2_with fail
            refine (group_any HX (by omega)).mono ?_
            rintro e w3 ⟨hf3, ⟨v, a, r2, hg, rfl, htn, hx3⟩ | ⟨hg, rfl⟩⟩
            · have HP : Hid (plain rest = (0, a, r2)) := plain_grp HD rfl hg
              have P3 : Hid (Fr x w w3 ∧ TNb w3 x v a ∧ Xs w3 x r2) := ⟨HFR.trans hf3, htn, hx3⟩
              clear hf3 hg htn hx3
              go_wp2
              go_ret
              exact ⟨P3.1, .inl ⟨by rw [show plain rest = _ from HP], _, rfl, .inl (by rw [show plain rest = _ from HP]; exact P3.2.1), by rw [show plain rest = _ from HP]; exact P3.2.2⟩⟩
            · have HP : Hid (plain rest = (1, [], [])) := plain_end HD rfl hg
              have P3 : Hid (Fr x w w3) := HFR.trans hf3
              clear hf3 hg
              go_wp2
              exact ⟨rfl, P3, .inr ⟨by rw [show plain rest = _ from HP]; decide, by rw [show plain rest = _ from HP]⟩⟩
          · have e1 : (c' == 1) = false := beq_eq_false_iff_ne.2 h1
            have HP : Hid (plain rest = (0, [⟨c', h', s'⟩], r')) := plain_one HD h2 h1
            go_wp2
            go_ret
            have B := (below1 wr (.cells #[.int .i64 c', .int .i64 h', .string s'] 31))
            refine ⟨Fr.more HFR (B.mono hwz) (by omega), .inl ⟨by rw [show plain rest = _ from HP], _, rfl, .inr ?_, by rw [show plain rest = _ from HP]; exact Xs.fr HX B⟩⟩
            rw [show plain rest = _ from HP]
            exact ⟨⟨rfl, .inr ⟨wr.heap.size, 1, #[.int .i64 c', .int .i64 h', .string s'], rfl, hwz, heap_alloc_new wr _, Nat.le_refl _, by decide, rfl, rfl⟩⟩, by simp⟩
end Go.Proofs.Ytbceblgnjicdcaa
