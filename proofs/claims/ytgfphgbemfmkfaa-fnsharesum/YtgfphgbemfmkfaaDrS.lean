/-
  The draw of a row of glues.
-/
import Derived.Test.YtgfphgbemfmkfaaDrawG
namespace Go.Proofs.Ytgfphgbemfmkfaa
open Go.RowKit
set_option linter.unusedVariables false
set_option linter.unusedSimpArgs false

def flatG : List Gl → List Value
  | [] => []
  | g :: gs => [.int .i64 g.s, .int .i64 g.p, .int .i64 g.po, .int .i64 g.m, .int .i64 g.mo] ++ flatG gs
theorem flatG_len : ∀ gs : List Gl, (flatG gs).length = gs.length * 5
  | [] => rfl
  | g :: gs => by simp [flatG, flatG_len gs]; omega
theorem flatG_app : ∀ a b : List Gl, flatG (a ++ b) = flatG a ++ flatG b
  | [], b => rfl
  | g :: a, b => by simp [flatG, flatG_app a b]
theorem flatG_get : ∀ (gs : List Gl) (k : Nat), k < gs.length → (flatG gs)[k * 5]? = some (.int .i64 (gs.getD k Gl.none).s) ∧ (flatG gs)[k * 5 + 1]? = some (.int .i64 (gs.getD k Gl.none).p) ∧ (flatG gs)[k * 5 + 2]? = some (.int .i64 (gs.getD k Gl.none).po) ∧ (flatG gs)[k * 5 + 3]? = some (.int .i64 (gs.getD k Gl.none).m) ∧ (flatG gs)[k * 5 + 4]? = some (.int .i64 (gs.getD k Gl.none).mo)
  | [], k, h => by simp at h
  | g :: gs, 0, _ => by simp [flatG]
  | g :: gs, k + 1, h => by
    have ih := flatG_get gs k (by simpa using h)
    have e : (k + 1) * 5 = k * 5 + 5 := by omega
    simp only [flatG, e, List.getD_cons_succ]
    rw [show ([Value.int .i64 g.s, .int .i64 g.p, .int .i64 g.po, .int .i64 g.m, .int .i64 g.mo] ++ flatG gs) = .int .i64 g.s :: .int .i64 g.p :: .int .i64 g.po :: .int .i64 g.m :: .int .i64 g.mo :: flatG gs from rfl]
    refine ⟨?_, ?_, ?_, ?_, ?_⟩
    · simpa using ih.1
    · rw [show k * 5 + 5 + 1 = (k * 5 + 1) + 5 by omega]; simpa using ih.2.1
    · rw [show k * 5 + 5 + 2 = (k * 5 + 2) + 5 by omega]; simpa using ih.2.2.1
    · rw [show k * 5 + 5 + 3 = (k * 5 + 3) + 5 by omega]; simpa using ih.2.2.2.1
    · rw [show k * 5 + 5 + 4 = (k * 5 + 4) + 5 by omega]; simpa using ih.2.2.2.2

theorem own5_fram {base n : Nat} {w a b : World} {v : Value} {xs : List Value} (h : a.ownsRow base 33 5 v n xs) (hf : Fram w a b) (hb : w.heap.size < base) : b.ownsRow base 33 5 v n xs := by
  obtain ⟨hl, h | ⟨g, cap, cur, rfl, hg, hbk, hr⟩⟩ := h
  · exact ⟨hl, .inl h⟩
  · exact ⟨hl, .inr ⟨g, cap, cur, rfl, hg, (hf.2 g (Array.getElem?_eq_some_iff.1 hbk).1 (by omega)).trans hbk, hr⟩⟩
theorem own5_shape {base n : Nat} {w : World} {v : Value} {xs : List Value} (h : w.ownsRow base 33 5 v n xs) : ∃ ao cap, v = .slice ao n cap := by
  obtain ⟨hl, ⟨rfl, rfl⟩ | ⟨g, cap, cur, rfl, hg, hb, _⟩⟩ := h
  · exact ⟨_, _, rfl⟩
  · exact ⟨_, _, rfl⟩
theorem Fram.below {w a b c : World} (h : Fram w a b) (hb : Below b.heap.size b c) : Fram w a c := ⟨Nat.le_trans h.1 hb.size, fun n hn hne => (hb.block n (Nat.lt_of_lt_of_le hn h.1)).trans (h.2 n hn hne)⟩
theorem Cur.below {w a b : World} {ao : Option Addr} {len cap : Nat} (h : Cur w a ao len cap) (hb : Below a.heap.size a b) : Cur w b ao len cap := by
  have := h.lt
  obtain ⟨i, h', h1, h2, h3, h4⟩ := h
  exact ⟨i, h', h1, h2, (hb.block _ this).trans h3, h4.trans (hb.mono (by omega))⟩
/-- The walk's state: the row so far; the cursor. -/
def GsInv (w wr : World) (ao : Option Addr) (len cap n : Nat) (o iv : Value) (wi : World) : Prop :=
  ∃ (gs : List Gl) (i : Nat), iv = .int .i64 (i : Int) ∧ i ≤ n ∧ gs.length = i ∧ wi.ownsRow wr.heap.size 33 5 o gs.length (flatG gs) ∧ Cur w wi ao len cap ∧ Fram w wr wi
/-- Within a round: the glue in its box. -/
def GtInv (w wr wo : World) (ao : Option Addr) (len cap G : Nat) (tv : Value) (wi : World) : Prop :=
  ∃ (g : Gl) (t : Nat), tv = .int .i64 (t : Int) ∧ t ≤ 4 ∧ wi.heap[G]? = some (glueO g.s g.p g.po g.m g.mo) ∧ Cur w wi ao len cap ∧ Fram w wo wi

set_option maxRecDepth 20000 in
set_option maxHeartbeats 4000000 in
theorem drawGlues_any (ao : Option Addr) (len cap n : Nat) (w wa : World) (hB : Bytes w ao len cap) (hC : Cur w wa ao len cap) (hn : n ≤ 8) :
    Calls Try.prog 21 #[curP w, .int .i64 (n : Int)] wa fun e w' => ∃ (v : Value) (gs : List Gl), e = .returned v ∧ w'.ownsRow wa.heap.size 33 5 v gs.length (flatG gs) ∧ gs.length ≤ 8 ∧ Cur w w' ao len cap ∧ Fram w wa w' := by
  obtain ⟨i0, hi, hz0, hz1, hz2⟩ := info_parts Try.info33
  have HB := hideD hB
  have HC := hideD hC
  have hcw := hC.lt
  clear hB hC
  go_enter Try.func21, Try.ntmps21
  go_wp2_with fail
  have START : Hid (GsInv w wa ao len cap n (.slice (some ⟨wa.heap.size, 0, none⟩) 0 0) (.int .i64 0) (wa.alloc (.cells #[] 33))) := ⟨[], 0, rfl, Nat.zero_le _, rfl, World.ownsRow_made wa #[] 0 (Nat.le_refl _) (Nat.zero_le _) (by simp), HC.out.alloc _, Fram.alloc (Fram.refl _ _) _⟩
  go_loopw [5, 6] (fun o iv wi => Hid (GsInv w wa ao len cap n o iv wi)) (fun _ iv _ => n - (intOf iv).toNat)
  case atStart => exact START
  case round =>
    clear START
    obtain ⟨gs, i, rfl, hin, hgl, hown, hcur, hfr⟩ := hrel
    obtain ⟨oa, oc, rfl⟩ := own5_shape hown
    obtain ⟨wi, hwi⟩ : ∃ W, W = wr := ⟨_, rfl⟩
    rw [← hwi] at hown hcur hfr
    rw [← hwi]
    by_cases hk : i < n
    · have hki : (i : Int) < (n : Int) := by omega
      have HO : Hid (wi.ownsRow wa.heap.size 33 5 (.slice oa gs.length oc) gs.length (flatG gs) ∧ Cur w wi ao len cap ∧ Fram w wa wi ∧ gs.length = i) := ⟨hown, hcur, hfr, hgl⟩
      have hzi : wa.heap.size ≤ wi.heap.size := hfr.1
      have hml : n - (intOf (Value.int .i64 (i : Int))).toNat = n - i := by simp [intOf]
      clear hown hcur hfr hwi hgl
      go_wp2_with fail
      refine (drawGlue_any ao len cap w _ HB.out HO.2.1).mono ?_
      rintro e w1 ⟨t, rfl, hc1, hf1⟩
      have F1 : Hid (Cur w w1 ao len cap ∧ Fram w wi w1) := ⟨hc1, hf1⟩
      have hz1' : wi.heap.size ≤ w1.heap.size := hf1.1
      clear hc1 hf1
      obtain ⟨ts, tp, tpo, tm, tmo⟩ := t
      rw [show (⟨ts, tp, tpo, tm, tmo⟩ : Gl).v = glueV ts tp tpo tm tmo from rfl]
      go_wp2_with fail
      obtain ⟨G, hG⟩ : ∃ G, G = w1.heap.size := ⟨_, rfl⟩
      have START2 : Hid (GtInv w wa wi ao len cap G (.int .i64 0) (w1.alloc (.cells #[.int .i64 ts, .int .i64 tp, .int .i64 tpo, .int .i64 tm, .int .i64 tmo] 33))) := ⟨⟨ts, tp, tpo, tm, tmo⟩, 0, rfl, by omega, by rw [hG]; exact heap_alloc_new _ _, F1.1.alloc _, F1.2.alloc _⟩
      rw [← hG]
      have hGz : wi.heap.size ≤ G := by omega
      clear F1 hG
      go_loopw [8] (fun tv wx => Hid (GtInv w wa wi ao len cap G tv wx)) (fun tv _ => 4 - (intOf tv).toNat)
      case atStart => exact START2
      case round =>
        clear START2
        obtain ⟨g, t, rfl, ht4, qg, hcx, hfx⟩ := hrel
        have QG : Hid (wr.heap[G]? = some (glueO g.s g.p g.po g.m g.mo) ∧ Cur w wr ao len cap ∧ Fram w wi wr) := ⟨qg, hcx, hfx⟩
        have hGr : G < wr.heap.size := (Array.getElem?_eq_some_iff.1 qg).1
        have hzr : wi.heap.size ≤ wr.heap.size := hfx.1
        obtain ⟨e0, e1, e2, e3, e4⟩ := glue_cells qg
        clear qg hcx hfx
        by_cases ht : t < 4
        · have hti : (t : Int) < 4 := by omega
          obtain ⟨ob, hob⟩ : ∃ ob, ob = okB g.s g.p g.po g.m g.mo := ⟨_, rfl⟩
          have HOK : Hid (Calls Try.prog 39 #[glueV g.s g.p g.po g.m g.mo] wr fun e w' => e = .returned (.bool ob) ∧ Below wr.heap.size wr w') := by rw [hob]; exact specGlueOk_any _ _ _ _ _ _
          clear hob
          go_wp2_with fail
          refine Calls.mono HOK ?_
          rintro e w2 ⟨rfl, hb2⟩
          have Q2 : Hid (w2.heap[G]? = some (glueO g.s g.p g.po g.m g.mo) ∧ Cur w w2 ao len cap ∧ Fram w wi w2) := ⟨(hb2.block G hGr).trans QG.1, QG.2.1.below hb2, QG.2.2.below hb2⟩
          clear hb2 HOK e0 e1 e2 e3 e4
          cases ob
          · go_wp2_with fail
            refine (once_any 30 ao len cap w _ HB.out Q2.2.1 (by omega) (by omega)).mono ?_
            rintro e w3 ⟨b3, rfl, c3, o3⟩
            have hGw : G ≠ w.heap.size := by omega
            have Q3 : Hid (w3.heap[G]? = some (glueO g.s g.p g.po g.m g.mo) ∧ Cur w w3 ao len cap ∧ Fram w wi w3) := ⟨(o3 G hGw).trans Q2.1, c3, Fram.other Q2.2.2 o3 c3⟩
            clear c3 o3 Q2 QG
            cases b3
            · go_wp2_with fail
              refine (drawGlue_any ao len cap w _ HB.out Q3.2.1).mono ?_
              rintro e w4 ⟨t', rfl, hc4, hf4⟩
              have hG3 : G < w3.heap.size := (Array.getElem?_eq_some_iff.1 Q3.1).1
              have q4 : w4.heap[G]? = some (glueO g.s g.p g.po g.m g.mo) := (hf4.2 G hG3 hGw).trans Q3.1
              have Q4 : Hid (w4.heap[G]? = some (glueO g.s g.p g.po g.m g.mo) ∧ Cur w w4 ao len cap ∧ Fram w wi w4) := ⟨q4, hc4, Q3.2.2.trans hf4⟩
              obtain ⟨e0, e1, e2, e3, e4⟩ := glue_cells q4
              have fG : ∀ j, w4.frozen? ⟨G, j, none⟩ = false := fun j => frozen_of_row w4 G j _ _ q4
              clear hc4 hf4 q4 Q3
              obtain ⟨us, up, upo, um, umo⟩ := t'
              rw [show (⟨us, up, upo, um, umo⟩ : Gl).v = glueV us up upo um umo from rfl]
              have NEXT : Hid (GtInv w wa wi ao len cap G (.int .i64 ((t + 1 : Nat) : Int)) (five w4 G us up upo um umo)) := by
                have hcw4 : w.heap.size < G := by omega
                refine ⟨⟨us, up, upo, um, umo⟩, t + 1, rfl, by omega, five_heap Q4.1 us up upo um umo, ?_, ?_⟩
                · exact ((((Q4.2.1.set hcw4 _ _).set hcw4 _ _).set hcw4 _ _).set hcw4 _ _).set hcw4 _ _
                · exact ((((Q4.2.2.set hGz _ _).set hGz _ _).set hGz _ _).set hGz _ _).set hGz _ _
              go_wp2
              go_roundw
              case rel => exact NEXT
              case measure => simp [intOf]; omega
            · have QX := Q3.1
              have CX := Q3.2.1
              have FX := Q3.2.2
              clear Q3
              have TX : Hid (w3.ownsRow wa.heap.size 33 5 (.slice oa gs.length oc) gs.length (flatG gs) ∧ Fram w wa w3) := ⟨own5_fram HO.1 FX hcw, HO.2.2.1.trans FX⟩
              have zX : wa.heap.size ≤ w3.heap.size := TX.2.1
              obtain ⟨y0, y1, y2, y3, y4⟩ := glue_cells QX
              have hGX : G < w3.heap.size := (Array.getElem?_eq_some_iff.1 QX).1
              have hgl8 : gs.length ≤ 8 := by have := HO.2.2.2; omega
              have GC : Hid (Cur w w3 ao len cap) := CX
              go_wp2_with (at_builtin; refine wpList_append_own _ rfl _ _ 24 rfl wa.heap.size 33 i0 _ 5 40 Try.underlying24 hi hz0 hz1 hz2 rfl (by decide) _ _ _ rfl (World.ownsRow.alloc TX.1 _) ⟨w3.heap.size, 0, none⟩ 1 1 (flatG [g]) rfl ?xa1 ?xa2 ?xa3 ?xa4 ?xa5 ?xa6 ?_)
              case xa1 => rfl
              case xa2 =>
                intro j u hj
                match j, hj with
                | 0, hj => simp [flatG] at hj; subst hj; simp [Addr.add]
                | 1, hj => simp [flatG] at hj; subst hj; simp [Addr.add]
                | 2, hj => simp [flatG] at hj; subst hj; simp [Addr.add]
                | 3, hj => simp [flatG] at hj; subst hj; simp [Addr.add]
                | 4, hj => simp [flatG] at hj; subst hj; simp [Addr.add]
                | j + 5, hj => simp [flatG] at hj
              case xa3 => intro u hu; simp [flatG] at hu; rcases hu with rfl | rfl | rfl | rfl | rfl <;> rfl
              case xa4 => unfold maxLen; omega
              case xa5 => omega
              case xa6 => (try simp); omega
              intro v' w5 hown' hgrow hnil'
              have NEXT : Hid (GsInv w wa ao len cap n v' (.int .i64 ((i + 1 : Nat) : Int)) w5) := by
                have B5 : Below wa.heap.size w3 w5 := ((Below.refl _ _).alloc zX _).grown hgrow (by simp; omega) (fun r hr => (World.ownsRow.lt TX.1 r hr).1)
                refine ⟨gs ++ [g], i + 1, rfl, by omega, by rw [List.length_append, HO.2.2.2]; rfl, ?_, ?_, ?_⟩
                · rw [List.length_append, flatG_app]; exact hown'
                · obtain ⟨ii, hh, h1, h2, h3, h4⟩ := GC
                  exact ⟨ii, hh, h1, h2, (B5.block _ hcw).trans h3, h4.trans (B5.mono (by omega))⟩
                · exact ⟨by have := B5.size; omega, fun q hq hne => (B5.block q hq).trans (TX.2.2 q hq hne)⟩
              obtain ⟨ra2, rcap2, rfl⟩ := own5_shape hown'
              clear hown' hgrow hnil'
              go_wp2
              go_roundw
              case rel => exact NEXT
              case measure => simp [intOf]; omega
          · have QX := Q2.1
            have CX := Q2.2.1
            have FX := Q2.2.2
            clear Q2 QG
            have TX : Hid (w2.ownsRow wa.heap.size 33 5 (.slice oa gs.length oc) gs.length (flatG gs) ∧ Fram w wa w2) := ⟨own5_fram HO.1 FX hcw, HO.2.2.1.trans FX⟩
            have zX : wa.heap.size ≤ w2.heap.size := TX.2.1
            obtain ⟨y0, y1, y2, y3, y4⟩ := glue_cells QX
            have hGX : G < w2.heap.size := (Array.getElem?_eq_some_iff.1 QX).1
            have hgl8 : gs.length ≤ 8 := by have := HO.2.2.2; omega
            have GC : Hid (Cur w w2 ao len cap) := CX
            go_wp2_with (at_builtin; refine wpList_append_own _ rfl _ _ 24 rfl wa.heap.size 33 i0 _ 5 40 Try.underlying24 hi hz0 hz1 hz2 rfl (by decide) _ _ _ rfl (World.ownsRow.alloc TX.1 _) ⟨w2.heap.size, 0, none⟩ 1 1 (flatG [g]) rfl ?ya1 ?ya2 ?ya3 ?ya4 ?ya5 ?ya6 ?_)
            case ya1 => rfl
            case ya2 =>
              intro j u hj
              match j, hj with
              | 0, hj => simp [flatG] at hj; subst hj; simp [Addr.add]
              | 1, hj => simp [flatG] at hj; subst hj; simp [Addr.add]
              | 2, hj => simp [flatG] at hj; subst hj; simp [Addr.add]
              | 3, hj => simp [flatG] at hj; subst hj; simp [Addr.add]
              | 4, hj => simp [flatG] at hj; subst hj; simp [Addr.add]
              | j + 5, hj => simp [flatG] at hj
            case ya3 => intro u hu; simp [flatG] at hu; rcases hu with rfl | rfl | rfl | rfl | rfl <;> rfl
            case ya4 => unfold maxLen; omega
            case ya5 => omega
            case ya6 => (try simp); omega
            intro v' w5 hown' hgrow hnil'
            have NEXT : Hid (GsInv w wa ao len cap n v' (.int .i64 ((i + 1 : Nat) : Int)) w5) := by
              have B5 : Below wa.heap.size w2 w5 := ((Below.refl _ _).alloc zX _).grown hgrow (by simp; omega) (fun r hr => (World.ownsRow.lt TX.1 r hr).1)
              refine ⟨gs ++ [g], i + 1, rfl, by omega, by rw [List.length_append, HO.2.2.2]; rfl, ?_, ?_, ?_⟩
              · rw [List.length_append, flatG_app]; exact hown'
              · obtain ⟨ii, hh, h1, h2, h3, h4⟩ := GC
                exact ⟨ii, hh, h1, h2, (B5.block _ hcw).trans h3, h4.trans (B5.mono (by omega))⟩
              · exact ⟨by have := B5.size; omega, fun q hq hne => (B5.block q hq).trans (TX.2.2 q hq hne)⟩
            obtain ⟨ra2, rcap2, rfl⟩ := own5_shape hown'
            clear hown' hgrow hnil'
            go_wp2
            go_roundw
            case rel => exact NEXT
            case measure => simp [intOf]; omega
        · have hti : ¬ (t : Int) < 4 := by omega
          have QX := QG.1
          have CX := QG.2.1
          have FX := QG.2.2
          clear QG e0 e1 e2 e3 e4
          have TX : Hid (wr.ownsRow wa.heap.size 33 5 (.slice oa gs.length oc) gs.length (flatG gs) ∧ Fram w wa wr) := ⟨own5_fram HO.1 FX hcw, HO.2.2.1.trans FX⟩
          have zX : wa.heap.size ≤ wr.heap.size := TX.2.1
          obtain ⟨y0, y1, y2, y3, y4⟩ := glue_cells QX
          have hGX : G < wr.heap.size := (Array.getElem?_eq_some_iff.1 QX).1
          have hgl8 : gs.length ≤ 8 := by have := HO.2.2.2; omega
          have GC : Hid (Cur w wr ao len cap) := CX
          go_wp2_with (at_builtin; refine wpList_append_own _ rfl _ _ 24 rfl wa.heap.size 33 i0 _ 5 40 Try.underlying24 hi hz0 hz1 hz2 rfl (by decide) _ _ _ rfl (World.ownsRow.alloc TX.1 _) ⟨wr.heap.size, 0, none⟩ 1 1 (flatG [g]) rfl ?za1 ?za2 ?za3 ?za4 ?za5 ?za6 ?_)
          case za1 => rfl
          case za2 =>
            intro j u hj
            match j, hj with
            | 0, hj => simp [flatG] at hj; subst hj; simp [Addr.add]
            | 1, hj => simp [flatG] at hj; subst hj; simp [Addr.add]
            | 2, hj => simp [flatG] at hj; subst hj; simp [Addr.add]
            | 3, hj => simp [flatG] at hj; subst hj; simp [Addr.add]
            | 4, hj => simp [flatG] at hj; subst hj; simp [Addr.add]
            | j + 5, hj => simp [flatG] at hj
          case za3 => intro u hu; simp [flatG] at hu; rcases hu with rfl | rfl | rfl | rfl | rfl <;> rfl
          case za4 => unfold maxLen; omega
          case za5 => omega
          case za6 => (try simp); omega
          intro v' w5 hown' hgrow hnil'
          have NEXT : Hid (GsInv w wa ao len cap n v' (.int .i64 ((i + 1 : Nat) : Int)) w5) := by
            have B5 : Below wa.heap.size wr w5 := ((Below.refl _ _).alloc zX _).grown hgrow (by simp; omega) (fun r hr => (World.ownsRow.lt TX.1 r hr).1)
            refine ⟨gs ++ [g], i + 1, rfl, by omega, by rw [List.length_append, HO.2.2.2]; rfl, ?_, ?_, ?_⟩
            · rw [List.length_append, flatG_app]; exact hown'
            · obtain ⟨ii, hh, h1, h2, h3, h4⟩ := GC
              exact ⟨ii, hh, h1, h2, (B5.block _ hcw).trans h3, h4.trans (B5.mono (by omega))⟩
            · exact ⟨by have := B5.size; omega, fun q hq hne => (B5.block q hq).trans (TX.2.2 q hq hne)⟩
          obtain ⟨ra2, rcap2, rfl⟩ := own5_shape hown'
          clear hown' hgrow hnil'
          go_wp2
          go_roundw
          case rel => exact NEXT
          case measure => simp [intOf]; omega
    · have hki : ¬ (i : Int) < (n : Int) := by omega
      have FIN : Hid (wi.ownsRow wa.heap.size 33 5 (.slice oa gs.length oc) gs.length (flatG gs) ∧ gs.length ≤ 8 ∧ Cur w wi ao len cap ∧ Fram w wa wi) := ⟨hown, by omega, hcur, hfr⟩
      clear hown hcur hfr hwi hgl
      go_wp2
      go_ret
      first | exact ⟨_, rfl, gs, FIN⟩ | exact ⟨_, gs, rfl, FIN⟩
end Go.Proofs.Ytgfphgbemfmkfaa
