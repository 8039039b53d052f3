/-
  The program's rest of a group.
-/
import Derived.Test.YtbceblgnjicdcaaXg
import Derived.Test.YtbceblgnjicdcaaPla
namespace Go.Proofs.Ytbceblgnjicdcaa
open Go.RowKit
set_option linter.unusedVariables false
set_option linter.unusedSimpArgs false

/-- All but the blocks x and those from base on stand. -/
theorem GH.fr {w w' : World} {x g k : Nat} {v : Value} (h : GH w g v k) (hf : Fr x w w') (hx : x < g) : GH w' g v k := by
  have := (Array.getElem?_eq_some_iff.1 h).1
  exact (hf.2.block g (by omega) this).trans h
theorem GH.below {w w' : World} {g k : Nat} {v : Value} (h : GH w g v k) (hf : Below w.heap.size w w') : GH w' g v k := by
  have := (Array.getElem?_eq_some_iff.1 h).1
  exact (hf.block g this).trans h

theorem TNb.bel {w w' : World} {x : Nat} {v : Value} {ts : List Tk} (h : TNb w x v ts) (hb : Below x w w') : TNb w' x v ts := by
  rcases h with ht | ⟨b, off, n, cap, rfl, hbx, b2, off2, cap2, e, hcap, hlo, hb2, hc⟩
  · exact .inl ht
  · simp at e
    obtain ⟨⟨rfl, rfl⟩, rfl, rfl⟩ := e
    exact .inr ⟨b, off, _, cap, rfl, hbx, b, off, cap, rfl, hcap, hlo, Nat.lt_of_lt_of_le hb2 hb.size, fun j u hj => (hb.cell (p := ⟨b, off + j, none⟩) hbx).trans (hc j u hj)⟩
theorem grp_step {o o' : Nat} {δ : Int} {t : Tk} {r : List Tk} (h : (o : Int) + δ = o') (hd : δ = dl t) (ho : 1 ≤ o) (ho' : 1 ≤ o') : grpGo o (t :: r) = (grpGo o' r).map (fun p => (t :: p.1, p.2)) := by
  subst hd
  unfold dl at h
  by_cases h1 : t.c = 1
  · rw [if_pos h1] at h
    rw [grpGo_open h1, show o' = o + 1 by omega]
  · by_cases h2 : t.c = 2
    · rw [if_neg h1, if_pos h2] at h
      rw [grpGo_close h2 (by omega), show o' = o - 1 by omega]
    · rw [if_neg h1, if_neg h2] at h
      rw [grpGo_else h1 h2, show o' = o by omega]

/-- While a group is gathered: k tokens of rest are taken, o groups are open. -/
def RInv (w : World) (x g : Nat) (a : Option Addr) (n : Nat) (rest : List Tk) (op : Value) (wr : World) : Prop :=
  ∃ (k o : Nat), op = .int .i64 o ∧ k ≤ n ∧ 1 ≤ o ∧ o ≤ k + 1 ∧ Xs wr x (rest.drop k) ∧ GH wr g (.slice a n n) k ∧ Fr x w wr ∧ TNb wr x (.slice a n n) rest ∧ grpGo 1 rest = (grpGo o (rest.drop k)).map (fun p => (rest.take k ++ p.1, p.2))

set_option maxRecDepth 100000 in
set_option maxHeartbeats 4000000 in
theorem group_any {w : World} {x : Nat} {rest : List Tk} (h : Xs w x rest) (hl : rest.length ≤ 20000) :
    Calls Try.prog 143 #[ptr x, .int .i64 20000] w fun e w' => Fr x w w' ∧ ((∃ v a r, grpGo 1 rest = some (a, r) ∧ e = .returned v ∧ TNb w' x v a ∧ Xs w' x r) ∨ (grpGo 1 rest = none ∧ e = up 1)) := by
  have H : Hid (Xs w x rest) := h
  have hsz := h.lt
  clear h
  go_enter Try.func143, Try.ntmps143
  go_wp2_with fail
  refine (gather_any H hl).mono ?_
  rintro e w1 ⟨a, n, rfl, htn, hn, hb1⟩
  have B1 : Hid (Below w.heap.size w w1) := hb1
  have T1 : Hid (TNb w1 x (.slice a n n) rest) := htn
  have HN : Hid (n = rest.length) := hn
  have hn2 : n ≤ 20000 := by omega
  have X1 : Hid (Xs w1 x rest) := Xs.fr H hb1
  have hz1 : w.heap.size ≤ w1.heap.size := hb1.size
  clear htn hn hb1
  go_wp2_with fail
  obtain ⟨G, hG⟩ : ∃ G, G = w1.heap.size := ⟨_, rfl⟩
  have hGx : x < G := by omega
  have HG : Hid (G = w1.heap.size) := hG
  rw [← hG]
  have START : Hid (RInv w x G a n rest (.int .i64 1) (w1.alloc (.cells #[.slice a n n, .int .i64 0] 173))) := by
    refine ⟨0, 1, rfl, Nat.zero_le _, Nat.le_refl _, Nat.le_refl _, by rw [List.drop_zero]; exact Xs.fr X1 (below1 _ _), ?_, Fr.below (Below.alloc B1 hz1 _) (by omega), TNb.below T1 (below1 _ _), ?_⟩
    · rw [hG]; exact Array.getElem?_push_size
    · rw [List.drop_zero]
      cases grpGo 1 rest with
      | none => rfl
      | some p => rfl
  clear hG
  go_loopw [6] (fun op wr => Hid (RInv w x G a n rest op wr)) (fun _ wr => n - (match wr.cell? ⟨G, 1, none⟩ with | some (.int .i64 k) => k.toNat | _ => 0))
  case atStart => exact START
  case round =>
    clear START X1 T1 B1
    obtain ⟨k, o, rfl, hkn, ho1, hok, hxs, hgh, hfr, htn, hgg⟩ := hrel
    obtain ⟨d, hd⟩ : ∃ d, d = rest.drop k := ⟨_, rfl⟩
    rw [← hd] at hxs hgg
    have HD : Hid (d = rest.drop k) := hd
    have HX : Hid (Xs wr x d) := hxs
    have HGH : Hid (GH wr G (.slice a n n) k) := hgh
    have HFR : Hid (Fr x w wr) := hfr
    have HTN : Hid (TNb wr x (.slice a n n) rest) := htn
    have HGG : Hid (grpGo 1 rest = (grpGo o d).map (fun p => (rest.take k ++ p.1, p.2))) := hgg
    have hzr : w.heap.size ≤ wr.heap.size := hfr.size
    have hGr : G < wr.heap.size := hgh.cells.2.2.1
    clear hxs hgh hfr htn hgg hd
    match d, HD, HX, HGG with
    | [], HD, HX, HGG =>
      go_wp2_with fail
      refine (take_none HX).mono ?_
      rintro e w3 ⟨rfl, hb3⟩
      have FIN : Hid (Fr x w w3 ∧ grpGo 1 rest = none) := ⟨Fr.more HFR (hb3.mono hzr) (by omega), by rw [show grpGo 1 rest = _ from HGG]; rfl⟩
      clear hb3
      go_wp2
      exact ⟨rfl, FIN.1, .inr ⟨FIN.2, rfl⟩⟩
    | t :: r, HD, HX, HGG =>
      have hrl : r.length + 1 + k = n := by
        have := congrArg List.length (show t :: r = _ from HD)
        rw [List.length_drop, ← show n = rest.length from HN, List.length_cons] at this
        omega
      have hk20 : k < 20000 := by omega
      have hkb : ((k : Int) == 20000) = false := beq_eq_false_iff_ne.2 (by omega)
      obtain ⟨b, off, rfl⟩ : ∃ b off, a = some ⟨b, off, none⟩ := by
        rcases HTN with ⟨h, _⟩ | ⟨b, off, n', cap', h, _⟩
        · simp at h; omega
        · simp at h; exact ⟨b, off, h.1⟩
      go_wp2_with fail
      refine (take_some HX (by omega)).mono ?_
      rintro e w3 ⟨rfl, hx3, hf3⟩
      have z3 : wr.heap.size ≤ w3.heap.size := hf3.size
      have P3 : Hid (Xs w3 x r ∧ Fr x w w3 ∧ GH w3 G (.slice (some ⟨b, off, none⟩) n n) k ∧ TNb w3 x (.slice (some ⟨b, off, none⟩) n n) rest) := ⟨hx3, HFR.trans hf3, GH.fr HGH hf3 hGx, TNb.fr HTN hf3⟩
      have HW : Hid (∀ W, Below w3.heap.size w3 W → Calls Try.prog 139 #[t.v] W fun e w' => e = .returned (.int .i64 (dl t)) ∧ Below W.heap.size W w') := fun W _ => nesting_any t W
      obtain ⟨T, hT⟩ : ∃ T, T = t := ⟨_, rfl⟩
      have HTT : Hid (T = t) := hT
      obtain ⟨tc, th, ts⟩ := t
      rw [show (⟨tc, th, ts⟩ : Tk).v = tokV tc th ts from rfl]
      rw [show (⟨tc, th, ts⟩ : Tk).v = tokV tc th ts from rfl] at HW
      obtain ⟨δ, hδ⟩ : ∃ δ, δ = dl ⟨tc, th, ts⟩ := ⟨_, rfl⟩
      rw [← hδ] at HW
      have HDL : Hid (δ = dl ⟨tc, th, ts⟩) := hδ
      have hd1 : -1 ≤ δ ∧ δ ≤ 1 := by rw [hδ]; unfold dl; split <;> (try split) <;> omega
      clear hx3 hf3 hδ hT
      go_wp2_with fail
      refine (HW _ (below1 _ _)).mono ?_
      rintro e w4 ⟨rfl, hb4⟩
      have B4 : Hid (Below w3.heap.size w3 w4) := below_more (below1 _ _) hb4 (by simp)
      have q4 : w4.heap[w3.heap.size]? = some (.cells #[.int .i64 tc, .int .i64 th, .string ts] 31) := by rw [hb4.block _ (by simp)]; exact Array.getElem?_push_size
      have z4 : w3.heap.size < w4.heap.size := by have := hb4.size; simp at this; omega
      have t0 : w4.cell? ⟨w3.heap.size, 0, none⟩ = some (.int .i64 tc) := by rw [cell_of_row w4 _ _ _ 31 _ q4]; rfl
      have t1 : w4.cell? ⟨w3.heap.size, 1, none⟩ = some (.int .i64 th) := by rw [cell_of_row w4 _ _ _ 31 _ q4]; rfl
      have t2 : w4.cell? ⟨w3.heap.size, 2, none⟩ = some (.string ts) := by rw [cell_of_row w4 _ _ _ 31 _ q4]; rfl
      have G4 : Hid (GH w4 G (.slice (some ⟨b, off, none⟩) n n) k) := GH.below P3.2.2.1 B4
      obtain ⟨u0, u1, hG4, hGz⟩ := GH.cells G4
      clear hb4 q4 HW
      by_cases hz : (o : Int) + δ = 0
      · have FIN : Hid (grpGo 1 rest = some (rest.take k, r) ∧ Xs w4 x r ∧ Fr x w w4 ∧ TNb w4 x (.slice (some ⟨b, off, none⟩) k n) (rest.take k)) := by
          obtain rfl : o = 1 := by omega
          have hm1 : δ = -1 := by omega
          have hc2 : tc = 2 := by
            rw [show δ = _ from HDL] at hm1
            unfold dl at hm1
            by_cases h1 : tc = 1
            · rw [if_pos h1] at hm1; omega
            · by_cases h2 : tc = 2
              · exact h2
              · rw [if_neg h1, if_neg h2] at hm1; omega
          refine ⟨?_, Xs.fr P3.1 B4, Fr.more P3.2.1 (Below.mono B4 (by omega)) (by omega), ?_⟩
          · rw [show grpGo 1 rest = _ from HGG, grpGo_end (by exact hc2)]; simp
          · rcases TNb.below P3.2.2.2 B4 with ⟨h, _⟩ | ⟨b', off', n', cap', h, hb', ht⟩
            · simp at h
            · simp at h
              obtain ⟨⟨rfl, rfl⟩, rfl, rfl⟩ := h
              exact .inr ⟨_, _, _, _, rfl, hb', TOn.take ht hkn⟩
        have hzb : ((o : Int) + δ == 0) = true := by rw [hz]; rfl
        have hki : (k : Int) ≤ (n : Int) := by omega
        go_wp2
        go_ret
        exact ⟨FIN.2.2.1, .inl ⟨_, _, _, FIN.1, rfl, FIN.2.2.2, FIN.2.1⟩⟩
      · have hzb : ((o : Int) + δ == 0) = false := beq_eq_false_iff_ne.2 hz
        go_wp2_with fail
        refine (add_any (t := ⟨tc, th, ts⟩) G4 (by omega) hn2).mono ?_
        rintro e w5 ⟨rfl, hg5, hf5⟩
        obtain ⟨o', ho'⟩ : ∃ o' : Nat, (o : Int) + δ = (o' : Int) := ⟨((o : Int) + δ).toNat, by omega⟩
        have NEXT : Hid (RInv w x G (some ⟨b, off, none⟩) n rest (.int .i64 (o' : Int)) w5) := by
          have hw1 := show G = w1.heap.size from HG
          have F4 : Fr x w w4 := Fr.more P3.2.1 (Below.mono B4 (by omega)) (by omega)
          have hdr : rest.drop (k + 1) = r := by
            have := congrArg (List.drop 1) (show ⟨tc, th, ts⟩ :: r = _ from HD)
            rw [List.drop_drop] at this
            simpa using this.symm
          have htk : rest.take (k + 1) = rest.take k ++ [⟨tc, th, ts⟩] := by
            rw [List.take_add_one]
            have : rest[k]? = some ⟨tc, th, ts⟩ := by
              have h2 := congrArg (fun l => l[0]?) (show ⟨tc, th, ts⟩ :: r = _ from HD)
              simpa using h2.symm
            rw [this]; rfl
          refine ⟨k + 1, o', rfl, by omega, by omega, by omega, by rw [hdr]; exact Xs.bel (Xs.fr P3.1 B4) (hf5.1.mono (by omega)), hg5, Fr.more F4 (hf5.1.mono (by omega)) (by omega), TNb.bel (TNb.below P3.2.2.2 B4) (hf5.1.mono (by omega)), ?_⟩
          rw [hdr, htk, ← map_app, ← grp_step ho' (show δ = _ from HDL) (by omega) (by omega)]
          exact HGG
        have hms : n - (match w5.cell? ⟨G, 1, none⟩ with | some (.int .i64 k) => k.toNat | _ => 0) < n - (match wr.cell? ⟨G, 1, none⟩ with | some (.int .i64 k) => k.toNat | _ => 0) := by
          rw [(GH.cells hg5).2.1, (GH.cells HGH).2.1]
          show n - ((k + 1 : Nat) : Int).toNat < n - (k : Int).toNat
          omega
        have HMS : Hid (n - (match w5.cell? ⟨G, 1, none⟩ with | some (.int .i64 k) => k.toNat | _ => 0) < n - (match wr.cell? ⟨G, 1, none⟩ with | some (.int .i64 k) => k.toNat | _ => 0)) := hms
        clear hg5 hf5 hms
        rw [ho']
        go_wp2
        go_roundw
        case rel => exact NEXT
        case measure => exact HMS
end Go.Proofs.Ytbceblgnjicdcaa
