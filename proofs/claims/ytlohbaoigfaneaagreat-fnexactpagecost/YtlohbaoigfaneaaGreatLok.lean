import Derived.Test.YtlohbaoigfaneaaGreatSts
import Derived.Test.YtlohbaoigfaneaaGreatThg
import Derived.Deep.RegionWith
import Derived.Deep.RegionHeld3
import Derived.Maps.AppendAt
import Derived.OwnWalk
namespace Go.Proofs.YtlohbaoigfaneaaGreat
open Go.RowKit
set_option linter.unusedVariables false
set_option linter.unusedSimpArgs false
theorem not_nil (W : World) (u : TypeId) (v : Value) : (binOp .eql 150 (.iface u v) .nilIface).run Tryz.prog W = .ok (.bool false) W := by kernel_rfl
theorem yes_nil (W : World) : (binOp .eql 150 .nilIface .nilIface).run Tryz.prog W = .ok (.bool true) W := by kernel_rfl
theorem Tryz.info3 : (Tryz.prog.info? 3).map (fun i => (i.zero, i.size, i.bytes)) = some (some (.int .i64 0), 1, 8) := by kernel_rfl
def sliceLen : Value → Nat
 | .slice _ n _ => n
 | _ => 0
set_option maxRecDepth 20000 in
set_option maxHeartbeats 16000000 in
theorem implListOk_any {v : Value} {xs : List Nd} {w : World} (h : NRow 0 w v xs) (hs : xs.length ≤ 1048576) :
 Calls Tryz.prog 66 #[v] w fun e w' => e = .returned (.bool (listB xs)) ∧ Below w.heap.size w w' := by
 obtain ⟨ao, n, cap, rfl, hl, hr⟩ := h
 by_cases hbig : n ≤ 20000
 ·have hni : ¬ (20000 : Int) < (n : Int) := by omega
  have hLB : listB xs = okFrom xs.length 0 [] xs := by unfold listB; rw [decide_eq_true (by omega)]; simp
  rw [hLB]
  clear hLB hs
  subst hl
  obtain ⟨n, hn⟩ : ∃ n, n = xs.length := ⟨_, rfl⟩
  rw [← hn] at hr hni hbig
  rw [← hn]
  have HN := hideP hn
  have HR : Hid (0 < n → ∃ b off, ao = some ⟨b, off, none⟩ ∧ 0 ≤ b ∧ b < w.heap.size ∧ ∀ i, i < n → ∃ cs : List Value, cs.length = 15 ∧ NdR 0 w cs (xs.getD i Nd.none) ∧ ∀ j, j < 15 → w.cell? ⟨b, off + i * 15 + j, none⟩ = cs[j]?) := hr
  obtain ⟨R, hR⟩ : ∃ R, R = okFrom n 0 [] xs := ⟨_, rfl⟩
  rw [← hR]
  have HRR : Hid (∀ b, okFrom n 0 [] xs = b → R = b) := hideP (fun b h => hR.trans h)
  have HSt : Hid (Left xs 0 []) := hideP (Left.start xs)
  clear hr hn hR
  go_enter Tryz.func66, Tryz.ntmps66
  go_wp2
  go_loopw [3, 18] (fun s i wr => ∃ (k : Nat) (T : List Int) (g r c : Nat), k ≤ n ∧ i = .int .i64 k ∧ s = .slice (some ⟨g, 0, none⟩) (r + 1) c ∧ T.length = r ∧ IR wr w.heap.size (.slice (some ⟨g, 0, none⟩) (r + 1) c) (r + 1) (stk T n) ∧ r ≤ 41 ∧ Below w.heap.size w wr ∧ Hid (Left xs k T)) (fun _ i _ => n - (intOf i).toNat)
  case atStart =>
   exact ⟨0, [], w.heap.size, 0, 1, by omega, rfl, rfl, rfl, ⟨rfl, .inr ⟨_, _, _, rfl, Nat.le_refl _, heap_alloc_new w _, by omega, by decide, rfl, rfl⟩⟩, by omega, below1 _ _, HSt⟩
  case round =>
   obtain ⟨k, T, g, r, c, hk, rfl, rfl, hT, hI, hr, hbel, HLf⟩ := hrel
   by_cases hkn : k < n
   ·have hki : (k : Int) < (n : Int) := by omega
    obtain ⟨b, off, rfl, hlo, hb, hc⟩ := HR (by omega)
    obtain ⟨cs, hcl, hRel, hcj⟩ := hc k hkn
    obtain ⟨t, ht⟩ : ∃ t, t = xs.getD k Nd.none := ⟨_, rfl⟩
    rw [← ht] at hRel
    have HT := hideP ht
    have TC : Hid (∀ W : World, Calls Tryz.prog 107 #[ndV t] W fun r w' => (∃ v, r = .returned v ∧ ThingP t v) ∧ Below W.heap.size W w') := hideP (fun W => thing_any t W)
    obtain ⟨t', ht'⟩ : ∃ t', t' = t := ⟨_, rfl⟩
    have HT' := hideP ht'
    clear ht'
    obtain ⟨kd, wd, hh, dp, sh, fo, ch, nn, gs, gp, gpo, gm, gmo, tx, kids⟩ := t
    rw [show cs = _ from hRel] at hcj
    simp only [Nd.cells] at hcj
    have g0 : wr.cell? ⟨b, off + k * 15, none⟩ = some (.int .i64 kd) := (hbel.cell (p := ⟨b, off + k * 15, none⟩) hb).trans (hcj 0 (by omega))
    have g1 : wr.cell? ⟨b, off + k * 15 + 1, none⟩ = some (.int .i64 wd) := (hbel.cell (p := ⟨b, off + k * 15 + 1, none⟩) hb).trans (hcj 1 (by omega))
    have g2 : wr.cell? ⟨b, off + k * 15 + 2, none⟩ = some (.int .i64 hh) := (hbel.cell (p := ⟨b, off + k * 15 + 2, none⟩) hb).trans (hcj 2 (by omega))
    have g3 : wr.cell? ⟨b, off + k * 15 + 3, none⟩ = some (.int .i64 dp) := (hbel.cell (p := ⟨b, off + k * 15 + 3, none⟩) hb).trans (hcj 3 (by omega))
    have g4 : wr.cell? ⟨b, off + k * 15 + 4, none⟩ = some (.int .i64 sh) := (hbel.cell (p := ⟨b, off + k * 15 + 4, none⟩) hb).trans (hcj 4 (by omega))
    have g5 : wr.cell? ⟨b, off + k * 15 + 5, none⟩ = some (.int .i64 fo) := (hbel.cell (p := ⟨b, off + k * 15 + 5, none⟩) hb).trans (hcj 5 (by omega))
    have g6 : wr.cell? ⟨b, off + k * 15 + 6, none⟩ = some (.int .i64 ch) := (hbel.cell (p := ⟨b, off + k * 15 + 6, none⟩) hb).trans (hcj 6 (by omega))
    have g7 : wr.cell? ⟨b, off + k * 15 + 7, none⟩ = some (.int .i64 nn) := (hbel.cell (p := ⟨b, off + k * 15 + 7, none⟩) hb).trans (hcj 7 (by omega))
    have g8 : wr.cell? ⟨b, off + k * 15 + 8, none⟩ = some (.int .i64 gs) := (hbel.cell (p := ⟨b, off + k * 15 + 8, none⟩) hb).trans (hcj 8 (by omega))
    have g9 : wr.cell? ⟨b, off + k * 15 + 9, none⟩ = some (.int .i64 gp) := (hbel.cell (p := ⟨b, off + k * 15 + 9, none⟩) hb).trans (hcj 9 (by omega))
    have g10 : wr.cell? ⟨b, off + k * 15 + 10, none⟩ = some (.int .i64 gpo) := (hbel.cell (p := ⟨b, off + k * 15 + 10, none⟩) hb).trans (hcj 10 (by omega))
    have g11 : wr.cell? ⟨b, off + k * 15 + 11, none⟩ = some (.int .i64 gm) := (hbel.cell (p := ⟨b, off + k * 15 + 11, none⟩) hb).trans (hcj 11 (by omega))
    have g12 : wr.cell? ⟨b, off + k * 15 + 12, none⟩ = some (.int .i64 gmo) := (hbel.cell (p := ⟨b, off + k * 15 + 12, none⟩) hb).trans (hcj 12 (by omega))
    have g13 : wr.cell? ⟨b, off + k * 15 + 13, none⟩ = some (.string tx) := (hbel.cell (p := ⟨b, off + k * 15 + 13, none⟩) hb).trans (hcj 13 (by omega))
    have g14 : wr.cell? ⟨b, off + k * 15 + 14, none⟩ = some (.int .i64 kids) := (hbel.cell (p := ⟨b, off + k * 15 + 14, none⟩) hb).trans (hcj 14 (by omega))
    have HB : Hid (Below w.heap.size w wr) := hbel
    have HI := hideP hI
    clear hc hcj hcl hbel ht hRel hI
    obtain ⟨w0, rfl⟩ : ∃ x, x = wr := ⟨wr, rfl⟩
    go_wp2
    obtain ⟨W, hW⟩ : ∃ W, W = w0.alloc (.cells #[.int .i64 kd, .int .i64 wd, .int .i64 hh, .int .i64 dp, .int .i64 sh, .int .i64 fo, .int .i64 ch, .int .i64 nn, .int .i64 gs, .int .i64 gp, .int .i64 gpo, .int .i64 gm, .int .i64 gmo, .string tx, .int .i64 kids] 61) := ⟨_, rfl⟩
    rw [← hW]
    have HW := hideP hW
    have HIW : Hid (IR W w.heap.size (.slice (some ⟨g, 0, none⟩) (r + 1) c) (r + 1) (stk T n)) := hideP (by rw [hW]; exact HI.out.alloc _)
    have HTr := hideP hT
    clear g0 g1 g2 g3 g4 g5 g6 g7 g8 g9 g10 g11 g12 g13 g14 hW HI hT
    go_loopw [3] (fun s wq => ∃ (U : List Int) (q : Nat), s = .slice (some ⟨g, 0, none⟩) (q + 1) c ∧ U.length = q ∧ IR W w.heap.size (.slice (some ⟨g, 0, none⟩) (q + 1) c) (q + 1) (stk U n) ∧ q ≤ r ∧ wq = W ∧ U.dropWhile (· == (k : Int)) = T.dropWhile (· == (k : Int))) (fun s _ => sliceLen s)
    case atStart => exact ⟨T, r, rfl, HTr.out, HIW.out, Nat.le_refl _, rfl, rfl⟩
    case round =>
     obtain ⟨U, q, rfl, hU, hIU, hq, rfl, hd⟩ := hrel
     have hcell := stk_top hIU hU
     have HD := hideP hd
     have HIU := hideP hIU
     have HU := hideP hU
     obtain ⟨z, hz⟩ : ∃ z, z = U.headD (n : Int) := ⟨_, rfl⟩
     rw [← hz] at hcell
     have HZ := hideP hz
     clear hd hIU hU hz
     have hq1 : ((q + 1 : Nat) : Int) - 1 = (q : Int) := by omega
     by_cases htop : z = (k : Int)
     ·subst htop
      obtain ⟨q', U', rfl, HU'⟩ : ∃ q' U', q = q' + 1 ∧ Hid (U = (k : Int) :: U' ∧ U'.length = q') := by
       have h1 := HZ.out
       have h2 := HU.out
       cases U with
       | nil => simp at h1; omega
       | cons a U' =>
        simp at h1 h2
        exact ⟨U'.length, U', by omega, hideP ⟨by rw [h1], rfl⟩⟩
      have hcap : q' + 1 ≤ c := by have := (stk_cap HIU.out).1; omega
      go_wp2
      go_roundw
      case rel =>
       refine ⟨U', q', rfl, HU'.out.2, stk_pop (by rw [← HU'.out.1]; exact HIU.out) HU'.out.2, by omega, trivial, ?_⟩
       rw [← HD.out, HU'.out.1]
       simp
      case measure => simp [sliceLen]
     ·have hze : (z == (k : Int)) = false := by simpa using htop
      have hzk : ¬ z = (k : Int) := htop
      have n0 : wr.cell? ⟨w0.heap.size, 0, none⟩ = some (.int .i64 kd) := by rw [HW.out]; simp [go_sem]
      have n1 : wr.cell? ⟨w0.heap.size, 1, none⟩ = some (.int .i64 wd) := by rw [HW.out]; simp [go_sem]
      have n2 : wr.cell? ⟨w0.heap.size, 2, none⟩ = some (.int .i64 hh) := by rw [HW.out]; simp [go_sem]
      have n3 : wr.cell? ⟨w0.heap.size, 3, none⟩ = some (.int .i64 dp) := by rw [HW.out]; simp [go_sem]
      have n4 : wr.cell? ⟨w0.heap.size, 4, none⟩ = some (.int .i64 sh) := by rw [HW.out]; simp [go_sem]
      have n5 : wr.cell? ⟨w0.heap.size, 5, none⟩ = some (.int .i64 fo) := by rw [HW.out]; simp [go_sem]
      have n6 : wr.cell? ⟨w0.heap.size, 6, none⟩ = some (.int .i64 ch) := by rw [HW.out]; simp [go_sem]
      have n7 : wr.cell? ⟨w0.heap.size, 7, none⟩ = some (.int .i64 nn) := by rw [HW.out]; simp [go_sem]
      have n8 : wr.cell? ⟨w0.heap.size, 8, none⟩ = some (.int .i64 gs) := by rw [HW.out]; simp [go_sem]
      have n9 : wr.cell? ⟨w0.heap.size, 9, none⟩ = some (.int .i64 gp) := by rw [HW.out]; simp [go_sem]
      have n10 : wr.cell? ⟨w0.heap.size, 10, none⟩ = some (.int .i64 gpo) := by rw [HW.out]; simp [go_sem]
      have n11 : wr.cell? ⟨w0.heap.size, 11, none⟩ = some (.int .i64 gm) := by rw [HW.out]; simp [go_sem]
      have n12 : wr.cell? ⟨w0.heap.size, 12, none⟩ = some (.int .i64 gmo) := by rw [HW.out]; simp [go_sem]
      have n13 : wr.cell? ⟨w0.heap.size, 13, none⟩ = some (.string tx) := by rw [HW.out]; simp [go_sem]
      have n14 : wr.cell? ⟨w0.heap.size, 14, none⟩ = some (.int .i64 kids) := by rw [HW.out]; simp [go_sem]
      go_wp2_with fail
      refine (TC.out _).mono ?_
      rintro e w1 ⟨⟨vt, rfl, hth⟩, hb1⟩
      have hlt : w0.heap.size < wr.heap.size := by rw [HW.out]; simp
      have Q1 : Hid (∀ x, Below wr.heap.size wr x → x.cell? ⟨w0.heap.size, 0, none⟩ = some (.int .i64 kd) ∧ x.cell? ⟨w0.heap.size, 1, none⟩ = some (.int .i64 wd) ∧ x.cell? ⟨w0.heap.size, 2, none⟩ = some (.int .i64 hh) ∧ x.cell? ⟨w0.heap.size, 3, none⟩ = some (.int .i64 dp) ∧ x.cell? ⟨w0.heap.size, 4, none⟩ = some (.int .i64 sh) ∧ x.cell? ⟨w0.heap.size, 5, none⟩ = some (.int .i64 fo) ∧ x.cell? ⟨w0.heap.size, 6, none⟩ = some (.int .i64 ch) ∧ x.cell? ⟨w0.heap.size, 7, none⟩ = some (.int .i64 nn) ∧ x.cell? ⟨w0.heap.size, 8, none⟩ = some (.int .i64 gs) ∧ x.cell? ⟨w0.heap.size, 9, none⟩ = some (.int .i64 gp) ∧ x.cell? ⟨w0.heap.size, 10, none⟩ = some (.int .i64 gpo) ∧ x.cell? ⟨w0.heap.size, 11, none⟩ = some (.int .i64 gm) ∧ x.cell? ⟨w0.heap.size, 12, none⟩ = some (.int .i64 gmo) ∧ x.cell? ⟨w0.heap.size, 13, none⟩ = some (.string tx) ∧ x.cell? ⟨w0.heap.size, 14, none⟩ = some (.int .i64 kids)) := hideP (fun x hx => ⟨(Below.cell hx (p := ⟨w0.heap.size, 0, none⟩) hlt).trans n0, (Below.cell hx (p := ⟨w0.heap.size, 1, none⟩) hlt).trans n1, (Below.cell hx (p := ⟨w0.heap.size, 2, none⟩) hlt).trans n2, (Below.cell hx (p := ⟨w0.heap.size, 3, none⟩) hlt).trans n3, (Below.cell hx (p := ⟨w0.heap.size, 4, none⟩) hlt).trans n4, (Below.cell hx (p := ⟨w0.heap.size, 5, none⟩) hlt).trans n5, (Below.cell hx (p := ⟨w0.heap.size, 6, none⟩) hlt).trans n6, (Below.cell hx (p := ⟨w0.heap.size, 7, none⟩) hlt).trans n7, (Below.cell hx (p := ⟨w0.heap.size, 8, none⟩) hlt).trans n8, (Below.cell hx (p := ⟨w0.heap.size, 9, none⟩) hlt).trans n9, (Below.cell hx (p := ⟨w0.heap.size, 10, none⟩) hlt).trans n10, (Below.cell hx (p := ⟨w0.heap.size, 11, none⟩) hlt).trans n11, (Below.cell hx (p := ⟨w0.heap.size, 12, none⟩) hlt).trans n12, (Below.cell hx (p := ⟨w0.heap.size, 13, none⟩) hlt).trans n13, (Below.cell hx (p := ⟨w0.heap.size, 14, none⟩) hlt).trans n14⟩)
      have B1 : Hid (Below wr.heap.size wr w1.drew) := hideP hb1.drew
      have HTH := hideP hth
      have BOUT : Hid (∀ x, Below wr.heap.size wr x → Below w.heap.size w x) := hideP (fun x hx => by have h0 : Below w.heap.size w wr := (by rw [HW.out]; exact HB.out.alloc HB.out.size _); exact below_more h0 hx h0.size)
      clear n0 n1 n2 n3 n4 n5 n6 n7 n8 n9 n10 n11 n12 n13 n14 hb1 hth hcell htop
      rcases HTH.out with ⟨rfl, hbad⟩ | ⟨X, p, Kc, Kn, cb, y, rfl, htg, hhold⟩
      ·have hnil := yes_nil
       have HBAD : Hid (R = false) := hideP (HRR.out _ (by have h := HLf.out.bad (by rw [← HN.out]; exact hkn) (by rw [← HT.out]; exact hbad); rw [← HN.out] at h; exact h))
       clear HTH hbad
       go_wp2_with fail
       refine wp_region_held_drew (S := fun x => True) (by kernel_rfl) trivial (fun hS => ?_)
       refine wpAnyH_take (i := 0) (v := .nilIface) rfl (by kernel_rfl) (by kernel_rfl) (by kernel_rfl) (fun _ _ _ h => h) (Or.inl ⟨by first | rfl | go_simp, fun wx hx => by go_simp⟩) hS ?_
       try simp only [Act.put, List.getElem_toArray, List.getElem_cons_zero, List.getElem_cons_succ, List.setIfInBounds_toArray, List.set_cons_zero, List.set_cons_succ]
       refine wpAnyH_take (i := 1) (v := .bool true) rfl (by kernel_rfl) (by kernel_rfl) (by kernel_rfl) (fun _ _ _ h => h) (Or.inl ⟨by first | rfl | go_simp, fun wx hx => by go_simp⟩) hS ?_
       try simp only [Act.put, List.getElem_toArray, List.getElem_cons_zero, List.getElem_cons_succ, List.setIfInBounds_toArray, List.set_cons_zero, List.set_cons_succ]
       refine wpAnyH_take (i := 2) (v := .bool true) rfl (by kernel_rfl) (by kernel_rfl) (by kernel_rfl) (fun _ _ _ h => h) (Or.inl ⟨by first | rfl | go_simp, fun wx hx => by go_simp⟩) hS ?_
       try simp only [Act.put, List.getElem_toArray, List.getElem_cons_zero, List.getElem_cons_succ, List.setIfInBounds_toArray, List.set_cons_zero, List.set_cons_succ]
       refine wpAnyH_take (i := 3) (v := undef) rfl (by kernel_rfl) (by kernel_rfl) (by kernel_rfl) (fun _ _ _ h => h) (Or.inr ⟨by first | (go_simp; done) | (go_simp; intro h; cases h; done) | (go_simp; simp [undef]; done), rfl⟩) hS ?_
       try simp only [Act.put, List.getElem_toArray, List.getElem_cons_zero, List.getElem_cons_succ, List.setIfInBounds_toArray, List.set_cons_zero, List.set_cons_succ]
       refine wpAnyH_take (i := 4) (v := undef) rfl (by kernel_rfl) (by kernel_rfl) (by kernel_rfl) (fun _ _ _ h => h) (Or.inr ⟨by first | (go_simp; done) | (go_simp; intro h; cases h; done) | (go_simp; simp [undef]; done), rfl⟩) hS ?_
       try simp only [Act.put, List.getElem_toArray, List.getElem_cons_zero, List.getElem_cons_succ, List.setIfInBounds_toArray, List.set_cons_zero, List.set_cons_succ]
       refine wpAnyH_take (i := 5) (v := undef) rfl (by kernel_rfl) (by kernel_rfl) (by kernel_rfl) (fun _ _ _ h => h) (Or.inr ⟨by first | (go_simp; done) | (go_simp; intro h; cases h; done) | (go_simp; simp [undef]; done), rfl⟩) hS ?_
       try simp only [Act.put, List.getElem_toArray, List.getElem_cons_zero, List.getElem_cons_succ, List.setIfInBounds_toArray, List.set_cons_zero, List.set_cons_succ]
       refine wpAnyH_take (i := 6) (v := .bool true) rfl (by kernel_rfl) (by kernel_rfl) (by kernel_rfl) (fun _ _ _ h => h) (Or.inl ⟨by first | rfl | go_simp, fun wx hx => by go_simp⟩) hS ?_
       try simp only [Act.put, List.getElem_toArray, List.getElem_cons_zero, List.getElem_cons_succ, List.setIfInBounds_toArray, List.set_cons_zero, List.set_cons_succ]
       refine wpAnyH_take (i := 7) (v := .bool true) rfl (by kernel_rfl) (by kernel_rfl) (by kernel_rfl) (fun _ _ _ h => h) (Or.inl ⟨by first | rfl | go_simp, fun wx hx => by go_simp⟩) hS ?_
       try simp only [Act.put, List.getElem_toArray, List.getElem_cons_zero, List.getElem_cons_succ, List.setIfInBounds_toArray, List.set_cons_zero, List.set_cons_succ]
       refine wpAnyH_take (i := 8) (v := undef) rfl (by kernel_rfl) (by kernel_rfl) (by kernel_rfl) (fun _ _ _ h => h) (Or.inr ⟨by first | (go_simp; done) | (go_simp; intro h; cases h; done) | (go_simp; simp [undef]; done), rfl⟩) hS ?_
       try simp only [Act.put, List.getElem_toArray, List.getElem_cons_zero, List.getElem_cons_succ, List.setIfInBounds_toArray, List.set_cons_zero, List.set_cons_succ]
       refine wpAnyH_take (i := 9) (v := undef) rfl (by kernel_rfl) (by kernel_rfl) (by kernel_rfl) (fun _ _ _ h => h) (Or.inr ⟨by first | (go_simp; done) | (go_simp; intro h; cases h; done) | (go_simp; simp [undef]; done), rfl⟩) hS ?_
       try simp only [Act.put, List.getElem_toArray, List.getElem_cons_zero, List.getElem_cons_succ, List.setIfInBounds_toArray, List.set_cons_zero, List.set_cons_succ]
       refine wpAnyH_take (i := 10) (v := undef) rfl (by kernel_rfl) (by kernel_rfl) (by kernel_rfl) (fun _ _ _ h => h) (Or.inr ⟨by first | (go_simp; done) | (go_simp; intro h; cases h; done) | (go_simp; simp [undef]; done), rfl⟩) hS ?_
       try simp only [Act.put, List.getElem_toArray, List.getElem_cons_zero, List.getElem_cons_succ, List.setIfInBounds_toArray, List.set_cons_zero, List.set_cons_succ]
       refine wpAnyH_take (i := 11) (v := undef) rfl (by kernel_rfl) (by kernel_rfl) (by kernel_rfl) (fun _ _ _ h => h) (Or.inr ⟨by first | (go_simp; done) | (go_simp; intro h; cases h; done) | (go_simp; simp [undef]; done), rfl⟩) hS ?_
       try simp only [Act.put, List.getElem_toArray, List.getElem_cons_zero, List.getElem_cons_succ, List.setIfInBounds_toArray, List.set_cons_zero, List.set_cons_succ]
       refine wpAnyH_take (i := 12) (v := .bool true) rfl (by kernel_rfl) (by kernel_rfl) (by kernel_rfl) (fun _ _ _ h => h) (Or.inl ⟨by first | rfl | go_simp, fun wx hx => by go_simp⟩) hS ?_
       try simp only [Act.put, List.getElem_toArray, List.getElem_cons_zero, List.getElem_cons_succ, List.setIfInBounds_toArray, List.set_cons_zero, List.set_cons_succ]
       refine wpAnyH_done (by kernel_rfl) ?_ _
       clear hS
       go_wp2
       go_ret
       exact ⟨retB HBAD.out.symm, BOUT.out _ B1.out⟩
      ·have TG := hideP htg
       have HH := hideP hhold
       have hnil := not_nil
       have hgd : Tryz.prog.eqGuardType Tryz.prog.depth 61 = false := by kernel_rfl
       have hmc := htg.mc
       have hfc := htg.fc
       have hmn := htg.mn
       have hfn := htg.fn
       have hneq := fun W => neqNode y ⟨kd, wd, hh, dp, sh, fo, ch, nn, gs, gp, gpo, gm, gmo, tx, kids⟩ W
       clear htg hhold HTH
       simp only [ndV] at hneq
       cases cb with
       | false =>
        have HBAD : Hid (R = false) := hideP (HRR.out _ (by have h := HLf.out.bad (by rw [← HN.out]; exact hkn) (by rw [← HT.out]; exact TG.out.good.symm); rw [← HN.out] at h; exact h))
        go_wp2_with fail
        refine wp_region_held_drew (S := fun x => True) (by kernel_rfl) trivial (fun hS => ?_)
        refine wpAnyH_take (i := 0) (v := .iface X p) rfl (by kernel_rfl) (by kernel_rfl) (by kernel_rfl) (fun _ _ _ h => h) (Or.inl ⟨by first | rfl | go_simp, fun wx hx => by go_simp⟩) hS ?_
        try simp only [Act.put, List.getElem_toArray, List.getElem_cons_zero, List.getElem_cons_succ, List.setIfInBounds_toArray, List.set_cons_zero, List.set_cons_succ]
        refine wpAnyH_take (i := 1) (v := .bool false) rfl (by kernel_rfl) (by kernel_rfl) (by kernel_rfl) (fun _ _ _ h => h) (Or.inl ⟨by first | rfl | go_simp, fun wx hx => by go_simp⟩) hS ?_
        try simp only [Act.put, List.getElem_toArray, List.getElem_cons_zero, List.getElem_cons_succ, List.setIfInBounds_toArray, List.set_cons_zero, List.set_cons_succ]
        refine wpAnyH_take (i := 2) (v := .bool false) rfl (by kernel_rfl) (by kernel_rfl) (by kernel_rfl) (fun _ _ _ h => h) (Or.inl ⟨by first | rfl | go_simp, fun wx hx => by go_simp⟩) hS ?_
        try simp only [Act.put, List.getElem_toArray, List.getElem_cons_zero, List.getElem_cons_succ, List.setIfInBounds_toArray, List.set_cons_zero, List.set_cons_succ]
        refine wpAnyH_take (i := 3) (v := .iface X p) rfl (by kernel_rfl) (by kernel_rfl) (by kernel_rfl) (fun _ _ _ h => h) (Or.inl ⟨by first | rfl | go_simp, fun wx hx => by go_simp⟩) hS ?_
        try simp only [Act.put, List.getElem_toArray, List.getElem_cons_zero, List.getElem_cons_succ, List.setIfInBounds_toArray, List.set_cons_zero, List.set_cons_succ]
        refine wpAnyH_ready (rs := [4]) (by kernel_rfl) (by simp) ?_
        refine AllReadyH.cons rfl (fun K hK => ?_) AllReadyH.nil
        rw [if_pos (by first | rfl | go_simp)]
        go_wp2_with fail
        refine (TG.out.cc _).mono ?_
        rintro e w2 ⟨rfl, hb2⟩
        have B2 : Hid (Below wr.heap.size wr w2) := hideP (below_more B1.out hb2 B1.out.size)
        clear hb2
        refine hK.out _ _ trivial (fun hS3 => ?_)
        try simp only [Act.put, List.getElem_toArray, List.getElem_cons_zero, List.getElem_cons_succ, List.setIfInBounds_toArray, List.set_cons_zero, List.set_cons_succ]
        refine wpAnyH_take (i := 5) (v := .bool true) rfl (by kernel_rfl) (by kernel_rfl) (by kernel_rfl) (fun _ _ _ h => h) (Or.inl ⟨by first | rfl | go_simp, fun wx hx => by go_simp⟩) hS3 ?_
        try simp only [Act.put, List.getElem_toArray, List.getElem_cons_zero, List.getElem_cons_succ, List.setIfInBounds_toArray, List.set_cons_zero, List.set_cons_succ]
        refine wpAnyH_take (i := 6) (v := .bool true) rfl (by kernel_rfl) (by kernel_rfl) (by kernel_rfl) (fun _ _ _ h => h) (Or.inl ⟨by first | rfl | go_simp, fun wx hx => by go_simp⟩) hS3 ?_
        try simp only [Act.put, List.getElem_toArray, List.getElem_cons_zero, List.getElem_cons_succ, List.setIfInBounds_toArray, List.set_cons_zero, List.set_cons_succ]
        refine wpAnyH_take (i := 7) (v := .bool true) rfl (by kernel_rfl) (by kernel_rfl) (by kernel_rfl) (fun _ _ _ h => h) (Or.inl ⟨by first | rfl | go_simp, fun wx hx => by go_simp⟩) hS3 ?_
        try simp only [Act.put, List.getElem_toArray, List.getElem_cons_zero, List.getElem_cons_succ, List.setIfInBounds_toArray, List.set_cons_zero, List.set_cons_succ]
        refine wpAnyH_take (i := 8) (v := undef) rfl (by kernel_rfl) (by kernel_rfl) (by kernel_rfl) (fun _ _ _ h => h) (Or.inr ⟨by first | (go_simp; done) | (go_simp; intro h; cases h; done) | (go_simp; simp [undef]; done), rfl⟩) hS3 ?_
        try simp only [Act.put, List.getElem_toArray, List.getElem_cons_zero, List.getElem_cons_succ, List.setIfInBounds_toArray, List.set_cons_zero, List.set_cons_succ]
        refine wpAnyH_take (i := 9) (v := undef) rfl (by kernel_rfl) (by kernel_rfl) (by kernel_rfl) (fun _ _ _ h => h) (Or.inr ⟨by first | (go_simp; done) | (go_simp; intro h; cases h; done) | (go_simp; simp [undef]; done), rfl⟩) hS3 ?_
        try simp only [Act.put, List.getElem_toArray, List.getElem_cons_zero, List.getElem_cons_succ, List.setIfInBounds_toArray, List.set_cons_zero, List.set_cons_succ]
        refine wpAnyH_take (i := 10) (v := undef) rfl (by kernel_rfl) (by kernel_rfl) (by kernel_rfl) (fun _ _ _ h => h) (Or.inr ⟨by first | (go_simp; done) | (go_simp; intro h; cases h; done) | (go_simp; simp [undef]; done), rfl⟩) hS3 ?_
        try simp only [Act.put, List.getElem_toArray, List.getElem_cons_zero, List.getElem_cons_succ, List.setIfInBounds_toArray, List.set_cons_zero, List.set_cons_succ]
        refine wpAnyH_take (i := 11) (v := undef) rfl (by kernel_rfl) (by kernel_rfl) (by kernel_rfl) (fun _ _ _ h => h) (Or.inr ⟨by first | (go_simp; done) | (go_simp; intro h; cases h; done) | (go_simp; simp [undef]; done), rfl⟩) hS3 ?_
        try simp only [Act.put, List.getElem_toArray, List.getElem_cons_zero, List.getElem_cons_succ, List.setIfInBounds_toArray, List.set_cons_zero, List.set_cons_succ]
        refine wpAnyH_take (i := 12) (v := .bool true) rfl (by kernel_rfl) (by kernel_rfl) (by kernel_rfl) (fun _ _ _ h => h) (Or.inl ⟨by first | rfl | go_simp, fun wx hx => by go_simp⟩) hS3 ?_
        try simp only [Act.put, List.getElem_toArray, List.getElem_cons_zero, List.getElem_cons_succ, List.setIfInBounds_toArray, List.set_cons_zero, List.set_cons_succ]
        refine wpAnyH_done (by kernel_rfl) ?_ _
        clear hS hS3 hK
        go_wp2
        go_ret
        exact ⟨retB HBAD.out.symm, BOUT.out _ B2.out⟩
       | true =>
        obtain ⟨eb, heb⟩ : ∃ eb, eb = eqNd y ⟨kd, wd, hh, dp, sh, fo, ch, nn, gs, gp, gpo, gm, gmo, tx, kids⟩ := ⟨_, rfl⟩
        rw [← heb] at hneq
        have HG : Hid (goodB ⟨kd, wd, hh, dp, sh, fo, ch, nn, gs, gp, gpo, gm, gmo, tx, kids⟩ = eb) := hideP (by rw [← TG.out.good, ← heb]; rfl)
        clear heb
        cases eb with
        | false =>
         have HBAD : Hid (R = false) := hideP (HRR.out _ (by have h := HLf.out.bad (by rw [← HN.out]; exact hkn) (by rw [← HT.out]; exact HG.out); rw [← HN.out] at h; exact h))
         go_wp2_with fail
         go_region_held3 (fun x => x.cell? ⟨w0.heap.size, 0, none⟩ = some (.int .i64 kd) ∧ x.cell? ⟨w0.heap.size, 1, none⟩ = some (.int .i64 wd) ∧ x.cell? ⟨w0.heap.size, 2, none⟩ = some (.int .i64 hh) ∧ x.cell? ⟨w0.heap.size, 3, none⟩ = some (.int .i64 dp) ∧ x.cell? ⟨w0.heap.size, 4, none⟩ = some (.int .i64 sh) ∧ x.cell? ⟨w0.heap.size, 5, none⟩ = some (.int .i64 fo) ∧ x.cell? ⟨w0.heap.size, 6, none⟩ = some (.int .i64 ch) ∧ x.cell? ⟨w0.heap.size, 7, none⟩ = some (.int .i64 nn) ∧ x.cell? ⟨w0.heap.size, 8, none⟩ = some (.int .i64 gs) ∧ x.cell? ⟨w0.heap.size, 9, none⟩ = some (.int .i64 gp) ∧ x.cell? ⟨w0.heap.size, 10, none⟩ = some (.int .i64 gpo) ∧ x.cell? ⟨w0.heap.size, 11, none⟩ = some (.int .i64 gm) ∧ x.cell? ⟨w0.heap.size, 12, none⟩ = some (.int .i64 gmo) ∧ x.cell? ⟨w0.heap.size, 13, none⟩ = some (.string tx) ∧ x.cell? ⟨w0.heap.size, 14, none⟩ = some (.int .i64 kids)) (first | exact Q1.out _ B1.out | exact Q1.out _ ‹Hid (Below wr.heap.size wr _)›) (first | (refine (TG.out.cc _).mono ?_; rintro e w2 ⟨rfl, hb2⟩; have B2 : Hid (Below wr.heap.size wr w2) := hideP (below_more B1.out hb2 B1.out.size); clear hb2) | (refine (TG.out.cn _).mono ?_; rintro e w3 ⟨rfl, hb3⟩; have B3 : Hid (Below wr.heap.size wr w3) := hideP (below_more B2.out hb3 B2.out.size); clear hb3))
         all_goals
          go_wp2
          go_ret
          exact ⟨retB HBAD.out.symm, BOUT.out _ ‹Hid (Below wr.heap.size wr w3)›⟩
        | true =>
         go_wp2_with fail
         go_region_held3 (fun x => x.cell? ⟨w0.heap.size, 0, none⟩ = some (.int .i64 kd) ∧ x.cell? ⟨w0.heap.size, 1, none⟩ = some (.int .i64 wd) ∧ x.cell? ⟨w0.heap.size, 2, none⟩ = some (.int .i64 hh) ∧ x.cell? ⟨w0.heap.size, 3, none⟩ = some (.int .i64 dp) ∧ x.cell? ⟨w0.heap.size, 4, none⟩ = some (.int .i64 sh) ∧ x.cell? ⟨w0.heap.size, 5, none⟩ = some (.int .i64 fo) ∧ x.cell? ⟨w0.heap.size, 6, none⟩ = some (.int .i64 ch) ∧ x.cell? ⟨w0.heap.size, 7, none⟩ = some (.int .i64 nn) ∧ x.cell? ⟨w0.heap.size, 8, none⟩ = some (.int .i64 gs) ∧ x.cell? ⟨w0.heap.size, 9, none⟩ = some (.int .i64 gp) ∧ x.cell? ⟨w0.heap.size, 10, none⟩ = some (.int .i64 gpo) ∧ x.cell? ⟨w0.heap.size, 11, none⟩ = some (.int .i64 gm) ∧ x.cell? ⟨w0.heap.size, 12, none⟩ = some (.int .i64 gmo) ∧ x.cell? ⟨w0.heap.size, 13, none⟩ = some (.string tx) ∧ x.cell? ⟨w0.heap.size, 14, none⟩ = some (.int .i64 kids)) (first | exact Q1.out _ B1.out | exact Q1.out _ ‹Hid (Below wr.heap.size wr _)›) (first | (refine (TG.out.cc _).mono ?_; rintro e w2 ⟨rfl, hb2⟩; have B2 : Hid (Below wr.heap.size wr w2) := hideP (below_more B1.out hb2 B1.out.size); clear hb2) | (refine (TG.out.cn _).mono ?_; rintro e w3 ⟨rfl, hb3⟩; have B3 : Hid (Below wr.heap.size wr w3) := hideP (below_more B2.out hb3 B2.out.size); clear hb3))
         have B3' := ‹Hid (Below wr.heap.size wr w3)›
         clear B1 Q1 hnil hgd hmc hfc hmn hfn hneq TG B2 B3
         have HPOP : Hid (U = T.dropWhile (· == (k : Int))) := hideP (popped HD.out (by rw [← HZ.out]; exact hzk))
         have HGT : Hid (goodB (xs.getD k Nd.none) = true) := hideP (by rw [← HT.out]; exact HG.out)
         have HKL : Hid (k < xs.length) := hideP (by rw [← HN.out]; exact hkn)
         have hzb : (k : Int) + 1 ≤ z ∧ z ≤ n := by
          have := HLf.out.top HKL.out
          rw [← HPOP.out, ← HN.out, ← HZ.out] at this
          exact this
         have HI3 : Hid (IR w3 w.heap.size (.slice (some ⟨g, 0, none⟩) (q + 1) c) (q + 1) (stk U n)) := hideP (HIU.out.below B3'.out)
         obtain ⟨hz1, hz2⟩ := hzb
         rcases HH.out with ⟨Kh, hho⟩ | hno
         ·have hta := hho.ta
          have hmh := hho.mh
          have hfh := hho.fh
          have CH := hideP hho.ch
          have HDP : Hid (deepB (xs.getD k Nd.none) = true) := hideP (by rw [← HT.out]; exact hho.deep)
          have hk0 : 0 ≤ kids := by
           have := HGT.out
           rw [← HT.out] at this
           unfold goodB at this
           simp at this
           exact this.2
          have hcell3 : w3.cell? ⟨g, q, none⟩ = some (.int .i64 z) := by have := stk_top HI3.out HU.out; rw [← HZ.out] at this; exact this
          clear hho HH
          dsimp only at CH
          go_wp2_with fail
          refine (CH.out _).mono ?_
          rintro e w4 ⟨rfl, hb4⟩
          have B4 : Hid (Below wr.heap.size wr w4) := hideP (below_more B3'.out hb4 B3'.out.size)
          have HI4 := hideP (HI3.out.below hb4)
          clear hcell3 hb4 HI3 B3'
          by_cases hover : z - (k : Int) - 1 < kids
          ·have HBAD : Hid (R = false) := hideP (HRR.out _ (by have h := HLf.out.over HKL.out (by rw [← HPOP.out, ← HN.out, ← HZ.out, ← HT.out]; dsimp only; omega); rw [← HN.out] at h; exact h))
           have hov : decide (z - (k : Int) - 1 < kids) = true := decide_eq_true hover
           go_wp2
           go_ret
           exact ⟨retB HBAD.out.symm, BOUT.out _ B4.out⟩
          ·have hov : ¬ (z - (k : Int) - 1 < kids) := hover
           by_cases hnest : q ≤ 40
           ·have hne : ¬ ((40 : Int) < (q : Int)) := by omega
            have HDL : Hid (Left xs (k + 1) (((k : Int) + 1 + kids) :: U)) := hideP (by
             have h := HLf.out.deep HKL.out HGT.out HDP.out (by rw [← HPOP.out, ← HN.out, ← HZ.out, ← HT.out]; dsimp only; omega) (by rw [← HPOP.out, HU.out]; exact hnest)
             rw [← HPOP.out, ← HT.out] at h
             exact h)
            go_wp2_with fail
            refine (CH.out _).mono ?_
            rintro e w5 ⟨rfl, hb5⟩
            have B5 : Hid (Below wr.heap.size wr w5) := hideP (below_more B4.out hb5 B4.out.size)
            have HI5 := hideP (HI4.out.below hb5)
            have hw5 : w.heap.size ≤ w5.heap.size := (BOUT.out _ B5.out).size
            obtain ⟨i0, hi, hy0, hy1, hy2⟩ := info_parts Tryz.info3
            clear hb5 HI4 B4 hta hmh hfh
            go_wp2_with (at_builtin; refine wpList_append_own_at _ rfl _ _ 182 rfl w.heap.size 3 i0 (.int .i64 0) 1 8 Tryz.underlying182 hi hy0 hy1 hy2 rfl (by decide) _ _ _ rfl (HI5.out.alloc _) ⟨w5.heap.size, 0, none⟩ 1 1 [.int .i64 ((k : Int) + 1 + kids)] rfl rfl (cell_one_new _ _ _) (by intro u hu; simp at hu; subst hu; rfl) (by unfold maxLen; omega) (by omega) (by simp; omega) ?_; intro v6 w6 hown6 hgrow6 hnil6 hlies6)
            have hg6 : (w5.alloc (.cells #[.int .i64 ((k : Int) + 1 + kids)] 3)).grownBy w6 (some g) := hgrow6
            have hI6 : IR w6 w.heap.size v6 (q + 1 + 1) (stk (((k : Int) + 1 + kids) :: U) n) := by
             rw [stk_cons]
             show w6.ownsRow w.heap.size 3 1 v6 (q + 1 + 1) (((stk U n) ++ [(k : Int) + 1 + kids]).map (Value.int .i64))
             rw [List.map_append]
             exact hown6
            have hB6 : Below w.heap.size w w6 := Below.grown ((BOUT.out _ B5.out).alloc hw5 _) hg6 (by simp; omega) (by intro j hj; simp at hj; subst hj; exact (stk_cap HI5.out).2.2.1)
            clear hown6 hgrow6 hnil6 hlies6 hg6
            go_roundw
            case rel =>
             obtain ⟨g6, c6, rfl⟩ : ∃ g c, v6 = .slice (some ⟨g, 0, none⟩) (q + 1 + 1) c := by
              rcases hI6.2 with ⟨_, h⟩ | ⟨g, c, cur, h, _⟩
              ·omega
              ·exact ⟨g, c, h⟩
             exact ⟨k + 1, ((k : Int) + 1 + kids) :: U, g6, q + 1, c6, by omega, by go_num, rfl, by simp [HU.out], hI6, by omega, hB6, HDL⟩
            case measure => simp [intOf]; omega
           ·have hne : (40 : Int) < (q : Int) := by omega
            have HBAD : Hid (R = false) := hideP (HRR.out _ (by have h := HLf.out.nest HKL.out HDP.out (by rw [← HPOP.out, HU.out]; exact hnest); rw [← HN.out] at h; exact h))
            go_wp2
            go_ret
            exact ⟨retB HBAD.out.symm, BOUT.out _ B4.out⟩
         ·have hta := hno.ta
          have HFL : Hid (Left xs (k + 1) U) := hideP (by rw [HPOP.out]; exact HLf.out.flat HKL.out HGT.out (by rw [← HT.out]; exact hno.deep))
          clear hno HH
          go_wp2
          go_roundw
          case rel => exact ⟨k + 1, U, g, q, c, by omega, by go_num, rfl, HU.out, HI3.out, by omega, BOUT.out _ B3'.out, HFL⟩
          case measure => simp [intOf]; omega
   ·have hki : ¬ (k : Int) < (n : Int) := by omega
    obtain rfl : k = n := by omega
    have HB := hideP hbel
    have HE : Hid (R = true) := hideP (HRR.out _ (by have h := HLf.out; rw [HN.out] at h; have h2 := h.done; rw [← HN.out] at h2; exact h2))
    clear hbel hI
    go_wp2
    go_ret
    exact ⟨retB HE.out.symm, HB.out⟩
 ·have hni : (20000 : Int) < (n : Int) := by omega
  have hLB : listB xs = false := by unfold listB; rw [decide_eq_false (by omega)]; rfl
  rw [hLB]
  go_enter Tryz.func66, Tryz.ntmps66
  go_wp2
  go_ret
  exact ⟨rfl, Below.refl _ _⟩
end Go.Proofs.YtlohbaoigfaneaaGreat
