import Derived.Test.YtbpidcfoldkhgaaGreatDie
import Derived.Conc.MuLone
namespace Go.Proofs.YtbpidcfoldkhgaaGreat
open Go.RowKit
set_option linter.unusedVariables false
set_option linter.unusedSimpArgs false
set_option maxRecDepth 20000 in
set_option maxHeartbeats 4000000 in
theorem eachBind_any {W w0 : World} {base : Nat} {ts : List Bd} {ta : Option Addr} {m tc : Nat} {v : Value} {zs : List Int} (h : BO base W v zs) (hb : base ≤ W.heap.size) (hT : BRow 0 w0 (.slice ta m tc) ts) (hm : ts.length = m) (h0 : Below w0.heap.size w0 W) (hs : w0.heap.size ≤ base) (hn : ts.length ≤ 1048576) (hk : ∀ t ∈ ts, MnD t.m) (hl : zs.length + (ts.flatMap bnB).length ≤ 70368744177664) :
 Calls Tryz.prog 70 #[v, .slice ta m tc, .func (.func 41) #[] #[]] W fun e W' => PutQ base v W (zs ++ ts.flatMap bnB) e W' := by
 have TC : Hid (∀ k, k < m → ∀ v' w' vp vb (y : Bd), y = ts.getD k Bd.none → TRow w0 vp y.m.p → TRow w0 vb y.m.b → BO base w' v' (zs ++ (ts.take k).flatMap bnB) → Below w0.heap.size w0 w' → base ≤ w'.heap.size → Calls Tryz.prog 41 #[v', .agg #[.string y.nm, .int .i64 y.m.k, .int .i64 y.m.n, .int .i64 y.m.t.c, .int .i64 y.m.t.h, .string y.m.t.s, vp, .int .i64 y.m.sl, vb]] w' fun e W' => PutQ base v' w' (zs ++ (ts.take (k + 1)).flatMap bnB) e W') := hideP (fun k hkm v' w' vp vb y hy hp hv h1 h2 h3 => by
  subst hy
  have hkl : k < ts.length := by omega
  have hd := hk _ (getD_in Bd.none hkl)
  have hle := flat_le (f := bnB) Bd.none hkl
  rw [take_flat Bd.none hkl, ← List.append_assoc]
  exact putBind_any h1 h3 hp hv h2 hs hd (by rw [List.length_append]; omega))
 have HR : Hid (0 < m → ∃ b off, ta = some ⟨b, off, none⟩ ∧ b < w0.heap.size ∧ ∀ k, k < m → ∃ vp vb, TRow w0 vp (ts.getD k Bd.none).m.p ∧ TRow w0 vb (ts.getD k Bd.none).m.b ∧ w0.cell? ⟨b, off + k * 9, none⟩ = some (.string (ts.getD k Bd.none).nm) ∧ w0.cell? ⟨b, off + k * 9 + 1, none⟩ = some (.int .i64 (ts.getD k Bd.none).m.k) ∧ w0.cell? ⟨b, off + k * 9 + 2, none⟩ = some (.int .i64 (ts.getD k Bd.none).m.n) ∧ w0.cell? ⟨b, off + k * 9 + 3, none⟩ = some (.int .i64 (ts.getD k Bd.none).m.t.c) ∧ w0.cell? ⟨b, off + k * 9 + 4, none⟩ = some (.int .i64 (ts.getD k Bd.none).m.t.h) ∧ w0.cell? ⟨b, off + k * 9 + 5, none⟩ = some (.string (ts.getD k Bd.none).m.t.s) ∧ w0.cell? ⟨b, off + k * 9 + 6, none⟩ = some vp ∧ w0.cell? ⟨b, off + k * 9 + 7, none⟩ = some (.int .i64 (ts.getD k Bd.none).m.sl) ∧ w0.cell? ⟨b, off + k * 9 + 8, none⟩ = some vb) := hideP (fun hp => by obtain ⟨b, off, e, h1, _, h2⟩ := BRow.at hT hp; exact ⟨b, off, e, h1, h2⟩)
 have HO := hideP h
 have H0 := hideP h0
 have HM := hideP hm
 have HS := hideP hs
 have hm2 : m ≤ 1048576 := by omega
 obtain ⟨ao, n, cap, rfl⟩ := BO.shp h
 clear h hl h0 hk hn hm hs hT
 go_enter Tryz.func70, Tryz.ntmps70
 go_wp2
 go_loopw [0, 11] (fun s0 s5 wr => ∃ k : Nat, s5 = .int .i64 (k : Int) ∧ k ≤ m ∧ BO base wr s0 (zs ++ (ts.take k).flatMap bnB) ∧ GO (.slice ao n cap) W s0 wr) (fun _ s _ => m - (intOf s).toNat)
 case atStart => exact ⟨0, rfl, by omega, by rw [List.take_zero, List.flatMap_nil, List.append_nil]; exact HO.out, GO.refl _ _⟩
 case round =>
  obtain ⟨k, rfl, hkm, ho, hg⟩ := hrel
  by_cases hkn : k < m
  ·have hki : (k : Int) < (m : Int) := by omega
   obtain ⟨b, off, rfl, hbl, hc⟩ := HR.out (by omega)
   obtain ⟨vp, vb, tp, tb, hcc⟩ := hc k hkn
   have bw : Below w0.heap.size w0 wr := H0.out.trans ((hg.below HO.out hb).mono HS.out)
   obtain ⟨y, hy⟩ : ∃ y, y = ts.getD k Bd.none := ⟨_, rfl⟩
   have TK := hideP (fun o => TC.out k hkn _ (wr.alloc o) vp vb y hy (by rw [hy]; exact tp) (by rw [hy]; exact tb) (ho.alloc o) (bw.trans ((below1 wr o).mono bw.size)) (by have := hg.size; simp; omega))
   obtain ⟨c0, c1, c2, c3, c4, c5, c6, c7, c8⟩ := hcc
   rw [← hy] at c0 c1 c2 c3 c4 c5 c7
   have g0 := (bw.cell (p := ⟨b, off + k * 9, none⟩) hbl).trans c0
   have g1 := (bw.cell (p := ⟨b, off + k * 9 + 1, none⟩) hbl).trans c1
   have g2 := (bw.cell (p := ⟨b, off + k * 9 + 2, none⟩) hbl).trans c2
   have g3 := (bw.cell (p := ⟨b, off + k * 9 + 3, none⟩) hbl).trans c3
   have g4 := (bw.cell (p := ⟨b, off + k * 9 + 4, none⟩) hbl).trans c4
   have g5 := (bw.cell (p := ⟨b, off + k * 9 + 5, none⟩) hbl).trans c5
   have g6 := (bw.cell (p := ⟨b, off + k * 9 + 6, none⟩) hbl).trans c6
   have g7 := (bw.cell (p := ⟨b, off + k * 9 + 7, none⟩) hbl).trans c7
   have g8 := (bw.cell (p := ⟨b, off + k * 9 + 8, none⟩) hbl).trans c8
   obtain ⟨pa, pn, pc, rfl, _⟩ := tp
   obtain ⟨ba, bn, bc, rfl, _⟩ := tb
   have HG := hideP hg
   obtain ⟨a1, n1, p1, rfl⟩ := BO.shp ho
   clear ho hg bw hc c0 c1 c2 c3 c4 c5 c6 c7 c8 hy
   obtain ⟨nm, ⟨yk, yn, ⟨yc, yh, ys⟩, yp, ysl, yb⟩⟩ := y
   simp only at g0 g1 g2 g3 g4 g5 g6 g7 g8 TK
   go_wp2_with fail
   refine (TK.out _).mono ?_
   rintro e w2 ⟨v2, rfl, ho2, hb2⟩
   have O2 := hideP ho2
   have B2 := hideP ((HG.out.alloc _).trans hb2)
   clear ho2 hb2
   go_wp2
   go_roundw
   case rel => exact ⟨k + 1, by simp, by omega, O2.out, B2.out⟩
   case measure => simp [intOf]; omega
  ·obtain rfl : k = m := by omega
   have hki : ¬ (k : Int) < (k : Int) := by omega
   have O2 := hideP ho
   have B2 := hideP hg
   clear ho hg
   go_wp2
   go_ret
   refine ⟨_, rfl, ?_, B2.out⟩
   have h := O2.out
   rw [List.take_of_length_le (by rw [HM.out]; exact Nat.le_refl _)] at h
   exact h
set_option maxRecDepth 20000 in
set_option maxHeartbeats 4000000 in
theorem allBind_any {W w0 : World} {base : Nat} {ts : List Bd} {ta : Option Addr} {m tc : Nat} {v : Value} {zs : List Int} (h : BO base W v zs) (hb : base ≤ W.heap.size) (hT : BRow 0 w0 (.slice ta m tc) ts) (hm : ts.length = m) (h0 : Below w0.heap.size w0 W) (hs : w0.heap.size ≤ base) (hn : ts.length ≤ 1048576) (hk : ∀ t ∈ ts, MnD t.m) (hl : zs.length + (numB ts.length ++ ts.flatMap bnB).length ≤ 70368744177664) :
 Calls Tryz.prog 40 #[v, .slice ta m tc, .func (.func 41) #[] #[]] W fun e W' => PutQ base v W (zs ++ (numB ts.length ++ ts.flatMap bnB)) e W' := by
 rw [List.length_append, hm] at hl
 rw [hm]
 have NC := hideP (putNum_any (n := m) h hb (by omega) (by omega))
 have EC : Hid (∀ v' w', BO base w' v' (zs ++ numB m) → Below w0.heap.size w0 w' → base ≤ w'.heap.size → Calls Tryz.prog 70 #[v', .slice ta m tc, .func (.func 41) #[] #[]] w' fun e W' => PutQ base v' w' (zs ++ (numB m ++ ts.flatMap bnB)) e W') := hideP (fun v' w' h1 h2 h3 => by
  rw [← List.append_assoc]
  exact eachBind_any h1 h3 hT hm h2 hs hn hk (by rw [List.length_append]; omega))
 have HO := hideP h
 have H0 := hideP h0
 have hm2 : m ≤ 1048576 := by omega
 have HS := hideP hs
 obtain ⟨ao, n, cap, rfl⟩ := BO.shp h
 clear h hl h0 hk hn hm hs hT
 go_enter Tryz.func40, Tryz.ntmps40
 go_wp2_with fail
 refine NC.out.mono ?_
 rintro e w1 ⟨v1, rfl, ho1, hb1⟩
 have O1 := hideP ho1
 have B1 := hideP hb1
 clear ho1 hb1 NC
 go_wp2_with fail
 refine (EC.out _ _ O1.out (H0.out.trans ((B1.out.below HO.out hb).mono HS.out)) (Nat.le_trans hb B1.out.size)).mono ?_
 rintro e w2 ⟨v2, rfl, ho2, hb2⟩
 have O2 := hideP ho2
 have B2 := hideP (B1.out.trans hb2)
 clear ho2 hb2
 go_wp2
 go_ret
 exact ⟨_, rfl, O2.out, B2.out⟩
end Go.Proofs.YtbpidcfoldkhgaaGreat
namespace Go.Proofs.YtbpidcfoldkhgaaGreat
open Go.RowKit
abbrev muLink : Go.Conc.Locks.MuLink := { lock := 47, unlock := 48, ilock := 77, iunlock := 78, lockSlow := 108, unlockSlow := 111, disable := 104, enable := 106, acquire := 107, relMerge := 109, cas32 := 105, add32 := 110, tMutex := 87, tIMutex := 85, tPMutex := 122, tPIMutex := 152, tPI32 := 154, tUP := 156, tNoCopy := 82, tU32 := 83 }
theorem muLib : Go.Conc.Locks.MuLib Tryz.prog muLink :=
 ⟨Tryz.func47, Tryz.func48, Tryz.func77, Tryz.func78, Tryz.func104, Tryz.func106, Tryz.func107, Tryz.func109, Tryz.func105, Tryz.func110, Tryz.underlying85, Tryz.runUnderlying85, Tryz.sizeOf85, Tryz.isAgg85, Tryz.zeroValue85, Tryz.underlying87, Tryz.runUnderlying87, Tryz.sizeOf87, Tryz.isAgg87, Tryz.zeroValue87, Tryz.underlying122, Tryz.runUnderlying122, Tryz.sizeOf122, Tryz.isAgg122, Tryz.zeroValue122, Tryz.underlying152, Tryz.runUnderlying152, Tryz.sizeOf152, Tryz.isAgg152, Tryz.zeroValue152, Tryz.underlying154, Tryz.runUnderlying154, Tryz.sizeOf154, Tryz.isAgg154, Tryz.zeroValue154, Tryz.underlying156, Tryz.runUnderlying156, Tryz.sizeOf156, Tryz.isAgg156, Tryz.zeroValue156, Tryz.underlying82, Tryz.runUnderlying82, Tryz.sizeOf82, Tryz.isAgg82, Tryz.zeroValue82, Tryz.underlying21, Tryz.runUnderlying21, Tryz.sizeOf21, Tryz.isAgg21, Tryz.zeroValue21, (by kernel_rfl)⟩
theorem lockFree (a : Addr) (w : World) (hc : w.cell? a = some (.int .i32 0)) (hz : w.frozen? a = false) : Calls Tryz.prog 47 #[.pointer (some a)] w fun e w' => e = .returned (.tuple #[]) ∧ w' = w.setCell a (.int .i32 1) := Go.MuLone.lock_free muLib a w hc hz
theorem unlockD (a : Addr) (u : FrameMode) (w : World) (hc : w.cell? a = some (.int .i32 1)) (hz : w.frozen? a = false) : CallsD Tryz.prog 48 #[.pointer (some a)] u w fun e u' w' => u' = u ∧ (e = .returned (.tuple #[]) ∧ w' = w.setCell a (.int .i32 0)) := Go.MuLone.unlock_deferred muLib a u w hc hz
end Go.Proofs.YtbpidcfoldkhgaaGreat
