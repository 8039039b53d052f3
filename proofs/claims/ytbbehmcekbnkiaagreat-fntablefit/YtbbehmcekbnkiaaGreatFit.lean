import Derived.Test.YtbbehmcekbnkiaaGreatNod
import Derived.Test.YtbbehmcekbnkiaaGreatFng
namespace Go.Proofs.YtbbehmcekbnkiaaGreat.Shr
open Go.RowKit
set_option linter.unusedVariables false
set_option linter.unusedSimpArgs false
def mxI (a b : Int) : Int := if b < a then a else b
theorem mostI_any (a b : Int) (w : World) : Calls Tryz.prog 109 #[.int .i64 a, .int .i64 b] w fun e w' => e = .returned (.int .i64 (mxI a b)) /\ w' = w := by
 by_cases h : b < a
 ·rw [show mxI a b = a by simp [mxI, h]]
  go_enter Tryz.func109, Tryz.ntmps109
  go_wp2
  go_ret
  exact ⟨rfl, rfl⟩
 ·rw [show mxI a b = b by simp [mxI, h]]
  go_enter Tryz.func109, Tryz.ntmps109
  go_wp2
  go_ret
  exact ⟨rfl, rfl⟩
theorem all_at {zs : List Int} : zs.all fitsB = true ↔ ∀ j, j < zs.length -> fitsB (zs.getD j 0) = true := by
 rw [List.all_eq_true]
 constructor
 ·intro h j hj
  rw [List.getD_eq_getElem?_getD, List.getElem?_eq_getElem hj]
  exact h _ (List.getElem_mem hj)
 ·intro h x hx
  obtain ⟨j, hj, rfl⟩ := List.getElem_of_mem hx
  have := h j hj
  rw [List.getD_eq_getElem?_getD, List.getElem?_eq_getElem hj] at this
  exact this
set_option maxRecDepth 20000 in
set_option maxHeartbeats 1600000 in
theorem fitsAll_any {v : Value} {zs : List Int} {w : World} (h : Row w v zs) (hn : zs.length <= 1048576) :
 Calls Tryz.prog 91 #[v] w fun e w' => e = .returned (.bool (zs.all fitsB)) /\ w' = w := by
 obtain ⟨ao, n, cap, rfl, hl, hr⟩ := h
 rw [hl] at hn
 obtain ⟨R, hR⟩ := exq (zs.all fitsB)
 rw [<- hR]
 have HRR := hideP hR
 have HR : Hid (0 < n -> ∃ b off, ao = some ⟨b, off, none⟩ /\ b < w.heap.size /\ ∀ i, i < n -> w.cell? ⟨b, off + i, none⟩ = some (.int .i64 (zs.getD i 0))) := hr
 have HL : Hid (zs.length = n) := hl
 clear hr hl hR
 go_enter Tryz.func91, Tryz.ntmps91
 go_wp2
 go_loopw [3] (fun s wr => ∃ k : Nat, k <= n /\ s = .int .i64 k /\ (∀ j, j < k -> fitsB (zs.getD j 0) = true) /\ wr = w) (fun s _ => n - (intOf s).toNat)
 case atStart => exact ⟨0, by omega, rfl, fun j hj => by omega, rfl⟩
 case round =>
  obtain ⟨k, hk, rfl, hok, rfl⟩ := hrel
  have HK := hideP hok
  clear hok
  by_cases hkn : k < n
  ·have hki : (k : Int) < (n : Int) := by omega
   obtain ⟨b, off, rfl, hb, hc⟩ := HR (by omega)
   have g0 := hc k hkn
   obtain ⟨z, hz⟩ := exq (zs.getD k 0)
   rw [<- hz] at g0
   have HZ := hideP hz
   clear hc hz
   go_wp2_with fail
   refine (specFits_any z _).mono ?_
   rintro e w2 ⟨rfl, rfl⟩
   cases hf : fitsB z with
   | false =>
    have HE : Hid (R = false) := hideP (by
     rw [HRR.out, Bool.eq_false_iff]
     intro hall
     have h1 := all_at.1 hall k (by rw [show zs.length = n from HL]; exact hkn)
     rw [<- HZ.out, hf] at h1
     cases h1)
    clear hf
    go_wp2
    go_ret
    exact ⟨retB HE.out.symm, rfl⟩
   | true =>
    have HF := hideP hf
    clear hf
    go_wp2
    go_roundw
    case rel =>
     refine ⟨k + 1, by omega, by go_num, fun j hj => ?_, trivial⟩
     by_cases hjk : j = k
     ·subst hjk; rw [<- HZ.out]; exact HF.out
     ·exact HK.out j (by omega)
    case measure => simp [intOf]; omega
  ·have hki : ¬ (k : Int) < (n : Int) := by omega
   have HE : Hid (R = true) := hideP (by rw [HRR.out, all_at]; intro j hj; exact HK.out j (by have := (show zs.length = n from HL); omega))
   clear HK
   go_wp2
   go_ret
   exact ⟨retB HE.out.symm, rfl⟩
def alongI (all : Int) (gs : List Gl) (mode size : Int) : Int := if mode = 1 then size else if mode = 2 then all + siz gs + size else all + siz gs
theorem siz_in {gs : List Gl} (h : glsOk gs = true) : -10737418230000 <= siz gs /\ siz gs <= 10737418230000 := by
 obtain ⟨h1, h2⟩ := glsOk_each h
 have h3 := siz_bound gs (fun k hk => by
  have := h2 k hk
  unfold Gl.ok okB at this
  simp only [fitsB, Bool.and_eq_true, decide_eq_true_eq] at this
  omega) gs.length (Nat.le_refl _)
 rw [List.take_length] at h3
 have h4 : (gs.length : Int) <= 10000 := by omega
 have h5 : (gs.length : Int) * 1073741823 <= 10000 * 1073741823 := by omega
 omega
set_option maxRecDepth 20000 in
set_option maxHeartbeats 1600000 in
theorem along_no {v : Value} {gs : List Gl} {w : World} (all mode size : Int) (h : GRow w v gs) (hn : gs.length <= 1048576) (hok : glsOk gs = false) :
 Calls Tryz.prog 88 #[.int .i64 all, v, .int .i64 mode, .int .i64 size] w fun e w' => e = .returned (.tuple #[.int .i64 0, .bool false]) /\ Below w.heap.size w w' := by
 have HC := hideP (specSum_any h hn)
 have HOK := hideP hok
 clear h hok
 go_enter Tryz.func88, Tryz.ntmps88
 go_wp2_with fail
 refine HC.out.mono ?_
 rintro e w1 ⟨⟨v1, v2, rfl, hr1, hr2⟩, hb⟩
 have HB := hideP hb
 clear hb hr2 HC
 obtain ⟨ao1, n1, cap1, rfl, hl1, -⟩ := hr1
 have hz : n1 = 0 := by rw [<- hl1]; simp [sumP, HOK.out]
 subst hz
 clear hl1
 go_wp2
 go_ret2
 exact ⟨rfl, HB.out⟩
set_option maxRecDepth 20000 in
set_option maxHeartbeats 1600000 in
theorem along_ok {v : Value} {gs : List Gl} {w : World} (all mode size : Int) (h : GRow w v gs) (hok : glsOk gs = true) (ha : -1152921504606846976 <= all /\ all <= 1152921504606846976) (hs : fitsB size = true) :
 Calls Tryz.prog 88 #[.int .i64 all, v, .int .i64 mode, .int .i64 size] w fun e w' => e = .returned (.tuple #[.int .i64 (alongI all gs mode size), .bool (fitsB (alongI all gs mode size) && fitsB all)]) /\ Below w.heap.size w w' := by
 have HC := hideP (specSum_any h (by have := (glsOk_each hok).1; omega))
 have hs2 : -1073741823 <= size /\ size <= 1073741823 := of_decide_eq_true hs
 obtain ⟨hs3, hs4⟩ := hs2
 obtain ⟨ha1, ha2⟩ := ha
 obtain ⟨hq1, hq2⟩ := siz_in hok
 have HOK := hideP hok
 obtain ⟨tt, hto⟩ := exq (alongI all gs mode size)
 rw [<- hto]
 have HTO := hideP hto
 clear h hs hto hok
 go_enter Tryz.func88, Tryz.ntmps88
 go_wp2_with fail
 refine HC.out.mono ?_
 rintro e w1 ⟨⟨v1, v2, rfl, hr1, hr2⟩, hb⟩
 have HB := hideP hb
 clear hb hr2 HC
 obtain ⟨ao1, n1, cap1, rfl, hl1, -⟩ := hr1
 have hz : n1 = 4 := by rw [<- hl1]; simp [sumP, HOK.out, tot_length]
 subst hz
 have hsz : sumN gs = siz gs := by simp [sumN, HOK.out]
 rw [hsz]
 obtain ⟨S, hS⟩ := exq (siz gs)
 rw [<- hS] at hq1 hq2
 rw [<- hS]
 have HS := hideP hS
 clear hl1 hsz hS
 by_cases h1 : mode = 1
 ·have he : tt = size := by rw [HTO.out]; unfold alongI; rw [if_pos h1]
  subst h1
  have HE := hideP he
  clear he
  go_wp2_with fail
  refine (specFits_any size _).mono ?_
  rintro e w2 ⟨rfl, rfl⟩
  cases hf : fitsB (size) with
  | false =>
   have HF := hideP hf
   clear hf
   go_wp2
   go_ret2
   exact ⟨by rw [HE.out, HF.out]; rfl, HB.out⟩
  | true =>
   have HF := hideP hf
   clear hf
   go_wp2_with fail
   refine (specFits_any all _).mono ?_
   rintro e w2 ⟨rfl, rfl⟩
   go_wp2
   go_ret2
   exact ⟨by rw [HE.out, HF.out]; rfl, HB.out⟩
 ·by_cases h2 : mode = 2
  ·have he : tt = all + S + size := by rw [HTO.out]; unfold alongI; rw [if_neg h1, if_pos h2, HS.out]
   subst h2
   have HE := hideP he
   clear he
   go_wp2_with fail
   refine (specFits_any (all + S + size) _).mono ?_
   rintro e w2 ⟨rfl, rfl⟩
   cases hf : fitsB (all + S + size) with
   | false =>
    have HF := hideP hf
    clear hf
    go_wp2
    go_ret2
    exact ⟨by rw [HE.out, HF.out]; rfl, HB.out⟩
   | true =>
    have HF := hideP hf
    clear hf
    go_wp2_with fail
    refine (specFits_any all _).mono ?_
    rintro e w2 ⟨rfl, rfl⟩
    go_wp2
    go_ret2
    exact ⟨by rw [HE.out, HF.out]; rfl, HB.out⟩
  ·have he : tt = all + S := by rw [HTO.out]; unfold alongI; rw [if_neg h1, if_neg h2, HS.out]
   have HE := hideP he
   clear he
   go_wp2_with fail
   refine (specFits_any (all + S) _).mono ?_
   rintro e w2 ⟨rfl, rfl⟩
   cases hf : fitsB (all + S) with
   | false =>
    have HF := hideP hf
    clear hf
    go_wp2
    go_ret2
    exact ⟨by rw [HE.out, HF.out]; rfl, HB.out⟩
   | true =>
    have HF := hideP hf
    clear hf
    go_wp2_with fail
    refine (specFits_any all _).mono ?_
    rintro e w2 ⟨rfl, rfl⟩
    go_wp2
    go_ret2
    exact ⟨by rw [HE.out, HF.out]; rfl, HB.out⟩
end Go.Proofs.YtbbehmcekbnkiaaGreat.Shr
namespace Go.Proofs.YtbbehmcekbnkiaaGreat
open Go.RowKit
set_option linter.unusedVariables false
set_option linter.unusedSimpArgs false
def fitsB (x : Int) : Bool := decide (-1073741823 <= x /\ x <= 1073741823)
def uptoB (x m : Int) : Bool := decide (0 <= x /\ x <= m)
def glB (s p po m mo : Int) : Bool := fitsB s && fitsB p && fitsB m && uptoB po 3 && uptoB mo 3
theorem fits_yes {x : Int} (h1 : -1073741823 <= x) (h2 : x <= 1073741823) : fitsB x = true := by simp [fitsB, h1, h2]
theorem fits_no {x : Int} (h : ¬ (-1073741823 <= x /\ x <= 1073741823)) : fitsB x = false := by simp [fitsB]; omega
theorem upto_yes {x m : Int} (h1 : 0 <= x) (h2 : x <= m) : uptoB x m = true := by simp [uptoB, h1, h2]
theorem upto_no {x m : Int} (h : ¬ (0 <= x /\ x <= m)) : uptoB x m = false := by simp [uptoB]; omega
theorem specFits_any (x : Int) (w : World) : Calls Tryz.prog 89 #[.int .i64 x] w fun e w' => e = .returned (.bool (fitsB x)) /\ w' = w := by
 by_cases h1 : -1073741823 <= x
 ·by_cases h2 : x <= 1073741823
  ·rw [fits_yes h1 h2]
   go_enter Tryz.func89, Tryz.ntmps89
   go_wp2
   go_ret
   exact ⟨rfl, rfl⟩
  ·rw [fits_no (by omega)]
   go_enter Tryz.func89, Tryz.ntmps89
   go_wp2
   go_ret
   exact ⟨rfl, rfl⟩
 ·rw [fits_no (by omega)]
  go_enter Tryz.func89, Tryz.ntmps89
  go_wp2
  go_ret
  exact ⟨rfl, rfl⟩
theorem implFits_any (x : Int) (w : World) : Calls Tryz.prog 44 #[.int .i64 x] w fun e w' => e = .returned (.bool (fitsB x)) /\ w' = w := by
 by_cases h1 : -1073741823 <= x
 ·by_cases h2 : x <= 1073741823
  ·rw [fits_yes h1 h2]
   go_enter Tryz.func44, Tryz.ntmps44
   go_wp2
   go_ret
   exact ⟨rfl, rfl⟩
  ·rw [fits_no (by omega)]
   go_enter Tryz.func44, Tryz.ntmps44
   go_wp2
   go_ret
   exact ⟨rfl, rfl⟩
 ·rw [fits_no (by omega)]
  go_enter Tryz.func44, Tryz.ntmps44
  go_wp2
  go_ret
  exact ⟨rfl, rfl⟩
theorem specOrder_any (x : Int) (w : World) : Calls Tryz.prog 139 #[.int .i64 x] w fun e w' => e = .returned (.bool (uptoB x 3)) /\ w' = w := by
 by_cases h1 : 0 <= x
 ·by_cases h2 : x <= 3
  ·rw [upto_yes h1 h2]
   go_enter Tryz.func139, Tryz.ntmps139
   go_wp2
   go_ret
   exact ⟨rfl, rfl⟩
  ·rw [upto_no (by omega)]
   go_enter Tryz.func139, Tryz.ntmps139
   go_wp2
   go_ret
   exact ⟨rfl, rfl⟩
 ·rw [upto_no (by omega)]
  go_enter Tryz.func139, Tryz.ntmps139
  go_wp2
  go_ret
  exact ⟨rfl, rfl⟩
theorem implOrder_any (x : Int) (w : World) : Calls Tryz.prog 94 #[.int .i64 x] w fun e w' => e = .returned (.bool (uptoB x 3)) /\ w' = w := by
 by_cases h1 : 0 <= x
 ·by_cases h2 : x <= 3
  ·rw [upto_yes h1 h2]
   go_enter Tryz.func94, Tryz.ntmps94
   go_wp2
   go_ret
   exact ⟨rfl, rfl⟩
  ·rw [upto_no (by omega)]
   go_enter Tryz.func94, Tryz.ntmps94
   go_wp2
   go_ret
   exact ⟨rfl, rfl⟩
 ·rw [upto_no (by omega)]
  go_enter Tryz.func94, Tryz.ntmps94
  go_wp2
  go_ret
  exact ⟨rfl, rfl⟩
theorem upTo_any (x m : Int) (w : World) : Calls Tryz.prog 40 #[.int .i64 x, .int .i64 m] w fun e w' => e = .returned (.bool (uptoB x m)) /\ w' = w := by
 by_cases h1 : 0 <= x
 ·by_cases h2 : x <= m
  ·rw [upto_yes h1 h2]
   go_enter Tryz.func40, Tryz.ntmps40
   go_wp2
   go_ret
   exact ⟨rfl, rfl⟩
  ·rw [upto_no (by omega)]
   go_enter Tryz.func40, Tryz.ntmps40
   go_wp2
   go_ret
   exact ⟨rfl, rfl⟩
 ·rw [upto_no (by omega)]
  go_enter Tryz.func40, Tryz.ntmps40
  go_wp2
  go_ret
  exact ⟨rfl, rfl⟩
theorem specGlueOk_any (s p po m mo : Int) (w : World) : Calls Tryz.prog 122 #[glueV s p po m mo] w fun e w' => e = .returned (.bool (glB s p po m mo)) /\ Below w.heap.size w w' := by
 unfold glB
 cases h1 : fitsB s <;> cases h2 : fitsB p <;> cases h3 : fitsB m <;> cases h4 : uptoB po 3 <;> cases h5 : uptoB mo 3
 all_goals
  go_enter Tryz.func122, Tryz.ntmps122
  go_wp2_with (first
   | (go_at_call 89; refine (specFits_any _ _).mono ?_; rintro e w' ⟨rfl, rfl⟩)
   | (go_at_call 139; refine (specOrder_any _ _).mono ?_; rintro e w' ⟨rfl, rfl⟩))
  go_ret
  exact ⟨rfl, below1 _ _⟩
theorem implGlueOk_any (s p po m mo : Int) (w : World) : Calls Tryz.prog 72 #[glueV s p po m mo] w fun e w' => e = .returned (.bool (glB s p po m mo)) /\ Below w.heap.size w w' := by
 unfold glB
 cases h1 : fitsB s <;> cases h2 : fitsB p <;> cases h3 : fitsB m <;> cases h4 : uptoB po 3 <;> cases h5 : uptoB mo 3
 all_goals
  go_enter Tryz.func72, Tryz.ntmps72
  go_wp2_with (first
   | (go_at_call 44; refine (implFits_any _ _).mono ?_; rintro e w' ⟨rfl, rfl⟩)
   | (go_at_call 94; refine (implOrder_any _ _).mono ?_; rintro e w' ⟨rfl, rfl⟩))
  go_ret
  exact ⟨rfl, below1 _ _⟩
abbrev sizeV (a b c : Int) : Value := .agg #[.int .i64 a, .int .i64 b, .int .i64 c]
theorem sizeFits_any (a b c : Int) (w : World) : Calls Tryz.prog 168 #[sizeV a b c] w fun e w' => e = .returned (.bool (fitsB a && fitsB b && fitsB c)) /\ Below w.heap.size w w' := by
 cases h1 : fitsB a <;> cases h2 : fitsB b <;> cases h3 : fitsB c
 all_goals
  go_enter Tryz.func168, Tryz.ntmps168
  go_wp2_with (go_at_call 44; refine (implFits_any _ _).mono ?_; rintro e w' ⟨rfl, rfl⟩)
  go_ret
  exact ⟨rfl, below1 _ _⟩
theorem sizeOf_any (x : Nd) (w : World) : Calls Tryz.prog 51 #[ndV x] w fun e w' => e = .returned (sizeV x.wd x.ht x.dp) /\ Below w.heap.size w w' := by
 obtain ⟨k, wd, ht, dp, sh, fo, ch, nn, gs, gp, gpo, gm, gmo, tx, kids⟩ := x
 simp only [ndV]
 go_enter Tryz.func51, Tryz.ntmps51
 go_wp2
 refine bodyPost_ret (v := sizeV wd ht dp) (by simp [results, Tryz.results51, go_sem]) rfl ⟨rfl, ?_⟩
 trace_state
 repeat (first | with_reducible exact below2 _ _ _ | with_reducible exact below3 _ _ _ _ | (with_reducible refine Below.setCell ?_ ?_ _; rotate_left; focus (first | (simp; done) | (simp; omega))))
end Go.Proofs.YtbbehmcekbnkiaaGreat
