import Derived.Test.YtlohbaoigfaneaaGreatNde
import Derived.Deep.RegionWith
import Derived.Deep.RegionHeld3
import Derived.Test.YtlohbaoigfaneaaGreatPur
import Derived.Test.YtlohbaoigfaneaaGreatTh6
import Derived.Test.YtlohbaoigfaneaaGreatCan
import Derived.Test.YtlohbaoigfaneaaGreatNdf
import Derived.Stop.Asserts
namespace Go.Proofs.YtlohbaoigfaneaaGreat
open Go.RowKit
set_option linter.unusedVariables false
set_option linter.unusedSimpArgs false
set_option maxHeartbeats 2000000 in
theorem node_hyphen (fo ch wd ht dp : Int) (w : World) : Calls Tryz.prog 205 #[.agg #[.int .i64 fo, .int .i64 ch, .int .i64 wd, .int .i64 ht, .int .i64 dp]] w fun r w' => r = .returned (ndV ⟨8, wd, ht, dp, 0, fo, ch, 0, 0, 0, 0, 0, 0, ⟨#[]⟩, 0⟩) ∧ Below w.heap.size w w' := by
 simp only [ndV]
 have HC : Hid (∀ W, Calls Tryz.prog 181 #[.agg #[.int .i64 fo, .int .i64 ch, .int .i64 wd, .int .i64 ht, .int .i64 dp]] W fun e w' => e = .returned (ndV ⟨1, wd, ht, dp, 0, fo, ch, 0, 0, 0, 0, 0, 0, ⟨#[]⟩, 0⟩) ∧ Below W.heap.size W w') := hideP (fun W => node_letter fo ch wd ht dp W)
 go_enter Tryz.func205, Tryz.ntmps205
 go_wp2_with fail
 refine (HC.out _).mono ?_
 rintro e w1 ⟨rfl, hb1⟩
 simp only [ndV]
 have hy1 : w.heap.size + 1 < w1.heap.size := by have := hb1.size; simp at this; omega
 have hx1 : w.heap.size < w1.heap.size := by omega
 have BW : Below w.heap.size w w1 := by
  refine below_more ?_ hb1 (by simp; omega)
  repeat (first | with_reducible exact below2 _ _ _ | (with_reducible refine Below.setCell ?_ ?_ _; rotate_left; focus (first | (simp; done) | (simp; omega))))
 obtain ⟨hc1, hf1⟩ := bcell hb1
 have B1 := hideP BW
 simp only [World.size_alloc, World.size_setCell] at hc1 hf1
 clear hb1 BW
 go_wp2
 refine bodyPost_ret (v := ndV ⟨8, wd, ht, dp, 0, fo, ch, 0, 0, 0, 0, 0, 0, ⟨#[]⟩, 0⟩) (by simp [results, Tryz.results205, go_sem, hc1, hx1, hy1]) rfl ⟨rfl, ?_⟩
 have B2 := B1.out
 clear hc1 hf1 B1
 repeat (first | with_reducible exact B2 | (with_reducible refine Below.alloc ?_ ?_ _; rotate_left; focus (first | (simp; done) | (simp; omega))) | (with_reducible refine Below.setCell ?_ ?_ _; rotate_left; focus (first | (simp; done) | (simp; omega))))
structure Thg (x : Nd) (X : Nat) (p : Value) (Kc Kn : Nat) (cb : Bool) (y : Nd) : Prop where
 mc : ∀ W : World, (method 393 X p "loop.example/g00014/impl.can").run Tryz.prog W = .ok (Kc, p) W
 fc : ∀ W : World, (callFunc Kc #[p]).run Tryz.prog W = .ok (.enter Kc #[p]) W
 cc : ∀ W : World, Calls Tryz.prog Kc #[p] W fun e w' => e = .returned (.bool cb) ∧ Below W.heap.size W w'
 mn : ∀ W : World, (method 393 X p "loop.example/g00014/impl.node").run Tryz.prog W = .ok (Kn, p) W
 fn : ∀ W : World, (callFunc Kn #[p]).run Tryz.prog W = .ok (.enter Kn #[p]) W
 cn : ∀ W : World, Calls Tryz.prog Kn #[p] W fun e w' => e = .returned (ndV y) ∧ Below W.heap.size W w'
 good : (cb && eqNd y x) = goodB x
structure Hld (x : Nd) (X : Nat) (p : Value) (Kh : Nat) : Prop where
 ta : ∀ W : World, (Instr.typeAssert (.iface X p) 150 206 true).run Tryz.prog W = .ok (.tuple #[.iface X p, .bool true]) W
 mh : ∀ W : World, (method 393 X p "loop.example/g00014/impl.holds").run Tryz.prog W = .ok (Kh, p) W
 fh : ∀ W : World, (callFunc Kh #[p]).run Tryz.prog W = .ok (.enter Kh #[p]) W
 ch : ∀ W : World, Calls Tryz.prog Kh #[p] W fun e w' => e = .returned (.int .i64 x.kids) ∧ Below W.heap.size W w'
 deep : deepB x = true
structure NoHld (x : Nd) (X : Nat) (p : Value) : Prop where
 ta : ∀ W : World, (Instr.typeAssert (.iface X p) 150 206 true).run Tryz.prog W = .ok (.tuple #[.nilIface, .bool false]) W
 deep : deepB x = false
def ThingP (x : Nd) (v : Value) : Prop :=
 (v = .nilIface ∧ goodB x = false) ∨ ∃ X p Kc Kn cb y, v = .iface X p ∧ Thg x X p Kc Kn cb y ∧ ((∃ Kh, Hld x X p Kh) ∨ NoHld x X p)
theorem thg_1 (wd ht dp sh fo ch nn gs gp gpo gm gmo kids : Int) (tx : ByteArray) : Thg ⟨1, wd, ht, dp, sh, fo, ch, nn, gs, gp, gpo, gm, gmo, tx, kids⟩ 171 (.agg #[.int .i64 fo, .int .i64 ch, .int .i64 wd, .int .i64 ht, .int .i64 dp]) 180 181 (uptoB fo 15 && uptoB ch 255 && (fitsB wd && fitsB ht && fitsB dp)) ⟨1, wd, ht, dp, 0, fo, ch, 0, 0, 0, 0, 0, 0, ⟨#[]⟩, 0⟩ where
 mc := fun _ => by kernel_rfl
 fc := fun _ => by kernel_rfl
 cc := fun W => can_letter fo ch wd ht dp W
 mn := fun _ => by kernel_rfl
 fn := fun _ => by kernel_rfl
 cn := fun W => node_letter fo ch wd ht dp W
 good := good_1 wd ht dp sh fo ch nn gs gp gpo gm gmo kids tx
theorem nohld_1 (wd ht dp sh fo ch nn gs gp gpo gm gmo kids : Int) (tx : ByteArray) : NoHld ⟨1, wd, ht, dp, sh, fo, ch, nn, gs, gp, gpo, gm, gmo, tx, kids⟩ 171 (.agg #[.int .i64 fo, .int .i64 ch, .int .i64 wd, .int .i64 ht, .int .i64 dp]) where
 ta := fun W => run_typeAssert_lacksB Tryz.underlying206 (by kernel_rfl) (by kernel_rfl) _ 150 W
 deep := by simp [deepB]
theorem thg_2 (wd ht dp sh fo ch nn gs gp gpo gm gmo kids : Int) (tx : ByteArray) : Thg ⟨2, wd, ht, dp, sh, fo, ch, nn, gs, gp, gpo, gm, gmo, tx, kids⟩ 224 (.agg #[.int .i64 wd]) 191 192 (fitsB wd) ⟨2, wd, 0, 0, 0, 0, 0, 0, 0, 0, 0, 0, 0, ⟨#[]⟩, 0⟩ where
 mc := fun _ => by kernel_rfl
 fc := fun _ => by kernel_rfl
 cc := fun W => can_kern wd W
 mn := fun _ => by kernel_rfl
 fn := fun _ => by kernel_rfl
 cn := fun W => node_kern wd W
 good := good_2 wd ht dp sh fo ch nn gs gp gpo gm gmo kids tx
theorem nohld_2 (wd ht dp sh fo ch nn gs gp gpo gm gmo kids : Int) (tx : ByteArray) : NoHld ⟨2, wd, ht, dp, sh, fo, ch, nn, gs, gp, gpo, gm, gmo, tx, kids⟩ 224 (.agg #[.int .i64 wd]) where
 ta := fun W => run_typeAssert_lacksB Tryz.underlying206 (by kernel_rfl) (by kernel_rfl) _ 150 W
 deep := by simp [deepB]
theorem thg_3 (wd ht dp sh fo ch nn gs gp gpo gm gmo kids : Int) (tx : ByteArray) : Thg ⟨3, wd, ht, dp, sh, fo, ch, nn, gs, gp, gpo, gm, gmo, tx, kids⟩ 152 (.agg #[.int .i64 gs, .int .i64 gp, .int .i64 gpo, .int .i64 gm, .int .i64 gmo, .int .i64 wd]) 184 185 (glB gs gp gpo gm gmo && fitsB wd) ⟨3, wd, 0, 0, 0, 0, 0, 0, gs, gp, gpo, gm, gmo, ⟨#[]⟩, 0⟩ where
 mc := fun _ => by kernel_rfl
 fc := fun _ => by kernel_rfl
 cc := fun W => can_space gs gp gpo gm gmo wd W
 mn := fun _ => by kernel_rfl
 fn := fun _ => by kernel_rfl
 cn := fun W => node_space gs gp gpo gm gmo wd W
 good := good_3 wd ht dp sh fo ch nn gs gp gpo gm gmo kids tx
theorem nohld_3 (wd ht dp sh fo ch nn gs gp gpo gm gmo kids : Int) (tx : ByteArray) : NoHld ⟨3, wd, ht, dp, sh, fo, ch, nn, gs, gp, gpo, gm, gmo, tx, kids⟩ 152 (.agg #[.int .i64 gs, .int .i64 gp, .int .i64 gpo, .int .i64 gm, .int .i64 gmo, .int .i64 wd]) where
 ta := fun W => run_typeAssert_lacksB Tryz.underlying206 (by kernel_rfl) (by kernel_rfl) _ 150 W
 deep := by simp [deepB]
theorem thg_4 (wd ht dp sh fo ch nn gs gp gpo gm gmo kids : Int) (tx : ByteArray) : Thg ⟨4, wd, ht, dp, sh, fo, ch, nn, gs, gp, gpo, gm, gmo, tx, kids⟩ 155 (.agg #[.int .i64 nn]) 186 187 (decide (-10000 ≤ nn) && decide (nn ≤ 10000)) ⟨4, 0, 0, 0, 0, 0, 0, nn, 0, 0, 0, 0, 0, ⟨#[]⟩, 0⟩ where
 mc := fun _ => by kernel_rfl
 fc := fun _ => by kernel_rfl
 cc := fun W => can_penalty nn W
 mn := fun _ => by kernel_rfl
 fn := fun _ => by kernel_rfl
 cn := fun W => node_penalty nn W
 good := good_4 wd ht dp sh fo ch nn gs gp gpo gm gmo kids tx
theorem nohld_4 (wd ht dp sh fo ch nn gs gp gpo gm gmo kids : Int) (tx : ByteArray) : NoHld ⟨4, wd, ht, dp, sh, fo, ch, nn, gs, gp, gpo, gm, gmo, tx, kids⟩ 155 (.agg #[.int .i64 nn]) where
 ta := fun W => run_typeAssert_lacksB Tryz.underlying206 (by kernel_rfl) (by kernel_rfl) _ 150 W
 deep := by simp [deepB]
theorem thg_5 (wd ht dp sh fo ch nn gs gp gpo gm gmo kids : Int) (tx : ByteArray) : Thg ⟨5, wd, ht, dp, sh, fo, ch, nn, gs, gp, gpo, gm, gmo, tx, kids⟩ 237 (.agg #[.int .i64 wd, .int .i64 ht, .int .i64 dp]) 195 196 (fitsB wd && fitsB ht && fitsB dp) ⟨5, wd, ht, dp, 0, 0, 0, 0, 0, 0, 0, 0, 0, ⟨#[]⟩, 0⟩ where
 mc := fun _ => by kernel_rfl
 fc := fun _ => by kernel_rfl
 cc := fun W => can_rule wd ht dp W
 mn := fun _ => by kernel_rfl
 fn := fun _ => by kernel_rfl
 cn := fun W => node_rule wd ht dp W
 good := good_5 wd ht dp sh fo ch nn gs gp gpo gm gmo kids tx
theorem nohld_5 (wd ht dp sh fo ch nn gs gp gpo gm gmo kids : Int) (tx : ByteArray) : NoHld ⟨5, wd, ht, dp, sh, fo, ch, nn, gs, gp, gpo, gm, gmo, tx, kids⟩ 237 (.agg #[.int .i64 wd, .int .i64 ht, .int .i64 dp]) where
 ta := fun W => run_typeAssert_lacksB Tryz.underlying206 (by kernel_rfl) (by kernel_rfl) _ 150 W
 deep := by simp [deepB]
theorem thg_6 (wd ht dp sh fo ch nn gs gp gpo gm gmo kids : Int) (tx : ByteArray) : Thg ⟨6, wd, ht, dp, sh, fo, ch, nn, gs, gp, gpo, gm, gmo, tx, kids⟩ 239 (.agg #[.int .i64 6, .int .i64 wd, .int .i64 ht, .int .i64 dp, .int .i64 sh, .int .i64 kids]) 199 201 ((fitsB wd && fitsB ht && fitsB dp) && fitsB sh && decide (0 ≤ kids)) ⟨6, wd, ht, dp, sh, 0, 0, 0, 0, 0, 0, 0, 0, ⟨#[]⟩, kids⟩ where
 mc := fun _ => by kernel_rfl
 fc := fun _ => by kernel_rfl
 cc := fun W => can_box 6 wd ht dp sh kids W
 mn := fun _ => by kernel_rfl
 fn := fun _ => by kernel_rfl
 cn := fun W => node_box 6 wd ht dp sh kids W
 good := good_6 wd ht dp sh fo ch nn gs gp gpo gm gmo kids tx
theorem hld_6 (wd ht dp sh fo ch nn gs gp gpo gm gmo kids : Int) (tx : ByteArray) : Hld ⟨6, wd, ht, dp, sh, fo, ch, nn, gs, gp, gpo, gm, gmo, tx, kids⟩ 239 (.agg #[.int .i64 6, .int .i64 wd, .int .i64 ht, .int .i64 dp, .int .i64 sh, .int .i64 kids]) 200 where
 ta := fun W => run_typeAssert_hasB Tryz.underlying206 (by kernel_rfl) _ 150 W
 mh := fun _ => by kernel_rfl
 fh := fun _ => by kernel_rfl
 ch := fun W => holds_box 6 wd ht dp sh kids W
 deep := by simp [deepB]
theorem thg_7 (wd ht dp sh fo ch nn gs gp gpo gm gmo kids : Int) (tx : ByteArray) : Thg ⟨7, wd, ht, dp, sh, fo, ch, nn, gs, gp, gpo, gm, gmo, tx, kids⟩ 239 (.agg #[.int .i64 7, .int .i64 wd, .int .i64 ht, .int .i64 dp, .int .i64 sh, .int .i64 kids]) 199 201 ((fitsB wd && fitsB ht && fitsB dp) && fitsB sh && decide (0 ≤ kids)) ⟨7, wd, ht, dp, sh, 0, 0, 0, 0, 0, 0, 0, 0, ⟨#[]⟩, kids⟩ where
 mc := fun _ => by kernel_rfl
 fc := fun _ => by kernel_rfl
 cc := fun W => can_box 7 wd ht dp sh kids W
 mn := fun _ => by kernel_rfl
 fn := fun _ => by kernel_rfl
 cn := fun W => node_box 7 wd ht dp sh kids W
 good := good_7 wd ht dp sh fo ch nn gs gp gpo gm gmo kids tx
theorem hld_7 (wd ht dp sh fo ch nn gs gp gpo gm gmo kids : Int) (tx : ByteArray) : Hld ⟨7, wd, ht, dp, sh, fo, ch, nn, gs, gp, gpo, gm, gmo, tx, kids⟩ 239 (.agg #[.int .i64 7, .int .i64 wd, .int .i64 ht, .int .i64 dp, .int .i64 sh, .int .i64 kids]) 200 where
 ta := fun W => run_typeAssert_hasB Tryz.underlying206 (by kernel_rfl) _ 150 W
 mh := fun _ => by kernel_rfl
 fh := fun _ => by kernel_rfl
 ch := fun W => holds_box 7 wd ht dp sh kids W
 deep := by simp [deepB]
theorem thg_8 (wd ht dp sh fo ch nn gs gp gpo gm gmo kids : Int) (tx : ByteArray) : Thg ⟨8, wd, ht, dp, sh, fo, ch, nn, gs, gp, gpo, gm, gmo, tx, kids⟩ 241 (.agg #[.int .i64 fo, .int .i64 ch, .int .i64 wd, .int .i64 ht, .int .i64 dp]) 204 205 (uptoB fo 15 && uptoB ch 255 && (fitsB wd && fitsB ht && fitsB dp)) ⟨8, wd, ht, dp, 0, fo, ch, 0, 0, 0, 0, 0, 0, ⟨#[]⟩, 0⟩ where
 mc := fun _ => by kernel_rfl
 fc := fun _ => by kernel_rfl
 cc := fun W => can_hyphen fo ch wd ht dp W
 mn := fun _ => by kernel_rfl
 fn := fun _ => by kernel_rfl
 cn := fun W => node_hyphen fo ch wd ht dp W
 good := good_8 wd ht dp sh fo ch nn gs gp gpo gm gmo kids tx
theorem nohld_8 (wd ht dp sh fo ch nn gs gp gpo gm gmo kids : Int) (tx : ByteArray) : NoHld ⟨8, wd, ht, dp, sh, fo, ch, nn, gs, gp, gpo, gm, gmo, tx, kids⟩ 241 (.agg #[.int .i64 fo, .int .i64 ch, .int .i64 wd, .int .i64 ht, .int .i64 dp]) where
 ta := fun W => run_typeAssert_lacksB Tryz.underlying206 (by kernel_rfl) (by kernel_rfl) _ 150 W
 deep := by simp [deepB]
theorem thg_9 (wd ht dp sh fo ch nn gs gp gpo gm gmo kids : Int) (tx : ByteArray) : Thg ⟨9, wd, ht, dp, sh, fo, ch, nn, gs, gp, gpo, gm, gmo, tx, kids⟩ 243 (.agg #[.int .i64 9, .string tx]) 206 207 (decide ((tx.size : Int) ≤ 1000)) ⟨9, 0, 0, 0, 0, 0, 0, 0, 0, 0, 0, 0, 0, tx, 0⟩ where
 mc := fun _ => by kernel_rfl
 fc := fun _ => by kernel_rfl
 cc := fun W => can_message 9 tx W
 mn := fun _ => by kernel_rfl
 fn := fun _ => by kernel_rfl
 cn := fun W => node_message 9 tx W
 good := good_9 wd ht dp sh fo ch nn gs gp gpo gm gmo kids tx
theorem nohld_9 (wd ht dp sh fo ch nn gs gp gpo gm gmo kids : Int) (tx : ByteArray) : NoHld ⟨9, wd, ht, dp, sh, fo, ch, nn, gs, gp, gpo, gm, gmo, tx, kids⟩ 243 (.agg #[.int .i64 9, .string tx]) where
 ta := fun W => run_typeAssert_lacksB Tryz.underlying206 (by kernel_rfl) (by kernel_rfl) _ 150 W
 deep := by simp [deepB]
theorem thg_10 (wd ht dp sh fo ch nn gs gp gpo gm gmo kids : Int) (tx : ByteArray) : Thg ⟨10, wd, ht, dp, sh, fo, ch, nn, gs, gp, gpo, gm, gmo, tx, kids⟩ 243 (.agg #[.int .i64 10, .string tx]) 206 207 (decide ((tx.size : Int) ≤ 1000)) ⟨10, 0, 0, 0, 0, 0, 0, 0, 0, 0, 0, 0, 0, tx, 0⟩ where
 mc := fun _ => by kernel_rfl
 fc := fun _ => by kernel_rfl
 cc := fun W => can_message 10 tx W
 mn := fun _ => by kernel_rfl
 fn := fun _ => by kernel_rfl
 cn := fun W => node_message 10 tx W
 good := good_10 wd ht dp sh fo ch nn gs gp gpo gm gmo kids tx
theorem nohld_10 (wd ht dp sh fo ch nn gs gp gpo gm gmo kids : Int) (tx : ByteArray) : NoHld ⟨10, wd, ht, dp, sh, fo, ch, nn, gs, gp, gpo, gm, gmo, tx, kids⟩ 243 (.agg #[.int .i64 10, .string tx]) where
 ta := fun W => run_typeAssert_lacksB Tryz.underlying206 (by kernel_rfl) (by kernel_rfl) _ 150 W
 deep := by simp [deepB]
theorem thg_11 (wd ht dp sh fo ch nn gs gp gpo gm gmo kids : Int) (tx : ByteArray) : Thg ⟨11, wd, ht, dp, sh, fo, ch, nn, gs, gp, gpo, gm, gmo, tx, kids⟩ 188 (.agg #[.int .i64 nn, .int .i64 ht, .int .i64 kids]) 188 190 (uptoB nn 15 && fitsB ht && decide (0 ≤ kids)) ⟨11, 0, ht, 0, 0, 0, 0, nn, 0, 0, 0, 0, 0, ⟨#[]⟩, kids⟩ where
 mc := fun _ => by kernel_rfl
 fc := fun _ => by kernel_rfl
 cc := fun W => can_note nn ht kids W
 mn := fun _ => by kernel_rfl
 fn := fun _ => by kernel_rfl
 cn := fun W => node_note nn ht kids W
 good := good_11 wd ht dp sh fo ch nn gs gp gpo gm gmo kids tx
theorem hld_11 (wd ht dp sh fo ch nn gs gp gpo gm gmo kids : Int) (tx : ByteArray) : Hld ⟨11, wd, ht, dp, sh, fo, ch, nn, gs, gp, gpo, gm, gmo, tx, kids⟩ 188 (.agg #[.int .i64 nn, .int .i64 ht, .int .i64 kids]) 189 where
 ta := fun W => run_typeAssert_hasB Tryz.underlying206 (by kernel_rfl) _ 150 W
 mh := fun _ => by kernel_rfl
 fh := fun _ => by kernel_rfl
 ch := fun W => holds_note nn ht kids W
 deep := by simp [deepB]
theorem bad_kind (x : Nd) (h : ¬ (1 ≤ x.k ∧ x.k ≤ 11)) : goodB x = false := by simp [goodB, specB, h]
theorem thing_any (x : Nd) (w : World) : Calls Tryz.prog 107 #[ndV x] w fun r w' => (∃ v, r = .returned v ∧ ThingP x v) ∧ Below w.heap.size w w' := by
 obtain ⟨k, wd, ht, dp, sh, fo, ch, nn, gs, gp, gpo, gm, gmo, tx, kids⟩ := x
 by_cases hk : 1 ≤ k ∧ k ≤ 11
 ·rcases kinds hk.1 hk.2 with rfl | rfl | rfl | rfl | rfl | rfl | rfl | rfl | rfl | rfl | rfl
  ·refine (thing_1 wd ht dp sh fo ch nn gs gp gpo gm gmo kids tx w).mono ?_
   rintro e w' ⟨rfl, hb⟩
   exact ⟨⟨_, rfl, .inr ⟨_, _, _, _, _, _, rfl, thg_1 wd ht dp sh fo ch nn gs gp gpo gm gmo kids tx, .inr (nohld_1 wd ht dp sh fo ch nn gs gp gpo gm gmo kids tx)⟩⟩, hb⟩
  ·refine (thing_2 wd ht dp sh fo ch nn gs gp gpo gm gmo kids tx w).mono ?_
   rintro e w' ⟨rfl, hb⟩
   exact ⟨⟨_, rfl, .inr ⟨_, _, _, _, _, _, rfl, thg_2 wd ht dp sh fo ch nn gs gp gpo gm gmo kids tx, .inr (nohld_2 wd ht dp sh fo ch nn gs gp gpo gm gmo kids tx)⟩⟩, hb⟩
  ·refine (thing_3 wd ht dp sh fo ch nn gs gp gpo gm gmo kids tx w).mono ?_
   rintro e w' ⟨rfl, hb⟩
   exact ⟨⟨_, rfl, .inr ⟨_, _, _, _, _, _, rfl, thg_3 wd ht dp sh fo ch nn gs gp gpo gm gmo kids tx, .inr (nohld_3 wd ht dp sh fo ch nn gs gp gpo gm gmo kids tx)⟩⟩, hb⟩
  ·refine (thing_4 wd ht dp sh fo ch nn gs gp gpo gm gmo kids tx w).mono ?_
   rintro e w' ⟨rfl, hb⟩
   exact ⟨⟨_, rfl, .inr ⟨_, _, _, _, _, _, rfl, thg_4 wd ht dp sh fo ch nn gs gp gpo gm gmo kids tx, .inr (nohld_4 wd ht dp sh fo ch nn gs gp gpo gm gmo kids tx)⟩⟩, hb⟩
  ·refine (thing_5 wd ht dp sh fo ch nn gs gp gpo gm gmo kids tx w).mono ?_
   rintro e w' ⟨rfl, hb⟩
   exact ⟨⟨_, rfl, .inr ⟨_, _, _, _, _, _, rfl, thg_5 wd ht dp sh fo ch nn gs gp gpo gm gmo kids tx, .inr (nohld_5 wd ht dp sh fo ch nn gs gp gpo gm gmo kids tx)⟩⟩, hb⟩
  ·refine (thing_6 wd ht dp sh fo ch nn gs gp gpo gm gmo kids tx w).mono ?_
   rintro e w' ⟨rfl, hb⟩
   exact ⟨⟨_, rfl, .inr ⟨_, _, _, _, _, _, rfl, thg_6 wd ht dp sh fo ch nn gs gp gpo gm gmo kids tx, .inl ⟨_, hld_6 wd ht dp sh fo ch nn gs gp gpo gm gmo kids tx⟩⟩⟩, hb⟩
  ·refine (thing_7 wd ht dp sh fo ch nn gs gp gpo gm gmo kids tx w).mono ?_
   rintro e w' ⟨rfl, hb⟩
   exact ⟨⟨_, rfl, .inr ⟨_, _, _, _, _, _, rfl, thg_7 wd ht dp sh fo ch nn gs gp gpo gm gmo kids tx, .inl ⟨_, hld_7 wd ht dp sh fo ch nn gs gp gpo gm gmo kids tx⟩⟩⟩, hb⟩
  ·refine (thing_8 wd ht dp sh fo ch nn gs gp gpo gm gmo kids tx w).mono ?_
   rintro e w' ⟨rfl, hb⟩
   exact ⟨⟨_, rfl, .inr ⟨_, _, _, _, _, _, rfl, thg_8 wd ht dp sh fo ch nn gs gp gpo gm gmo kids tx, .inr (nohld_8 wd ht dp sh fo ch nn gs gp gpo gm gmo kids tx)⟩⟩, hb⟩
  ·refine (thing_9 wd ht dp sh fo ch nn gs gp gpo gm gmo kids tx w).mono ?_
   rintro e w' ⟨rfl, hb⟩
   exact ⟨⟨_, rfl, .inr ⟨_, _, _, _, _, _, rfl, thg_9 wd ht dp sh fo ch nn gs gp gpo gm gmo kids tx, .inr (nohld_9 wd ht dp sh fo ch nn gs gp gpo gm gmo kids tx)⟩⟩, hb⟩
  ·refine (thing_10 wd ht dp sh fo ch nn gs gp gpo gm gmo kids tx w).mono ?_
   rintro e w' ⟨rfl, hb⟩
   exact ⟨⟨_, rfl, .inr ⟨_, _, _, _, _, _, rfl, thg_10 wd ht dp sh fo ch nn gs gp gpo gm gmo kids tx, .inr (nohld_10 wd ht dp sh fo ch nn gs gp gpo gm gmo kids tx)⟩⟩, hb⟩
  ·refine (thing_11 wd ht dp sh fo ch nn gs gp gpo gm gmo kids tx w).mono ?_
   rintro e w' ⟨rfl, hb⟩
   exact ⟨⟨_, rfl, .inr ⟨_, _, _, _, _, _, rfl, thg_11 wd ht dp sh fo ch nn gs gp gpo gm gmo kids tx, .inl ⟨_, hld_11 wd ht dp sh fo ch nn gs gp gpo gm gmo kids tx⟩⟩⟩, hb⟩
 ·refine (thing_0 k wd ht dp sh fo ch nn gs gp gpo gm gmo kids tx w hk).mono ?_
  rintro e w' ⟨rfl, hb⟩
  exact ⟨⟨_, rfl, .inl ⟨rfl, bad_kind _ hk⟩⟩, hb⟩
end Go.Proofs.YtlohbaoigfaneaaGreat
