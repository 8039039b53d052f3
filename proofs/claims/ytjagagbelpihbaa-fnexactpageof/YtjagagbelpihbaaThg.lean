/-
  Things of a node: their methods, what each answers, and whether they hold others.
-/
import Derived.Test.YtjagagbelpihbaaPur
import Derived.Test.YtjagagbelpihbaaTha
import Derived.Test.YtjagagbelpihbaaThb
import Derived.Test.YtjagagbelpihbaaTh8
import Derived.Test.YtjagagbelpihbaaCan
import Derived.Test.YtjagagbelpihbaaNde
import Derived.Test.YtjagagbelpihbaaNdf
import Derived.Test.YtjagagbelpihbaaNdh
import Derived.Stop.Asserts
namespace Go.Proofs.Ytjagagbelpihbaa
open Go.RowKit
set_option linter.unusedVariables false
set_option linter.unusedSimpArgs false

/-- A thing as the program asks it: whether it can be (cb), its plain node (y). -/
structure Thg (x : Nd) (X : Nat) (p : Value) (Kc Kn : Nat) (cb : Bool) (y : Nd) : Prop where
  mc : ∀ W : World, (method 287 X p "loop.example/g00014/impl.can").run Try.prog W = .ok (Kc, p) W
  fc : ∀ W : World, (callFunc Kc #[p]).run Try.prog W = .ok (.enter Kc #[p]) W
  cc : ∀ W : World, Calls Try.prog Kc #[p] W fun e w' => e = .returned (.bool cb) ∧ Below W.heap.size W w'
  mn : ∀ W : World, (method 287 X p "loop.example/g00014/impl.node").run Try.prog W = .ok (Kn, p) W
  fn : ∀ W : World, (callFunc Kn #[p]).run Try.prog W = .ok (.enter Kn #[p]) W
  cn : ∀ W : World, Calls Try.prog Kn #[p] W fun e w' => e = .returned (ndV y) ∧ Below W.heap.size W w'
  good : (cb && eqNd y x) = goodB x
structure Hld (x : Nd) (X : Nat) (p : Value) (Kh : Nat) : Prop where
  ta : ∀ W : World, (Instr.typeAssert (.iface X p) 64 69 true).run Try.prog W = .ok (.tuple #[.iface X p, .bool true]) W
  mh : ∀ W : World, (method 287 X p "loop.example/g00014/impl.holds").run Try.prog W = .ok (Kh, p) W
  fh : ∀ W : World, (callFunc Kh #[p]).run Try.prog W = .ok (.enter Kh #[p]) W
  ch : ∀ W : World, Calls Try.prog Kh #[p] W fun e w' => e = .returned (.int .i64 x.kids) ∧ Below W.heap.size W w'
  deep : deepB x = true
structure NoHld (x : Nd) (X : Nat) (p : Value) : Prop where
  ta : ∀ W : World, (Instr.typeAssert (.iface X p) 64 69 true).run Try.prog W = .ok (.tuple #[.nilIface, .bool false]) W
  deep : deepB x = false
def ThingP (x : Nd) (v : Value) : Prop :=
  (v = .nilIface ∧ goodB x = false) ∨ ∃ X p Kc Kn cb y, v = .iface X p ∧ Thg x X p Kc Kn cb y ∧ ((∃ Kh, Hld x X p Kh) ∨ NoHld x X p)

theorem thg_1 (wd ht dp sh fo ch nn gs gp gpo gm gmo kids : Int) (tx : ByteArray) : Thg ⟨1, wd, ht, dp, sh, fo, ch, nn, gs, gp, gpo, gm, gmo, tx, kids⟩ 113 (.agg #[.int .i64 fo, .int .i64 ch, .int .i64 wd, .int .i64 ht, .int .i64 dp]) 104 105 (uptoB fo 15 && uptoB ch 255 && (fitsB wd && fitsB ht && fitsB dp)) ⟨1, wd, ht, dp, 0, fo, ch, 0, 0, 0, 0, 0, 0, ⟨#[]⟩, 0⟩ where
  mc := fun _ => by kernel_rfl
  fc := fun _ => by kernel_rfl
  cc := fun W => can_letter fo ch wd ht dp W
  mn := fun _ => by kernel_rfl
  fn := fun _ => by kernel_rfl
  cn := fun W => node_letter fo ch wd ht dp W
  good := good_1 wd ht dp sh fo ch nn gs gp gpo gm gmo kids tx
theorem nohld_1 (wd ht dp sh fo ch nn gs gp gpo gm gmo kids : Int) (tx : ByteArray) : NoHld ⟨1, wd, ht, dp, sh, fo, ch, nn, gs, gp, gpo, gm, gmo, tx, kids⟩ 113 (.agg #[.int .i64 fo, .int .i64 ch, .int .i64 wd, .int .i64 ht, .int .i64 dp]) where
  ta := fun W => run_typeAssert_lacksB Try.underlying69 (by kernel_rfl) (by kernel_rfl) _ 64 W
  deep := by simp [deepB]

theorem thg_2 (wd ht dp sh fo ch nn gs gp gpo gm gmo kids : Int) (tx : ByteArray) : Thg ⟨2, wd, ht, dp, sh, fo, ch, nn, gs, gp, gpo, gm, gmo, tx, kids⟩ 115 (.agg #[.int .i64 wd]) 109 110 (fitsB wd) ⟨2, wd, 0, 0, 0, 0, 0, 0, 0, 0, 0, 0, 0, ⟨#[]⟩, 0⟩ where
  mc := fun _ => by kernel_rfl
  fc := fun _ => by kernel_rfl
  cc := fun W => can_kern wd W
  mn := fun _ => by kernel_rfl
  fn := fun _ => by kernel_rfl
  cn := fun W => node_kern wd W
  good := good_2 wd ht dp sh fo ch nn gs gp gpo gm gmo kids tx
theorem nohld_2 (wd ht dp sh fo ch nn gs gp gpo gm gmo kids : Int) (tx : ByteArray) : NoHld ⟨2, wd, ht, dp, sh, fo, ch, nn, gs, gp, gpo, gm, gmo, tx, kids⟩ 115 (.agg #[.int .i64 wd]) where
  ta := fun W => run_typeAssert_lacksB Try.underlying69 (by kernel_rfl) (by kernel_rfl) _ 64 W
  deep := by simp [deepB]

theorem thg_3 (wd ht dp sh fo ch nn gs gp gpo gm gmo kids : Int) (tx : ByteArray) : Thg ⟨3, wd, ht, dp, sh, fo, ch, nn, gs, gp, gpo, gm, gmo, tx, kids⟩ 117 (.agg #[.int .i64 gs, .int .i64 gp, .int .i64 gpo, .int .i64 gm, .int .i64 gmo, .int .i64 wd]) 113 71 (glB gs gp gpo gm gmo && fitsB wd) ⟨3, wd, 0, 0, 0, 0, 0, 0, gs, gp, gpo, gm, gmo, ⟨#[]⟩, 0⟩ where
  mc := fun _ => by kernel_rfl
  fc := fun _ => by kernel_rfl
  cc := fun W => can_space gs gp gpo gm gmo wd W
  mn := fun _ => by kernel_rfl
  fn := fun _ => by kernel_rfl
  cn := fun W => node_space gs gp gpo gm gmo wd W
  good := good_3 wd ht dp sh fo ch nn gs gp gpo gm gmo kids tx
theorem nohld_3 (wd ht dp sh fo ch nn gs gp gpo gm gmo kids : Int) (tx : ByteArray) : NoHld ⟨3, wd, ht, dp, sh, fo, ch, nn, gs, gp, gpo, gm, gmo, tx, kids⟩ 117 (.agg #[.int .i64 gs, .int .i64 gp, .int .i64 gpo, .int .i64 gm, .int .i64 gmo, .int .i64 wd]) where
  ta := fun W => run_typeAssert_lacksB Try.underlying69 (by kernel_rfl) (by kernel_rfl) _ 64 W
  deep := by simp [deepB]

theorem thg_4 (wd ht dp sh fo ch nn gs gp gpo gm gmo kids : Int) (tx : ByteArray) : Thg ⟨4, wd, ht, dp, sh, fo, ch, nn, gs, gp, gpo, gm, gmo, tx, kids⟩ 119 (.agg #[.int .i64 nn]) 114 115 (decide (-10000 ≤ nn) && decide (nn ≤ 10000)) ⟨4, 0, 0, 0, 0, 0, 0, nn, 0, 0, 0, 0, 0, ⟨#[]⟩, 0⟩ where
  mc := fun _ => by kernel_rfl
  fc := fun _ => by kernel_rfl
  cc := fun W => can_penalty nn W
  mn := fun _ => by kernel_rfl
  fn := fun _ => by kernel_rfl
  cn := fun W => node_penalty nn W
  good := good_4 wd ht dp sh fo ch nn gs gp gpo gm gmo kids tx
theorem nohld_4 (wd ht dp sh fo ch nn gs gp gpo gm gmo kids : Int) (tx : ByteArray) : NoHld ⟨4, wd, ht, dp, sh, fo, ch, nn, gs, gp, gpo, gm, gmo, tx, kids⟩ 119 (.agg #[.int .i64 nn]) where
  ta := fun W => run_typeAssert_lacksB Try.underlying69 (by kernel_rfl) (by kernel_rfl) _ 64 W
  deep := by simp [deepB]

theorem thg_5 (wd ht dp sh fo ch nn gs gp gpo gm gmo kids : Int) (tx : ByteArray) : Thg ⟨5, wd, ht, dp, sh, fo, ch, nn, gs, gp, gpo, gm, gmo, tx, kids⟩ 121 (.agg #[.int .i64 wd, .int .i64 ht, .int .i64 dp]) 116 117 (fitsB wd && fitsB ht && fitsB dp) ⟨5, wd, ht, dp, 0, 0, 0, 0, 0, 0, 0, 0, 0, ⟨#[]⟩, 0⟩ where
  mc := fun _ => by kernel_rfl
  fc := fun _ => by kernel_rfl
  cc := fun W => can_rule wd ht dp W
  mn := fun _ => by kernel_rfl
  fn := fun _ => by kernel_rfl
  cn := fun W => node_rule wd ht dp W
  good := good_5 wd ht dp sh fo ch nn gs gp gpo gm gmo kids tx
theorem nohld_5 (wd ht dp sh fo ch nn gs gp gpo gm gmo kids : Int) (tx : ByteArray) : NoHld ⟨5, wd, ht, dp, sh, fo, ch, nn, gs, gp, gpo, gm, gmo, tx, kids⟩ 121 (.agg #[.int .i64 wd, .int .i64 ht, .int .i64 dp]) where
  ta := fun W => run_typeAssert_lacksB Try.underlying69 (by kernel_rfl) (by kernel_rfl) _ 64 W
  deep := by simp [deepB]

theorem thg_6 (wd ht dp sh fo ch nn gs gp gpo gm gmo kids : Int) (tx : ByteArray) : Thg ⟨6, wd, ht, dp, sh, fo, ch, nn, gs, gp, gpo, gm, gmo, tx, kids⟩ 123 (.agg #[.int .i64 6, .int .i64 wd, .int .i64 ht, .int .i64 dp, .int .i64 sh, .int .i64 kids]) 120 122 ((fitsB wd && fitsB ht && fitsB dp) && fitsB sh && decide (0 ≤ kids)) ⟨6, wd, ht, dp, sh, 0, 0, 0, 0, 0, 0, 0, 0, ⟨#[]⟩, kids⟩ where
  mc := fun _ => by kernel_rfl
  fc := fun _ => by kernel_rfl
  cc := fun W => can_box 6 wd ht dp sh kids W
  mn := fun _ => by kernel_rfl
  fn := fun _ => by kernel_rfl
  cn := fun W => node_box 6 wd ht dp sh kids W
  good := good_6 wd ht dp sh fo ch nn gs gp gpo gm gmo kids tx
theorem hld_6 (wd ht dp sh fo ch nn gs gp gpo gm gmo kids : Int) (tx : ByteArray) : Hld ⟨6, wd, ht, dp, sh, fo, ch, nn, gs, gp, gpo, gm, gmo, tx, kids⟩ 123 (.agg #[.int .i64 6, .int .i64 wd, .int .i64 ht, .int .i64 dp, .int .i64 sh, .int .i64 kids]) 121 where
  ta := fun W => run_typeAssert_hasB Try.underlying69 (by kernel_rfl) _ 64 W
  mh := fun _ => by kernel_rfl
  fh := fun _ => by kernel_rfl
  ch := fun W => holds_box 6 wd ht dp sh kids W
  deep := by simp [deepB]

theorem thg_7 (wd ht dp sh fo ch nn gs gp gpo gm gmo kids : Int) (tx : ByteArray) : Thg ⟨7, wd, ht, dp, sh, fo, ch, nn, gs, gp, gpo, gm, gmo, tx, kids⟩ 123 (.agg #[.int .i64 7, .int .i64 wd, .int .i64 ht, .int .i64 dp, .int .i64 sh, .int .i64 kids]) 120 122 ((fitsB wd && fitsB ht && fitsB dp) && fitsB sh && decide (0 ≤ kids)) ⟨7, wd, ht, dp, sh, 0, 0, 0, 0, 0, 0, 0, 0, ⟨#[]⟩, kids⟩ where
  mc := fun _ => by kernel_rfl
  fc := fun _ => by kernel_rfl
  cc := fun W => can_box 7 wd ht dp sh kids W
  mn := fun _ => by kernel_rfl
  fn := fun _ => by kernel_rfl
  cn := fun W => node_box 7 wd ht dp sh kids W
  good := good_7 wd ht dp sh fo ch nn gs gp gpo gm gmo kids tx
theorem hld_7 (wd ht dp sh fo ch nn gs gp gpo gm gmo kids : Int) (tx : ByteArray) : Hld ⟨7, wd, ht, dp, sh, fo, ch, nn, gs, gp, gpo, gm, gmo, tx, kids⟩ 123 (.agg #[.int .i64 7, .int .i64 wd, .int .i64 ht, .int .i64 dp, .int .i64 sh, .int .i64 kids]) 121 where
  ta := fun W => run_typeAssert_hasB Try.underlying69 (by kernel_rfl) _ 64 W
  mh := fun _ => by kernel_rfl
  fh := fun _ => by kernel_rfl
  ch := fun W => holds_box 7 wd ht dp sh kids W
  deep := by simp [deepB]

theorem thg_8 (wd ht dp sh fo ch nn gs gp gpo gm gmo kids : Int) (tx : ByteArray) : Thg ⟨8, wd, ht, dp, sh, fo, ch, nn, gs, gp, gpo, gm, gmo, tx, kids⟩ 125 (.agg #[.int .i64 fo, .int .i64 ch, .int .i64 wd, .int .i64 ht, .int .i64 dp]) 125 126 (uptoB fo 15 && uptoB ch 255 && (fitsB wd && fitsB ht && fitsB dp)) ⟨8, wd, ht, dp, 0, fo, ch, 0, 0, 0, 0, 0, 0, ⟨#[]⟩, 0⟩ where
  mc := fun _ => by kernel_rfl
  fc := fun _ => by kernel_rfl
  cc := fun W => can_hyphen fo ch wd ht dp W
  mn := fun _ => by kernel_rfl
  fn := fun _ => by kernel_rfl
  cn := fun W => node_hyphen fo ch wd ht dp W
  good := good_8 wd ht dp sh fo ch nn gs gp gpo gm gmo kids tx
theorem nohld_8 (wd ht dp sh fo ch nn gs gp gpo gm gmo kids : Int) (tx : ByteArray) : NoHld ⟨8, wd, ht, dp, sh, fo, ch, nn, gs, gp, gpo, gm, gmo, tx, kids⟩ 125 (.agg #[.int .i64 fo, .int .i64 ch, .int .i64 wd, .int .i64 ht, .int .i64 dp]) where
  ta := fun W => run_typeAssert_lacksB Try.underlying69 (by kernel_rfl) (by kernel_rfl) _ 64 W
  deep := by simp [deepB]

theorem thg_9 (wd ht dp sh fo ch nn gs gp gpo gm gmo kids : Int) (tx : ByteArray) : Thg ⟨9, wd, ht, dp, sh, fo, ch, nn, gs, gp, gpo, gm, gmo, tx, kids⟩ 127 (.agg #[.int .i64 9, .string tx]) 127 128 (decide ((tx.size : Int) ≤ 1000)) ⟨9, 0, 0, 0, 0, 0, 0, 0, 0, 0, 0, 0, 0, tx, 0⟩ where
  mc := fun _ => by kernel_rfl
  fc := fun _ => by kernel_rfl
  cc := fun W => can_message 9 tx W
  mn := fun _ => by kernel_rfl
  fn := fun _ => by kernel_rfl
  cn := fun W => node_message 9 tx W
  good := good_9 wd ht dp sh fo ch nn gs gp gpo gm gmo kids tx
theorem nohld_9 (wd ht dp sh fo ch nn gs gp gpo gm gmo kids : Int) (tx : ByteArray) : NoHld ⟨9, wd, ht, dp, sh, fo, ch, nn, gs, gp, gpo, gm, gmo, tx, kids⟩ 127 (.agg #[.int .i64 9, .string tx]) where
  ta := fun W => run_typeAssert_lacksB Try.underlying69 (by kernel_rfl) (by kernel_rfl) _ 64 W
  deep := by simp [deepB]

theorem thg_10 (wd ht dp sh fo ch nn gs gp gpo gm gmo kids : Int) (tx : ByteArray) : Thg ⟨10, wd, ht, dp, sh, fo, ch, nn, gs, gp, gpo, gm, gmo, tx, kids⟩ 127 (.agg #[.int .i64 10, .string tx]) 127 128 (decide ((tx.size : Int) ≤ 1000)) ⟨10, 0, 0, 0, 0, 0, 0, 0, 0, 0, 0, 0, 0, tx, 0⟩ where
  mc := fun _ => by kernel_rfl
  fc := fun _ => by kernel_rfl
  cc := fun W => can_message 10 tx W
  mn := fun _ => by kernel_rfl
  fn := fun _ => by kernel_rfl
  cn := fun W => node_message 10 tx W
  good := good_10 wd ht dp sh fo ch nn gs gp gpo gm gmo kids tx
theorem nohld_10 (wd ht dp sh fo ch nn gs gp gpo gm gmo kids : Int) (tx : ByteArray) : NoHld ⟨10, wd, ht, dp, sh, fo, ch, nn, gs, gp, gpo, gm, gmo, tx, kids⟩ 127 (.agg #[.int .i64 10, .string tx]) where
  ta := fun W => run_typeAssert_lacksB Try.underlying69 (by kernel_rfl) (by kernel_rfl) _ 64 W
  deep := by simp [deepB]

theorem thg_11 (wd ht dp sh fo ch nn gs gp gpo gm gmo kids : Int) (tx : ByteArray) : Thg ⟨11, wd, ht, dp, sh, fo, ch, nn, gs, gp, gpo, gm, gmo, tx, kids⟩ 129 (.agg #[.int .i64 nn, .int .i64 ht, .int .i64 kids]) 129 131 (uptoB nn 15 && fitsB ht && decide (0 ≤ kids)) ⟨11, 0, ht, 0, 0, 0, 0, nn, 0, 0, 0, 0, 0, ⟨#[]⟩, kids⟩ where
  mc := fun _ => by kernel_rfl
  fc := fun _ => by kernel_rfl
  cc := fun W => can_note nn ht kids W
  mn := fun _ => by kernel_rfl
  fn := fun _ => by kernel_rfl
  cn := fun W => node_note nn ht kids W
  good := good_11 wd ht dp sh fo ch nn gs gp gpo gm gmo kids tx
theorem hld_11 (wd ht dp sh fo ch nn gs gp gpo gm gmo kids : Int) (tx : ByteArray) : Hld ⟨11, wd, ht, dp, sh, fo, ch, nn, gs, gp, gpo, gm, gmo, tx, kids⟩ 129 (.agg #[.int .i64 nn, .int .i64 ht, .int .i64 kids]) 130 where
  ta := fun W => run_typeAssert_hasB Try.underlying69 (by kernel_rfl) _ 64 W
  mh := fun _ => by kernel_rfl
  fh := fun _ => by kernel_rfl
  ch := fun W => holds_note nn ht kids W
  deep := by simp [deepB]

theorem bad_kind (x : Nd) (h : ¬ (1 ≤ x.k ∧ x.k ≤ 11)) : goodB x = false := by simp [goodB, specB, h]
theorem thing_any (x : Nd) (w : World) : Calls Try.prog 34 #[ndV x] w fun r w' => (∃ v, r = .returned v ∧ ThingP x v) ∧ Below w.heap.size w w' := by
  obtain ⟨k, wd, ht, dp, sh, fo, ch, nn, gs, gp, gpo, gm, gmo, tx, kids⟩ := x
  by_cases hk : 1 ≤ k ∧ k ≤ 11
  · rcases kinds hk.1 hk.2 with rfl | rfl | rfl | rfl | rfl | rfl | rfl | rfl | rfl | rfl | rfl
    · refine (thing_1 wd ht dp sh fo ch nn gs gp gpo gm gmo kids tx w).mono ?_
      rintro e w' ⟨rfl, hb⟩
      exact ⟨⟨_, rfl, .inr ⟨_, _, _, _, _, _, rfl, thg_1 wd ht dp sh fo ch nn gs gp gpo gm gmo kids tx, .inr (nohld_1 wd ht dp sh fo ch nn gs gp gpo gm gmo kids tx)⟩⟩, hb⟩
    · refine (thing_2 wd ht dp sh fo ch nn gs gp gpo gm gmo kids tx w).mono ?_
      rintro e w' ⟨rfl, hb⟩
      exact ⟨⟨_, rfl, .inr ⟨_, _, _, _, _, _, rfl, thg_2 wd ht dp sh fo ch nn gs gp gpo gm gmo kids tx, .inr (nohld_2 wd ht dp sh fo ch nn gs gp gpo gm gmo kids tx)⟩⟩, hb⟩
    · refine (thing_3 wd ht dp sh fo ch nn gs gp gpo gm gmo kids tx w).mono ?_
      rintro e w' ⟨rfl, hb⟩
      exact ⟨⟨_, rfl, .inr ⟨_, _, _, _, _, _, rfl, thg_3 wd ht dp sh fo ch nn gs gp gpo gm gmo kids tx, .inr (nohld_3 wd ht dp sh fo ch nn gs gp gpo gm gmo kids tx)⟩⟩, hb⟩
    · refine (thing_4 wd ht dp sh fo ch nn gs gp gpo gm gmo kids tx w).mono ?_
      rintro e w' ⟨rfl, hb⟩
      exact ⟨⟨_, rfl, .inr ⟨_, _, _, _, _, _, rfl, thg_4 wd ht dp sh fo ch nn gs gp gpo gm gmo kids tx, .inr (nohld_4 wd ht dp sh fo ch nn gs gp gpo gm gmo kids tx)⟩⟩, hb⟩
    · refine (thing_5 wd ht dp sh fo ch nn gs gp gpo gm gmo kids tx w).mono ?_
      rintro e w' ⟨rfl, hb⟩
      exact ⟨⟨_, rfl, .inr ⟨_, _, _, _, _, _, rfl, thg_5 wd ht dp sh fo ch nn gs gp gpo gm gmo kids tx, .inr (nohld_5 wd ht dp sh fo ch nn gs gp gpo gm gmo kids tx)⟩⟩, hb⟩
    · refine (thing_6 wd ht dp sh fo ch nn gs gp gpo gm gmo kids tx w).mono ?_
      rintro e w' ⟨rfl, hb⟩
      exact ⟨⟨_, rfl, .inr ⟨_, _, _, _, _, _, rfl, thg_6 wd ht dp sh fo ch nn gs gp gpo gm gmo kids tx, .inl ⟨_, hld_6 wd ht dp sh fo ch nn gs gp gpo gm gmo kids tx⟩⟩⟩, hb⟩
    · refine (thing_7 wd ht dp sh fo ch nn gs gp gpo gm gmo kids tx w).mono ?_
      rintro e w' ⟨rfl, hb⟩
      exact ⟨⟨_, rfl, .inr ⟨_, _, _, _, _, _, rfl, thg_7 wd ht dp sh fo ch nn gs gp gpo gm gmo kids tx, .inl ⟨_, hld_7 wd ht dp sh fo ch nn gs gp gpo gm gmo kids tx⟩⟩⟩, hb⟩
    · refine (thing_8 wd ht dp sh fo ch nn gs gp gpo gm gmo kids tx w).mono ?_
      rintro e w' ⟨rfl, hb⟩
      exact ⟨⟨_, rfl, .inr ⟨_, _, _, _, _, _, rfl, thg_8 wd ht dp sh fo ch nn gs gp gpo gm gmo kids tx, .inr (nohld_8 wd ht dp sh fo ch nn gs gp gpo gm gmo kids tx)⟩⟩, hb⟩
    · refine (thing_9 wd ht dp sh fo ch nn gs gp gpo gm gmo kids tx w).mono ?_
      rintro e w' ⟨rfl, hb⟩
      exact ⟨⟨_, rfl, .inr ⟨_, _, _, _, _, _, rfl, thg_9 wd ht dp sh fo ch nn gs gp gpo gm gmo kids tx, .inr (nohld_9 wd ht dp sh fo ch nn gs gp gpo gm gmo kids tx)⟩⟩, hb⟩
    · refine (thing_10 wd ht dp sh fo ch nn gs gp gpo gm gmo kids tx w).mono ?_
      rintro e w' ⟨rfl, hb⟩
      exact ⟨⟨_, rfl, .inr ⟨_, _, _, _, _, _, rfl, thg_10 wd ht dp sh fo ch nn gs gp gpo gm gmo kids tx, .inr (nohld_10 wd ht dp sh fo ch nn gs gp gpo gm gmo kids tx)⟩⟩, hb⟩
    · refine (thing_11 wd ht dp sh fo ch nn gs gp gpo gm gmo kids tx w).mono ?_
      rintro e w' ⟨rfl, hb⟩
      exact ⟨⟨_, rfl, .inr ⟨_, _, _, _, _, _, rfl, thg_11 wd ht dp sh fo ch nn gs gp gpo gm gmo kids tx, .inl ⟨_, hld_11 wd ht dp sh fo ch nn gs gp gpo gm gmo kids tx⟩⟩⟩, hb⟩
  · refine (thing_0 k wd ht dp sh fo ch nn gs gp gpo gm gmo kids tx w hk).mono ?_
    rintro e w' ⟨rfl, hb⟩
    exact ⟨⟨_, rfl, .inl ⟨rfl, bad_kind _ hk⟩⟩, hb⟩
end Go.Proofs.Ytjagagbelpihbaa
