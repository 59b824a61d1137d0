/- THE CARD OF RequestBack: for all heads, bodies and places where bytes are cut, two requests that were written one behind the other are read as just these, whatever their bodies are; what can't be written has no text; no argument turns; the tables of math/bits, internal/strconv and unicode/utf8 start as the text of the program lays them. -/
import Derived.Test.YtkbeaehjagdnnacGreatDoorCards
import Derived.Test.YtkbeaehjagdnnacGreatDoorTie
import Derived.Test.YtkbeaehjagdnnacGreatDoorRqLawB
import Derived.Test.YtkbeaehjagdnnacGreatDoorPk8
import Derived.Test.YtkbeaehjagdnnacGreatDoorRowKitU
import Derived.Test.YtkbeaehjagdnnacGreatDoorRowKitI
import Derived.Test.YtkbeaehjagdnnacGreatDoorRowKitT
import Derived.ProofKit
import Derived.OpenShut
import Derived.Deep.DeepHandedRow
import Derived.Lib.LaidTab
namespace Go.Proofs.YtkbeaehjagdnnacGreatDoor.requestBack
open Go.ChangeShapes Go.WideShapes Go.ChangeAt Go.RowKit

theorem own : ownKnob Tryz.prog.godebug = none := by kernel_rfl
theorem cells_u8 : Tryz.prog.cellsOf 5 = 1 := by kernel_rfl
theorem bytes_u8 : Tryz.prog.bytesOf 5 = 1 := by kernel_rfl

set_option maxRecDepth 100000 in
/-- What the walk gives, for every argument. -/
theorem contract (H : Type) (enc : TypeId × Value → H) (W : World) (base : Nat) (args : Array Value) (ds gs : List (DataW H)) (before : List MemPlace)
    (hval : ∀ (j : Nat) t v, Tryz.f5.params[j]? = some t → args[j]? = some v → Value.okWide Tryz.prog W .any base t v)
    (hW : DataW.Whole enc Tryz.prog Tryz.f5.params.toList Rows.requestBackSpec.vars false W args.toList ds gs before)
    (hwt : (DataW.weightsEach Tryz.prog (Tryz.f5.params.toList ++ (OpenSpec.ofChange Rows.requestBackSpec).bare.plain.varTypes Tryz.prog) (ds ++ gs)).all (· ≤ reachBytes) = true)
    (hLd : laidMetH Tryz.prog Rows.requestBackRow.laid W) :
    Calls Tryz.prog 5 args W fun e W' => ∃ v, e = .returned v ∧ Rows.requestBackSpec.post enc Tryz.prog Tryz.f5 false true false false W args v W' := by
  have hW' := hW
  obtain ⟨p, q, hA0, hV, rfl, hfz, hnd⟩ := hW
  have hA : DataW.TrodAll enc Tryz.prog W 0 (fun _ => true) true Tryz.f5.params.toList args.toList ds p := hA0
  have hvt : (OpenSpec.ofChange Rows.requestBackSpec).bare.plain.varTypes Tryz.prog = [] := by kernel_rfl
  rw [hvt, List.append_nil] at hwt
  rw [Tryz.params5] at hA hval hwt
  obtain ⟨v0, vs0, d0, ds0, p0, q0, hargs, rfl, rfl, h0, r0⟩ := trodAll_cons hA
  obtain ⟨v1, vs1, d1, ds1, p1, q1, rfl, rfl, rfl, h1, r1⟩ := trodAll_cons r0
  obtain ⟨v2, vs2, d2, ds2, p2, q2, rfl, rfl, rfl, h2, r2⟩ := trodAll_cons r1
  obtain ⟨v3, vs3, d3, ds3, p3, q3, rfl, rfl, rfl, h3, r3⟩ := trodAll_cons r2
  obtain ⟨v4, vs4, d4, ds4, p4, q4, rfl, rfl, rfl, h4, r4⟩ := trodAll_cons r3
  obtain ⟨rfl, rfl, rfl⟩ := trodAll_nil r4
  obtain rfl : args = #[v0, v1, v2, v3, v4] := by cases args; simp_all
  obtain ⟨rfl, rfl⟩ := trodVars_none hV
  have hLt := light_all hwt
  obtain ⟨L0, hL0⟩ := light_first hLt
  obtain ⟨L1, hL1⟩ := light_first hL0
  obtain ⟨L2, hL2⟩ := light_first hL1
  obtain ⟨L3, _⟩ := light_first hL2
  obtain ⟨c0, rfl, _⟩ := okWide_struct Tryz.underlying25 (hval 0 25 v0 rfl rfl)
  obtain ⟨c1, rfl, _⟩ := okWide_struct Tryz.underlying25 (hval 1 25 v1 rfl rfl)
  obtain ⟨a2, l2, k2, rfl⟩ := okWide_slice Tryz.underlying22 (hval 2 22 v2 rfl rfl)
  obtain ⟨a3, l3, k3, rfl⟩ := okWide_slice Tryz.underlying22 (hval 3 22 v3 rfl rfl)
  obtain ⟨a4, l4, k4, rfl⟩ := okWide_slice Tryz.underlying44 (hval 4 44 v4 rfl rfl)
  have h0k := h0
  have h1k := h1
  have h2k := h2
  have h3k := h3
  have h4k := h4
  obtain ⟨f0, hf0⟩ := h0
  obtain ⟨f1, hf1⟩ := h1
  obtain ⟨f2, hf2⟩ := h2
  obtain ⟨f3, hf3⟩ := h3
  obtain ⟨f4, hf4⟩ := h4
  obtain ⟨m1, t1, mi1, ln1, fo1, fc1, fl1, e0, hF1, z1, z2, z3⟩ := open_head (s := 9) (i := 3) (u := 23) (e := 51) Tryz.underlying25 rfl rfl rfl rfl rfl rfl rfl rfl rfl rfl Tryz.underlying23 Tryz.underlying51 rfl rfl rfl rfl Tryz.underlying9 Tryz.underlying3 (by kernel_rfl) (by kernel_rfl) (by kernel_rfl) (by kernel_rfl) (by kernel_rfl) hf0 L0
  obtain ⟨m2, t2, mi2, ln2, fo2, fc2, fl2, e1, hF2, z4, z5, z6⟩ := open_head (s := 9) (i := 3) (u := 23) (e := 51) Tryz.underlying25 rfl rfl rfl rfl rfl rfl rfl rfl rfl rfl Tryz.underlying23 Tryz.underlying51 rfl rfl rfl rfl Tryz.underlying9 Tryz.underlying3 (by kernel_rfl) (by kernel_rfl) (by kernel_rfl) (by kernel_rfl) (by kernel_rfl) hf1 L1
  obtain rfl : c0 = #[.string m1, .string t1, .int .i64 mi1, .slice fo1 fl1.length fc1, .int .i64 ln1] := by
    cases c0; simpa [Value.cells] using e0
  obtain rfl : c1 = #[.string m2, .string t2, .int .i64 mi2, .slice fo2 fl2.length fc2, .int .i64 ln2] := by
    cases c1; simpa [Value.cells] using e1
  obtain ⟨a2', k2', A, e2, hA2, sp2⟩ := open_bytes Tryz.underlying22 Tryz.underlying5 cells_u8 hf2
  obtain ⟨rfl, rfl, rfl⟩ : a2 = a2' ∧ l2 = A.length ∧ k2 = k2' := by simpa [Value.cells] using e2
  obtain ⟨a3', k3', B, e3, hB3, sp3⟩ := open_bytes Tryz.underlying22 Tryz.underlying5 cells_u8 hf3
  obtain ⟨rfl, rfl, rfl⟩ : a3 = a3' ∧ l3 = B.length ∧ k3 = k3' := by simpa [Value.cells] using e3
  obtain ⟨cs, hcl, hcs⟩ := open_intsV hf4
  have s2 := sp2.light Tryz.underlying22 bytes_u8 L2
  have s3 := sp3.light Tryz.underlying22 bytes_u8 L3
  have hPw : PowAt W := pow_of_laid hLd
  clear hA0
  simp only [List.append_nil] at hW'
  have hlt : ∀ x ∈ p0 ++ (p1 ++ (p2 ++ (p3 ++ p4))), x.block < W.heap.size := fun x hx => by simpa using hW'.lt x (by simpa using hx)
  have hr : reachBytes = 140737488351232 := rfl
  rw [hr] at z1 z2 z3 z4 z5 z6 s2 s3
  have walk : Calls Tryz.prog 5 #[.agg #[.string m1, .string t1, .int .i64 mi1, .slice fo1 fl1.length fc1, .int .i64 ln1], .agg #[.string m2, .string t2, .int .i64 mi2, .slice fo2 fl2.length fc2, .int .i64 ln2], .slice a2 A.length k2, .slice a3 B.length k3, .slice a4 l4 k4] W fun e w' => e = .returned (.bool true) ∧ Below W.heap.size W w' :=
    requestBack_any W m1 t1 m2 t2 mi1 ln1 mi2 ln2 fl1 fl2 fo1 fo2 a2 a3 a4 fc1 fc2 k2 k3 k4 A.length B.length l4 A B cs hF1 hF2 hA2 hB3 rfl rfl hcs hcl
      (fun p hp => by have := z3 p hp; unfold maxLen; omega) (fun p hp => by have := z6 p hp; unfold maxLen; omega) (by omega) (by omega) (by omega) (by omega) (by omega) (by omega) hPw
  refine walk.mono fun e W' ⟨he, hg⟩ => ?_
  subst he
  refine ⟨_, rfl, _, _, _, [], _, [], hW', trodAll_cons_mk (shut_bool Tryz.underlying4 _) trodAll_mk0, trodAll_cons_mk (Below.trod laid_out (by kernel_rfl) (of_decide_eq_true (by kernel_rfl)) h0k hg (fun x hx => hlt x (by simp [hx]))) (trodAll_cons_mk (Below.trod laid_out (by kernel_rfl) (of_decide_eq_true (by kernel_rfl)) h1k hg (fun x hx => hlt x (by simp [hx]))) (trodAll_cons_mk (Below.trod laid_out (by kernel_rfl) (of_decide_eq_true (by kernel_rfl)) h2k hg (fun x hx => hlt x (by simp [hx]))) (trodAll_cons_mk (Below.trod laid_out (by kernel_rfl) (of_decide_eq_true (by kernel_rfl)) h3k hg (fun x hx => hlt x (by simp [hx]))) (trodAll_cons_mk (Below.trod laid_out (by kernel_rfl) (of_decide_eq_true (by kernel_rfl)) h4k hg (fun x hx => hlt x (by simp [hx]))) trodAll_mk0)))), rfl, hg.frame _, fun h => by cases h⟩

/-- A world for the witness: the settled one, the five tables holding what the row lists. -/
theorem laidWorld (os : Os) (H : Type) (enc : TypeId × Value → H) : ∃ w0 : World, w0.os = os ∧
    (w0.forCall (fun _ _ => 0) ⟨#[], #[.agg #[.string .empty, .string .empty, .int .i64 0, .slice none 0 0, .int .i64 0], .agg #[.string .empty, .string .empty, .int .i64 0, .slice none 0 0, .int .i64 0], .slice none 0 0, .slice none 0 0, .slice none 0 0], []⟩).variablesB Tryz.checked.prog = true ∧
    ((w0.forCall (fun _ _ => 0) ⟨#[], #[.agg #[.string .empty, .string .empty, .int .i64 0, .slice none 0 0, .int .i64 0], .agg #[.string .empty, .string .empty, .int .i64 0, .slice none 0 0, .int .i64 0], .slice none 0 0, .slice none 0 0, .slice none 0 0], []⟩).heap.toList.drop Tryz.checked.prog.globals.size).take ((begin Tryz.checked.prog (fun _ _ => 0) default).world.heap.size - Tryz.checked.prog.globals.size) =
      (begin Tryz.checked.prog (fun _ _ => 0) default).world.heap.toList.drop Tryz.checked.prog.globals.size ∧
    Input.okWideB Tryz.checked.prog (w0.forCall (fun _ _ => 0) ⟨#[], #[.agg #[.string .empty, .string .empty, .int .i64 0, .slice none 0 0, .int .i64 0], .agg #[.string .empty, .string .empty, .int .i64 0, .slice none 0 0, .int .i64 0], .slice none 0 0, .slice none 0 0, .slice none 0 0], []⟩) 5 ⟨#[], #[.agg #[.string .empty, .string .empty, .int .i64 0, .slice none 0 0, .int .i64 0], .agg #[.string .empty, .string .empty, .int .i64 0, .slice none 0 0, .int .i64 0], .slice none 0 0, .slice none 0 0, .slice none 0 0], []⟩ = true ∧
    laidMet Tryz.prog Rows.requestBackRow.laid (w0.forCall (fun _ _ => 0) ⟨#[], #[.agg #[.string .empty, .string .empty, .int .i64 0, .slice none 0 0, .int .i64 0], .agg #[.string .empty, .string .empty, .int .i64 0, .slice none 0 0, .int .i64 0], .slice none 0 0, .slice none 0 0, .slice none 0 0], []⟩).memory ∧
    ∃ places, DataW.whole enc Tryz.prog (w0.forCall (fun _ _ => 0) ⟨#[], #[.agg #[.string .empty, .string .empty, .int .i64 0, .slice none 0 0, .int .i64 0], .agg #[.string .empty, .string .empty, .int .i64 0, .slice none 0 0, .int .i64 0], .slice none 0 0, .slice none 0 0, .slice none 0 0], []⟩).memory Tryz.f5.params.toList Rows.requestBackSpec.vars false #[Value.agg #[.string .empty, .string .empty, .int .i64 0, .slice none 0 0, .int .i64 0], Value.agg #[.string .empty, .string .empty, .int .i64 0, .slice none 0 0, .int .i64 0], Value.slice none 0 0, Value.slice none 0 0, Value.slice none 0 0].toList 8 = some ([.agg [.lit (.string []), .lit (.string []), .lit (.int .i64 0), .nil, .lit (.int .i64 0)], .agg [.lit (.string []), .lit (.string []), .lit (.int .i64 0), .nil, .lit (.int .i64 0)], .nil, .nil, .nil], [], places) :=
  ⟨{ World.holding Tryz.prog os ⟨#[], #[], []⟩ with heap := laidHeap (World.holding Tryz.prog os ⟨#[], #[], []⟩).heap }, rfl, by kernel_rfl, by kernel_rfl, by kernel_rfl, laidMet_of_run' 8 (by kernel_rfl) (by kernel_rfl), [], by kernel_rfl⟩

set_option maxRecDepth 100000 in
theorem lifted (os : Os) (started : os.Started) (H : Type) (enc : TypeId × Value → H) (F : Stop.Interp) :
    ReturnsInHanded {} Tryz.checked os 5 .any ((OpenSpec.ofChange Rows.requestBackSpec).preRow enc Tryz.prog Tryz.f5 Rows.requestBackRow.domain false Rows.requestBackRow.laid) (((OpenSpec.ofChange Rows.requestBackSpec).at F).post enc Tryz.prog Tryz.f5 false true false false) := by
  obtain ⟨w0, hos, hv, hr, hok, hl, places, hx⟩ := laidWorld os H enc
  refine returnsInHanded_of_row (C := Tryz.checked) (s := OpenSpec.ofChange Rows.requestBackSpec) own started (by kernel_rfl) Tryz.func5
    (witness_row_at (enc := enc) (C := Tryz.checked) false w0 #[.agg #[.string .empty, .string .empty, .int .i64 0, .slice none 0 0, .int .i64 0], .agg #[.string .empty, .string .empty, .int .i64 0, .slice none 0 0, .int .i64 0], .slice none 0 0, .slice none 0 0, .slice none 0 0] hos hv hr hok
      (OpenSpec.preRow_of_cond 8 hx (by kernel_rfl) (fun k hk => by cases hk) (by kernel_rfl) hl)) ?_
  intro W base args ds gs before hval hW _ _ hwt hLd _ _
  exact contract H enc W base args ds gs before hval hW hwt hLd

theorem said : Rows.RequestBackSaid :=
  OpenClaim.holds_of_cond 5 Tryz.f5 rfl rfl rfl rfl rfl rfl rfl ⟨rfl, rfl, rfl, rfl, rfl⟩ rfl rfl rfl rfl rfl (by kernel_rfl) Tryz.func5 (by kernel_rfl)
    (of_decide_eq_true (by kernel_rfl)) (by unfold Func.isWrapper; first | (rw [if_pos (by decide +kernel)]; kernel_rfl) | (rw [if_neg (by decide +kernel)]; exact ⟨rfl, rfl⟩))
    (fun os started H enc _ F => by rw [OpenClaim.pre_eq_preRow]; exact lifted os started H enc F)

theorem plain (f : FuncId) (fn : Func) (hf : Tryz.pinned.checked.prog.funcNamed "lighterage/lighteragelaw.RequestBack" = some f) (hfn : Tryz.pinned.checked.prog.funcs[f]? = some fn) :
    false = Tryz.pinned.checked.prog.looks [] ∧ ∀ (j : Nat) t, fn.params[j]? = some t → Tryz.pinned.checked.prog.wantsStandIn t = false := by
  obtain rfl : f = 5 := Option.some.inj ((show Tryz.prog.funcNamed "lighterage/lighteragelaw.RequestBack" = some 5 by kernel_rfl).symm.trans hf) |>.symm
  obtain rfl : fn = Tryz.f5 := (Option.some.inj (Tryz.func5.symm.trans hfn)).symm
  refine ⟨by kernel_rfl, fun j t ht => ?_⟩
  rw [Tryz.params5] at ht
  have ht' := Array.mem_of_getElem? ht
  simp only [List.mem_toArray, List.mem_cons, List.mem_nil_iff, or_false] at ht'
  rcases ht' with rfl | rfl | rfl | rfl | rfl
  · exact (show Tryz.prog.wantsStandIn 25 = false by kernel_rfl)
  · exact (show Tryz.prog.wantsStandIn 25 = false by kernel_rfl)
  · exact (show Tryz.prog.wantsStandIn 22 = false by kernel_rfl)
  · exact (show Tryz.prog.wantsStandIn 22 = false by kernel_rfl)
  · exact (show Tryz.prog.wantsStandIn 44 = false by kernel_rfl)

end Go.Proofs.YtkbeaehjagdnnacGreatDoor.requestBack

namespace Go.Proofs.YtkbeaehjagdnnacGreatDoor
open Go

/-- THE CARD. -/
theorem requestBack_card : Rows.RequestBackCardSaid :=
  Claim7.holds_tied_plain_at .later [] _ _ _ _ requestBack.said (fun _ h => by cases h) (by kernel_rfl) (fun _ h => by cases h) requestBack_row_tie rfl ⟨rfl, rfl⟩ (by kernel_rfl) rfl requestBack.plain (by kernel_rfl)
end Go.Proofs.YtkbeaehjagdnnacGreatDoor
